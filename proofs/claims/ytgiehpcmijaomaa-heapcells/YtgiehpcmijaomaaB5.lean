import Derived.Test.YtgiehpcmijaomaaB4
namespace Go.Proofs.Ytgiehpcmijaomaa
open Go.RowKit
set_option linter.unusedVariables false
set_option linter.unusedSimpArgs false
/-- A value is not that of a thing of a tag, from w on. -/
def NoHas (p : Value) (tag t m : Int) (s : ByteArray) (w : World) : Prop := ∀ w1, BW w w1 → Calls Try.prog 22 #[p, .int .u8 tag, V t m s] w1 fun e w' => e = .returned (.bool false) ∧ BW w1 w'
theorem NoHas.bw {p : Value} {tag t m : Int} {s : ByteArray} {w w' : World} (h : NoHas p tag t m s w) (k : BW w w') : NoHas p tag t m s w' := fun w1 h1 => h w1 (k.trans h1)
set_option maxRecDepth 100000 in
set_option maxHeartbeats 1000000 in
theorem value_no (p : Value) (tag t m : Int) (s : ByteArray) (i : Int) (w : World) (hno : NoHas p tag t m s w) :
    Calls Try.prog 23 #[p, .int .u8 tag, V t m s, .int .i64 i] w fun e w' => e = .returned (.tuple #[Z, .int .i64 2]) ∧ BW w w' := by
  go_enter Try.func23, Try.ntmps23
  go_wp2_with (first | (go_at_call 22; refine (hno _ (by repeat (first | exact BW.refl _ | apply BW.alloc | apply BW.drewN | apply BW.drew))).mono ?_; rintro e w1 ⟨rfl, hb1⟩; have hz := hb1.size; (try simp at hz); have q := fun o => hb1.cells (w.heap.size + 1) o (by first | omega | (simp; done) | (simp; omega)); have f := fun o => hb1.froz (w.heap.size + 1) o (by first | omega | (simp; done) | (simp; omega))))
  exact bodyPost_ret (v := .tuple #[Z, .int .i64 2]) (by simp [results, Try.results23, go_sem, *]) rfl ⟨rfl, (by repeat (first | exact BW.refl _ | assumption | apply BW.alloc | apply BW.drewN | apply BW.drew | (refine BW.setCell ?_ (by first | omega | (simp; done) | (simp; omega)) _) | (refine BW.trans ?_ (by assumption))))⟩
set_option maxRecDepth 100000 in
set_option maxHeartbeats 1000000 in
theorem value_ok0 (base b : Nat) (lim : Int) (n : Nat) (xs : List Value) (tag : Int) (m : Nat) (hm : m < n) (hN : n ≤ 1048576) (hx : xs[m * 8]? = some (.int .u8 tag)) (t' n' : Int) (s' : ByteArray) (x0 : xs[m * 8 + 1]? = some (.int .u8 t')) (x1 : xs[m * 8 + 2]? = some (.int .i64 n')) (x2 : xs[m * 8 + 3]? = some (.string s')) (w : World) (H : HeapIs w base b lim n xs) :
    Calls Try.prog 23 #[.pointer (some ⟨b, 0, none⟩), .int .u8 tag, V tag m ⟨#[]⟩, .int .i64 0] w fun e w' => e = .returned (.tuple #[V t' n' s', .int .i64 0]) ∧ BW w w' := by
  have hlt := H.lt
  have H0 := H
  obtain ⟨hb, v, h1, hown⟩ := H0
  have hc1 : w.cell? ⟨b, 1, none⟩ = some v := by simp [World.cell?, h1]
  obtain ⟨g, cap, rfl⟩ := Go.Joins.ownsRow_form hown (by omega)
  have c0 := own_cell hown x0
  have c1 := own_cell hown x1
  have c2 := own_cell hown x2
  have hgl : g < w.heap.size := World.block_lt_of_cell? w _ c0
  have hd : decide ((m : Int) < (n : Int)) = true := by simpa using hm
  clear hown h1
  go_enter Try.func23, Try.ntmps23
  go_wp2_with (first | (go_at_call 22; refine (has_ok base b lim n xs tag m hm hN hx _ (H.bw (by repeat (first | exact BW.refl _ | apply BW.alloc | apply BW.drewN | apply BW.drew)))).mono ?_; rintro e w1 ⟨rfl, hb1⟩; have hz := hb1.size; (try simp at hz); have q := fun o => hb1.cells (w.heap.size + 1) o (by first | omega | (simp; done) | (simp; omega)); have f := fun o => hb1.froz (w.heap.size + 1) o (by first | omega | (simp; done) | (simp; omega)); have q0 := fun o => hb1.cells (w.heap.size) o (by first | omega | (simp; done) | (simp; omega)); have rb := fun o => hb1.cells b o (by first | omega | (simp; done) | (simp; omega)); have rg := fun o => hb1.cells g o (by first | omega | (simp; done) | (simp; omega)); have bl : b < w1.heap.size := (by omega); have gl : g < w1.heap.size := (by omega)))
  go_region
  all_goals go_wp2
  all_goals exact bodyPost_ret (v := .tuple #[V t' n' s', .int .i64 0]) (by simp [results, Try.results23, go_sem, *]) rfl ⟨rfl, (by repeat (first | exact BW.refl _ | assumption | apply BW.alloc | apply BW.drewN | apply BW.drew | (refine BW.setCell ?_ (by first | omega | (simp; done) | (simp; omega)) _) | (refine BW.trans ?_ (by assumption))))⟩
set_option maxRecDepth 100000 in
set_option maxHeartbeats 1000000 in
theorem value_ok1 (base b : Nat) (lim : Int) (n : Nat) (xs : List Value) (tag : Int) (m : Nat) (hm : m < n) (hN : n ≤ 1048576) (hx : xs[m * 8]? = some (.int .u8 tag)) (t' n' : Int) (s' : ByteArray) (x0 : xs[m * 8 + 4]? = some (.int .u8 t')) (x1 : xs[m * 8 + 5]? = some (.int .i64 n')) (x2 : xs[m * 8 + 6]? = some (.string s')) (w : World) (H : HeapIs w base b lim n xs) :
    Calls Try.prog 23 #[.pointer (some ⟨b, 0, none⟩), .int .u8 tag, V tag m ⟨#[]⟩, .int .i64 1] w fun e w' => e = .returned (.tuple #[V t' n' s', .int .i64 0]) ∧ BW w w' := by
  have hlt := H.lt
  have H0 := H
  obtain ⟨hb, v, h1, hown⟩ := H0
  have hc1 : w.cell? ⟨b, 1, none⟩ = some v := by simp [World.cell?, h1]
  obtain ⟨g, cap, rfl⟩ := Go.Joins.ownsRow_form hown (by omega)
  have c0 := own_cell hown x0
  have c1 := own_cell hown x1
  have c2 := own_cell hown x2
  have hgl : g < w.heap.size := World.block_lt_of_cell? w _ c0
  have hd : decide ((m : Int) < (n : Int)) = true := by simpa using hm
  clear hown h1
  go_enter Try.func23, Try.ntmps23
  go_wp2_with (first | (go_at_call 22; refine (has_ok base b lim n xs tag m hm hN hx _ (H.bw (by repeat (first | exact BW.refl _ | apply BW.alloc | apply BW.drewN | apply BW.drew)))).mono ?_; rintro e w1 ⟨rfl, hb1⟩; have hz := hb1.size; (try simp at hz); have q := fun o => hb1.cells (w.heap.size + 1) o (by first | omega | (simp; done) | (simp; omega)); have f := fun o => hb1.froz (w.heap.size + 1) o (by first | omega | (simp; done) | (simp; omega)); have q0 := fun o => hb1.cells (w.heap.size) o (by first | omega | (simp; done) | (simp; omega)); have rb := fun o => hb1.cells b o (by first | omega | (simp; done) | (simp; omega)); have rg := fun o => hb1.cells g o (by first | omega | (simp; done) | (simp; omega)); have bl : b < w1.heap.size := (by omega); have gl : g < w1.heap.size := (by omega)))
  go_region
  all_goals go_wp2
  all_goals exact bodyPost_ret (v := .tuple #[V t' n' s', .int .i64 0]) (by simp [results, Try.results23, go_sem, *]) rfl ⟨rfl, (by repeat (first | exact BW.refl _ | assumption | apply BW.alloc | apply BW.drewN | apply BW.drew | (refine BW.setCell ?_ (by first | omega | (simp; done) | (simp; omega)) _) | (refine BW.trans ?_ (by assumption))))⟩
set_option maxRecDepth 100000 in
set_option maxHeartbeats 1000000 in
theorem fst_no (p : Value) (t m : Int) (s : ByteArray) (w : World) (hno : NoHas p 4 t m s w) :
    Calls Try.prog 16 #[p, V t m s] w fun e w' => e = .returned (.tuple #[Z, .int .i64 2]) ∧ BW w w' := by
  go_enter Try.func16, Try.ntmps16
  go_wp2_with (first | (go_at_call 23; refine (value_no _ _ _ _ _ _ _ (hno.bw (by repeat (first | exact BW.refl _ | apply BW.alloc | apply BW.drewN | apply BW.drew)))).mono ?_; rintro e w1 ⟨rfl, hb1⟩; have hz := hb1.size; (try simp at hz); have q := fun o => hb1.cells (w.heap.size + 1) o (by first | omega | (simp; done) | (simp; omega)); have f := fun o => hb1.froz (w.heap.size + 1) o (by first | omega | (simp; done) | (simp; omega))))
  exact bodyPost_ret (v := .tuple #[Z, .int .i64 2]) (by simp [results, Try.results16, go_sem, *]) rfl ⟨rfl, (by repeat (first | exact BW.refl _ | assumption | apply BW.alloc | apply BW.drewN | apply BW.drew | (refine BW.setCell ?_ (by first | omega | (simp; done) | (simp; omega)) _) | (refine BW.trans ?_ (by assumption))))⟩
set_option maxRecDepth 100000 in
set_option maxHeartbeats 1000000 in
theorem fst_ok (base b : Nat) (lim : Int) (n : Nat) (xs : List Value) (m : Nat) (hm : m < n) (hN : n ≤ 1048576) (hx : xs[m * 8]? = some (.int .u8 4)) (t' n' : Int) (s' : ByteArray) (x0 : xs[m * 8 + 1]? = some (.int .u8 t')) (x1 : xs[m * 8 + 2]? = some (.int .i64 n')) (x2 : xs[m * 8 + 3]? = some (.string s')) (w : World) (H : HeapIs w base b lim n xs) :
    Calls Try.prog 16 #[.pointer (some ⟨b, 0, none⟩), V 4 m ⟨#[]⟩] w fun e w' => e = .returned (.tuple #[V t' n' s', .int .i64 0]) ∧ BW w w' := by
  go_enter Try.func16, Try.ntmps16
  go_wp2_with (first | (go_at_call 23; refine (value_ok0 base b lim n xs 4 m hm hN hx t' n' s' x0 x1 x2 _ (H.bw (by repeat (first | exact BW.refl _ | apply BW.alloc | apply BW.drewN | apply BW.drew)))).mono ?_; rintro e w1 ⟨rfl, hb1⟩; have hz := hb1.size; (try simp at hz); have q := fun o => hb1.cells (w.heap.size + 1) o (by first | omega | (simp; done) | (simp; omega)); have f := fun o => hb1.froz (w.heap.size + 1) o (by first | omega | (simp; done) | (simp; omega))))
  exact bodyPost_ret (v := .tuple #[V t' n' s', .int .i64 0]) (by simp [results, Try.results16, go_sem, *]) rfl ⟨rfl, (by repeat (first | exact BW.refl _ | assumption | apply BW.alloc | apply BW.drewN | apply BW.drew | (refine BW.setCell ?_ (by first | omega | (simp; done) | (simp; omega)) _) | (refine BW.trans ?_ (by assumption))))⟩
set_option maxRecDepth 100000 in
set_option maxHeartbeats 1000000 in
theorem snd_no (p : Value) (t m : Int) (s : ByteArray) (w : World) (hno : NoHas p 4 t m s w) :
    Calls Try.prog 17 #[p, V t m s] w fun e w' => e = .returned (.tuple #[Z, .int .i64 2]) ∧ BW w w' := by
  go_enter Try.func17, Try.ntmps17
  go_wp2_with (first | (go_at_call 23; refine (value_no _ _ _ _ _ _ _ (hno.bw (by repeat (first | exact BW.refl _ | apply BW.alloc | apply BW.drewN | apply BW.drew)))).mono ?_; rintro e w1 ⟨rfl, hb1⟩; have hz := hb1.size; (try simp at hz); have q := fun o => hb1.cells (w.heap.size + 1) o (by first | omega | (simp; done) | (simp; omega)); have f := fun o => hb1.froz (w.heap.size + 1) o (by first | omega | (simp; done) | (simp; omega))))
  exact bodyPost_ret (v := .tuple #[Z, .int .i64 2]) (by simp [results, Try.results17, go_sem, *]) rfl ⟨rfl, (by repeat (first | exact BW.refl _ | assumption | apply BW.alloc | apply BW.drewN | apply BW.drew | (refine BW.setCell ?_ (by first | omega | (simp; done) | (simp; omega)) _) | (refine BW.trans ?_ (by assumption))))⟩
set_option maxRecDepth 100000 in
set_option maxHeartbeats 1000000 in
theorem snd_ok (base b : Nat) (lim : Int) (n : Nat) (xs : List Value) (m : Nat) (hm : m < n) (hN : n ≤ 1048576) (hx : xs[m * 8]? = some (.int .u8 4)) (t' n' : Int) (s' : ByteArray) (x0 : xs[m * 8 + 4]? = some (.int .u8 t')) (x1 : xs[m * 8 + 5]? = some (.int .i64 n')) (x2 : xs[m * 8 + 6]? = some (.string s')) (w : World) (H : HeapIs w base b lim n xs) :
    Calls Try.prog 17 #[.pointer (some ⟨b, 0, none⟩), V 4 m ⟨#[]⟩] w fun e w' => e = .returned (.tuple #[V t' n' s', .int .i64 0]) ∧ BW w w' := by
  go_enter Try.func17, Try.ntmps17
  go_wp2_with (first | (go_at_call 23; refine (value_ok1 base b lim n xs 4 m hm hN hx t' n' s' x0 x1 x2 _ (H.bw (by repeat (first | exact BW.refl _ | apply BW.alloc | apply BW.drewN | apply BW.drew)))).mono ?_; rintro e w1 ⟨rfl, hb1⟩; have hz := hb1.size; (try simp at hz); have q := fun o => hb1.cells (w.heap.size + 1) o (by first | omega | (simp; done) | (simp; omega)); have f := fun o => hb1.froz (w.heap.size + 1) o (by first | omega | (simp; done) | (simp; omega))))
  exact bodyPost_ret (v := .tuple #[V t' n' s', .int .i64 0]) (by simp [results, Try.results17, go_sem, *]) rfl ⟨rfl, (by repeat (first | exact BW.refl _ | assumption | apply BW.alloc | apply BW.drewN | apply BW.drew | (refine BW.setCell ?_ (by first | omega | (simp; done) | (simp; omega)) _) | (refine BW.trans ?_ (by assumption))))⟩
set_option maxRecDepth 100000 in
set_option maxHeartbeats 1000000 in
theorem get_no (p : Value) (t m : Int) (s : ByteArray) (w : World) (hno : NoHas p 5 t m s w) :
    Calls Try.prog 15 #[p, V t m s] w fun e w' => e = .returned (.tuple #[Z, .int .i64 2]) ∧ BW w w' := by
  go_enter Try.func15, Try.ntmps15
  go_wp2_with (first | (go_at_call 23; refine (value_no _ _ _ _ _ _ _ (hno.bw (by repeat (first | exact BW.refl _ | apply BW.alloc | apply BW.drewN | apply BW.drew)))).mono ?_; rintro e w1 ⟨rfl, hb1⟩; have hz := hb1.size; (try simp at hz); have q := fun o => hb1.cells (w.heap.size + 1) o (by first | omega | (simp; done) | (simp; omega)); have f := fun o => hb1.froz (w.heap.size + 1) o (by first | omega | (simp; done) | (simp; omega))))
  exact bodyPost_ret (v := .tuple #[Z, .int .i64 2]) (by simp [results, Try.results15, go_sem, *]) rfl ⟨rfl, (by repeat (first | exact BW.refl _ | assumption | apply BW.alloc | apply BW.drewN | apply BW.drew | (refine BW.setCell ?_ (by first | omega | (simp; done) | (simp; omega)) _) | (refine BW.trans ?_ (by assumption))))⟩
set_option maxRecDepth 100000 in
set_option maxHeartbeats 1000000 in
theorem get_ok (base b : Nat) (lim : Int) (n : Nat) (xs : List Value) (m : Nat) (hm : m < n) (hN : n ≤ 1048576) (hx : xs[m * 8]? = some (.int .u8 5)) (t' n' : Int) (s' : ByteArray) (x0 : xs[m * 8 + 1]? = some (.int .u8 t')) (x1 : xs[m * 8 + 2]? = some (.int .i64 n')) (x2 : xs[m * 8 + 3]? = some (.string s')) (w : World) (H : HeapIs w base b lim n xs) :
    Calls Try.prog 15 #[.pointer (some ⟨b, 0, none⟩), V 5 m ⟨#[]⟩] w fun e w' => e = .returned (.tuple #[V t' n' s', .int .i64 0]) ∧ BW w w' := by
  go_enter Try.func15, Try.ntmps15
  go_wp2_with (first | (go_at_call 23; refine (value_ok0 base b lim n xs 5 m hm hN hx t' n' s' x0 x1 x2 _ (H.bw (by repeat (first | exact BW.refl _ | apply BW.alloc | apply BW.drewN | apply BW.drew)))).mono ?_; rintro e w1 ⟨rfl, hb1⟩; have hz := hb1.size; (try simp at hz); have q := fun o => hb1.cells (w.heap.size + 1) o (by first | omega | (simp; done) | (simp; omega)); have f := fun o => hb1.froz (w.heap.size + 1) o (by first | omega | (simp; done) | (simp; omega))))
  exact bodyPost_ret (v := .tuple #[V t' n' s', .int .i64 0]) (by simp [results, Try.results15, go_sem, *]) rfl ⟨rfl, (by repeat (first | exact BW.refl _ | assumption | apply BW.alloc | apply BW.drewN | apply BW.drew | (refine BW.setCell ?_ (by first | omega | (simp; done) | (simp; omega)) _) | (refine BW.trans ?_ (by assumption))))⟩
end Go.Proofs.Ytgiehpcmijaomaa
