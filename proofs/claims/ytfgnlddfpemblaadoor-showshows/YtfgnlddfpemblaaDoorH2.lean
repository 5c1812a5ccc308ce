import Derived.Test.YtfgnlddfpemblaaDoorH1
namespace Go.Proofs.YtfgnlddfpemblaaDoor
open Go.RowKit
set_option linter.unusedVariables false
set_option linter.unusedSimpArgs false
theorem new_at (W : World) (o : Obj) (k : Nat) (hk : k = W.heap.size) : (W.alloc o).heap[k]? = some o := by subst hk; exact heap_alloc_new W o
theorem Fr.at24 {base b k : Nat} {W w1 : World} {c : Array Value} (h : Fr base b W w1) (hk : W.heap[k]? = some (.cells c 24 (0, 0))) (hb : k ≠ b) : w1.heap[k]? = some (.cells c 24 (0, 0)) :=
  (h.oth k (Array.getElem?_eq_some_iff.1 hk).1 hb (fun c' f e => by rw [hk] at e; simp at e)).trans hk
theorem len_nil (w : World) : Calls Tryd.prog 62 #[.pointer none] w fun e w' => e = .returned (.int .i64 0) ∧ w' = w := by
  go_enter Tryd.func62, Tryd.ntmps62
  go_wp2
  go_ret
  exact ⟨rfl, rfl⟩
theorem len_any (base b : Nat) (lim : Int) (n : Nat) (xs : List Value) (w : World) (H : HeapIs w base b lim n xs) : Calls Tryd.prog 62 #[.pointer (some ⟨b, 0, none⟩)] w fun e w' => e = .returned (.int .i64 n) ∧ w' = w := by
  obtain ⟨hb, v, h1, hown⟩ := H
  have hc1 : w.cell? ⟨b, 1, none⟩ = some v := by simp [World.cell?, h1]
  rcases Go.Joins.ownsRow_forms hown with ⟨rfl, rfl⟩ | ⟨g, cap, rfl⟩
  all_goals
    clear hown h1
    go_enter Tryd.func62, Tryd.ntmps62
    go_wp2
    go_ret
    exact ⟨rfl, rfl⟩
set_option maxRecDepth 100000 in
set_option maxHeartbeats 1000000 in
theorem pair_room (base b : Nat) (lim : Int) (n : Nat) (xs : List Value) (hn : n < lim) (hlim : lim ≤ 1048576) (t1 n1 : Int) (s1 : ByteArray) (t2 n2 : Int) (s2 : ByteArray) (w : World) (H : HeapIs w base b lim n xs) :
    Calls Tryd.prog 11 #[.pointer (some ⟨b, 0, none⟩), V t1 n1 s1, V t2 n2 s2] w fun e w' => e = .returned (.tuple #[V 4 n ⟨#[]⟩, .int .i64 0]) ∧ HeapIs w' base b lim (n + 1) (xs ++ thing 4 t1 n1 s1 t2 n2 s2 0) ∧ Fr base b w w' := by
  have hlt := H.lt
  have hbb : base ≤ w.heap.size := by have := H.1; omega
  go_enter Tryd.func11, Tryd.ntmps11
  go_wp2_with (first | (go_at_call 17; refine (add_room base b lim n xs hn hlim _ _ _ _ _ _ _ _ _ (H.bw (by repeat (first | exact BW.refl _ | apply BW.alloc | apply BW.drewN | apply BW.drew)))).mono ?_; rintro e w1 ⟨rfl, H1, FR⟩; have q := FR.at24 (k := w.heap.size + 1 + 1) (new_at _ _ _ (by simp)) (by omega); have FR2 := (BW.fr (w := w) (b := b) (by repeat (first | exact BW.refl _ | apply BW.alloc | apply BW.drewN | apply BW.drew)) hbb).trans FR; have hT : Ty w1 (w.heap.size + 1 + 1) 24 := ⟨_, q⟩; have k0 : w1.cell? ⟨w.heap.size + 1 + 1, 0, none⟩ = some _ := (by simp only [World.cell?, q]; rfl); have k1 : w1.cell? ⟨w.heap.size + 1 + 1, 1, none⟩ = some _ := (by simp only [World.cell?, q]; rfl); have k2 : w1.cell? ⟨w.heap.size + 1 + 1, 2, none⟩ = some _ := (by simp only [World.cell?, q]; rfl); have f0 : w1.frozen? ⟨w.heap.size + 1 + 1, 0, none⟩ = false := (by simp [World.frozen?, q]); have f1 : w1.frozen? ⟨w.heap.size + 1 + 1, 1, none⟩ = false := (by simp [World.frozen?, q]); have f2 : w1.frozen? ⟨w.heap.size + 1 + 1, 2, none⟩ = false := (by simp [World.frozen?, q]); clear q FR))
  refine bodyPost_ret (v := .tuple #[V 4 n ⟨#[]⟩, .int .i64 0]) (by simp [results, Tryd.results11, go_sem, *]) rfl ⟨rfl, ?_, ?_⟩
  · exact HeapIs.put (by decide) (by decide) ((hT.setCell _ _ _).setCell _ _ _) (HeapIs.put (by decide) (by decide) (hT.setCell _ _ _) (HeapIs.put (by decide) (by decide) hT H1 _ _) _ _) _ _
  · exact ((FR2.setNew hbb (by omega) _ _).setNew hbb (by omega) _ _).setNew hbb (by omega) _ _
theorem own_cell {w : World} {base g n cap : Nat} {xs : List Value} (h : w.ownsRow base 50 8 (.slice (some ⟨g, 0, none⟩) n cap) n xs) {j : Nat} {u : Value} (hj : xs[j]? = some u) : w.cell? ⟨g, j, none⟩ = some u := by
  have := h.cells (g := g) rfl j u hj
  have hadd : (⟨g, 0, none⟩ : Addr).add j = ⟨g, j, none⟩ := by unfold Addr.add; split <;> simp_all
  rwa [hadd] at this
theorem str_ne {s : ByteArray} (h : ¬ s = ⟨#[]⟩) : ¬ s.toList = [] := by
  intro k
  rw [ByteArray.toList_eq] at k
  apply h
  cases s with | mk d => cases d with | mk l => simp at k; subst k; rfl
set_option maxRecDepth 100000 in
set_option maxHeartbeats 1000000 in
theorem has_tag (p : Value) (tag t m : Int) (s : ByteArray) (h : (t == tag) = false) (w : World) :
    Calls Tryd.prog 65 #[p, .int .u8 tag, V t m s] w fun e w' => e = .returned (.bool false) ∧ BW w w' := by
  go_enter Tryd.func65, Tryd.ntmps65
  go_wp2
  go_ret
  exact ⟨rfl, (by repeat (first | exact BW.refl _ | assumption | apply BW.alloc | apply BW.drewN | apply BW.drew | (refine BW.setCell ?_ (by first | omega | (simp; done) | (simp; omega)) _) | (refine BW.trans ?_ (by assumption))))⟩
set_option maxRecDepth 100000 in
set_option maxHeartbeats 1000000 in
theorem has_str (p : Value) (tag m : Int) (s : ByteArray) (h : ¬ s.toList = []) (w : World) :
    Calls Tryd.prog 65 #[p, .int .u8 tag, V tag m s] w fun e w' => e = .returned (.bool false) ∧ BW w w' := by
  go_enter Tryd.func65, Tryd.ntmps65
  go_wp2
  go_ret
  exact ⟨rfl, (by repeat (first | exact BW.refl _ | assumption | apply BW.alloc | apply BW.drewN | apply BW.drew | (refine BW.setCell ?_ (by first | omega | (simp; done) | (simp; omega)) _) | (refine BW.trans ?_ (by assumption))))⟩
set_option maxRecDepth 100000 in
set_option maxHeartbeats 1000000 in
theorem has_neg (p : Value) (tag m : Int) (h : m < 0) (w : World) :
    Calls Tryd.prog 65 #[p, .int .u8 tag, V tag m ⟨#[]⟩] w fun e w' => e = .returned (.bool false) ∧ BW w w' := by
  have hd : decide (0 ≤ m) = false := by simpa using h
  go_enter Tryd.func65, Tryd.ntmps65
  go_wp2
  go_quiet (fail)
  go_wp2
  go_ret
  exact ⟨rfl, (by repeat (first | exact BW.refl _ | assumption | apply BW.alloc | apply BW.drewN | apply BW.drew | (refine BW.setCell ?_ (by first | omega | (simp; done) | (simp; omega)) _) | (refine BW.trans ?_ (by assumption))))⟩
set_option maxRecDepth 100000 in
set_option maxHeartbeats 1000000 in
theorem has_nil0 (tag m : Int) (h : 0 ≤ m) (w : World) :
    Calls Tryd.prog 65 #[.pointer none, .int .u8 tag, V tag m ⟨#[]⟩] w fun e w' => e = .returned (.bool false) ∧ BW w w' := by
  have hd : decide (0 ≤ m) = true := by simpa using h
  have hd2 : decide (m < 0) = false := by simpa using h
  go_enter Tryd.func65, Tryd.ntmps65
  go_wp2
  go_quiet ((go_at_call 62; exact Calls.quiet_of_same (len_nil _)))
  go_wp2
  go_ret
  exact ⟨rfl, (by repeat (first | exact BW.refl _ | assumption | apply BW.alloc | apply BW.drewN | apply BW.drew | (refine BW.setCell ?_ (by first | omega | (simp; done) | (simp; omega)) _) | (refine BW.trans ?_ (by assumption))))⟩
set_option maxRecDepth 100000 in
set_option maxHeartbeats 1000000 in
theorem has_out (base b : Nat) (lim : Int) (n : Nat) (xs : List Value) (tag m : Int) (h0 : 0 ≤ m) (h : (n : Int) ≤ m) (w : World) (H : HeapIs w base b lim n xs) :
    Calls Tryd.prog 65 #[.pointer (some ⟨b, 0, none⟩), .int .u8 tag, V tag m ⟨#[]⟩] w fun e w' => e = .returned (.bool false) ∧ BW w w' := by
  have hd : decide (0 ≤ m) = true := by simpa using h0
  have hd2 : decide (m < (n : Int)) = false := by simpa using h
  have hlt := H.lt
  go_enter Tryd.func65, Tryd.ntmps65
  go_wp2
  go_quiet ((go_at_call 62; exact Calls.quiet_of_same (len_any base b lim n xs _ (H.bw (by repeat (first | exact BW.refl _ | apply BW.alloc | apply BW.drewN | apply BW.drew))))))
  go_wp2
  go_ret
  exact ⟨rfl, (by repeat (first | exact BW.refl _ | assumption | apply BW.alloc | apply BW.drewN | apply BW.drew | (refine BW.setCell ?_ (by first | omega | (simp; done) | (simp; omega)) _) | (refine BW.trans ?_ (by assumption))))⟩
set_option maxRecDepth 100000 in
set_option maxHeartbeats 1000000 in
theorem has_ok (base b : Nat) (lim : Int) (n : Nat) (xs : List Value) (tag : Int) (m : Nat) (hm : m < n) (hN : n ≤ 1048576) (hx : xs[m * 8]? = some (.int .u8 tag)) (w : World) (H : HeapIs w base b lim n xs) :
    Calls Tryd.prog 65 #[.pointer (some ⟨b, 0, none⟩), .int .u8 tag, V tag m ⟨#[]⟩] w fun e w' => e = .returned (.bool true) ∧ BW w w' := by
  have hlt := H.lt
  have H0 := H
  obtain ⟨hb, v, h1, hown⟩ := H0
  have hc1 : w.cell? ⟨b, 1, none⟩ = some v := by simp [World.cell?, h1]
  obtain ⟨g, cap, rfl⟩ := Go.Joins.ownsRow_form hown (by omega)
  have hc := own_cell hown hx
  have hgl : g < w.heap.size := World.block_lt_of_cell? w _ hc
  have hd : decide ((m : Int) < (n : Int)) = true := by simpa using hm
  clear hown h1 hx
  go_enter Tryd.func65, Tryd.ntmps65
  go_wp2
  go_quiet ((go_at_call 62; exact Calls.quiet_of_same (len_any base b lim n xs _ (H.bw (by repeat (first | exact BW.refl _ | apply BW.alloc | apply BW.drewN | apply BW.drew))))))
  go_wp2
  go_ret
  exact ⟨rfl, (by repeat (first | exact BW.refl _ | assumption | apply BW.alloc | apply BW.drewN | apply BW.drew | (refine BW.setCell ?_ (by first | omega | (simp; done) | (simp; omega)) _) | (refine BW.trans ?_ (by assumption))))⟩
set_option maxRecDepth 100000 in
set_option maxHeartbeats 1000000 in
theorem has_not (base b : Nat) (lim : Int) (n : Nat) (xs : List Value) (tag : Int) (m : Nat) (hm : m < n) (hN : n ≤ 1048576) (tag' : Int) (hne : (tag' == tag) = false) (hx : xs[m * 8]? = some (.int .u8 tag')) (w : World) (H : HeapIs w base b lim n xs) :
    Calls Tryd.prog 65 #[.pointer (some ⟨b, 0, none⟩), .int .u8 tag, V tag m ⟨#[]⟩] w fun e w' => e = .returned (.bool false) ∧ BW w w' := by
  have hlt := H.lt
  have H0 := H
  obtain ⟨hb, v, h1, hown⟩ := H0
  have hc1 : w.cell? ⟨b, 1, none⟩ = some v := by simp [World.cell?, h1]
  obtain ⟨g, cap, rfl⟩ := Go.Joins.ownsRow_form hown (by omega)
  have hc := own_cell hown hx
  have hgl : g < w.heap.size := World.block_lt_of_cell? w _ hc
  have hd : decide ((m : Int) < (n : Int)) = true := by simpa using hm
  clear hown h1 hx
  go_enter Tryd.func65, Tryd.ntmps65
  go_wp2
  go_quiet ((go_at_call 62; exact Calls.quiet_of_same (len_any base b lim n xs _ (H.bw (by repeat (first | exact BW.refl _ | apply BW.alloc | apply BW.drewN | apply BW.drew))))))
  go_wp2
  go_ret
  exact ⟨rfl, (by repeat (first | exact BW.refl _ | assumption | apply BW.alloc | apply BW.drewN | apply BW.drew | (refine BW.setCell ?_ (by first | omega | (simp; done) | (simp; omega)) _) | (refine BW.trans ?_ (by assumption))))⟩
theorem has_nil (tag t m : Int) (s : ByteArray) (w : World) : Calls Tryd.prog 65 #[.pointer none, .int .u8 tag, V t m s] w fun e w' => e = .returned (.bool false) ∧ BW w w' := by
  by_cases h : t = tag
  · subst h
    by_cases hs : s = ⟨#[]⟩
    · subst hs
      by_cases hm : m < 0
      · exact has_neg _ t m hm w
      · exact has_nil0 t m (by omega) w
    · exact has_str _ t m s (str_ne hs) w
  · exact has_tag _ tag t m s (by simpa using h) w
/-- A value is not that of a thing of a tag, from w on. -/
def NoHas (p : Value) (tag t m : Int) (s : ByteArray) (w : World) : Prop := ∀ w1, BW w w1 → Calls Tryd.prog 65 #[p, .int .u8 tag, V t m s] w1 fun e w' => e = .returned (.bool false) ∧ BW w1 w'
theorem NoHas.bw {p : Value} {tag t m : Int} {s : ByteArray} {w w' : World} (h : NoHas p tag t m s w) (k : BW w w') : NoHas p tag t m s w' := fun w1 h1 => h w1 (k.trans h1)
set_option maxRecDepth 100000 in
set_option maxHeartbeats 1000000 in
theorem value_no (p : Value) (tag t m : Int) (s : ByteArray) (i : Int) (w : World) (hno : NoHas p tag t m s w) :
    Calls Tryd.prog 64 #[p, .int .u8 tag, V t m s, .int .i64 i] w fun e w' => e = .returned (.tuple #[Z, .int .i64 2]) ∧ BW w w' := by
  go_enter Tryd.func64, Tryd.ntmps64
  go_wp2_with (first | (go_at_call 65; refine (hno _ (by repeat (first | exact BW.refl _ | apply BW.alloc | apply BW.drewN | apply BW.drew))).mono ?_; rintro e w1 ⟨rfl, hb1⟩; have hz := hb1.size; (try simp at hz); have q := fun o => hb1.cells (w.heap.size + 1) o (by first | omega | (simp; done) | (simp; omega)); have f := fun o => hb1.froz (w.heap.size + 1) o (by first | omega | (simp; done) | (simp; omega))))
  exact bodyPost_ret (v := .tuple #[Z, .int .i64 2]) (by simp [results, Tryd.results64, go_sem, *]) rfl ⟨rfl, (by repeat (first | exact BW.refl _ | assumption | apply BW.alloc | apply BW.drewN | apply BW.drew | (refine BW.setCell ?_ (by first | omega | (simp; done) | (simp; omega)) _) | (refine BW.trans ?_ (by assumption))))⟩
set_option maxRecDepth 100000 in
set_option maxHeartbeats 1000000 in
theorem value_ok0 (base b : Nat) (lim : Int) (n : Nat) (xs : List Value) (tag : Int) (m : Nat) (hm : m < n) (hN : n ≤ 1048576) (hx : xs[m * 8]? = some (.int .u8 tag)) (t' n' : Int) (s' : ByteArray) (x0 : xs[m * 8 + 1]? = some (.int .u8 t')) (x1 : xs[m * 8 + 2]? = some (.int .i64 n')) (x2 : xs[m * 8 + 3]? = some (.string s')) (w : World) (H : HeapIs w base b lim n xs) :
    Calls Tryd.prog 64 #[.pointer (some ⟨b, 0, none⟩), .int .u8 tag, V tag m ⟨#[]⟩, .int .i64 0] w fun e w' => e = .returned (.tuple #[V t' n' s', .int .i64 0]) ∧ BW w w' := by
  have hlt := H.lt
  have H0 := H
  obtain ⟨hb, v, h1, hown⟩ := H0
  have hc1 : w.cell? ⟨b, 1, none⟩ = some v := by simp [World.cell?, h1]
  obtain ⟨g, cap, rfl⟩ := Go.Joins.ownsRow_form hown (by omega)
  have c0 := own_cell hown x0
  have c1 := own_cell hown x1
  have c2 := own_cell hown x2
  have hgl : g < w.heap.size := World.block_lt_of_cell? w _ c0
  have hd : decide ((m : Int) < (n : Int)) = true := by simpa using hm
  clear hown h1
  go_enter Tryd.func64, Tryd.ntmps64
  go_wp2_with (first | (go_at_call 65; refine (has_ok base b lim n xs tag m hm hN hx _ (H.bw (by repeat (first | exact BW.refl _ | apply BW.alloc | apply BW.drewN | apply BW.drew)))).mono ?_; rintro e w1 ⟨rfl, hb1⟩; have hz := hb1.size; (try simp at hz); have q := fun o => hb1.cells (w.heap.size + 1) o (by first | omega | (simp; done) | (simp; omega)); have f := fun o => hb1.froz (w.heap.size + 1) o (by first | omega | (simp; done) | (simp; omega)); have q0 := fun o => hb1.cells (w.heap.size) o (by first | omega | (simp; done) | (simp; omega)); have rb := fun o => hb1.cells b o (by first | omega | (simp; done) | (simp; omega)); have rg := fun o => hb1.cells g o (by first | omega | (simp; done) | (simp; omega)); have bl : b < w1.heap.size := (by omega); have gl : g < w1.heap.size := (by omega)))
  go_region
  all_goals go_wp2
  all_goals exact bodyPost_ret (v := .tuple #[V t' n' s', .int .i64 0]) (by simp [results, Tryd.results64, go_sem, *]) rfl ⟨rfl, (by repeat (first | exact BW.refl _ | assumption | apply BW.alloc | apply BW.drewN | apply BW.drew | (refine BW.setCell ?_ (by first | omega | (simp; done) | (simp; omega)) _) | (refine BW.trans ?_ (by assumption))))⟩
set_option maxRecDepth 100000 in
set_option maxHeartbeats 1000000 in
theorem value_ok1 (base b : Nat) (lim : Int) (n : Nat) (xs : List Value) (tag : Int) (m : Nat) (hm : m < n) (hN : n ≤ 1048576) (hx : xs[m * 8]? = some (.int .u8 tag)) (t' n' : Int) (s' : ByteArray) (x0 : xs[m * 8 + 4]? = some (.int .u8 t')) (x1 : xs[m * 8 + 5]? = some (.int .i64 n')) (x2 : xs[m * 8 + 6]? = some (.string s')) (w : World) (H : HeapIs w base b lim n xs) :
    Calls Tryd.prog 64 #[.pointer (some ⟨b, 0, none⟩), .int .u8 tag, V tag m ⟨#[]⟩, .int .i64 1] w fun e w' => e = .returned (.tuple #[V t' n' s', .int .i64 0]) ∧ BW w w' := by
  have hlt := H.lt
  have H0 := H
  obtain ⟨hb, v, h1, hown⟩ := H0
  have hc1 : w.cell? ⟨b, 1, none⟩ = some v := by simp [World.cell?, h1]
  obtain ⟨g, cap, rfl⟩ := Go.Joins.ownsRow_form hown (by omega)
  have c0 := own_cell hown x0
  have c1 := own_cell hown x1
  have c2 := own_cell hown x2
  have hgl : g < w.heap.size := World.block_lt_of_cell? w _ c0
  have hd : decide ((m : Int) < (n : Int)) = true := by simpa using hm
  clear hown h1
  go_enter Tryd.func64, Tryd.ntmps64
  go_wp2_with (first | (go_at_call 65; refine (has_ok base b lim n xs tag m hm hN hx _ (H.bw (by repeat (first | exact BW.refl _ | apply BW.alloc | apply BW.drewN | apply BW.drew)))).mono ?_; rintro e w1 ⟨rfl, hb1⟩; have hz := hb1.size; (try simp at hz); have q := fun o => hb1.cells (w.heap.size + 1) o (by first | omega | (simp; done) | (simp; omega)); have f := fun o => hb1.froz (w.heap.size + 1) o (by first | omega | (simp; done) | (simp; omega)); have q0 := fun o => hb1.cells (w.heap.size) o (by first | omega | (simp; done) | (simp; omega)); have rb := fun o => hb1.cells b o (by first | omega | (simp; done) | (simp; omega)); have rg := fun o => hb1.cells g o (by first | omega | (simp; done) | (simp; omega)); have bl : b < w1.heap.size := (by omega); have gl : g < w1.heap.size := (by omega)))
  go_region
  all_goals go_wp2
  all_goals exact bodyPost_ret (v := .tuple #[V t' n' s', .int .i64 0]) (by simp [results, Tryd.results64, go_sem, *]) rfl ⟨rfl, (by repeat (first | exact BW.refl _ | assumption | apply BW.alloc | apply BW.drewN | apply BW.drew | (refine BW.setCell ?_ (by first | omega | (simp; done) | (simp; omega)) _) | (refine BW.trans ?_ (by assumption))))⟩
set_option maxRecDepth 100000 in
set_option maxHeartbeats 1000000 in
theorem fst_no (p : Value) (t m : Int) (s : ByteArray) (w : World) (hno : NoHas p 4 t m s w) :
    Calls Tryd.prog 61 #[p, V t m s] w fun e w' => e = .returned (.tuple #[Z, .int .i64 2]) ∧ BW w w' := by
  go_enter Tryd.func61, Tryd.ntmps61
  go_wp2_with (first | (go_at_call 64; refine (value_no _ _ _ _ _ _ _ (hno.bw (by repeat (first | exact BW.refl _ | apply BW.alloc | apply BW.drewN | apply BW.drew)))).mono ?_; rintro e w1 ⟨rfl, hb1⟩; have hz := hb1.size; (try simp at hz); have q := fun o => hb1.cells (w.heap.size + 1) o (by first | omega | (simp; done) | (simp; omega)); have f := fun o => hb1.froz (w.heap.size + 1) o (by first | omega | (simp; done) | (simp; omega))))
  exact bodyPost_ret (v := .tuple #[Z, .int .i64 2]) (by simp [results, Tryd.results61, go_sem, *]) rfl ⟨rfl, (by repeat (first | exact BW.refl _ | assumption | apply BW.alloc | apply BW.drewN | apply BW.drew | (refine BW.setCell ?_ (by first | omega | (simp; done) | (simp; omega)) _) | (refine BW.trans ?_ (by assumption))))⟩
set_option maxRecDepth 100000 in
set_option maxHeartbeats 1000000 in
theorem fst_ok (base b : Nat) (lim : Int) (n : Nat) (xs : List Value) (m : Nat) (hm : m < n) (hN : n ≤ 1048576) (hx : xs[m * 8]? = some (.int .u8 4)) (t' n' : Int) (s' : ByteArray) (x0 : xs[m * 8 + 1]? = some (.int .u8 t')) (x1 : xs[m * 8 + 2]? = some (.int .i64 n')) (x2 : xs[m * 8 + 3]? = some (.string s')) (w : World) (H : HeapIs w base b lim n xs) :
    Calls Tryd.prog 61 #[.pointer (some ⟨b, 0, none⟩), V 4 m ⟨#[]⟩] w fun e w' => e = .returned (.tuple #[V t' n' s', .int .i64 0]) ∧ BW w w' := by
  go_enter Tryd.func61, Tryd.ntmps61
  go_wp2_with (first | (go_at_call 64; refine (value_ok0 base b lim n xs 4 m hm hN hx t' n' s' x0 x1 x2 _ (H.bw (by repeat (first | exact BW.refl _ | apply BW.alloc | apply BW.drewN | apply BW.drew)))).mono ?_; rintro e w1 ⟨rfl, hb1⟩; have hz := hb1.size; (try simp at hz); have q := fun o => hb1.cells (w.heap.size + 1) o (by first | omega | (simp; done) | (simp; omega)); have f := fun o => hb1.froz (w.heap.size + 1) o (by first | omega | (simp; done) | (simp; omega))))
  exact bodyPost_ret (v := .tuple #[V t' n' s', .int .i64 0]) (by simp [results, Tryd.results61, go_sem, *]) rfl ⟨rfl, (by repeat (first | exact BW.refl _ | assumption | apply BW.alloc | apply BW.drewN | apply BW.drew | (refine BW.setCell ?_ (by first | omega | (simp; done) | (simp; omega)) _) | (refine BW.trans ?_ (by assumption))))⟩
set_option maxRecDepth 100000 in
set_option maxHeartbeats 1000000 in
theorem snd_no (p : Value) (t m : Int) (s : ByteArray) (w : World) (hno : NoHas p 4 t m s w) :
    Calls Tryd.prog 63 #[p, V t m s] w fun e w' => e = .returned (.tuple #[Z, .int .i64 2]) ∧ BW w w' := by
  go_enter Tryd.func63, Tryd.ntmps63
  go_wp2_with (first | (go_at_call 64; refine (value_no _ _ _ _ _ _ _ (hno.bw (by repeat (first | exact BW.refl _ | apply BW.alloc | apply BW.drewN | apply BW.drew)))).mono ?_; rintro e w1 ⟨rfl, hb1⟩; have hz := hb1.size; (try simp at hz); have q := fun o => hb1.cells (w.heap.size + 1) o (by first | omega | (simp; done) | (simp; omega)); have f := fun o => hb1.froz (w.heap.size + 1) o (by first | omega | (simp; done) | (simp; omega))))
  exact bodyPost_ret (v := .tuple #[Z, .int .i64 2]) (by simp [results, Tryd.results63, go_sem, *]) rfl ⟨rfl, (by repeat (first | exact BW.refl _ | assumption | apply BW.alloc | apply BW.drewN | apply BW.drew | (refine BW.setCell ?_ (by first | omega | (simp; done) | (simp; omega)) _) | (refine BW.trans ?_ (by assumption))))⟩
set_option maxRecDepth 100000 in
set_option maxHeartbeats 1000000 in
theorem snd_ok (base b : Nat) (lim : Int) (n : Nat) (xs : List Value) (m : Nat) (hm : m < n) (hN : n ≤ 1048576) (hx : xs[m * 8]? = some (.int .u8 4)) (t' n' : Int) (s' : ByteArray) (x0 : xs[m * 8 + 4]? = some (.int .u8 t')) (x1 : xs[m * 8 + 5]? = some (.int .i64 n')) (x2 : xs[m * 8 + 6]? = some (.string s')) (w : World) (H : HeapIs w base b lim n xs) :
    Calls Tryd.prog 63 #[.pointer (some ⟨b, 0, none⟩), V 4 m ⟨#[]⟩] w fun e w' => e = .returned (.tuple #[V t' n' s', .int .i64 0]) ∧ BW w w' := by
  go_enter Tryd.func63, Tryd.ntmps63
  go_wp2_with (first | (go_at_call 64; refine (value_ok1 base b lim n xs 4 m hm hN hx t' n' s' x0 x1 x2 _ (H.bw (by repeat (first | exact BW.refl _ | apply BW.alloc | apply BW.drewN | apply BW.drew)))).mono ?_; rintro e w1 ⟨rfl, hb1⟩; have hz := hb1.size; (try simp at hz); have q := fun o => hb1.cells (w.heap.size + 1) o (by first | omega | (simp; done) | (simp; omega)); have f := fun o => hb1.froz (w.heap.size + 1) o (by first | omega | (simp; done) | (simp; omega))))
  exact bodyPost_ret (v := .tuple #[V t' n' s', .int .i64 0]) (by simp [results, Tryd.results63, go_sem, *]) rfl ⟨rfl, (by repeat (first | exact BW.refl _ | assumption | apply BW.alloc | apply BW.drewN | apply BW.drew | (refine BW.setCell ?_ (by first | omega | (simp; done) | (simp; omega)) _) | (refine BW.trans ?_ (by assumption))))⟩
end Go.Proofs.YtfgnlddfpemblaaDoor
