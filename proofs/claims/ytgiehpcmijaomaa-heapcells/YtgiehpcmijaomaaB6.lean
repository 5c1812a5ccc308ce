import Derived.Test.YtgiehpcmijaomaaB5
import Derived.Laws.OwnMore
namespace Go.Proofs.Ytgiehpcmijaomaa
open Go.RowKit
set_option linter.unusedVariables false
set_option linter.unusedSimpArgs false
theorem HeapIs.stored {w : World} {base b g n cap : Nat} {lim : Int} {xs : List Value} (hb : base ≤ b) (h1 : w.heap[b]? = some (.cells #[.int .i64 lim, .slice (some ⟨g, 0, none⟩) n cap] 46 (0, 0))) (h2 : w.ownsRow base 50 8 (.slice (some ⟨g, 0, none⟩) n cap) n xs) (hne : b ≠ g) (j : Nat) (u : Value) :
    (w.setCell ⟨g, j, none⟩ u).heap[b]? = some (.cells #[.int .i64 lim, .slice (some ⟨g, 0, none⟩) n cap] 46 (0, 0)) ∧ (w.setCell ⟨g, j, none⟩ u).ownsRow base 50 8 (.slice (some ⟨g, 0, none⟩) n cap) n (xs.set j u) :=
  ⟨(heap_setCell_other w ⟨g, j, none⟩ b u hne).trans h1, (h2.stored j u).1⟩
theorem Fr.setRow {base b g : Nat} {w w' : World} (h : Fr base b w w') (hg : base ≤ g) (hT : Ty w g 50) (o : Nat) (u : Value) : Fr base b w (w'.setCell ⟨g, o, none⟩ u) :=
  ⟨h.bel.setCell hg u, fun k hk hkb hn => (heap_setCell_other w' ⟨g, o, none⟩ k u (by rintro rfl; obtain ⟨c, hc⟩ := hT; exact hn _ _ hc)).trans (h.oth k hk hkb hn)⟩
set_option maxRecDepth 100000 in
set_option maxHeartbeats 1000000 in
theorem thing_tag (p : Value) (t m : Int) (s : ByteArray) (h1 : (t == 6) = false) (h2 : (t == 7) = false) (w : World) :
    Calls Try.prog 18 #[p, V t m s] w fun e w' => e = .returned (.tuple #[.int .i64 0, .int .i64 2]) ∧ BW w w' := by
  go_enter Try.func18, Try.ntmps18
  go_wp2_with (first | (go_at_call 20; refine (made_not _ h1 h2 _).mono ?_; rintro e w0 ⟨rfl, rfl⟩))
  go_ret2
  exact ⟨rfl, (by repeat (first | exact BW.refl _ | assumption | apply BW.alloc | apply BW.drewN | apply BW.drew | (refine BW.setCell ?_ (by first | omega | (simp; done) | (simp; omega)) _) | (refine BW.trans ?_ (by assumption))))⟩
set_option maxRecDepth 100000 in
set_option maxHeartbeats 1000000 in
theorem thing_no (p : Value) (t m : Int) (s : ByteArray) (ht : t = 6 ∨ t = 7) (w : World) (hno : NoHas p t t m s w) :
    Calls Try.prog 18 #[p, V t m s] w fun e w' => e = .returned (.tuple #[.int .i64 0, .int .i64 2]) ∧ BW w w' := by
  go_enter Try.func18, Try.ntmps18
  go_wp2_with (first | (go_at_call 20; refine (made_in _ ht _).mono ?_; rintro e w0 ⟨rfl, rfl⟩) | (go_at_call 22; refine (hno _ (by repeat (first | exact BW.refl _ | apply BW.alloc | apply BW.drewN | apply BW.drew))).mono ?_; rintro e w1 ⟨rfl, hb1⟩; have hz := hb1.size; (try simp at hz); have q := fun o => hb1.cells (w.heap.size) o (by first | omega | (simp; done) | (simp; omega)); have f := fun o => hb1.froz (w.heap.size) o (by first | omega | (simp; done) | (simp; omega))))
  go_ret2
  exact ⟨rfl, (by repeat (first | exact BW.refl _ | assumption | apply BW.alloc | apply BW.drewN | apply BW.drew | (refine BW.setCell ?_ (by first | omega | (simp; done) | (simp; omega)) _) | (refine BW.trans ?_ (by assumption))))⟩
set_option maxRecDepth 100000 in
set_option maxHeartbeats 1000000 in
theorem thing_ok (base b : Nat) (lim : Int) (n : Nat) (xs : List Value) (tag : Int) (ht : tag = 6 ∨ tag = 7) (m : Nat) (hm : m < n) (hN : n ≤ 1048576) (hx : xs[m * 8]? = some (.int .u8 tag)) (x : Int) (x0 : xs[m * 8 + 7]? = some (.int .i64 x)) (w : World) (H : HeapIs w base b lim n xs) :
    Calls Try.prog 18 #[.pointer (some ⟨b, 0, none⟩), V tag m ⟨#[]⟩] w fun e w' => e = .returned (.tuple #[.int .i64 x, .int .i64 0]) ∧ BW w w' := by
  have hlt := H.lt
  have H0 := H
  obtain ⟨hb, v, h1, hown⟩ := H0
  have hc1 : w.cell? ⟨b, 1, none⟩ = some v := by simp [World.cell?, h1]
  obtain ⟨g, cap, rfl⟩ := Go.Joins.ownsRow_form hown (by omega)
  have c0 := own_cell hown x0
  have hgl : g < w.heap.size := World.block_lt_of_cell? w _ c0
  have hd : decide ((m : Int) < (n : Int)) = true := by simpa using hm
  clear hown h1
  go_enter Try.func18, Try.ntmps18
  go_wp2_with (first | (go_at_call 20; refine (made_in _ ht _).mono ?_; rintro e w0 ⟨rfl, rfl⟩) | (go_at_call 22; refine (has_ok base b lim n xs tag m hm hN hx _ (H.bw (by repeat (first | exact BW.refl _ | apply BW.alloc | apply BW.drewN | apply BW.drew)))).mono ?_; rintro e w1 ⟨rfl, hb1⟩; have hz := hb1.size; (try simp at hz); have q := fun o => hb1.cells (w.heap.size) o (by first | omega | (simp; done) | (simp; omega)); have f := fun o => hb1.froz (w.heap.size) o (by first | omega | (simp; done) | (simp; omega)); have rb := fun o => hb1.cells b o (by first | omega | (simp; done) | (simp; omega)); have rg := fun o => hb1.cells g o (by first | omega | (simp; done) | (simp; omega)); have bl : b < w1.heap.size := (by omega); have gl : g < w1.heap.size := (by omega)))
  go_quiet (fail)
  go_wp2
  go_ret2
  exact ⟨rfl, (by repeat (first | exact BW.refl _ | assumption | apply BW.alloc | apply BW.drewN | apply BW.drew | (refine BW.setCell ?_ (by first | omega | (simp; done) | (simp; omega)) _) | (refine BW.trans ?_ (by assumption))))⟩
set_option maxRecDepth 100000 in
set_option maxHeartbeats 1000000 in
theorem set_no (p : Value) (t m : Int) (s : ByteArray) (x : Value) (tx nx : Int) (sx : ByteArray) (w : World) (hno : NoHas p 5 t m s w) :
    Calls Try.prog 14 #[p, V t m s, V tx nx sx] w fun e w' => e = .returned (.int .i64 2) ∧ BW w w' := by
  go_enter Try.func14, Try.ntmps14
  go_wp2_with (first | (go_at_call 22; refine (hno _ (by repeat (first | exact BW.refl _ | apply BW.alloc | apply BW.drewN | apply BW.drew))).mono ?_; rintro e w1 ⟨rfl, hb1⟩; have hz := hb1.size; (try simp at hz); have q := fun o => hb1.cells (w.heap.size) o (by first | omega | (simp; done) | (simp; omega)); have f := fun o => hb1.froz (w.heap.size) o (by first | omega | (simp; done) | (simp; omega))))
  go_ret
  exact ⟨rfl, (by repeat (first | exact BW.refl _ | assumption | apply BW.alloc | apply BW.drewN | apply BW.drew | (refine BW.setCell ?_ (by first | omega | (simp; done) | (simp; omega)) _) | (refine BW.trans ?_ (by assumption))))⟩
set_option maxRecDepth 100000 in
set_option maxHeartbeats 2000000 in
theorem set_ok (base b : Nat) (lim : Int) (n : Nat) (xs : List Value) (m : Nat) (hm : m < n) (hN : n ≤ 1048576) (hx : xs[m * 8]? = some (.int .u8 5)) (a0 a1 a2 : Value) (x0 : xs[m * 8 + 1]? = some a0) (x1 : xs[m * 8 + 2]? = some a1) (x2 : xs[m * 8 + 3]? = some a2) (tx nx : Int) (sx : ByteArray) (w : World) (H : HeapIs w base b lim n xs) :
    Calls Try.prog 14 #[.pointer (some ⟨b, 0, none⟩), V 5 m ⟨#[]⟩, V tx nx sx] w fun e w' => e = .returned (.int .i64 0) ∧ HeapIs w' base b lim n (((xs.set (m * 8 + 1) (.int .u8 tx)).set (m * 8 + 2) (.int .i64 nx)).set (m * 8 + 3) (.string sx)) ∧ Fr base b w w' := by
  have hlt := H.lt
  have H0 := H
  obtain ⟨hb, v, h1, hown⟩ := H0
  have hc1 : w.cell? ⟨b, 1, none⟩ = some v := by simp [World.cell?, h1]
  obtain ⟨g, cap, rfl⟩ := Go.Joins.ownsRow_form hown (by omega)
  have c0 := own_cell hown x0
  have c1 := own_cell hown x1
  have c2 := own_cell hown x2
  have hrow := own_ty (b := b) hown g rfl
  have hbg : b ≠ g := by rintro rfl; obtain ⟨c, hc⟩ := hrow.2; rw [h1] at hc; simp at hc
  have hgl : g < w.heap.size := World.block_lt_of_cell? w _ c0
  have hbb : base ≤ w.heap.size := by omega
  have hd : decide ((m : Int) < (n : Int)) = true := by simpa using hm
  have hfr : ∀ o, w.frozen? ⟨g, o, none⟩ = false := by
    obtain ⟨c, hc⟩ := hrow.2
    intro o; simp [World.frozen?, hc]
  go_enter Try.func14, Try.ntmps14
  go_wp2_with (first | (go_at_call 22; refine (has_ok base b lim n xs 5 m hm hN hx _ (H.bw (by repeat (first | exact BW.refl _ | apply BW.alloc | apply BW.drewN | apply BW.drew)))).mono ?_; rintro e w1 ⟨rfl, hb1⟩; have hz := hb1.size; (try simp at hz); have q := fun o => hb1.cells (w.heap.size) o (by first | omega | (simp; done) | (simp; omega)); have q1 := fun o => hb1.cells (w.heap.size + 1) o (by first | omega | (simp; done) | (simp; omega)); have rb := fun o => hb1.cells b o (by first | omega | (simp; done) | (simp; omega)); have rg := fun o => hb1.cells g o (by first | omega | (simp; done) | (simp; omega)); have fg := fun o => hb1.froz g o (by first | omega | (simp; done) | (simp; omega)); have bl : b < w1.heap.size := (by omega); have gl : g < w1.heap.size := (by omega); have hW : BW w w1 := (BW.trans (by repeat (first | exact BW.refl _ | apply BW.alloc | apply BW.drewN | apply BW.drew)) hb1)))
  have W1 := (hW.block b hlt).trans h1
  have O1 := own_bw hown hW
  have F0 := hW.fr (b := b) hbb
  clear h1 hown hx x0 x1 x2
  have HN : Hid (w1.heap[b]? = some (.cells #[.int .i64 lim, .slice (some ⟨g, 0, none⟩) n cap] 46 (0, 0)) ∧ w1.ownsRow base 50 8 (.slice (some ⟨g, 0, none⟩) n cap) n xs) := ⟨W1, O1⟩
  clear W1 O1
  go_region
  all_goals go_wp2
  all_goals go_ret
  all_goals
    have s1 := HeapIs.stored hb HN.out.1 HN.out.2 hbg (m * 8 + 1) (.int .u8 tx)
    have s2 := HeapIs.stored hb s1.1 s1.2 hbg (m * 8 + 2) (.int .i64 nx)
    have s3 := HeapIs.stored hb s2.1 s2.2 hbg (m * 8 + 3) (.string sx)
    exact ⟨rfl, ⟨hb, _, s3.1, s3.2⟩, (((F0.setRow hrow.1 hrow.2 _ _).setRow hrow.1 hrow.2 _ _).setRow hrow.1 hrow.2 _ _).drew⟩
end Go.Proofs.Ytgiehpcmijaomaa
