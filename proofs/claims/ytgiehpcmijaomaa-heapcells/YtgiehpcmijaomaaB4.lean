import Derived.Test.YtgiehpcmijaomaaB3
namespace Go.Proofs.Ytgiehpcmijaomaa
open Go.RowKit
set_option linter.unusedVariables false
set_option linter.unusedSimpArgs false
theorem own_cell {w : World} {base g n cap : Nat} {xs : List Value} (h : w.ownsRow base 50 8 (.slice (some ⟨g, 0, none⟩) n cap) n xs) {j : Nat} {u : Value} (hj : xs[j]? = some u) : w.cell? ⟨g, j, none⟩ = some u := by
  have := h.cells (g := g) rfl j u hj
  have hadd : (⟨g, 0, none⟩ : Addr).add j = ⟨g, j, none⟩ := by unfold Addr.add; split <;> simp_all
  rwa [hadd] at this
theorem str_ne {s : ByteArray} (h : ¬ s = ⟨#[]⟩) : ¬ s.toList = [] := by
  intro k
  rw [ByteArray.toList_eq] at k
  apply h
  cases s with | mk d => cases d with | mk l => simp at k; subst k; rfl
set_option maxRecDepth 100000 in
set_option maxHeartbeats 1000000 in
theorem has_tag (p : Value) (tag t m : Int) (s : ByteArray) (h : (t == tag) = false) (w : World) :
    Calls Try.prog 22 #[p, .int .u8 tag, V t m s] w fun e w' => e = .returned (.bool false) ∧ BW w w' := by
  go_enter Try.func22, Try.ntmps22
  go_wp2
  go_ret
  exact ⟨rfl, (by repeat (first | exact BW.refl _ | assumption | apply BW.alloc | apply BW.drewN | apply BW.drew | (refine BW.setCell ?_ (by first | omega | (simp; done) | (simp; omega)) _) | (refine BW.trans ?_ (by assumption))))⟩
set_option maxRecDepth 100000 in
set_option maxHeartbeats 1000000 in
theorem has_str (p : Value) (tag m : Int) (s : ByteArray) (h : ¬ s.toList = []) (w : World) :
    Calls Try.prog 22 #[p, .int .u8 tag, V tag m s] w fun e w' => e = .returned (.bool false) ∧ BW w w' := by
  go_enter Try.func22, Try.ntmps22
  go_wp2
  go_ret
  exact ⟨rfl, (by repeat (first | exact BW.refl _ | assumption | apply BW.alloc | apply BW.drewN | apply BW.drew | (refine BW.setCell ?_ (by first | omega | (simp; done) | (simp; omega)) _) | (refine BW.trans ?_ (by assumption))))⟩
set_option maxRecDepth 100000 in
set_option maxHeartbeats 1000000 in
theorem has_neg (p : Value) (tag m : Int) (h : m < 0) (w : World) :
    Calls Try.prog 22 #[p, .int .u8 tag, V tag m ⟨#[]⟩] w fun e w' => e = .returned (.bool false) ∧ BW w w' := by
  have hd : decide (0 ≤ m) = false := by simpa using h
  go_enter Try.func22, Try.ntmps22
  go_wp2
  go_quiet (fail)
  go_wp2
  go_ret
  exact ⟨rfl, (by repeat (first | exact BW.refl _ | assumption | apply BW.alloc | apply BW.drewN | apply BW.drew | (refine BW.setCell ?_ (by first | omega | (simp; done) | (simp; omega)) _) | (refine BW.trans ?_ (by assumption))))⟩
set_option maxRecDepth 100000 in
set_option maxHeartbeats 1000000 in
theorem has_nil0 (tag m : Int) (h : 0 ≤ m) (w : World) :
    Calls Try.prog 22 #[.pointer none, .int .u8 tag, V tag m ⟨#[]⟩] w fun e w' => e = .returned (.bool false) ∧ BW w w' := by
  have hd : decide (0 ≤ m) = true := by simpa using h
  have hd2 : decide (m < 0) = false := by simpa using h
  go_enter Try.func22, Try.ntmps22
  go_wp2
  go_quiet ((go_at_call 11; exact Calls.quiet_of_same (len_nil _)))
  go_wp2
  go_ret
  exact ⟨rfl, (by repeat (first | exact BW.refl _ | assumption | apply BW.alloc | apply BW.drewN | apply BW.drew | (refine BW.setCell ?_ (by first | omega | (simp; done) | (simp; omega)) _) | (refine BW.trans ?_ (by assumption))))⟩
set_option maxRecDepth 100000 in
set_option maxHeartbeats 1000000 in
theorem has_out (base b : Nat) (lim : Int) (n : Nat) (xs : List Value) (tag m : Int) (h0 : 0 ≤ m) (h : (n : Int) ≤ m) (w : World) (H : HeapIs w base b lim n xs) :
    Calls Try.prog 22 #[.pointer (some ⟨b, 0, none⟩), .int .u8 tag, V tag m ⟨#[]⟩] w fun e w' => e = .returned (.bool false) ∧ BW w w' := by
  have hd : decide (0 ≤ m) = true := by simpa using h0
  have hd2 : decide (m < (n : Int)) = false := by simpa using h
  have hlt := H.lt
  go_enter Try.func22, Try.ntmps22
  go_wp2
  go_quiet ((go_at_call 11; exact Calls.quiet_of_same (len_any base b lim n xs _ (H.bw (by repeat (first | exact BW.refl _ | apply BW.alloc | apply BW.drewN | apply BW.drew))))))
  go_wp2
  go_ret
  exact ⟨rfl, (by repeat (first | exact BW.refl _ | assumption | apply BW.alloc | apply BW.drewN | apply BW.drew | (refine BW.setCell ?_ (by first | omega | (simp; done) | (simp; omega)) _) | (refine BW.trans ?_ (by assumption))))⟩
set_option maxRecDepth 100000 in
set_option maxHeartbeats 1000000 in
theorem has_ok (base b : Nat) (lim : Int) (n : Nat) (xs : List Value) (tag : Int) (m : Nat) (hm : m < n) (hN : n ≤ 1048576) (hx : xs[m * 8]? = some (.int .u8 tag)) (w : World) (H : HeapIs w base b lim n xs) :
    Calls Try.prog 22 #[.pointer (some ⟨b, 0, none⟩), .int .u8 tag, V tag m ⟨#[]⟩] w fun e w' => e = .returned (.bool true) ∧ BW w w' := by
  have hlt := H.lt
  have H0 := H
  obtain ⟨hb, v, h1, hown⟩ := H0
  have hc1 : w.cell? ⟨b, 1, none⟩ = some v := by simp [World.cell?, h1]
  obtain ⟨g, cap, rfl⟩ := Go.Joins.ownsRow_form hown (by omega)
  have hc := own_cell hown hx
  have hgl : g < w.heap.size := World.block_lt_of_cell? w _ hc
  have hd : decide ((m : Int) < (n : Int)) = true := by simpa using hm
  clear hown h1 hx
  go_enter Try.func22, Try.ntmps22
  go_wp2
  go_quiet ((go_at_call 11; exact Calls.quiet_of_same (len_any base b lim n xs _ (H.bw (by repeat (first | exact BW.refl _ | apply BW.alloc | apply BW.drewN | apply BW.drew))))))
  go_wp2
  go_ret
  exact ⟨rfl, (by repeat (first | exact BW.refl _ | assumption | apply BW.alloc | apply BW.drewN | apply BW.drew | (refine BW.setCell ?_ (by first | omega | (simp; done) | (simp; omega)) _) | (refine BW.trans ?_ (by assumption))))⟩
set_option maxRecDepth 100000 in
set_option maxHeartbeats 1000000 in
theorem has_not (base b : Nat) (lim : Int) (n : Nat) (xs : List Value) (tag : Int) (m : Nat) (hm : m < n) (hN : n ≤ 1048576) (tag' : Int) (hne : (tag' == tag) = false) (hx : xs[m * 8]? = some (.int .u8 tag')) (w : World) (H : HeapIs w base b lim n xs) :
    Calls Try.prog 22 #[.pointer (some ⟨b, 0, none⟩), .int .u8 tag, V tag m ⟨#[]⟩] w fun e w' => e = .returned (.bool false) ∧ BW w w' := by
  have hlt := H.lt
  have H0 := H
  obtain ⟨hb, v, h1, hown⟩ := H0
  have hc1 : w.cell? ⟨b, 1, none⟩ = some v := by simp [World.cell?, h1]
  obtain ⟨g, cap, rfl⟩ := Go.Joins.ownsRow_form hown (by omega)
  have hc := own_cell hown hx
  have hgl : g < w.heap.size := World.block_lt_of_cell? w _ hc
  have hd : decide ((m : Int) < (n : Int)) = true := by simpa using hm
  clear hown h1 hx
  go_enter Try.func22, Try.ntmps22
  go_wp2
  go_quiet ((go_at_call 11; exact Calls.quiet_of_same (len_any base b lim n xs _ (H.bw (by repeat (first | exact BW.refl _ | apply BW.alloc | apply BW.drewN | apply BW.drew))))))
  go_wp2
  go_ret
  exact ⟨rfl, (by repeat (first | exact BW.refl _ | assumption | apply BW.alloc | apply BW.drewN | apply BW.drew | (refine BW.setCell ?_ (by first | omega | (simp; done) | (simp; omega)) _) | (refine BW.trans ?_ (by assumption))))⟩
theorem has_nil (tag t m : Int) (s : ByteArray) (w : World) : Calls Try.prog 22 #[.pointer none, .int .u8 tag, V t m s] w fun e w' => e = .returned (.bool false) ∧ BW w w' := by
  by_cases h : t = tag
  · subst h
    by_cases hs : s = ⟨#[]⟩
    · subst hs
      by_cases hm : m < 0
      · exact has_neg _ t m hm w
      · exact has_nil0 t m (by omega) w
    · exact has_str _ t m s (str_ne hs) w
  · exact has_tag _ tag t m s (by simpa using h) w
end Go.Proofs.Ytgiehpcmijaomaa
