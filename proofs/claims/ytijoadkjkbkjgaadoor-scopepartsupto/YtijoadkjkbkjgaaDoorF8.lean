import Derived.Test.YtijoadkjkbkjgaaDoorF7
import Derived.Test.YtijoadkjkbkjgaaDoorI2
namespace Go.Proofs.YtijoadkjkbkjgaaDoor
open Go.RowKit
set_option linter.unusedVariables false
set_option linter.unusedSimpArgs false

theorem kids_k {n : Nat} {t : Tr (n + 1)} (h : rt (n + 1) t = true) : ((Nd.k (K := Tr n) t = 6 ∨ Nd.k (K := Tr n) t = 17 ∨ Nd.k (K := Tr n) t = 18) → (Nd.ks (K := Tr n) t).length = 1) ∧ (Nd.k (K := Tr n) t = 8 → (Nd.ks (K := Tr n) t).length = 2) := by
  obtain ⟨⟨s, hs, hsu⟩, _⟩ := rt_kids h
  obtain ⟨_, _, _, h4, _⟩ := su_all hsu
  generalize (Nd.ks (K := Tr n) t).length = q at *
  constructor
  · rintro (e | e | e) <;>
    · rw [e] at hs
      obtain rfl : s = _ := (Option.some.inj hs).symm
      simp only at h4
      omega
  · intro e
    rw [e] at hs
    obtain rfl : s = _ := (Option.some.inj hs).symm
    simp only at h4
    omega
theorem nodeS : ∀ n, NodeS n := by
  intro n
  induction n with
  | zero => intro W0 fb mb m v val B F t w h; exact h.elim
  | succ n ih =>
    intro W0 fb mb m v val B F t w hN ht hb hF hm hfl
    have hW := within_of ih
    obtain ⟨k, hk, fk⟩ := rt_fk ht
    obtain ⟨_, hr⟩ := rt_kids ht
    obtain ⟨k1, k2⟩ := kids_k ht
    obtain ⟨na, nl, nc, ka, kl, kc, rfl, wf, a1, a2, a3, a4, s1, s2⟩ := hN
    rcases t with ⟨tk, tn, ts, tns, tks⟩
    simp only at hk fk hr k1 k2 wf s1 s2 ⊢
    have hs := wf.s
    have hm' : m + 4 * (1 + tns.length + (tks.map (bz n)).sum) ≤ 1000000000 := hm
    have hfl' : F.length + (1 + tns.length + (tks.map (bz n)).sum) ≤ 10000000 := hfl
    have nl6 := fk.nl
    subst hk
    by_cases h5 : k = 5
    · subst h5
      exact node_5 W0 fb mb m v B F tn ts tns tks na nl nc ka kl kc w hs s1 a1 s2 a3 a4 hr hb hF hm' hfl'
    by_cases h6 : k = 6
    · subst h6
      obtain ⟨x, rfl⟩ := List.length_eq_one_iff.1 (k1 (.inl rfl))
      exact node_6 hW W0 fb mb m v B F tn ts tns x na nl nc ka kl kc w hs s1 a1 s2 a3 a4 hr hb hF hm' hfl'
    by_cases h8 : k = 8
    · subst h8
      obtain ⟨x, y, rfl⟩ : ∃ x y, tks = [x, y] := by
        match tks, k2 rfl with
        | [x, y], _ => exact ⟨x, y, rfl⟩
      exact node_8 ih hW W0 fb mb m v B F tn ts tns x y na nl nc ka kl kc w hs s1 a1 s2 a3 a4 hr hb hF hm' hfl' (List.eq_nil_of_length_eq_zero (by simpa using nl6 (by decide)))
    by_cases h17 : k = 17
    · subst h17
      obtain ⟨x, rfl⟩ := List.length_eq_one_iff.1 (k1 (.inr (.inl rfl)))
      have e : fr (n + 1) (⟨((17 : Nat) : Int), tn, ts, tns, [x]⟩ : Nd (Tr n)) B F = fr n x (B ++ tns) F := by
        show fr n x (B ++ tns ++ []) F = _
        rw [List.append_nil]
      rw [e]
      exact node_17 hW W0 fb mb m v B F tn ts tns x na nl nc ka kl kc w hs s1 a1 s2 a3 a4 hr hb hF hm' hfl'
    by_cases h18 : k = 18
    · subst h18
      obtain ⟨x, rfl⟩ := List.length_eq_one_iff.1 (k1 (.inr (.inr rfl)))
      have e : fr (n + 1) (⟨((18 : Nat) : Int), tn, ts, tns, [x]⟩ : Nd (Tr n)) B F = fr n x (B ++ tns) F := by
        show fr n x (B ++ tns ++ []) F = _
        rw [List.append_nil]
      rw [e]
      exact node_18 hW W0 fb mb m v B F tn ts tns x na nl nc ka kl kc w hs s1 a1 s2 a3 a4 hr hb hF hm' hfl'
    have hns : tns = [] := List.eq_nil_of_length_eq_zero (by have := nl6 h6; rw [if_neg h17, if_neg h18] at this; exact this)
    subst hns
    have e : fr (n + 1) (⟨(k : Int), tn, ts, [], tks⟩ : Nd (Tr n)) B F = tks.foldl (fun F x => fr n x B F) F := by
      show (if (k : Int) = 5 then _ else if (k : Int) = 8 then _ else tks.foldl (fun F x => fr n x (B ++ [] ++ (if (k : Int) = 6 then [ts] else [])) F) F) = _
      rw [if_neg (by omega), if_neg (by omega), if_neg (by omega), List.append_nil, List.append_nil]
    rw [e]
    exact node_d ih (k : Int) (by omega) (by omega) (by omega) (by omega) (by omega) W0 fb mb m v B F tn ts [] tks na nl nc ka kl kc w hs s1 a1 s2 a3 a4 hr hb hF hm' hfl'
/-- A slice of texts. -/
def StrsV (w : World) (v : Value) (l : List ByteArray) : Prop := ∃ ao cp, v = .slice ao l.length cp ∧ StrsAt w ao l.length l ∧ l.length ≤ cp ∧ cp ≤ maxLen
theorem StrsV.bw {w w' : World} {v : Value} {l : List ByteArray} (h : StrsV w v l) (k : BW w w') : StrsV w' v l := by
  obtain ⟨ao, cp, e, h1, h2, h3⟩ := h
  exact ⟨ao, cp, e, h1.bw k, h2, h3⟩
theorem StrsV.nil (w : World) : StrsV w (.slice none 0 0) [] := ⟨none, 0, rfl, StrsAt.nil, Nat.le_refl _, Nat.zero_le _⟩
theorem own_strsV {w : World} {B : Nat} {v : Value} {l : List ByteArray} (h : w.ownsRow B 9 1 v l.length (l.map Value.string)) (hs : ∀ s ∈ l, s.size ≤ maxLen) : StrsV w v l := by
  rcases h.2 with ⟨rfl, h0⟩ | ⟨g, cap, cur, rfl, hb, hg, h1, h2, h3, h4⟩
  · obtain rfl := List.eq_nil_of_length_eq_zero h0
    exact StrsV.nil w
  · obtain ⟨ao, cp, e, h5, h6⟩ := own_strs h hs
    cases e
    exact ⟨_, _, rfl, h5, h1, h2⟩
set_option maxRecDepth 100000 in
set_option maxHeartbeats 4000000 in
theorem free_any (n : Nat) (val : Value) (t : Tr n) (w : World) (h : NodeAt w n val t) (ht : rt n t = true) (hz : bz n t ≤ 1000000) : Calls Tryd.prog 15 #[val] w fun e w' => ∃ v, e = .returned v ∧ StrsV w' v (fr n t [] []) ∧ BW w w' := by
  have HN : Hid (NodeAt w n val t) := h
  cases n with
  | zero => exact h.elim
  | succ n =>
    obtain ⟨na, nl, nc, ka, kl, kc, rfl, _⟩ := h
    have hmm : ∀ w : World, (Instr.makeMap 42 none).run Tryd.prog w = .ok (.map (some w.heap.size)) (w.alloc (.map #[] 0)) := fun w => by first | rfl | simp [Instr.makeMap]
    have CN : Hid (∀ W, W = ((bx w (Nd.k (K := Tr n) t) (Nd.n (K := Tr n) t) (Nd.s (K := Tr n) t) na nl nc ka kl kc).alloc (.map #[] 0)).alloc (.cells #[.map (some (w.heap.size + 1)), .slice none 0 0] 44) → Calls Tryd.prog 21 #[.pointer (some ⟨w.heap.size + 1 + 1, 0, none⟩), ndv (Nd.k (K := Tr n) t) (Nd.n (K := Tr n) t) (Nd.s (K := Tr n) t) na nl nc ka kl kc] W fun e w' => e = .returned (.tuple #[]) ∧ ∃ v' m', FiB w' (w.heap.size + 1 + 1) (w.heap.size + 1) w.heap.size m' v' [] (fr (n + 1) t [] []) ∧ BW w w') := fun W hW => by
      have hb : BW w W := by rw [hW]; exact BW.alloc (BW.alloc (BW.alloc (BW.refl w) _) _) _
      have hF : FiB W (w.heap.size + 1 + 1) (w.heap.size + 1) w.heap.size 0 (.slice none 0 0) [] [] := by
        refine ⟨by omega, by omega, ?_, ?_, World.ownsRow_nil _ _ _ _, by simp⟩
        · rw [hW]
          simpa using heap_alloc_new ((bx w (Nd.k (K := Tr n) t) (Nd.n (K := Tr n) t) (Nd.s (K := Tr n) t) na nl nc ka kl kc).alloc (.map #[] 0)) (.cells #[.map (some (w.heap.size + 1)), .slice none 0 0] 44)
        · have h1 := (CtIs.new (bx w (Nd.k (K := Tr n) t) (Nd.n (K := Tr n) t) (Nd.s (K := Tr n) t) na nl nc ka kl kc)).same (w' := W) (by rw [hW]; exact (BW.alloc (BW.refl _) _).block _ (by simp))
          simpa [ct] using h1
      refine (nodeS (n + 1) w _ _ 0 _ _ [] [] t W HN.out ht hb hF (by omega) (by simpa using Nat.le_trans hz (by omega))).mono ?_
      rintro e w' ⟨rfl, v', h1, h2⟩
      exact ⟨rfl, v', _, h1, h2.bw0 hF hb⟩
    go_enter Tryd.func15, Tryd.ntmps15
    go_wp2_with (fail)
    refine (CN.out _ rfl).mono ?_
    rintro e w1 ⟨rfl, v1, m1, hF1, hb1⟩
    have f1 : w1.cell? ⟨w.heap.size + 1 + 1, 1, none⟩ = some v1 := by rw [Lib.cell_of_heap hF1.cells]; rfl
    have HV : Hid (StrsV w1 v1 (fr (n + 1) t [] [])) := own_strsV hF1.row hF1.sm
    have HB : Hid (BW w w1) := hb1
    obtain ⟨ao, ln, cp, hve⟩ : ∃ ao ln cp, v1 = .slice ao ln cp := by
      obtain ⟨ao, cp, e, _⟩ := HV.out; exact ⟨_, _, _, e⟩
    subst hve
    clear hF1 hb1 CN hmm
    go_wp2_with (fail)
    go_ret
    exact ⟨_, rfl, HV.out, HB.out⟩

end Go.Proofs.YtijoadkjkbkjgaaDoor
