import Derived.Test.YtijoadkjkbkjgaaDoorF3
namespace Go.Proofs.YtijoadkjkbkjgaaDoor
open Go.RowKit
set_option linter.unusedVariables false
set_option linter.unusedSimpArgs false

open Go.Maps
/-- The finder: B: what is bound where it is; F: the free ones so far (which count as bound for good). -/
abbrev FiB (w : World) (fb mb lo n : Nat) (v : Value) (B F : List ByteArray) : Prop := FiIs w fb mb lo n v (fun x => ct B x + ct F x) F
/-- A name more, unless it is bound, or told. -/
def addN (B F : List ByteArray) (s : ByteArray) : List ByteArray := if ct B s + ct F s = 0 then F ++ [s] else F
theorem FiIs.found {w w1 w2 : World} {fb mb lo n : Nat} {v v' : Value} {c : ByteArray → Nat} {F : List ByteArray} {s : ByteArray} (h : FiIs w fb mb lo n v c F) (hb : BW w w1) (hg : w1.grownBy w2 v.ownBlock) (ho : w2.ownsRow lo 9 1 v' (F.length + 1) (F.map Value.string ++ [.string s])) (hs : s.size ≤ maxLen) : FiIs (w2.setCell ⟨fb, 1, none⟩ v') fb mb lo n v' c (F ++ [s]) := by
  have hl1 : fb < w1.heap.size := Nat.lt_of_lt_of_le h.lt hb.size
  have B2 : ∀ j, j < w.heap.size → v.ownBlock ≠ some j → w2.heap[j]? = w.heap[j]? := fun j hj hn => (hg.block j (Nat.lt_of_lt_of_le hj hb.size) (fun e => hn e.symm)).trans (hb.block j hj)
  have hc : w2.heap[fb]? = some (.cells #[.map (some mb), v] 44 (0, 0)) := (B2 fb h.lt h.nr.1).trans h.cells
  have hmne : mb ≠ fb := fun e => h.ne e.symm
  refine ⟨h.l1, h.l2, heap_setCell_same w2 fb 1 _ 44 v' hc, h.ct.same ((heap_setCell_other w2 ⟨fb, 1, none⟩ mb v' hmne).trans (B2 mb h.ct.lt h.nr.2.1)), ?_, ?_⟩
  · have ho' : w2.ownsRow lo 9 1 v' (F ++ [s]).length ((F ++ [s]).map Value.string) := by simpa using ho
    obtain ⟨h2, h3⟩ := ho'
    refine ⟨h2, ?_⟩
    rcases h3 with h3 | ⟨g, cap, cur, e', hgb, hh, r⟩
    · exact .inl h3
    · have hgf : g ≠ fb := by
        rintro rfl
        rw [hc] at hh
        simp at hh
      exact .inr ⟨g, cap, cur, e', hgb, (heap_setCell_other w2 ⟨fb, 1, none⟩ g v' hgf).trans hh, r⟩
  · intro x hx
    rcases List.mem_append.1 hx with hx | hx
    · exact h.sm x hx
    · simp at hx; subst hx; exact hs
theorem Fq.found {w w1 w2 : World} {fb mb : Nat} {v v' : Value} (hb : BW w w1) (hg : w1.grownBy w2 v.ownBlock) (ho : v'.ownBlock = v.ownBlock ∨ v'.ownBlock = some w1.heap.size) : Fq fb mb v v' w (w2.setCell ⟨fb, 1, none⟩ v') := by
  refine ⟨hg.os.trans hb.os, hg.tape.trans hb.tape, hg.output.trans hb.output, ?_, ?_, ?_⟩
  · simp [World.setCell]
    exact Nat.le_trans hb.size hg.size
  · intro k hk hf hm ho
    exact (heap_setCell_other w2 ⟨fb, 1, none⟩ k v' hf).trans ((hg.block k (Nat.lt_of_lt_of_le hk hb.size) (fun e => ho e.symm)).trans (hb.block k hk))
  · rcases ho with e | e
    · exact .inl e
    · exact .inr ⟨_, e, hb.size⟩
theorem strs_one (w : World) (s : ByteArray) (h : s.size ≤ maxLen) : StrsAt (w.alloc (.cells #[.string s] 9)) (some ⟨w.heap.size, 0, none⟩) 1 [s] := by
  refine ⟨rfl, by unfold maxLen; omega, by simpa using h, .inr ⟨_, 0, rfl, by simp, fun i x hi => ?_⟩⟩
  match i, hi with
  | 0, hi =>
    simp at hi; subst hi
    rw [Lib.cell_of_heap (heap_alloc_new _ _)]; rfl
set_option maxRecDepth 100000 in
set_option maxHeartbeats 4000000 in
theorem use_any (fb mb lo n : Nat) (v : Value) (B F : List ByteArray) (s : ByteArray) (w : World) (h : FiB w fb mb lo n v B F) (hs : s.size ≤ maxLen) (hn : n + 1 ≤ 1000000000) (hF : F.length + 1 ≤ 10000000) (hlo : lo ≤ w.heap.size) :
    Calls Tryd.prog 39 #[.pointer (some ⟨fb, 0, none⟩), .string s] w fun e w' => e = .returned (.tuple #[]) ∧ ∃ v', FiB w' fb mb lo (n + 1) v' B (addN B F s) ∧ Fq fb mb v v' w w' := by
  have H0 : Hid (FiB w fb mb lo n v B F) := h
  have hlt := h.lt
  have hml := h.ct.lt
  have f0 : w.cell? ⟨fb, 0, none⟩ = some (.map (some mb)) := by rw [Lib.cell_of_heap h.cells]; rfl
  have f1 : w.cell? ⟨fb, 1, none⟩ = some v := by rw [Lib.cell_of_heap h.cells]; rfl
  have fz : w.frozen? ⟨fb, 1, none⟩ = false := Lib.frozen_of_heap h.cells 1
  obtain ⟨D, hown, hA⟩ := h.ct
  have hkey : keyOf Tryd.prog 9 (.string s) = some (.string s.data.toList) := Go.WideMaps.keyOf_string_mk Tryd.underlying9 hs
  obtain ⟨q, hrun, hat, hwc⟩ := hown.lookup_int (t := 42) (Go.Maps.string_keyed Tryd.underlying9) Tryd.underlying42 Tryd.underlying3 (zero3 w) hkey
  obtain ⟨p, hp⟩ : ∃ p, ct B s + ct F s = p := ⟨_, rfl⟩
  obtain rfl : q = (p : Int) := by
    rw [(hA s).2] at hat
    simp only [hp] at hat
    have := hat.symm
    simpa using this
  have HP : Hid (ct B s + ct F s = p) := hp
  clear hat hwc hA hown D hkey hp h
  by_cases hp0 : p = 0
  · subst hp0
    have HAdd : Hid (addN B F s = F ++ [s]) := by
      show addN B F s = _
      unfold addN
      rw [if_pos HP.out]
    have hnr := H0.out.nr
    have hv : v = .slice none 0 0 ∧ F.length = 0 ∨ ∃ g cap, v = .slice (some ⟨g, 0, none⟩) F.length cap := Go.Joins.ownsRow_forms H0.out.row
    have HNR : Hid _ := hnr
    have hfn : ¬ fb = w.heap.size := by omega
    have hfn' : ¬ w.heap.size = fb := by omega
    have HRow : Hid (w.ownsRow lo 9 1 v F.length (F.map Value.string)) := H0.out.row
    clear hnr
    obtain ⟨v0, hv0⟩ : ∃ v0, v0 = v := ⟨v, rfl⟩
    rw [← hv0] at f1
    have HV0 : Hid (v0 = v) := hv0
    clear hv0 hv
    go_enter Tryd.func39, Tryd.ntmps39
    go_wp2_with (first | (at_builtin; refine wpList_append_strs rfl _ _ rfl lo v0 F.length (F.map Value.string) ⟨w.heap.size, 0, none⟩ 1 1 [.string s] rfl rfl (by rw [HV0.out]; exact HRow.out.alloc _) rfl (cells_new w 9 [.string s]) (by intro u hu; simp at hu; subst hu; rfl) (by omega) (by simp; omega) ?_))
    intro v' w2 hown2 hgrow2 hv2
    obtain rfl : v0 = v := HV0.out
    have hb1 : BW w (w.alloc (.cells #[.string s] 9)) := BW.alloc (BW.refl w) _
    have hF2 : w2.heap[fb]? = some (.cells #[.map (some mb), v0] 44 (0, 0)) := (hgrow2.block fb (by simp; omega) (fun e => HNR.out.1 e.symm)).trans ((hb1.block fb hlt).trans H0.out.cells)
    have HF2 : Hid (FiIs (w2.setCell ⟨fb, 1, none⟩ v') fb mb lo n v' (fun x => ct B x + ct F x) (F ++ [s])) := H0.out.found hb1 hgrow2 hown2 hs
    have HQ2 : Hid (Fq fb mb v0 v' w (w2.setCell ⟨fb, 1, none⟩ v')) := Fq.found hb1 hgrow2 (by simpa using hv2)
    have g1 : w2.cell? ⟨fb, 1, none⟩ = some v0 := by rw [Lib.cell_of_heap hF2]; rfl
    have gz : w2.frozen? ⟨fb, 1, none⟩ = false := Lib.frozen_of_heap hF2 1
    have hone : v'.oneCell' = true := by
      rcases Go.Joins.ownsRow_forms hown2 with ⟨rfl, _⟩ | ⟨g, cap, rfl⟩ <;> rfl
    obtain ⟨ao, ln, cp, hve⟩ : ∃ ao ln cp, v' = .slice ao ln cp := by
      rcases Go.Joins.ownsRow_forms hown2 with ⟨rfl, _⟩ | ⟨g, cap, rfl⟩ <;> exact ⟨_, _, _, rfl⟩
    subst hve
    clear hown2 hgrow2 hv2 HV0
    have hsz : (w2.setCell ⟨fb, 1, none⟩ (.slice ao ln cp)).heap.size = w2.heap.size := by simp [World.setCell]
    have CB : Hid (Calls Tryd.prog 40 #[.pointer (some ⟨fb, 0, none⟩), .slice (some ⟨w2.heap.size, 0, none⟩) 1 1] ((w2.setCell ⟨fb, 1, none⟩ (.slice ao ln cp)).alloc (.cells #[.string s] 9)) fun e w' => e = .returned (.tuple #[]) ∧ FiIs w' fb mb lo (n + 1) (.slice ao ln cp) (fun x => (ct B x + ct F x) + ct [s] x) (F ++ [s]) ∧ Fq fb mb (.slice ao ln cp) (.slice ao ln cp) ((w2.setCell ⟨fb, 1, none⟩ (.slice ao ln cp)).alloc (.cells #[.string s] 9)) w') := by
      have h1 := strs_one (w2.setCell ⟨fb, 1, none⟩ (.slice ao ln cp)) s hs
      rw [hsz] at h1
      exact bind_any fb mb lo n _ _ _ _ 1 1 [s] _ (HF2.out.bw (BW.alloc (BW.refl _) _)) h1 (by omega)
    clear hsz
    go_wp2_with (fail)
    refine CB.out.mono ?_
    rintro e w4 ⟨rfl, hF4, hQ4⟩
    go_wp2_with (fail)
    go_end0
    refine ⟨rfl, _, ?_, HQ2.out.trans (Fq.trans ((BW.alloc (BW.refl _) _).fq fb mb _) hQ4)⟩
    rw [HAdd.out]
    exact hF4.of (fun x => by rw [ct_append]; omega)
  · have HAdd : Hid (addN B F s = F) := by
      show addN B F s = _
      unfold addN
      rw [if_neg (by rw [HP.out]; exact hp0)]
    have t1 : ((p : Int) == 0) = false := by simp; omega
    go_enter Tryd.func39, Tryd.ntmps39
    go_wp2_with (fail)
    go_end0
    exact ⟨rfl, v, by rw [HAdd.out]; exact H0.out.mono (Nat.le_succ n), (BW.refl w).fq _ _ _⟩

end Go.Proofs.YtijoadkjkbkjgaaDoor
