import Derived.Test.YtogeoaanlkeciaaDoorM9
import Derived.Test.YtogeoaanlkeciaaDoorS5
import Derived.Test.YtogeoaanlkeciaaDoorG1
namespace Go.Proofs.YtogeoaanlkeciaaDoor
open Go.RowKit
set_option linter.unusedVariables false
set_option linter.unusedSimpArgs false

/-- The module with one of each more. -/
def mdK (m : Mdl) (n : Int) (s : ByteArray) : Mdl := ⟨m.ints ++ [n], m.texts ++ [s], m.pros ++ [⟨0, 1, 0, [⟨3, 0⟩]⟩], m.tabs ++ [⟨[], false, false⟩]⟩
theorem inR_mono {a x y : Int} (h : inR a x = true) (k : x ≤ y) : inR a y = true := by
  simp only [inR, Bool.and_eq_true, decide_eq_true_eq] at h ⊢
  omega
theorem plc_more (m : Mdl) (n : Int) (s : ByteArray) (op : Int) : (plc (mdK m n s) op).2 = (plc m op).2 ∧ (plc m op).1 ≤ (plc (mdK m n s) op).1 := by
  unfold plc mdK
  simp only [List.length_append, List.length_cons, List.length_nil]
  split
  · exact ⟨rfl, by simp; omega⟩
  split
  · exact ⟨rfl, by simp; omega⟩
  split
  · exact ⟨rfl, by simp; omega⟩
  split
  · exact ⟨rfl, by simp; omega⟩
  split
  · exact ⟨rfl, Int.le_refl _⟩
  split
  · exact ⟨rfl, Int.le_refl _⟩
  split
  · exact ⟨rfl, Int.le_refl _⟩
  split
  · exact ⟨rfl, by simp; omega⟩
  exact ⟨rfl, Int.le_refl _⟩
theorem get_more {K : Type} {l : List K} {i : Nat} {x z : K} (h : l[i]? = some x) : (l ++ [z])[i]? = some x := by
  rw [List.getElem?_append_left (List.getElem?_eq_some_iff.1 h).1]; exact h
theorem ef_more (m : Mdl) (n : Int) (s : ByteArray) (op a : Int) (h : (ef m op a).2.2 = true) : (ef (mdK m n s) op a).2.2 = true := by
  obtain ⟨e1, e2⟩ := plc_more m n s op
  have hc : ((plc (mdK m n s) op).2 && !(inR a (plc (mdK m n s) op).1)) = false := by
    rw [e1]
    cases hp : (plc m op).2 with
    | false => rfl
    | true =>
      cases hr : inR a (plc m op).1 with
      | true => rw [inR_mono hr e2]; rfl
      | false => unfold ef at h; rw [hp, hr] at h; simp at h
  have hd : ((plc m op).2 && !(inR a (plc m op).1)) = false := by
    cases hq : ((plc m op).2 && !(inR a (plc m op).1)) with
    | false => rfl
    | true => unfold ef at h; rw [hq] at h; simp at h
  unfold ef at h ⊢
  rw [hc]
  rw [hd] at h
  simp only [Bool.false_eq_true, if_false] at h ⊢
  by_cases h9 : op = 9
  · subst h9
    simp at h ⊢
    cases hx : m.pros[a.toNat]? with
    | none => rw [hx] at h; simp at h
    | some x =>
      rw [hx] at h
      rw [show (mdK m n s).pros[a.toNat]? = some x from get_more hx]
      exact h
  · by_cases h18 : op = 18
    · subst h18
      simp at h ⊢
      cases hx : m.tabs[a.toNat]? with
      | none => rw [hx] at h; simp at h
      | some x =>
        rw [show (mdK m n s).tabs[a.toNat]? = some x from get_more hx]
    · simp only [h9, h18, if_false] at h ⊢
      exact h
theorem ins_more (m : Mdl) (n : Int) (s : ByteArray) (x : Pro) (i : Ins) (h : insB m x i = true) : insB (mdK m n s) x i = true := by
  unfold insB at h ⊢
  rw [Bool.and_eq_true] at h ⊢
  exact ⟨ef_more m n s _ _ h.1, by rw [(plc_more m n s i.op).1]; exact h.2⟩
theorem pr_more (m : Mdl) (n : Int) (s : ByteArray) (x : Pro) (h : prB m x = true) : prB (mdK m n s) x = true := by
  unfold prB at h ⊢
  rw [Bool.and_eq_true] at h ⊢
  refine ⟨h.1, ?_⟩
  rw [List.all_eq_true] at h ⊢
  exact fun i hi => ins_more m n s x i (h.2 i hi)
theorem tx_more (m : Mdl) (n : Int) (s : ByteArray) (o : Int) (h : inR o m.texts.length = true) : tx (mdK m n s) o = tx m o := by
  simp only [inR, Bool.and_eq_true, decide_eq_true_eq] at h
  have hlt : o.toNat < m.texts.length := by omega
  unfold tx mdK
  simp only [List.getD]
  rw [List.getElem?_append_left hlt]
theorem tb_more (m : Mdl) (n : Int) (s : ByteArray) (t : Tbl) (h : tbB m t = true) : tbB (mdK m n s) t = true := by
  unfold tbB at h ⊢
  rw [Bool.and_eq_true, Bool.and_eq_true] at h ⊢
  obtain ⟨⟨h1, h2⟩, h3⟩ := h
  rw [List.all_eq_true] at h2
  refine ⟨⟨h1, ?_⟩, ?_⟩
  · rw [List.all_eq_true]
    exact fun o ho => inR_mono (h2 o ho) (by simp [mdK]; omega)
  · rw [List.map_congr_left (fun o ho => tx_more m n s o (h2 o ho))]
    exact h3
theorem may_more (m : Mdl) (n : Int) (s : ByteArray) (h : mayB m = true) (hg : gr m = false) (hs : s.size ≤ 1000) : mayB (mdK m n s) = true := by
  unfold mayB at h
  simp only [Bool.and_eq_true, Bool.not_eq_true'] at h
  obtain ⟨⟨⟨⟨h1, h2⟩, h3⟩, h4⟩, h5⟩ := h
  unfold gr at hg
  simp only [Bool.or_eq_false_iff, decide_eq_false_iff_not] at hg
  obtain ⟨⟨⟨⟨g1, g2⟩, g3⟩, g4⟩, _⟩ := hg
  unfold mayB
  simp only [Bool.and_eq_true, Bool.not_eq_true']
  refine ⟨⟨⟨⟨?_, ?_⟩, ?_⟩, ?_⟩, ?_⟩
  · simp [fitB, mdK]; omega
  · unfold begB at h2 ⊢
    unfold mdK
    cases hp : m.pros with
    | nil => rw [hp] at h2; simp at h2
    | cons x q => rw [hp] at h2; simpa using h2
  · show (m.texts ++ [s]).any _ = false
    rw [List.any_append, h3]
    simp; omega
  · show (m.tabs ++ [_]).any _ = false
    rw [List.any_append, Bool.or_eq_false_iff]
    refine ⟨?_, by simp [tbB, unl]⟩
    rw [List.any_eq_false] at h4 ⊢
    intro t ht
    have := h4 t ht
    simp only [Bool.not_eq_true', Bool.not_eq_false] at this ⊢
    exact tb_more m n s t this
  · show (m.pros ++ [_]).any _ = false
    rw [List.any_append, Bool.or_eq_false_iff]
    refine ⟨?_, ?_⟩
    · rw [List.any_eq_false] at h5 ⊢
      intro x hx
      have := h5 x hx
      simp only [Bool.not_eq_true', Bool.not_eq_false] at this ⊢
      exact pr_more m n s x this
    · simp [prB, insB, ef, plc, wi, inR]
theorem sm_more (m : Mdl) (n : Int) (s : ByteArray) : smM m (mdK m n s) = false := by
  unfold smM
  rw [eqL_len eqI (by simp [mdK])]
  rfl

end Go.Proofs.YtogeoaanlkeciaaDoor
