import Derived.Test.YtndhhmgbekcfoaaDoorRows
import Derived.Test.YtndhhmgbekcfoaaDoorW1
import Derived.ProofKit
import Derived.LaidMore
import Derived.OpenShut
import Derived.Stop.Joined
import Derived.Lib.LaidTab
import Derived.Lib.LaidU8
import Derived.Stop.LaidErr
import Derived.Lib.SmallJoins
namespace Go.Proofs.YtndhhmgbekcfoaaDoor
open Go.RowKit
set_option linter.unusedVariables false
set_option linter.unusedSimpArgs false

open Go.ChangeShapes Go.WideShapes Go.ChangeAt Go.Joins
theorem own : ownKnob Tryd.prog.godebug = none := by kernel_rfl
theorem laidOut : laidOutB Tryd.prog = true := by kernel_rfl
/-- What the rows list. -/
abbrev laid4 : List (String × DataW Unit) := Rows.packOneRow.laid
/-- The variables' names, as the rows list them. -/
abbrev nmT : String := (Rows.packOneRow.laid.map (fun x => x.1)).getD 0 ""
abbrev nmC : String := (Rows.packOneRow.laid.map (fun x => x.1)).getD 1 ""
theorem door_met (os : Os) (args : Array Value) : laidMetH Tryd.prog laid4 ((World.doorLaid Tryd.prog 4000 os).forCall (fun _ _ => 0) ⟨#[], args, []⟩).memory :=
  laidMetH_of_parts3 (fuel := 8) (laidMet_of_run' 8 (by kernel_rfl) (by kernel_rfl)) (by kernel_rfl) (by kernel_rfl)
theorem words_data : (Rows.laid_sacristan_tree_words : DataW Unit) = .agg (wtab.map fun x => .agg [.lit (.string x.1), .lit (.int .i64 x.2)]) := by kernel_rfl
theorem words_g : Tryd.prog.globalNamed nmT = some 1 := by kernel_rfl
theorem words_t : (Tryd.prog.globals[1]?).map (·.type) = some 136 := by kernel_rfl
theorem Tryd.cells135 : Tryd.prog.cellsOf 135 = 2 := by kernel_rfl
theorem cw_g : Tryd.prog.globalNamed nmC = some 0 := by kernel_rfl
theorem cw_t : (Tryd.prog.globals[0]?).map (·.type) = some 132 := by kernel_rfl
theorem cw_data : (Rows.laid_sacristan_code_words : DataW Unit) = .agg (wtab.map fun x => .lit (.string x.1)) := by kernel_rfl
theorem cw_of {W : World} {l : List (String × DataW Unit)} (h4 : laidMet Tryd.prog ((nmC, Rows.laid_sacristan_code_words) :: l) W) : Cw W := by
  obtain ⟨ps, ⟨g', t', cs, fuel, p, q, hg', ht', hvar, hd, _, _⟩, _⟩ := h4
  obtain rfl := Option.some.inj (cw_g.symm.trans hg')
  obtain rfl := Option.some.inj (cw_t.symm.trans ht')
  rw [cw_data] at hd
  have hcell : ∀ (k : Nat), k < 32 → cs.toList[k]? = some (.string (wk k)) := by
    intro k hk
    obtain ⟨f', d, q', hdk, hel⟩ := Lib.array_elem (n := 32) (e := 9) Tryd.underlying132 hd k hk
    rw [List.getElem?_map, wtab_get k hk] at hdk
    simp only [Option.map_some, Option.some.injEq] at hdk
    subst hdk
    have c9 : Tryd.prog.cellsOf 9 = 1 := by kernel_rfl
    rw [c9] at hel
    obtain ⟨s, f0, e0, w0⟩ := DataW.trod_string Tryd.underlying9 hel
    simp only [Prod.mk.injEq, DataW.lit.injEq, Lit.string.injEq] at e0
    have hs : s = wk k := Go.WideShapes.bytes_inj e0.1.symm
    subst hs
    have := congrArg (fun l => l[0]?) f0
    simpa using this
  have hc : ∀ k, k < 32 → W.cell? ⟨0, k, none⟩ = some (.string (wk k)) := by
    intro k hk
    have hvc := World.var?_cell cw_g hvar k
    have hcs := hcell k hk
    rw [Array.getElem?_toList] at hcs
    rw [hcs] at hvc
    simpa using hvc
  refine ⟨?_, hc⟩
  have := World.block_lt_of_cell? W _ (hc 0 (by decide))
  simpa using this
theorem tw_of {W : World} {l : List (String × DataW Unit)} (h4 : laidMet Tryd.prog ((nmT, Rows.laid_sacristan_tree_words) :: l) W) : Tw W := by
  obtain ⟨ps, ⟨g', t', cs, fuel, p, q, hg', ht', hvar, hd, _, _⟩, _⟩ := h4
  obtain rfl := Option.some.inj (words_g.symm.trans hg')
  obtain rfl := Option.some.inj (words_t.symm.trans ht')
  have key : W.rangeAt 1 0 wcs := ?key
  · refine ⟨?_, key⟩
    have h0 := key 0 (.string (wk 0)) rfl
    have := World.block_lt_of_cell? W _ h0
    simpa using this
  rw [words_data] at hd
  have hcell : ∀ (k : Nat), k < 32 → cs.toList[2 * k]? = some (.string (wk k)) ∧ cs.toList[2 * k + 1]? = some (.int .i64 (wn k)) := by
    intro k hk
    obtain ⟨f', d, q', hdk, hel⟩ := Lib.array_elem (n := 32) (e := 135) Tryd.underlying136 hd k hk
    rw [List.getElem?_map, wtab_get k hk] at hdk
    simp only [Option.map_some, Option.some.injEq] at hdk
    subst hdk
    rw [Tryd.cells135] at hel
    obtain ⟨y0, y1, m, hx, hl, h0, h1⟩ := Go.ChangeShapes.trod_struct2 Tryd.underlying135 hel
    rw [Tryd.cells135] at hl
    have c9 : Tryd.prog.cellsOf 9 = 1 := by kernel_rfl
    have c3 : Tryd.prog.cellsOf 3 = 1 := by kernel_rfl
    simp only [c9, c3] at h0 h1
    obtain ⟨s, f0, e0, w0⟩ := DataW.trod_string Tryd.underlying9 h0
    obtain ⟨z, f1, e1, w1⟩ := DataW.trod_int Tryd.underlying3 h1
    simp only [Prod.mk.injEq, DataW.agg.injEq, List.cons.injEq, and_true] at hx
    rw [e0, e1] at hx
    simp only [DataW.lit.injEq, Lit.string.injEq, Lit.int.injEq, true_and] at hx
    obtain ⟨⟨hx0, hx1⟩, _⟩ := hx
    have hs : s = wk k := Go.WideShapes.bytes_inj hx0.symm
    subst hs
    subst hx1
    have g0 : (List.take 2 (List.drop (k * 2) cs.toList))[0]? = some (.string (wk k)) := by
      have := congrArg (fun l => l[0]?) f0
      simpa using this
    have g1 : (List.take 2 (List.drop (k * 2) cs.toList))[1]? = some (.int .i64 (wn k)) := by
      have := congrArg (fun l => l[0]?) f1
      simpa using this
    rw [List.getElem?_take_of_lt (by decide), List.getElem?_drop] at g0 g1
    exact ⟨by rw [show 2 * k = k * 2 + 0 by omega]; exact g0, by rw [show 2 * k + 1 = k * 2 + 1 by omega]; exact g1⟩
  have hwc : ∀ (k : Nat), k < 32 → wcs[2 * k]? = some (.string (wk k)) ∧ wcs[2 * k + 1]? = some (.int .i64 (wn k))
    | 0, _ => ⟨rfl, rfl⟩
    | 1, _ => ⟨rfl, rfl⟩
    | 2, _ => ⟨rfl, rfl⟩
    | 3, _ => ⟨rfl, rfl⟩
    | 4, _ => ⟨rfl, rfl⟩
    | 5, _ => ⟨rfl, rfl⟩
    | 6, _ => ⟨rfl, rfl⟩
    | 7, _ => ⟨rfl, rfl⟩
    | 8, _ => ⟨rfl, rfl⟩
    | 9, _ => ⟨rfl, rfl⟩
    | 10, _ => ⟨rfl, rfl⟩
    | 11, _ => ⟨rfl, rfl⟩
    | 12, _ => ⟨rfl, rfl⟩
    | 13, _ => ⟨rfl, rfl⟩
    | 14, _ => ⟨rfl, rfl⟩
    | 15, _ => ⟨rfl, rfl⟩
    | 16, _ => ⟨rfl, rfl⟩
    | 17, _ => ⟨rfl, rfl⟩
    | 18, _ => ⟨rfl, rfl⟩
    | 19, _ => ⟨rfl, rfl⟩
    | 20, _ => ⟨rfl, rfl⟩
    | 21, _ => ⟨rfl, rfl⟩
    | 22, _ => ⟨rfl, rfl⟩
    | 23, _ => ⟨rfl, rfl⟩
    | 24, _ => ⟨rfl, rfl⟩
    | 25, _ => ⟨rfl, rfl⟩
    | 26, _ => ⟨rfl, rfl⟩
    | 27, _ => ⟨rfl, rfl⟩
    | 28, _ => ⟨rfl, rfl⟩
    | 29, _ => ⟨rfl, rfl⟩
    | 30, _ => ⟨rfl, rfl⟩
    | 31, _ => ⟨rfl, rfl⟩
    | n + 32, h => absurd h (by omega)
  intro j v hj
  have hj64 : j < 64 := by
    have := (List.getElem?_eq_some_iff.1 hj).1
    have e : wcs.length = 64 := by decide +kernel
    omega
  have hcs : cs.toList[j]? = some v := by
    rcases Nat.mod_two_eq_zero_or_one j with h | h
    · have e : j = 2 * (j / 2) := by omega
      rw [e] at hj ⊢
      rw [(hwc (j / 2) (by omega)).1] at hj
      cases hj
      exact (hcell (j / 2) (by omega)).1
    · have e : j = 2 * (j / 2) + 1 := by omega
      rw [e] at hj ⊢
      rw [(hwc (j / 2) (by omega)).2] at hj
      cases hj
      exact (hcell (j / 2) (by omega)).2
  have hvc := World.var?_cell words_g hvar j
  rw [Array.getElem?_toList] at hcs
  rw [hcs] at hvc
  simpa using hvc

theorem vs_of_laid {W : World} (h : laidMetH Tryd.prog laid4 W) : Vs W := by
  rw [MakeChecks.laidMetH_plain _ _ _ (by kernel_rfl)] at h
  have h : laidMet Tryd.prog [(nmT, Rows.laid_sacristan_tree_words), (nmC, Rows.laid_sacristan_code_words)] W := h
  exact ⟨tw_of h, cw_of (laidMet.tail h)⟩

end Go.Proofs.YtndhhmgbekcfoaaDoor
