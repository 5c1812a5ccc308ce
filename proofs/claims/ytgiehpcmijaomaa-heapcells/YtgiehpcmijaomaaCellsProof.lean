/-
  Proved here: 'Rows.HeapCellsSaid': for every input the law HeapCells returns true, and each argument reads behind the call as it read before. Conditions: none beside the row's own.
  (The frame follows the kit's own proof-skeleton; the walk stands in the seat's text B12.)
-/
import Derived.Test.YtgiehpcmijaomaaRows
import Derived.Test.YtgiehpcmijaomaaB12
import Derived.WalkKit
import Derived.ProofKit
import Derived.OpenShut
import Derived.ShutString
import Derived.ChangeOld
import Derived.Below
import Derived.Lib.SmallJoins
namespace Go.Proofs.Ytgiehpcmijaomaa.heapCells
open Go.ChangeShapes Go.WideShapes Go.ChangeAt Go.RowKit Go.Joins
open Go.ChangeMaps (open_string shut_string)
set_option linter.unusedVariables false

theorem own : ownKnob Try.prog.godebug = none := by kernel_rfl
theorem laidOut : laidOutB Try.prog = true := by kernel_rfl
theorem cellsV : Try.prog.cellsOf 26 = 3 := by kernel_rfl
theorem walk (a b : Int) (tv nv : Int) (sv : ByteArray) (tw nw : Int) (sw : ByteArray) (w0 : (Lit.int .u8 a).wf = true) (w1 : (Lit.int .u8 b).wf = true) (x0 : (Lit.int .u8 tv).wf = true) (x1 : (Lit.int .i64 nv).wf = true) (x2 : sv.size ≤ maxLen) (y0 : (Lit.int .u8 tw).wf = true) (y1 : (Lit.int .i64 nw).wf = true) (y2 : sw.size ≤ maxLen) (w : World) :
    Calls Try.prog 5 #[.int .u8 a, .int .u8 b, V tv nv sv, V tw nw sw] w fun e w' => e = .returned (.bool true) ∧ BW w w' := by
  have ba := bounds_u8 w0
  have bb := bounds_u8 w1
  have hp : 0 < a % 100 + 1 := by omega
  have e1 : (((a % 100 + 1).toNat : Nat) : Int) = a % 100 + 1 := by omega
  have m0 := Int.emod_nonneg b (show (a % 100 + 1) ≠ 0 by omega)
  have m1 := Int.emod_lt_of_pos b hp
  exact cells_walk a b ba.1 ba.2 bb.1 bb.2 tv nv sv tw nw sw (a % 100 + 1).toNat (b % (a % 100 + 1)).toNat e1 (by omega) (by omega) (by rw [e1]; omega) (by omega) w

set_option maxRecDepth 100000 in
theorem lifted (os : Os) (started : os.Started) (H : Type) (enc : TypeId × Value → H) :
    ReturnsInHanded {} Try.checked os 5 .any (Rows.heapCellsSpec.pre6 enc Try.prog Try.f5 Rows.heapCellsRow.domain false) (Rows.heapCellsSpec.post enc Try.prog Try.f5 false true false false) := by
  refine returnsInHanded_of_change (C := Try.checked) own started (by kernel_rfl) Try.func5
    (ChangeSpec.witness6 (enc := enc) (C := Try.checked) false ⟨#[], #[.int .u8 0, .int .u8 0, .agg #[.int .u8 0, .int .i64 0, .string ByteArray.empty], .agg #[.int .u8 0, .int .i64 0, .string ByteArray.empty]], []⟩ 8 (by kernel_rfl) (by kernel_rfl) (by kernel_rfl) (by kernel_rfl)) ?_
  intro W base args ds gs before hval0 hW hcnd _
  have hval : ∀ (j : Nat) t v, Try.f5.params[j]? = some t → args[j]? = some v → Value.okWide Try.prog W .any base t v := hval0
  have hW' := hW
  obtain ⟨p, q, hA0, hV, rfl, hfz, hnd⟩ := hW
  have hA : DataW.TrodAll enc Try.prog W 0 (fun _ => true) true Try.f5.params.toList args.toList ds p := hA0
  rw [Try.params5] at hA hval
  obtain ⟨v0, vs0, d0, ds0, p0, q0, hargs, rfl, rfl, h0, r0⟩ := trodAll_cons hA
  obtain ⟨v1, vs1, d1, ds1, p1, q1, rfl, rfl, rfl, h1, r1⟩ := trodAll_cons r0
  obtain ⟨v2, vs2, d2, ds2, p2, q2, rfl, rfl, rfl, h2, r2⟩ := trodAll_cons r1
  obtain ⟨v3, vs3, d3, ds3, p3, q3, rfl, rfl, rfl, h3, r3⟩ := trodAll_cons r2
  obtain ⟨rfl, rfl, rfl⟩ := trodAll_nil r3
  obtain rfl : args = #[v0, v1, v2, v3] := by cases args; simp_all
  obtain ⟨rfl, rfl⟩ := trodVars_none hV
  have k2 := h2
  have lt2 : ∀ x ∈ p2, x.block < W.heap.size := by obtain ⟨m, hm⟩ := k2; exact DataW.trod_lt m _ _ _ hm
  have k3 := h3
  have lt3 : ∀ x ∈ p3, x.block < W.heap.size := by obtain ⟨m, hm⟩ := k3; exact DataW.trod_lt m _ _ _ hm
  obtain ⟨a0, rfl, rfl, rfl, w0⟩ := open_int Try.underlying5 (hval 0 5 v0 rfl rfl) h0
  obtain ⟨a1, rfl, rfl, rfl, w1⟩ := open_int Try.underlying5 (hval 1 5 v1 rfl rfl) h1
  obtain ⟨c20, c21, c22, y20, y21, y22, m2, e2, _, _, hy20, hy21, hy22⟩ := open_agg3 Try.underlying26 (by kernel_rfl) cellsV (hval 2 26 v2 rfl rfl) h2
  obtain ⟨ta2, f20, _, wa20⟩ := DataW.trod_int Try.underlying5 hy20
  obtain ⟨na2, f21, _, wa21⟩ := DataW.trod_int Try.underlying2 hy21
  obtain ⟨sa2, f22, _, wa22⟩ := DataW.trod_string Try.underlying9 hy22
  simp at f20 f21 f22
  subst f20 f21 f22 e2
  obtain ⟨c30, c31, c32, y30, y31, y32, m3, e3, _, _, hy30, hy31, hy32⟩ := open_agg3 Try.underlying26 (by kernel_rfl) cellsV (hval 3 26 v3 rfl rfl) h3
  obtain ⟨ta3, f30, _, wa30⟩ := DataW.trod_int Try.underlying5 hy30
  obtain ⟨na3, f31, _, wa31⟩ := DataW.trod_int Try.underlying2 hy31
  obtain ⟨sa3, f32, _, wa32⟩ := DataW.trod_string Try.underlying9 hy32
  simp at f30 f31 f32
  subst f30 f31 f32 e3
  clear hA0 hval0
  refine (walk a0 a1 ta2 na2 sa2 ta3 na3 sa3 w0 w1 wa20 wa21 wa22 wa30 wa31 wa32 W).mono fun e W' ⟨he, bel⟩ => ?_
  subst he
  exact ⟨_, rfl, _, _, _, [], _, [], hW', trodAll_mk1 (shut_bool Try.underlying4 _), (trodAll_cons_mk (shut_int Try.underlying5 w0) (trodAll_cons_mk (shut_int Try.underlying5 w1) (trodAll_cons_mk (Below.trod laidOut (by kernel_rfl) (of_decide_eq_true (by kernel_rfl)) k2 bel lt2) (trodAll_cons_mk (Below.trod laidOut (by kernel_rfl) (of_decide_eq_true (by kernel_rfl)) k3 bel lt3) trodAll_mk0)))), rfl, Below.frame bel _, fun h => by cases h⟩

theorem over : Rows.heapCellsRow.holds Try.pinned (OpenSpec.ofChange Rows.heapCellsSpec) :=
  OpenClaim.holds_of_wide 5 Try.f5 rfl rfl rfl rfl rfl rfl rfl ⟨rfl, rfl, rfl, rfl, rfl⟩ rfl rfl rfl rfl rfl (by kernel_rfl) Try.func5 (by kernel_rfl)
    (of_decide_eq_true (by kernel_rfl)) (by unfold Func.isWrapper; first | (rw [if_pos (by decide +kernel)]; kernel_rfl) | (rw [if_neg (by decide +kernel)]; exact ⟨rfl, rfl⟩))
    (fun os started H enc _ => lifted os started H enc)

/-- The statement. -/
theorem proved : Rows.HeapCellsSaid := over
#print axioms proved
end Go.Proofs.Ytgiehpcmijaomaa.heapCells
