/-
  Proved here: 'Rows.ValueOnesSaid': for every input the law ValueOnes returns true, and each argument reads behind the call as it read before. Conditions: none beside the row's own.
  (The frame follows the kit's own proof-skeleton; the walk stands in the seat's text B26.)
-/
import Derived.Test.YtbiahgjlgojhdaaRows
import Derived.Test.YtbiahgjlgojhdaaB26
import Derived.WalkKit
import Derived.ProofKit
import Derived.OpenShut
import Derived.ShutString
import Derived.ChangeOld
import Derived.Below
import Derived.Lib.SmallJoins
namespace Go.Proofs.Ytbiahgjlgojhdaa.valueOnes
open Go.ChangeShapes Go.WideShapes Go.ChangeAt Go.RowKit Go.Joins
open Go.ChangeMaps (open_string shut_string)
set_option linter.unusedVariables false

theorem own : ownKnob Try.prog.godebug = none := by kernel_rfl
theorem laidOut : laidOutB Try.prog = true := by kernel_rfl
theorem cells23 : Try.prog.cellsOf 23 = 3 := by kernel_rfl

theorem word_of (n : Int) (raw : ByteArray) (n0 : 0 ≤ n) (n1 : n ≤ 255) : ∃ wd, Word onesL 9 n raw wd := by
  obtain ⟨i, rfl⟩ := Int.eq_ofNat_of_zero_le n0
  by_cases h : i < 9
  · exact ⟨_, fun b w hr => word_in onesL b i raw (by decide) h w hr⟩
  · exact ⟨raw, fun b w hr => word_raw 9 b i raw (by decide) (by omega) (by omega) w⟩

theorem walk (n : Int) (raw : ByteArray) (ta a : Int) (sa : ByteArray) (w0 : (Lit.int .u8 n).wf = true) (w1 : raw.size ≤ maxLen)
    (w2 : (Lit.int .u8 ta).wf = true) (w3 : (Lit.int .i64 a).wf = true) (w4 : sa.size ≤ maxLen) (w : World) :
    Calls Try.prog 3 #[.int .u8 n, .string raw, V ta a sa] w fun e w' => e = .returned (.bool true) ∧ BW w w' := by
  have bn := bounds_u8 w0
  have bta := bounds_u8 w2
  have ba := bounds_i64 w3
  cases ha : mayB ta a sa with
  | false => exact ones_a n ta a raw sa bta.1 w4 ha w
  | true =>
    by_cases hl : 100 < raw.size
    · exact ones_l n ta a raw sa bta.1 w4 ha (by omega) (by unfold maxLen at w1; omega) w
    · obtain ⟨wd, hW⟩ := word_of n raw bn.1 bn.2
      obtain ⟨t, m, x, s, hS⟩ := one_all wd ta a sa ⟨ba.1, ba.2⟩ ha
      exact ones_main n ta a raw sa bta.1 w4 ha (by omega) wd hW t m x s hS w

set_option maxRecDepth 100000 in
theorem lifted (os : Os) (started : os.Started) (H : Type) (enc : TypeId × Value → H) :
    ReturnsInHanded {} Try.checked os 3 .any (Rows.valueOnesSpec.pre6 enc Try.prog Try.f3 Rows.valueOnesRow.domain false) (Rows.valueOnesSpec.post enc Try.prog Try.f3 false true false false) := by
  refine returnsInHanded_of_change (C := Try.checked) own started (by kernel_rfl) Try.func3
    (ChangeSpec.witness6 (enc := enc) (C := Try.checked) false ⟨#[], #[.int .u8 0, .string ByteArray.empty, .agg #[.int .u8 0, .int .i64 0, .string ByteArray.empty]], []⟩ 8 (by kernel_rfl) (by kernel_rfl) (by kernel_rfl) (by kernel_rfl)) ?_
  intro W base args ds gs before hval0 hW hcnd _
  have hval : ∀ (j : Nat) t v, Try.f3.params[j]? = some t → args[j]? = some v → Value.okWide Try.prog W .any base t v := hval0
  have hW' := hW
  obtain ⟨p, q, hA0, hV, rfl, hfz, hnd⟩ := hW
  have hA : DataW.TrodAll enc Try.prog W 0 (fun _ => true) true Try.f3.params.toList args.toList ds p := hA0
  rw [Try.params3] at hA hval
  obtain ⟨v0, vs0, d0, ds0, p0, q0, hargs, rfl, rfl, h0, r0⟩ := trodAll_cons hA
  obtain ⟨v1, vs1, d1, ds1, p1, q1, rfl, rfl, rfl, h1, r1⟩ := trodAll_cons r0
  obtain ⟨v2, vs2, d2, ds2, p2, q2, rfl, rfl, rfl, h2, r2⟩ := trodAll_cons r1
  obtain ⟨rfl, rfl, rfl⟩ := trodAll_nil r2
  obtain rfl : args = #[v0, v1, v2] := by cases args; simp_all
  obtain ⟨rfl, rfl⟩ := trodVars_none hV
  have k2 := h2
  have lt2 : ∀ x ∈ p2, x.block < W.heap.size := by obtain ⟨m, hm⟩ := k2; exact DataW.trod_lt m _ _ _ hm
  obtain ⟨a0, rfl, rfl, rfl, w0⟩ := open_int Try.underlying5 (hval 0 5 v0 rfl rfl) h0
  obtain ⟨a1, rfl, rfl, rfl, w1⟩ := open_string Try.underlying9 (hval 1 9 v1 rfl rfl) h1
  obtain ⟨c0, c1, c2, y0, y1, y2, m, e2, _, _, hy0, hy1, hy2⟩ := open_agg3 Try.underlying23 (by kernel_rfl) cells23 (hval 2 23 v2 rfl rfl) h2
  obtain ⟨ta, f0, _, wa0⟩ := DataW.trod_int Try.underlying5 hy0
  obtain ⟨na, f1, _, wa1⟩ := DataW.trod_int Try.underlying2 hy1
  obtain ⟨sa, f2, _, wa2⟩ := DataW.trod_string Try.underlying9 hy2
  simp at f0 f1 f2
  subst f0 f1 f2 e2
  clear hA0 hval0
  refine (walk a0 a1 ta na sa w0 w1 wa0 wa1 wa2 W).mono fun e W' ⟨he, bel⟩ => ?_
  subst he
  exact ⟨_, rfl, _, _, _, [], _, [], hW', trodAll_mk1 (shut_bool Try.underlying4 _), (trodAll_cons_mk (shut_int Try.underlying5 w0) (trodAll_cons_mk (shut_string Try.underlying9 w1) (trodAll_cons_mk (Below.trod laidOut (by kernel_rfl) (of_decide_eq_true (by kernel_rfl)) k2 bel lt2) trodAll_mk0))), rfl, Below.frame bel _, fun h => by cases h⟩

theorem over : Rows.valueOnesRow.holds Try.pinned (OpenSpec.ofChange Rows.valueOnesSpec) :=
  OpenClaim.holds_of_wide 3 Try.f3 rfl rfl rfl rfl rfl rfl rfl ⟨rfl, rfl, rfl, rfl, rfl⟩ rfl rfl rfl rfl rfl (by kernel_rfl) Try.func3 (by kernel_rfl)
    (of_decide_eq_true (by kernel_rfl)) (by unfold Func.isWrapper; first | (rw [if_pos (by decide +kernel)]; kernel_rfl) | (rw [if_neg (by decide +kernel)]; exact ⟨rfl, rfl⟩))
    (fun os started H enc _ => lifted os started H enc)

/-- The statement. -/
theorem proved : Rows.ValueOnesSaid := over
#print axioms proved
end Go.Proofs.Ytbiahgjlgojhdaa.valueOnes
