/-
  Proved here: 'Rows.PackNumbersCardSaid': for every input the law PackNumbers returns true, and each argument reads behind the call as it read before, the listed variables being as the program's text lays them. Conditions: none beside the row's own (the two variables that the card ties).
  (The frame follows the kit's worked examples; the walk stands in the seat's text U1.)
-/
import Derived.Test.YtndhhmgbekcfoaaDoorRows
import Derived.Test.YtndhhmgbekcfoaaDoorCards
import Derived.Test.YtndhhmgbekcfoaaDoorTie
import Derived.Test.YtndhhmgbekcfoaaDoorL1
import Derived.Test.YtndhhmgbekcfoaaDoorV2
import Derived.Test.YtndhhmgbekcfoaaDoorU1
import Derived.WalkKit
import Derived.ProofKit
import Derived.LaidMore
import Derived.OpenShut
import Derived.ShutString
import Derived.ChangeOld
import Derived.Below
import Derived.Lib.SmallJoins
import Derived.Stop.Joined
import Derived.SevenTiedAt
namespace Go.Proofs.YtndhhmgbekcfoaaDoor.packNumbers
open Go.ChangeShapes Go.WideShapes Go.ChangeAt Go.RowKit Go.Joins
open Go.ChangeMaps (open_string shut_string)
set_option linter.unusedVariables false
theorem walk (ao : Option Addr) (ln lc : Nat) (l : List Int) (bo : Option Addr) (mn mc : Nat) (ts : List ByteArray) {W : World} (h1 : IntsAt W ao ln l) (k1 : ln ≤ lc) (k2 : lc ≤ maxLen) (h2 : StrsAt W bo mn ts) (k3 : mn ≤ mc) (k4 : mc ≤ maxLen) (W' : World) (e : W' = W) (ht : Vs W) : Calls Tryd.prog 7 #[.slice ao ln lc, .slice bo mn mc] W fun e w => e = .returned (.bool true) ∧ BW W w := packNumbers_any ao bo ln lc mn mc l ts W h1 h2 k1 k2 k3 k4 ht
set_option maxRecDepth 100000 in
theorem lifted (os : Os) (started : os.Started) (H : Type) (enc : TypeId × Value → H) :
    ReturnsInHanded {} Tryd.checked os 7 .any (fun w args => (Rows.packNumbersSpec.pre enc Tryd.prog Tryd.f7 [] false w args ∧ laidMetH Tryd.prog laid4 w) ∧ sizedMet enc Tryd.prog Tryd.f7 (OpenSpec.ofChange Rows.packNumbersSpec) false w args)
      (Rows.packNumbersSpec.post enc Tryd.prog Tryd.f7 false true false false) := by
  refine returnsInHanded_of_change_and (C := Tryd.checked) (X := fun w _ => laidMetH Tryd.prog laid4 w) (fun _ _ _ hh h => h.of_heap hh) own started (by kernel_rfl) Tryd.func7
    (ChangeSpec.witness_shaped (enc := enc) (C := Tryd.checked) (os := os) (X := fun w _ => laidMetH Tryd.prog laid4 w) false (World.doorLaid Tryd.prog 4000 os) #[.slice none 0 0, .slice none 0 0] 8 rfl (World.shaped_of_RefB (by kernel_rfl) (by kernel_rfl)) (by kernel_rfl) (by kernel_rfl) (by kernel_rfl) (door_met os _)) ?_
  intro W base args ds gs before hval0 hW _ hZ hL _
  have hval : ∀ (j : Nat) t v, Tryd.f7.params[j]? = some t → args[j]? = some v → Value.okWide Tryd.prog W .any base t v := hval0
  have hW' := hW
  obtain ⟨p, q, hA0, hV, rfl, hfz, hnd⟩ := hW
  have hA : DataW.TrodAll enc Tryd.prog W 0 (fun _ => true) true Tryd.f7.params.toList args.toList ds p := hA0
  rw [Tryd.params7] at hA hval
  obtain ⟨v0, vs0, d0, ds0, p0, q0, hargs, rfl, rfl, h0, r0⟩ := trodAll_cons hA
  obtain ⟨v1, vs1, d1, ds1, p1, q1, rfl, rfl, rfl, h1, r1⟩ := trodAll_cons r0
  obtain ⟨rfl, rfl, rfl⟩ := trodAll_nil r1
  obtain rfl : args = #[v0, v1] := by cases args; simp_all
  obtain ⟨rfl, rfl⟩ := trodVars_none hV
  have k0 := h0
  have lt0 : ∀ x ∈ p0, x.block < W.heap.size := by obtain ⟨m, hm⟩ := k0; exact DataW.trod_lt m _ _ _ hm
  have k1 := h1
  have lt1 : ∀ x ∈ p1, x.block < W.heap.size := by obtain ⟨m, hm⟩ := k1; exact DataW.trod_lt m _ _ _ hm
  obtain ⟨ao0, ln0, cp0, zs0, e0, hI0, hl0, hm0⟩ := view22 (hval 0 22 v0 rfl rfl) h0 (fun n hn => by have := List.all_eq_true.1 hZ n (DataW.weights_mem_each (j := 0) (t := 22) rfl rfl n hn); simpa using this)
  subst e0
  obtain ⟨ao1, ln1, cp1, zs1, e1, hI1, hl1, hm1⟩ := view23 (hval 1 23 v1 rfl rfl) h1 (fun n hn => by have := List.all_eq_true.1 hZ n (DataW.weights_mem_each (j := 1) (t := 23) rfl rfl n hn); simpa using this)
  subst e1
  clear hA0 hval0
  have ht := vs_of_laid hL
  refine (walk ao0 ln0 cp0 zs0 ao1 ln1 cp1 zs1 hI0 hl0 hm0 hI1 hl1 hm1 W rfl ht).mono fun e W' ⟨he, bel⟩ => ?_
  subst he
  exact ⟨_, rfl, _, _, _, [], _, [], hW', trodAll_mk1 (shut_bool Tryd.underlying4 _), (trodAll_cons_mk (Below.trod laidOut (by kernel_rfl) (of_decide_eq_true (by kernel_rfl)) k0 bel lt0) (trodAll_cons_mk (Below.trod laidOut (by kernel_rfl) (of_decide_eq_true (by kernel_rfl)) k1 bel lt1) trodAll_mk0)), rfl, Below.frame bel _, fun h => by cases h⟩

theorem over : Rows.PackNumbersSaid :=
  OpenClaim.holds_of_wide 7 Tryd.f7 rfl rfl rfl rfl rfl rfl rfl ⟨rfl, rfl, rfl, rfl, rfl⟩ rfl rfl rfl rfl rfl (by kernel_rfl) Tryd.func7 (by kernel_rfl)
    (of_decide_eq_true (by kernel_rfl)) (by unfold Func.isWrapper; first | (rw [if_pos (by decide +kernel)]; kernel_rfl) | (rw [if_neg (by decide +kernel)]; exact ⟨rfl, rfl⟩))
    (fun os started H enc _ => lifted os started H enc)

/-- The statement. -/
theorem proved : Rows.PackNumbersCardSaid :=
  Claim7.holds_tied_plain_at .later [] [.data, .data] true (true, "ffaef7730322fb327da36eb4ff237ce923a3b85bff6a08e911b63c3ece76e0a0") true
    over (fun _ h => by cases h) (by kernel_rfl) (fun _ h => by cases h) packNumbers_row_tie rfl ⟨rfl, rfl⟩ (by kernel_rfl) rfl
    (fun f fn hf hfn => by
      obtain rfl : f = 7 := Option.some.inj ((show Tryd.prog.funcNamed Tryd.f7.name = some 7 by kernel_rfl).symm.trans hf) |>.symm
      obtain rfl : fn = Tryd.f7 := (Option.some.inj (Tryd.func7.symm.trans hfn)).symm
      exact ⟨by kernel_rfl, fun j t ht => by
        rw [Tryd.params7] at ht
        have hm : t ∈ [22, 23] := by
          have := Array.mem_of_getElem? ht
          simpa using this
        have hall : ([22, 23].all fun u => !Tryd.prog.wantsStandIn u) = true := by kernel_rfl
        exact (show Tryd.prog.wantsStandIn t = false by simpa using List.all_eq_true.1 hall t hm)⟩)
    (by kernel_rfl)
#print axioms proved
end Go.Proofs.YtndhhmgbekcfoaaDoor.packNumbers
