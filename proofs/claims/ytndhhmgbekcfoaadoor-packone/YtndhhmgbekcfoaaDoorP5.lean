import Derived.Test.YtndhhmgbekcfoaaDoorP4
import Derived.Test.YtndhhmgbekcfoaaDoorE1
namespace Go.Proofs.YtndhhmgbekcfoaaDoor
open Go.RowKit
set_option linter.unusedVariables false
set_option linter.unusedSimpArgs false

set_option maxRecDepth 100000 in
set_option maxHeartbeats 4000000 in
theorem putPros_c (W0 : World) (ao : Option Addr) (ln lc : Nat) (xs : List Pro) (enc : Pro → List Nat) (hA : ProsAt W0 ao ln xs) (hn : ln ≤ 9223372036854775807)
    (hf : ∀ (y : Pro) (ca : Option Addr) (cl cc : Nat), y ∈ xs → PrV W0 y ca cl cc → PutC 46 (fun v => #[v, prv y.p y.s y.u ca cl cc]) (enc y) W0) : PutC 45 (fun v => #[v, .slice ao ln lc, .func (.func 46) #[] #[]]) (nb ln ++ xs.flatMap enc) W0 := by
  intro w v l hB hl
  have HA : Hid (ProsAt W0 ao ln xs) := hA
  have HF : Hid _ := hf
  have HLn : Hid (xs.length = ln) := hA.1
  have HC : Hid (PutC 67 (fun v => #[v, .int .i64 (ln : Int)]) (nb ln) W0) := by
    have := putSize_c W0 (ln : Int) (by unfold I64; omega)
    rw [show szn (ln : Int) = ln by unfold szn; omega] at this
    exact this
  have HB : Hid (Bf W0 w v l) := hB
  have HL : Hid (l.length + (nb ln ++ xs.flatMap enc).length ≤ 1099511627776) := hl
  have HL1 : Hid (l.length + (nb ln).length ≤ 1099511627776) := by show _ ≤ _; simp at hl; omega
  clear hA hf hB hl
  go_enter Tryd.func45, Tryd.ntmps45
  go_wp2_with (first | (go_at_call 67; go_loud (refine (HC.out _ _ _ HB.out HL1.out).mono ?_; rintro e w1 ⟨v1, rfl, b1, g1⟩; have B1 : Hid _ := b1; have G1 : Hid _ := g1; clear b1 g1)))
  go_loopw [0, 15] (fun b i w' => ∃ k : Nat, k ≤ ln ∧ i = .int .i64 k ∧ Hid (Bf W0 w' b (l ++ nb ln ++ (xs.take k).flatMap enc)) ∧ Hid (Gd w w' v b)) (fun b i _ => ln - (intOf i).toNat)
  case atStart => exact ⟨0, Nat.zero_le _, rfl, by (show Bf _ _ _ _); rw [List.take_zero, List.flatMap_nil, List.append_nil]; exact B1.out, G1⟩
  case round =>
    obtain ⟨k, hk, rfl, HW, HG⟩ := hrel
    by_cases hlt : k < ln
    · have hb : BW W0 wr := HW.out.1
      obtain ⟨b, off, y, rfl, hbl, hx, ca, cl, cc, hK, hV⟩ := RowAt.get HA.out hlt
      obtain ⟨d0, d1, d2, d3⟩ := hK.bw hb hbl
      have hbw : b < wr.heap.size := by have := hb.size; omega
      have e1 : (xs.take (k + 1)).flatMap enc = (xs.take k).flatMap enc ++ enc y := by rw [List.take_add_one, hx]; simp
      have HR : Hid ((l ++ nb ln ++ (xs.take k).flatMap enc).length + (enc y).length ≤ 1099511627776) := by
        have h1 := HL.out
        have h2 : xs.flatMap enc = (xs.take (k + 1)).flatMap enc ++ (xs.drop (k + 1)).flatMap enc := by rw [← List.flatMap_append, List.take_append_drop]
        rw [h2, e1] at h1
        show _ ≤ _
        simp only [List.length_append] at h1 ⊢
        omega
      have E1 : Hid (l ++ nb ln ++ (xs.take (k + 1)).flatMap enc = (l ++ nb ln ++ (xs.take k).flatMap enc) ++ enc y) := by show _ = _; rw [e1]; simp
      have HE : Hid (PutC 46 (fun v => #[v, prv y.p y.s y.u ca cl cc]) (enc y) W0) := HF.out y ca cl cc (List.mem_of_getElem? hx) hV
      clear hx e1 hb
      go_wp2_with (first | (go_at_call 46; go_loud (refine (HE.out _ _ _ (by first | exact HW.out | exact HW.out.alloc _) HR.out).mono ?_; rintro e w2 ⟨v2, rfl, b2, g2⟩; have B2 : Hid _ := b2; have G2 : Hid (Gd w w2 v v2) := (by first | exact Gd.trans HG.out g2 | exact Gd.trans (HG.out.alloc _) g2); clear b2 g2)))
      go_roundw
      case rel => exact ⟨k + 1, by omega, by go_num, by rw [Hid, E1.out]; exact B2.out, G2⟩
      case measure => simp [intOf]; omega
    · have HE : Hid (Bf W0 wr u0 (l ++ (nb ln ++ xs.flatMap enc))) := by
        have h1 := HW.out
        rw [List.take_of_length_le (by have := HLn.out; omega), List.append_assoc] at h1
        exact h1
      obtain rfl : k = ln := by omega
      go_wp2_with (fail)
      go_ret
      exact ⟨_, rfl, HE.out, HG.out⟩
set_option maxRecDepth 100000 in
set_option maxHeartbeats 4000000 in
theorem putTabs_c (W0 : World) (ao : Option Addr) (ln lc : Nat) (xs : List Tbl) (enc : Tbl → List Nat) (hA : TbsAt W0 ao ln xs) (hn : ln ≤ 9223372036854775807)
    (hf : ∀ (y : Tbl) (oa : Option Addr) (ol oc : Nat), y ∈ xs → TbV W0 y oa ol oc → PutC 48 (fun v => #[v, tbv oa ol oc y.ret y.fin]) (enc y) W0) : PutC 47 (fun v => #[v, .slice ao ln lc, .func (.func 48) #[] #[]]) (nb ln ++ xs.flatMap enc) W0 := by
  intro w v l hB hl
  have HA : Hid (TbsAt W0 ao ln xs) := hA
  have HF : Hid _ := hf
  have HLn : Hid (xs.length = ln) := hA.1
  have HC : Hid (PutC 67 (fun v => #[v, .int .i64 (ln : Int)]) (nb ln) W0) := by
    have := putSize_c W0 (ln : Int) (by unfold I64; omega)
    rw [show szn (ln : Int) = ln by unfold szn; omega] at this
    exact this
  have HB : Hid (Bf W0 w v l) := hB
  have HL : Hid (l.length + (nb ln ++ xs.flatMap enc).length ≤ 1099511627776) := hl
  have HL1 : Hid (l.length + (nb ln).length ≤ 1099511627776) := by show _ ≤ _; simp at hl; omega
  clear hA hf hB hl
  go_enter Tryd.func47, Tryd.ntmps47
  go_wp2_with (first | (go_at_call 67; go_loud (refine (HC.out _ _ _ HB.out HL1.out).mono ?_; rintro e w1 ⟨v1, rfl, b1, g1⟩; have B1 : Hid _ := b1; have G1 : Hid _ := g1; clear b1 g1)))
  go_loopw [0, 15] (fun b i w' => ∃ k : Nat, k ≤ ln ∧ i = .int .i64 k ∧ Hid (Bf W0 w' b (l ++ nb ln ++ (xs.take k).flatMap enc)) ∧ Hid (Gd w w' v b)) (fun b i _ => ln - (intOf i).toNat)
  case atStart => exact ⟨0, Nat.zero_le _, rfl, by (show Bf _ _ _ _); rw [List.take_zero, List.flatMap_nil, List.append_nil]; exact B1.out, G1⟩
  case round =>
    obtain ⟨k, hk, rfl, HW, HG⟩ := hrel
    by_cases hlt : k < ln
    · have hb : BW W0 wr := HW.out.1
      obtain ⟨b, off, y, rfl, hbl, hx, oa, ol, oc, hK, hT⟩ := RowAt.get HA.out hlt
      obtain ⟨d0, d1, d2⟩ := hK.bw hb hbl
      have hbw : b < wr.heap.size := by have := hb.size; omega
      have e1 : (xs.take (k + 1)).flatMap enc = (xs.take k).flatMap enc ++ enc y := by rw [List.take_add_one, hx]; simp
      have HR : Hid ((l ++ nb ln ++ (xs.take k).flatMap enc).length + (enc y).length ≤ 1099511627776) := by
        have h1 := HL.out
        have h2 : xs.flatMap enc = (xs.take (k + 1)).flatMap enc ++ (xs.drop (k + 1)).flatMap enc := by rw [← List.flatMap_append, List.take_append_drop]
        rw [h2, e1] at h1
        show _ ≤ _
        simp only [List.length_append] at h1 ⊢
        omega
      have E1 : Hid (l ++ nb ln ++ (xs.take (k + 1)).flatMap enc = (l ++ nb ln ++ (xs.take k).flatMap enc) ++ enc y) := by show _ = _; rw [e1]; simp
      have HE : Hid (PutC 48 (fun v => #[v, tbv oa ol oc y.ret y.fin]) (enc y) W0) := HF.out y oa ol oc (List.mem_of_getElem? hx) hT
      clear hx e1 hb
      go_wp2_with (first | (go_at_call 48; go_loud (refine (HE.out _ _ _ (by first | exact HW.out | exact HW.out.alloc _) HR.out).mono ?_; rintro e w2 ⟨v2, rfl, b2, g2⟩; have B2 : Hid _ := b2; have G2 : Hid (Gd w w2 v v2) := (by first | exact Gd.trans HG.out g2 | exact Gd.trans (HG.out.alloc _) g2); clear b2 g2)))
      go_roundw
      case rel => exact ⟨k + 1, by omega, by go_num, by rw [Hid, E1.out]; exact B2.out, G2⟩
      case measure => simp [intOf]; omega
    · have HE : Hid (Bf W0 wr u0 (l ++ (nb ln ++ xs.flatMap enc))) := by
        have h1 := HW.out
        rw [List.take_of_length_le (by have := HLn.out; omega), List.append_assoc] at h1
        exact h1
      obtain rfl : k = ln := by omega
      go_wp2_with (fail)
      go_ret
      exact ⟨_, rfl, HE.out, HG.out⟩
/-- A module's bytes. -/
def enInts (l : List Int) : List Nat := nb l.length ++ l.flatMap (fun n => nb (zz n))
def enTexts (l : List ByteArray) : List Nat := nb l.length ++ l.flatMap (fun s => nb s.size ++ sb s)
def enPros (l : List Pro) : List Nat := nb l.length ++ l.flatMap enP
def enTabs (l : List Tbl) : List Nat := nb l.length ++ l.flatMap enT
def en (m : Mdl) : List Nat := [69, 70, 70, 49] ++ enInts m.ints ++ enTexts m.texts ++ enPros m.pros ++ enTabs m.tabs
theorem fm_len {K : Type} {l : List K} {e : K → List Nat} {x : K} (h : x ∈ l) : (e x).length ≤ (l.flatMap e).length := by
  induction l with
  | nil => cases h
  | cons a r ih =>
    simp only [List.flatMap_cons, List.length_append]
    rcases List.mem_cons.1 h with rfl | h
    · omega
    · have := ih h; omega
set_option maxRecDepth 100000 in
set_option maxHeartbeats 4000000 in
theorem putModule_c (W0 : World) (r : Mw) (m : Mdl) (h : ModAt W0 r m) : PutC 17 (fun v => #[v, r.v]) (en m) W0 := by
  intro w v l hB hl
  obtain ⟨l1, l2, l3, l4, b1, b2, b3, b4⟩ := h.lens
  have HL : Hid (l.length + (en m).length ≤ 1099511627776) := hl
  have H1 : Hid (PutC 41 (fun v => #[v, .slice r.ia r.il r.ic, .func (.func 42) #[] #[]]) (enInts m.ints) W0) := by
    show PutC _ _ _ _; rw [enInts, l1]; exact putInts_c W0 _ _ _ _ _ h.ints b1 (fun y _ hy => putSigned_c W0 y hy)
  have H2 : Hid (PutC 43 (fun v => #[v, .slice r.ta r.tl r.tc, .func (.func 44) #[] #[]]) (enTexts m.texts) W0) := by
    show PutC _ _ _ _; rw [enTexts, l2]; exact putTexts_c W0 _ _ _ _ _ h.texts b2 (fun y hm hy => putText_c W0 y (by
      have h1 := fm_len (e := fun s => nb s.size ++ sb s) hm
      simp only [en, enTexts, List.length_append, sb_len] at hl h1
      omega))
  have H3 : Hid (PutC 45 (fun v => #[v, .slice r.pa r.pl r.pc, .func (.func 46) #[] #[]]) (enPros m.pros) W0) := by
    show PutC _ _ _ _; rw [enPros, l3]; exact putPros_c W0 _ _ _ _ _ h.pros b3 (fun y ca cl cc _ hy => putProto_c W0 y ca cl cc hy)
  have H4 : Hid (PutC 47 (fun v => #[v, .slice r.ha r.hl r.hc, .func (.func 48) #[] #[]]) (enTabs m.tabs) W0) := by
    show PutC _ _ _ _; rw [enTabs, l4]; exact putTabs_c W0 _ _ _ _ _ h.tabs b4 (fun y oa ol oc _ hy => putTable_c W0 y oa ol oc hy)
  have HB : Hid (Bf W0 w v l) := hB
  have HE : Hid (l ++ en m = l ++ [69, 70, 70, 49] ++ enInts m.ints ++ enTexts m.texts ++ enPros m.pros ++ enTabs m.tabs) := by show _ = _; simp [en]
  have L0 : Hid (l.length + 4 ≤ 70368744177664) := by show _ ≤ _; simp only [en, List.length_append, List.length_cons, List.length_nil] at hl; omega
  have L1 : Hid ((l ++ [69, 70, 70, 49]).length + (enInts m.ints).length ≤ 1099511627776) := by show _ ≤ _; simp only [en, List.length_append] at hl ⊢; omega
  have L2 : Hid ((l ++ [69, 70, 70, 49] ++ enInts m.ints).length + (enTexts m.texts).length ≤ 1099511627776) := by show _ ≤ _; simp only [en, List.length_append] at hl ⊢; omega
  have L3 : Hid ((l ++ [69, 70, 70, 49] ++ enInts m.ints ++ enTexts m.texts).length + (enPros m.pros).length ≤ 1099511627776) := by show _ ≤ _; simp only [en, List.length_append] at hl ⊢; omega
  have L4 : Hid ((l ++ [69, 70, 70, 49] ++ enInts m.ints ++ enTexts m.texts ++ enPros m.pros).length + (enTabs m.tabs).length ≤ 1099511627776) := by show _ ≤ _; simp only [en, List.length_append] at hl ⊢; omega
  clear h hB hl l1 l2 l3 l4 b1 b2 b3 b4
  obtain ⟨ia, il, ic, ta, tl, tc, pa, pl, pc, ha, hl, hc⟩ := r
  dsimp only at H1 H2 H3 H4
  go_enter Tryd.func17, Tryd.ntmps17
  go_wp2_with (first
    | (at_builtin; go_loud (refine wpList_apps rfl (.tmp 5) (.const (.string ⟨#[69, 70, 70, 49]⟩)) rfl W0 _ _ ⟨#[69, 70, 70, 49]⟩ rfl rfl (HB.out.alloc _) L0.out ?_; intro v0 w0 o0 g0; have B0 : Hid (Bf W0 w0 v0 (l ++ [69, 70, 70, 49])) := o0; have G0 : Hid (Gd w w0 v v0) := Gd.trans (Gd.alloc (Gd.refl _ _) _) g0; obtain ⟨f0, z0, n0⟩ := Gd.at g0 (B := w.heap.size) (by simp) HB.out.lt; have q00 := (f0 0).trans (cell_new w _ _ 0); have q01 := (f0 1).trans (cell_new w _ _ 1); have q02 := (f0 2).trans (cell_new w _ _ 2); have q03 := (f0 3).trans (cell_new w _ _ 3); clear o0 g0 f0))
    | (go_at_call 41; go_loud (refine (H1.out _ _ _ B0.out L1.out).mono ?_; rintro e w1 ⟨v1, rfl, b1, g1⟩; have B1 : Hid _ := b1; have G1 : Hid (Gd w w1 v v1) := Gd.trans G0.out g1; obtain ⟨c1, z1, n1⟩ := Gd.at g1 z0 n0; have q11 := (c1 1).trans q01; have q12 := (c1 2).trans q02; have q13 := (c1 3).trans q03; clear b1 g1 c1))
    | (go_at_call 43; go_loud (refine (H2.out _ _ _ B1.out L2.out).mono ?_; rintro e w2 ⟨v2, rfl, b2, g2⟩; have B2 : Hid _ := b2; have G2 : Hid (Gd w w2 v v2) := Gd.trans G1.out g2; obtain ⟨c2, z2, n2⟩ := Gd.at g2 z1 n1; have q21 := (c2 1).trans q11; have q22 := (c2 2).trans q12; have q23 := (c2 3).trans q13; clear b2 g2 c2))
    | (go_at_call 45; go_loud (refine (H3.out _ _ _ B2.out L3.out).mono ?_; rintro e w3 ⟨v3, rfl, b3, g3⟩; have B3 : Hid _ := b3; have G3 : Hid (Gd w w3 v v3) := Gd.trans G2.out g3; obtain ⟨c3, z3, n3⟩ := Gd.at g3 z2 n2; have q31 := (c3 1).trans q21; have q32 := (c3 2).trans q22; have q33 := (c3 3).trans q23; clear b3 g3 c3))
    | (go_at_call 47; go_loud (refine (H4.out _ _ _ B3.out L4.out).mono ?_; rintro e w4 ⟨v4, rfl, b4, g4⟩; have B4 : Hid _ := b4; have G4 : Hid (Gd w w4 v v4) := Gd.trans G3.out g4; obtain ⟨c4, z4, n4⟩ := Gd.at g4 z3 n3; have q41 := (c4 1).trans q31; have q42 := (c4 2).trans q32; have q43 := (c4 3).trans q33; clear b4 g4 c4)))
  go_ret
  exact ⟨_, rfl, by rw [HE.out]; exact B4.out, G4.out⟩

end Go.Proofs.YtndhhmgbekcfoaaDoor
