import Derived.Test.YtijoadkjkbkjgaaDoorF14
namespace Go.Proofs.YtijoadkjkbkjgaaDoor
open Go.RowKit
set_option linter.unusedVariables false
set_option linter.unusedSimpArgs false

theorem bz_sum {n : Nat} {l : List (Tr n)} {j : Nat} {x : Tr n} (h : l[j]? = some x) : bz n x ≤ (l.map (bz n)).sum := by
  have h1 := sum_snoc (map_get (bz n) h)
  have h2 : ((l.map (bz n)).take (j + 1)).sum ≤ (l.map (bz n)).sum := by
    conv => rhs; rw [← List.take_append_drop (j + 1) (l.map (bz n)), List.sum_append]
    omega
  omega
theorem bz_take {n : Nat} {l : List (Tr n)} {j : Nat} {x : Tr n} (h : l[j]? = some x) : ((l.map (bz n)).take j).sum + bz n x ≤ (l.map (bz n)).sum := by
  have h1 := sum_snoc (map_get (bz n) h)
  have h2 : ((l.map (bz n)).take (j + 1)).sum ≤ (l.map (bz n)).sum := by
    conv => rhs; rw [← List.take_append_drop (j + 1) (l.map (bz n)), List.sum_append]
    omega
  omega
theorem fold_len (n : Nat) (l : List (Tr n)) (B F : List ByteArray) (j : Nat) : ((l.take j).foldl (fun F x => fr n x B F) F).length ≤ F.length + ((l.map (bz n)).take j).sum := by
  rw [← List.map_take]
  generalize l.take j = q
  induction q generalizing F with
  | nil => simp
  | cons a r ih =>
    rw [List.foldl_cons, List.map_cons, List.sum_cons]
    have h1 := ih (fr n a B F)
    have h2 := fr_len n a B F
    omega
theorem StrsV.form {w : World} {v : Value} {l : List ByteArray} (h : StrsV w v l) : ∃ a b c, v = .slice a b c := by
  obtain ⟨ao, cp, e, _⟩ := h
  exact ⟨_, _, _, e⟩
/-- A let's free names, part by part. -/
def st8 {n : Nat} (x0 y0 : Tr n) (B O F : List ByteArray) (j : Nat) : List ByteArray := if j = 0 then F else if j = 1 then fr n x0 B F else fr n y0 O (fr n x0 B F)
/-- A node's box. -/
def BoxH (w : World) (g : Nat) (k n : Int) (s : ByteArray) (na : Option Addr) (nl nc : Nat) (ka : Option Addr) (kl kc : Nat) : Prop := w.heap[g]? = some (.cells #[.int .u8 k, .int .i64 n, .string s, .slice na nl nc, .slice ka kl kc] 25 (0, 0))
theorem BoxH.cells {w : World} {g : Nat} {k n : Int} {s : ByteArray} {na : Option Addr} {nl nc : Nat} {ka : Option Addr} {kl kc : Nat} (h : BoxH w g k n s na nl nc ka kl kc) : w.cell? ⟨g, 0, none⟩ = some (.int .u8 k) ∧ w.cell? ⟨g, 1, none⟩ = some (.int .i64 n) ∧ w.cell? ⟨g, 2, none⟩ = some (.string s) ∧ w.cell? ⟨g, 3, none⟩ = some (.slice na nl nc) ∧ w.cell? ⟨g, 4, none⟩ = some (.slice ka kl kc) := by
  unfold BoxH at h
  exact ⟨by rw [Lib.cell_of_heap h]; rfl, by rw [Lib.cell_of_heap h]; rfl, by rw [Lib.cell_of_heap h]; rfl, by rw [Lib.cell_of_heap h]; rfl, by rw [Lib.cell_of_heap h]; rfl⟩
theorem own_ne {w : World} {base m g : Nat} {v : Value} {xs : List Value} {k n : Int} {s : ByteArray} {na : Option Addr} {nl nc : Nat} {ka : Option Addr} {kl kc : Nat} (h : w.ownsRow base 9 1 v m xs) (hc : BoxH w g k n s na nl nc ka kl kc) : v.ownBlock ≠ some g := by
  intro e
  rcases h.2 with ⟨e', _⟩ | ⟨g', cap, cur, e', hb, hg, _⟩
  · rw [e'] at e; simp [Value.ownBlock] at e
  · rw [e'] at e
    simp [Value.ownBlock] at e
    subst e
    unfold BoxH at hc
    rw [hc] at hg
    simp at hg
set_option maxRecDepth 100000 in
set_option maxHeartbeats 4000000 in
theorem find_d {n : Nat} (ih : FindS n) (tk : Int) (h5 : ¬ tk = 5) (h6 : ¬ tk = 6) (h8 : ¬ tk = 8) (tn : Int) (ts : ByteArray) (tns : List ByteArray) (tks : List (Tr n)) (na : Option Addr) (nl nc : Nat) (ka : Option Addr) (kl kc : Nat) (bao : Option Addr) (bcp : Nat) (fao : Option Addr) (fcp : Nat) (B F : List ByteArray) (w : World) (hsz : ts.size ≤ maxLen) (hS : StrsAt w na nl tns) (hnc : nl ≤ nc) (hK : SeqAt (NodeAt w n) w ka kl tks) (hkc : kl ≤ kc) (hkm : kc ≤ maxLen) (hBv : StrsAt w bao B.length B) (hBc : B.length ≤ bcp) (hBm : bcp ≤ maxLen) (hFv : StrsAt w fao F.length F) (hFc : F.length ≤ fcp) (hFm : fcp ≤ maxLen) (hm : B.length + (1 + tns.length + (tks.map (bz n)).sum) ≤ 5000000) (hfl : F.length + (1 + tns.length + (tks.map (bz n)).sum) ≤ 5000000) (hBs : ∀ x ∈ B, x.size ≤ maxLen) (hr : ∀ z ∈ tks, rt n z = true) :
    Calls Tryd.prog 17 #[ndv tk tn ts na nl nc ka kl kc, .slice bao B.length bcp, .slice fao F.length fcp] w fun e w' => ∃ v, e = .returned v ∧ StrsV w' v (tks.foldl (fun F x => fr n x (B ++ tns) F) F) ∧ BW w w' := by
  have e5 : (tk == 5) = false := by simpa using h5
  have e6 : (tk == 6) = false := by simpa using h6
  have e8 : (tk == 8) = false := by simpa using h8
  have IH : Hid (FindS n) := ih
  have HRt : Hid (∀ z ∈ tks, rt n z = true) := hr
  clear hr
  have HK : Hid (SeqAt (NodeAt w n) w ka kl tks) := hK
  have HS : Hid (StrsAt w na nl tns) := hS
  have HB : Hid (StrsAt w bao B.length B) := hBv
  have HF : Hid (StrsAt w fao F.length F) := hFv
  have hlen : tks.length = kl := hK.1
  have hnl : tns.length = nl := hS.1
  have hml : kl ≤ 9223372036854775807 := by unfold maxLen at hkm; omega
  have HOs : Hid (∀ x ∈ B ++ tns, x.size ≤ maxLen) := fun x hx => by
    simp only [List.mem_append, List.mem_singleton, List.not_mem_nil, or_false] at hx
    first
      | (rcases hx with (h | h) | h; exact hBs x h; exact hS.2.2.1 x h; exact h ▸ hsz)
      | (rcases hx with h | h; exact hBs x h; exact hS.2.2.1 x h)
  have hO : Hid (((bx w tk tn ts na nl nc ka kl kc).alloc (.cells #[] 9)).ownsRow w.heap.size 9 1 (.slice (some ⟨w.heap.size + 1, 0, none⟩) 0 0) ([] : List ByteArray).length (([] : List ByteArray).map Value.string)) := by
    have h := own_empty (bx w tk tn ts na nl nc ka kl kc)
    rw [show (bx w tk tn ts na nl nc ka kl kc).heap.size = w.heap.size + 1 by simp] at h
    exact own_low h (by omega)
  have hC : Hid (BoxH (bx w tk tn ts na nl nc ka kl kc) w.heap.size tk tn ts na nl nc ka kl kc) := heap_alloc_new _ _
  have hbx : BW w ((bx w tk tn ts na nl nc ka kl kc).alloc (.cells #[] 9)) := BW.alloc (BW.alloc (BW.refl w) _) _
  have HBX : Hid (BW w ((bx w tk tn ts na nl nc ka kl kc).alloc (.cells #[] 9))) := hbx
  clear ih hS hK hBv hFv hBs hbx
  go_enter Tryd.func17, Tryd.ntmps17
  go_wp2_with (at_builtin; refine wpList_append_all rfl _ _ rfl w.heap.size _ [] B bao B.length bcp rfl rfl hO.out (HB.out.bw HBX.out) (by simp; omega) (by simp; omega) ?_)
  intro v1 w1 hown1 hgrow1
  have HO1 : Hid (w1.ownsRow w.heap.size 9 1 v1 B.length (B.map Value.string)) := hown1
  have HB1 : Hid (BW w w1) := HBX.out.own hO.out hgrow1
  have HC1 : Hid (BoxH w1 w.heap.size tk tn ts na nl nc ka kl kc) := (hgrow1.block w.heap.size (by simp; omega) (by simp [Value.ownBlock])).trans (((BW.alloc (BW.refl (bx w tk tn ts na nl nc ka kl kc)) (.cells #[] 9)).block w.heap.size (by simp)).trans hC.out)
  have hz1 := HB1.out.size
  have hw1 : w.heap.size < w1.heap.size := by have := hgrow1.size; simp at this; omega
  have HR1 : Hid (v1.ownBlock ≠ some w.heap.size) := own_ne HO1.out HC1.out
  obtain ⟨c0, c1, c2, c3, c4⟩ := BoxH.cells HC1.out
  clear hown1 hgrow1 hO hC HBX
  go_wp2_with (at_builtin; refine wpList_append_all rfl _ _ rfl w.heap.size _ B tns na nl nc rfl rfl HO1.out (HS.out.bw HB1.out) (by omega) hz1 ?_)
  intro v2 w2 hown2 hgrow2
  have HO2 : Hid (w2.ownsRow w.heap.size 9 1 v2 (B ++ tns).length ((B ++ tns).map Value.string)) := by
    show World.ownsRow _ _ _ _ _ _ _
    rw [← hnl] at hown2
    simpa using hown2
  have HB2 : Hid (BW w w2) := HB1.out.own HO1.out hgrow2
  have HC2 : Hid (BoxH w2 w.heap.size tk tn ts na nl nc ka kl kc) := (hgrow2.block w.heap.size hw1 (fun e => HR1.out e.symm)).trans HC1.out
  have hz2 := HB2.out.size
  have hw2 : w.heap.size < w2.heap.size := Nat.lt_of_lt_of_le hw1 hgrow2.size
  have HR2 : Hid (v2.ownBlock ≠ some w.heap.size) := own_ne HO2.out HC2.out
  clear c0 c1 c2 c3 c4 HO1 HC1 HR1 hown2 hgrow2
  obtain ⟨c0, c1, c2, c3, c4⟩ := BoxH.cells HC2.out
  have HV2 : Hid (StrsV w2 v2 (B ++ tns)) := own_strsV HO2.out HOs.out
  obtain ⟨oao, ol, ocp, hve⟩ := HV2.out.form
  subst hve
  clear HO2 HR2
  have HEND : Hid ((tks.take kl).foldl (fun F x => fr n x (B ++ tns) F) F = tks.foldl (fun F x => fr n x (B ++ tns) F) F) := by
    show _ = _
    rw [List.take_of_length_le (by omega)]
  go_wp2_with (fail)
  go_loopw [2, 55] (fun fv i wr => ∃ (j : Nat), j ≤ kl ∧ i = .int .i64 j ∧ Hid (StrsV wr fv ((tks.take j).foldl (fun F x => fr n x (B ++ tns) F) F)) ∧ BW w2 wr) (fun _ i _ => kl - (intOf i).toNat)
  case atStart => exact ⟨0, Nat.zero_le _, rfl, by show StrsV _ _ _; exact ⟨fao, fcp, rfl, HF.out.bw (BW.trans HB2.out (BW.refl _)), hFc, hFm⟩, BW.refl _⟩
  case round =>
    obtain ⟨j, hj, rfl, HFj, hb⟩ := hrel
    have hzr := hb.size
    have HBr : Hid (BW w wr) := BW.trans HB2.out hb
    have HVr : Hid (StrsV wr (.slice oao ol ocp) (B ++ tns)) := HV2.out.bw hb
    obtain ⟨fjo, fl, fjc, hfe⟩ := HFj.out.form
    subst hfe
    obtain ⟨r0, r1, r2, r3, r4⟩ := BoxH.cells ((hb.block w.heap.size (by omega)).trans HC2.out)
    by_cases hlt2 : j < kl
    · obtain ⟨b, off, x, rfl, hbl, hx, r, hcr, ha⟩ := SeqAt.get HK.out hlt2
      obtain ⟨rk, rn, rs, rna, rnl, rnc, rka, rkl, rkc⟩ := r
      obtain ⟨d0, d1, d2, d3, d4⟩ := hcr.out HBr.out hbl
      simp only at d0 d1 d2 d3 d4
      have hbw : b < wr.heap.size := by have := HBr.out.size; omega
      have HX : Hid (tks[j]? = some x) := hx
      have HA : Hid (NodeAt wr n (ndv rk rn rs rna rnl rnc rka rkl rkc) x) := ha.bw HBr.out
      have HST : Hid ((tks.take (j + 1)).foldl (fun F x => fr n x (B ++ tns) F) F = fr n x (B ++ tns) ((tks.take j).foldl (fun F x => fr n x (B ++ tns) F) F)) := by
        show _ = _
        rw [List.take_add_one, hx, Option.toList_some, List.foldl_append]; rfl
      have CN : Hid (Calls Tryd.prog 17 #[ndv rk rn rs rna rnl rnc rka rkl rkc, .slice oao ol ocp, .slice fjo fl fjc] wr fun e w'' => ∃ v, e = .returned v ∧ StrsV w'' v (fr n x (B ++ tns) ((tks.take j).foldl (fun F x => fr n x (B ++ tns) F) F)) ∧ BW wr w'') := IH.out _ _ _ x _ _ wr HA.out (HRt.out x (List.mem_of_getElem? hx)) HVr.out HFj.out HOs.out (by have := bz_sum hx; simp only [List.length_append, List.length_cons, List.length_nil]; omega) (by have h1 := fold_len n tks (B ++ tns) F j; have h2 := bz_take hx; omega)
      clear ha hcr hx
      go_wp2_with (fail)
      refine CN.out.mono ?_
      rintro e w4 ⟨v4, rfl, hv4, b4⟩
      obtain ⟨f4o, f4l, f4c, hfe⟩ := hv4.form
      subst hfe
      have HV4 : Hid (StrsV w4 (.slice f4o f4l f4c) ((tks.take (j + 1)).foldl (fun F x => fr n x (B ++ tns) F) F)) := by
        show StrsV _ _ _
        rw [HST.out]
        exact hv4
      have HB4 : Hid (BW w2 w4) := BW.trans hb b4
      clear hv4 b4 CN d0 d1 d2 d3 d4 r0 r1 r2 r3 r4
      go_wp2_with (fail)
      go_roundw
      case rel => exact ⟨j + 1, by omega, by go_num, HV4, HB4.out⟩
      case measure => simp [intOf]; omega
    · obtain rfl : kl = j := by omega
      have HV4 : Hid (StrsV wr (.slice fjo fl fjc) (tks.foldl (fun F x => fr n x (B ++ tns) F) F)) := by
        show StrsV _ _ _
        rw [← HEND.out]
        exact HFj.out
      go_wp2_with (fail)
      go_ret
      exact ⟨_, rfl, HV4.out, HBr.out⟩

end Go.Proofs.YtijoadkjkbkjgaaDoor
