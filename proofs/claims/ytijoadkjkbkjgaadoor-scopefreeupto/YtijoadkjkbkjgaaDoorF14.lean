import Derived.Test.YtijoadkjkbkjgaaDoorF13
namespace Go.Proofs.YtijoadkjkbkjgaaDoor
open Go.RowKit
set_option linter.unusedVariables false
set_option linter.unusedSimpArgs false
set_option maxRecDepth 100000 in
set_option maxHeartbeats 4000000 in
theorem find_5 {n : Nat} (tn : Int) (ts : ByteArray) (tns : List ByteArray) (tks : List (Tr n)) (na : Option Addr) (nl nc : Nat) (ka : Option Addr) (kl kc : Nat) (bao : Option Addr) (bcp : Nat) (fao : Option Addr) (fcp : Nat) (B F : List ByteArray) (w : World) (hsz : ts.size ≤ maxLen) (hS : StrsAt w na nl tns) (hnc : nl ≤ nc) (hK : SeqAt (NodeAt w n) w ka kl tks) (hkc : kl ≤ kc) (hkm : kc ≤ maxLen) (hBv : StrsAt w bao B.length B) (hBc : B.length ≤ bcp) (hBm : bcp ≤ maxLen) (hFv : StrsAt w fao F.length F) (hFc : F.length ≤ fcp) (hFm : fcp ≤ maxLen) (hm : B.length + (1 + tns.length + (tks.map (bz n)).sum) ≤ 5000000) (hfl : F.length + (1 + tns.length + (tks.map (bz n)).sum) ≤ 5000000) :
    Calls Tryd.prog 17 #[ndv 5 tn ts na nl nc ka kl kc, .slice bao B.length bcp, .slice fao F.length fcp] w fun e w' => ∃ v, e = .returned v ∧ StrsV w' v (addN B F ts) ∧ BW w w' := by
  have CB : Hid (∀ w', BW w w' → Calls Tryd.prog 28 #[.string ts, .slice bao B.length bcp] w' fun e w'' => e = .returned (.bool (inB B ts)) ∧ w'' = w') := fun w' hw => refIn7_any ts bao B.length bcp B w' (hBv.bw hw)
  have CF : Hid (∀ w', BW w w' → Calls Tryd.prog 28 #[.string ts, .slice fao F.length fcp] w' fun e w'' => e = .returned (.bool (inB F ts)) ∧ w'' = w') := fun w' hw => refIn7_any ts fao F.length fcp F w' (hFv.bw hw)
  have HF : Hid (StrsAt w fao F.length F) := hFv
  have HA : Hid (addN B F ts = if inB B ts = true ∨ inB F ts = true then F else F ++ [ts]) := by
    show addN B F ts = _
    unfold addN
    rw [inB_ct, inB_ct]
    by_cases h1 : ct B ts = 0
    · by_cases h2 : ct F ts = 0
      · simp [h1, h2]
      · simp [h1, h2]
    · simp [h1]
  generalize addN B F ts = R at *
  clear hS hK hBv hFv
  cases h1 : inB B ts with
  | true =>
    rw [h1] at CB
    obtain rfl : R = F := by rw [HA.out, h1]; simp
    clear HA h1
    go_enter Tryd.func17, Tryd.ntmps17
    go_wp2_with (go_at_call 28; refine (CB.out _ (by repeat (first | exact BW.refl _ | assumption | apply BW.alloc | apply BW.drewN | apply BW.drew | (refine BW.setCell ?_ (by first | omega | (simp; done) | (simp; omega)) _) | (refine BW.trans ?_ (by assumption))))).mono ?_; rintro e w1 ⟨rfl, rfl⟩)
    go_ret
    exact ⟨_, rfl, ⟨fao, fcp, rfl, HF.out.bw (by repeat (first | exact BW.refl _ | assumption | apply BW.alloc | apply BW.drewN | apply BW.drew | (refine BW.setCell ?_ (by first | omega | (simp; done) | (simp; omega)) _) | (refine BW.trans ?_ (by assumption)))), hFc, hFm⟩, (by repeat (first | exact BW.refl _ | assumption | apply BW.alloc | apply BW.drewN | apply BW.drew | (refine BW.setCell ?_ (by first | omega | (simp; done) | (simp; omega)) _) | (refine BW.trans ?_ (by assumption))))⟩
  | false =>
    rw [h1] at CB
    cases h2 : inB F ts with
    | true =>
      rw [h2] at CF
      obtain rfl : R = F := by rw [HA.out, h2]; simp
      clear HA h1 h2
      go_enter Tryd.func17, Tryd.ntmps17
      go_wp2_with (fail)
      refine (CB.out _ (BW.alloc (BW.refl w) _)).mono ?_
      rintro e w1 ⟨rfl, rfl⟩
      go_wp2_with (fail)
      refine (CF.out _ (BW.alloc (BW.refl w) _)).mono ?_
      rintro e w1 ⟨rfl, rfl⟩
      go_wp2_with (fail)
      go_ret
      exact ⟨_, rfl, ⟨fao, fcp, rfl, HF.out.bw (by repeat (first | exact BW.refl _ | assumption | apply BW.alloc | apply BW.drewN | apply BW.drew | (refine BW.setCell ?_ (by first | omega | (simp; done) | (simp; omega)) _) | (refine BW.trans ?_ (by assumption)))), hFc, hFm⟩, (by repeat (first | exact BW.refl _ | assumption | apply BW.alloc | apply BW.drewN | apply BW.drew | (refine BW.setCell ?_ (by first | omega | (simp; done) | (simp; omega)) _) | (refine BW.trans ?_ (by assumption))))⟩
    | false =>
      rw [h2] at CF
      obtain rfl : R = F ++ [ts] := by rw [HA.out, h1, h2]; simp
      clear HA h1 h2
      go_enter Tryd.func17, Tryd.ntmps17
      go_wp2_with (fail)
      refine (CB.out _ (BW.alloc (BW.refl w) _)).mono ?_
      rintro e w1 ⟨rfl, rfl⟩
      go_wp2_with (fail)
      refine (CF.out _ (BW.alloc (BW.refl w) _)).mono ?_
      rintro e w1 ⟨rfl, rfl⟩
      have hO : Hid (((bx w 5 tn ts na nl nc ka kl kc).alloc (.cells #[] 9)).ownsRow w.heap.size 9 1 (.slice (some ⟨w.heap.size + 1, 0, none⟩) 0 0) ([] : List ByteArray).length (([] : List ByteArray).map Value.string)) := by
        have h := own_empty (bx w 5 tn ts na nl nc ka kl kc)
        rw [show (bx w 5 tn ts na nl nc ka kl kc).heap.size = w.heap.size + 1 by simp] at h
        exact own_low h (by omega)
      obtain ⟨⟨c0, c1, c2, c3, c4⟩, _, _⟩ := bx_at (BW.refl (bx w 5 tn ts na nl nc ka kl kc))
      have C2 : Hid ((bx w 5 tn ts na nl nc ka kl kc).cell? ⟨w.heap.size, 2, none⟩ = some (.string ts)) := c2
      clear c0 c1 c2 c3 c4 CB CF
      have hbx : BW w ((bx w 5 tn ts na nl nc ka kl kc).alloc (.cells #[] 9)) := BW.alloc (BW.alloc (BW.refl w) _) _
      go_wp2_with (at_builtin; refine wpList_append_all rfl _ _ rfl w.heap.size _ [] F fao F.length fcp rfl rfl hO.out (HF.out.bw hbx) (by simp; omega) (by simp; omega) ?_)
      intro v1 w1 hown1 hgrow1
      have hb1 : BW w w1 := hbx.own hO.out hgrow1
      have g2 : w1.cell? ⟨w.heap.size, 2, none⟩ = some (.string ts) := by
        have hk := hgrow1.block w.heap.size (by simp; omega) (by simp [Value.ownBlock])
        exact (cell_block hk 2).trans (((BW.alloc (BW.refl (bx w 5 tn ts na nl nc ka kl kc)) _).cells w.heap.size 2 (by simp)).trans C2.out)
      have hv1 : v1 = .slice none 0 0 ∧ F.length = 0 ∨ ∃ g cap, v1 = .slice (some ⟨g, 0, none⟩) F.length cap := Go.Joins.ownsRow_forms hown1
      have HO1 : Hid (w1.ownsRow w.heap.size 9 1 v1 F.length (F.map Value.string)) := hown1
      have HB1 : Hid (BW w w1) := hb1
      have hz1 := hb1.size
      clear hown1 hgrow1 hb1 hv1 hO hbx
      go_wp2_with (at_builtin; refine wpList_append_all rfl _ _ rfl w.heap.size _ F [ts] (some ⟨w1.heap.size, 0, none⟩) 1 1 rfl rfl (HO1.out.alloc _) (strs_one w1 ts hsz) (by omega) (by simp; omega) ?_)
      intro v2 w2 hown2 hgrow2
      have hb2 : BW w w2 := BW.own (BW.alloc HB1.out _) (HO1.out.alloc _) hgrow2
      have HV2 : Hid (StrsV w2 v2 (F ++ [ts])) := own_strsV (l := F ++ [ts]) (by simpa using hown2) (fun x hx => by
        rcases List.mem_append.1 hx with h | h
        · exact HF.out.2.2.1 x h
        · simp at h; subst h; exact hsz)
      have HB2 : Hid (BW w w2) := hb2
      clear hown2 hgrow2 hb2
      go_wp2_with (fail)
      go_ret
      exact ⟨_, rfl, HV2.out, HB2.out⟩

end Go.Proofs.YtijoadkjkbkjgaaDoor
