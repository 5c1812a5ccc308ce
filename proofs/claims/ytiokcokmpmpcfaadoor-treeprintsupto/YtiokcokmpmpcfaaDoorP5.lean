import Derived.Test.YtiokcokmpmpcfaaDoorP2
namespace Go.Proofs.YtiokcokmpmpcfaaDoor
open Go.RowKit
set_option linter.unusedVariables false
set_option linter.unusedSimpArgs false

set_option maxRecDepth 100000 in
set_option maxHeartbeats 2000000 in
theorem refPrint_d {n : Nat} (k : Nat) (tn : Int) (ts : ByteArray) (na : Option Addr) (nl nc : Nat) (ka : Option Addr) (kl kc : Nat) (ns : List ByteArray) (ks : List (Tr n)) (w : World) (R : ByteArray)
    (a1 : nl ≤ nc) (a2 : nc ≤ maxLen) (a3 : kl ≤ kc) (a4 : kl ≤ 2000000) (a5 : nl ≤ 2000000) (s1 : StrsAt w na nl ns) (S2 : Hid (SeqAt (NodeAt w n) w ka kl ks)) (hts : ts.size ≤ 100000000) (hjl : (bj ns).length ≤ 1000000000)
    (IH : Hid (∀ v x w', NodeAt w' n v x → x ∈ ks → Calls Tryd.prog 15 #[v] w' fun e w'' => e = .returned (.string (txB n x)) ∧ BW w' w'')) (HSX : Hid (∀ x ∈ ks, (txB n x).size ≤ maxLen)) (h6 : 6 ≤ k) (h19 : k ≤ 19) (h11 : ¬ k = 11) (hn6 : ¬ k = 6) (he : ¬ ts = ⟨#[]⟩)
    (HSM : Hid (∀ s ∈ ([hdB k, ts] ++ ns) ++ ks.map (txB n), s.size ≤ maxLen)) (HJL : Hid ((bj (([hdB k, ts] ++ ns) ++ ks.map (txB n))).length ≤ 140000000000000)) (HFIN : Hid (⟨#[40]⟩ ++ bjB (([hdB k, ts] ++ ns) ++ ks.map (txB n)) ++ ⟨#[41]⟩ = R)) :
    Calls Tryd.prog 15 #[ndv (k : Int) tn ts na nl nc ka kl kc] w fun e w' => e = .returned (.string R) ∧ BW w w' := by
  have HKL : Hid (ks.length = kl) := S2.out.1
  have HST : Hid (StrsAt w na nl ns) := s1
  have HNL : Hid (ns.length = nl) := s1.1
  have HLN : Hid (([hdB k, ts] ++ ns).length ≤ 2000010) := by show _ ≤ _; have := HNL.out; first | (simp; done) | (simp; omega)
  obtain ⟨ed, ed2⟩ := bytes_ne (hd_ne k h6 h19 h11)
  have hdz : (hdB k).size ≤ 7 := hd_size k
  have k19 : (k : Int) < 20 := by omega
  have e1 : ((k : Int) == 1) = false := by simp; omega
  have e2 : ((k : Int) == 2) = false := by simp; omega
  have e3 : ((k : Int) == 3) = false := by simp; omega
  have e4 : ((k : Int) == 4) = false := by simp; omega
  have e5 : ((k : Int) == 5) = false := by simp; omega
  have e6 : ((k : Int) == 6) = false := by simp; omega
  obtain ⟨et, et2⟩ := bytes_ne he
  clear s1
  go_enter Tryd.func15, Tryd.ntmps15
  go_upto_region 2 with fail
  obtain ⟨W1, hW1⟩ : ∃ W1, W1 = (bx w (k : Int) tn ts na nl nc ka kl kc).alloc (.cells #[.string ⟨#[]⟩, .string ⟨#[]⟩, .string ⟨#[]⟩, .string ⟨#[]⟩, .string ⟨#[]⟩, .string ⟨#[]⟩, .string ⟨#[102, 117, 110]⟩, .string ⟨#[99, 97, 108, 108]⟩, .string ⟨#[108, 101, 116]⟩, .string ⟨#[105, 102]⟩, .string ⟨#[100, 111]⟩, .string ⟨#[]⟩, .string ⟨#[112, 101, 114, 102, 111, 114, 109]⟩, .string ⟨#[104, 97, 110, 100, 108, 101]⟩, .string ⟨#[114, 101, 115, 117, 109, 101]⟩, .string ⟨#[100, 114, 111, 112]⟩, .string ⟨#[119, 105, 110, 100]⟩, .string ⟨#[114, 101, 116, 117, 114, 110]⟩, .string ⟨#[111, 110]⟩, .string ⟨#[102, 105, 110, 97, 108, 108, 121]⟩] 9) := ⟨_, rfl⟩
  have HB1 : Hid (BW (bx w (k : Int) tn ts na nl nc ka kl kc) W1) := by show BW _ W1; rw [hW1]; exact BW.alloc (BW.refl _) _
  have hh : W1.cell? ⟨w.heap.size + 1, k, none⟩ = some (.string (hdB k)) := by rw [hW1]; rw [show w.heap.size + 1 = (bx w (k : Int) tn ts na nl nc ka kl kc).heap.size by simp, cell_new]; exact heads_cell k h6 h19 h11
  have hz1 : W1.heap.size = w.heap.size + 1 + 1 := by rw [hW1]; simp
  obtain ⟨⟨g0, g1, g2, g3, g4⟩, _, hb1⟩ := bx_at HB1.out
  rw [← hW1]
  clear hW1
  have H0 := World.ownsRow_lit (base := w.heap.size + 1) (e := 9) (size := 1) W1 #[] 0 (by omega) (by unfold maxLen; omega) rfl
  go_upto_region 16 with fail
  obtain ⟨W0, hW0⟩ : ∃ W0, W0 = W1.alloc (.cells #[] 9) := ⟨_, rfl⟩
  obtain ⟨v0, hv0⟩ : ∃ v0, v0 = Value.slice (some ⟨w.heap.size + 1 + 1, 0, none⟩) 0 0 := ⟨_, rfl⟩
  have h0 : W0.ownsRow (w.heap.size + 1) 9 1 v0 ([] : List ByteArray).length (([] : List ByteArray).map Value.string) := by rw [hW0, hv0, ← hz1]; exact H0
  have B0 : Hid (BW (bx w (k : Int) tn ts na nl nc ka kl kc) W0) := by show BW _ W0; rw [hW0]; exact BW.alloc HB1.out _
  have hh0 : W0.cell? ⟨w.heap.size + 1, k, none⟩ = some (.string (hdB k)) := by rw [hW0]; exact (BW.cells (BW.alloc (BW.refl W1) _) (w.heap.size + 1) _ (by omega)).trans hh
  clear g0 g1 g2 g3 g4
  obtain ⟨⟨g0, g1, g2, g3, g4⟩, _, hb0⟩ := bx_at B0.out
  have hz0 : w.heap.size + 1 + 1 < W0.heap.size := by rw [hW0]; simp [hz1]
  rw [← hW0, ← hv0]
  clear H0 hW0 hv0 hh HB1 hz1
  go_wp2_with (at_builtin; refine wpList_append_strs rfl _ _ rfl (w.heap.size + 1) _ [] [hdB k] (some ⟨W0.heap.size, 0, none⟩) 1 1 rfl rfl (h0.alloc _) (strs_one W0 (hdB k) (by unfold maxLen; omega)) (by have := HNL.out; first | (simp; done) | (simp; omega)) (by first | omega | (simp; omega)) ?_)
  intro v1 u1 h1 gr1
  try simp only [List.nil_append, List.cons_append, List.append_nil] at h1
  have B1 : Hid (BW (bx w (k : Int) tn ts na nl nc ka kl kc) u1) := Below.grown (BW.alloc B0.out _) gr1 (by first | (simp; omega) | omega) (fun q hq => by have := own_ge h0 q hq; first | (simp; omega) | omega)
  have zz1 := B1.out.size
  simp at zz1
  clear gr1 g0 g1 g2 g3 g4
  obtain ⟨⟨g0, g1, g2, g3, g4⟩, _, hb1⟩ := bx_at B1.out
  go_wp2_with (at_builtin; refine wpList_append_strs rfl _ _ rfl (w.heap.size + 1) _ [hdB k] [ts] (some ⟨u1.heap.size, 0, none⟩) 1 1 rfl rfl (h1.alloc _) (strs_one u1 ts (by unfold maxLen; omega)) (by have := HNL.out; first | (simp; done) | (simp; omega)) (by first | omega | (simp; omega)) ?_)
  intro v2 u2 h2 gr2
  try simp only [List.nil_append, List.cons_append, List.append_nil] at h2
  have B2 : Hid (BW (bx w (k : Int) tn ts na nl nc ka kl kc) u2) := Below.grown (BW.alloc B1.out _) gr2 (by first | (simp; omega) | omega) (fun q hq => by have := own_ge h1 q hq; first | (simp; omega) | omega)
  have zz2 := B2.out.size
  simp at zz2
  clear gr2 g0 g1 g2 g3 g4
  obtain ⟨⟨g0, g1, g2, g3, g4⟩, _, hb2⟩ := bx_at B2.out
  go_wp2_with (at_builtin; refine wpList_append_strs rfl _ _ rfl (w.heap.size + 1) _ [hdB k, ts] ns na nl nc rfl rfl (h2) (HST.out.bw hb2) (by have := HNL.out; first | (simp; done) | (simp; omega)) (by first | omega | (simp; omega)) ?_)
  intro v3 u3 h3 gr3
  skip
  have B3 : Hid (BW (bx w (k : Int) tn ts na nl nc ka kl kc) u3) := Below.grown (B2.out) gr3 (by first | (simp; omega) | omega) (fun q hq => by have := own_ge h2 q hq; first | (simp; omega) | omega)
  have zz3 := B3.out.size
  simp at zz3
  clear gr3 g0 g1 g2 g3 g4
  obtain ⟨⟨g0, g1, g2, g3, g4⟩, _, hb3⟩ := bx_at B3.out
  go_wp2_with (fail)
  go_loopw [4, 71] (fun o i w' => ∃ j : Nat, j ≤ kl ∧ i = .int .i64 j ∧ w'.ownsRow (w.heap.size + 1) 9 1 o (([hdB k, ts] ++ ns) ++ (ks.take j).map (txB n)).length ((([hdB k, ts] ++ ns) ++ (ks.take j).map (txB n)).map Value.string) ∧ BW (bx w (k : Int) tn ts na nl nc ka kl kc) w') (fun _ i _ => kl - (intOf i).toNat)
  case atStart => exact ⟨0, Nat.zero_le _, rfl, by simpa using h3, B3.out⟩
  case round =>
    clear h1 h2 h3 zz1 zz2 zz3 B1 B2 B3 g0 g1 g2 g3 g4 hb1 hb2 hb3
    obtain ⟨j, hj, rfl, hown, hb1⟩ := hrel
    obtain ⟨⟨g0, g1, g2, g3, g4⟩, hz1, hb⟩ := bx_at hb1
    by_cases hlt : j < kl
    · obtain ⟨bk, off, x, rfl, hbl, hx, r, hr, hax⟩ := SeqAt.get S2.out hlt
      have HX : Hid (x ∈ ks) := List.mem_of_getElem? hx
      have HXX : Hid (ks[j]? = some x) := hx
      have C15 : Hid (∀ w', BW wr w' → Calls Tryd.prog 15 #[r.v] w' fun e w'' => e = .returned (.string (txB n x)) ∧ BW w' w'') := fun w' h => IH.out r.v x w' (NodeAt.bw (BW.trans hb h) hax) HX.out
      obtain ⟨d0, d1, d2, d3, d4⟩ := hr.bw hb hbl
      have hz2 := hb.size
      clear hax hx hr
      go_wp2_with (fail)
      refine (C15.out _ (by repeat (first | exact BW.refl _ | assumption | apply BW.alloc | apply BW.drewN | apply BW.drew | (refine BW.setCell ?_ (by first | omega | (simp; done) | (simp; omega)) _) | (refine BW.trans ?_ (by assumption))))).mono ?_
      rintro e w2 ⟨rfl, b2⟩
      have hown2 := own_bw hown b2
      have HB2 : Hid (BW (bx w (k : Int) tn ts na nl nc (some ⟨bk, off, none⟩) kl kc) w2) := BW.trans hb1 b2
      have hz3 := b2.size
      clear hown b2
      go_wp2_with (at_builtin; refine wpList_append_strs rfl _ _ rfl (w.heap.size + 1) _ (([hdB k, ts] ++ ns) ++ (ks.take j).map (txB n)) [txB n x] (some ⟨w2.heap.size, 0, none⟩) 1 1 rfl rfl (hown2.alloc _) (strs_one w2 (txB n x) (HSX.out x HX.out)) (by have := HLN.out; simp only [List.length_append, List.length_map, List.length_take, List.length_cons, List.length_nil] at this ⊢; omega) (by first | omega | (simp; omega)) ?_)
      intro v' w3 hown3 hgrow3
      have HB3 : Hid (BW (bx w (k : Int) tn ts na nl nc (some ⟨bk, off, none⟩) kl kc) w3) := Below.grown (BW.alloc HB2.out _) hgrow3 (by simp; omega) (fun q hq => by have := own_ge hown2 q hq; simp; omega)
      have HO3 : Hid (w3.ownsRow (w.heap.size + 1) 9 1 v' (([hdB k, ts] ++ ns) ++ (ks.take j).map (txB n) ++ [txB n x]).length ((([hdB k, ts] ++ ns) ++ (ks.take j).map (txB n) ++ [txB n x]).map Value.string)) := by show World.ownsRow _ _ _ _ _ _ _; simpa using hown3
      clear hgrow3 hown3
      go_wp2_with (fail)
      go_roundw
      case rel => exact ⟨j + 1, by omega, by go_num, (by rw [takeS HXX.out, List.map_append, ← List.append_assoc]; exact HO3.out), HB3.out⟩
      case measure => simp [intOf]; omega
    · obtain rfl : kl = j := by omega
      have HTK : Hid (ks.take kl = ks) := List.take_of_length_le (by rw [HKL.out]; omega)
      rw [HTK.out] at hown
      obtain ⟨ao, cp, rfl, hst', hcp, hcm⟩ := own_strs' hown HSM.out
      have HS : Hid (StrsAt wr ao (([hdB k, ts] ++ ns) ++ ks.map (txB n)).length (([hdB k, ts] ++ ns) ++ ks.map (txB n))) := hst'
      have HCP : Hid ((([hdB k, ts] ++ ns) ++ ks.map (txB n)).length ≤ cp ∧ cp ≤ maxLen) := ⟨hcp, hcm⟩
      have HJ : Hid ((bj (([hdB k, ts] ++ ns) ++ ks.map (txB n))).length ≤ 140000000000000) := HJL.out
      have HF : Hid (⟨#[40]⟩ ++ bjB (([hdB k, ts] ++ ns) ++ ks.map (txB n)) ++ ⟨#[41]⟩ = R) := HFIN.out
      clear hst' hown hcp hcm HSM HLN HJL HFIN HTK IH
      generalize ([hdB k, ts] ++ ns) ++ ks.map (txB n) = LL at *
      generalize LL.length = LN at *
      have hss1 : ∀ v, (Op.stringOp .add (⟨#[40]⟩ : ByteArray) (bjB LL)).run Tryd.prog v = .ok (.string (⟨#[40]⟩ ++ bjB LL)) v := fun v => run_string_add_sum (w := v) _ _ (by have := HJ.out; have e := bjB_size LL; show 1 + _ ≤ _; omega)
      have hss2 : ∀ v, (Op.stringOp .add (⟨#[40]⟩ ++ bjB LL) (⟨#[41]⟩ : ByteArray)).run Tryd.prog v = .ok (.string (⟨#[40]⟩ ++ bjB LL ++ ⟨#[41]⟩)) v := fun v => run_string_add_sum (w := v) _ _ (by have := HJ.out; have e := bjB_size LL; rw [ByteArray.size_append]; show 1 + _ + 1 ≤ _; omega)
      go_wp2_with (go_at_call 28; refine (refJoin_any _ _ _ LL _ HS.out HCP.out.1 HCP.out.2 (by have := HJ.out; omega)).mono ?_; rintro e w4 ⟨rfl, rfl⟩)
      go_ret
      exact ⟨by rw [HF.out]; rfl, hb⟩

end Go.Proofs.YtiokcokmpmpcfaaDoor
