import Derived.Test.YtiokcokmpmpcfaaDoorP1
import Derived.Deep.DeepCutAuto
namespace Go.Proofs.YtiokcokmpmpcfaaDoor
open Go.RowKit
set_option linter.unusedVariables false
set_option linter.unusedSimpArgs false

def txB (n : Nat) (x : Tr n) : ByteArray := ⟨(txt n x).toArray⟩
theorem strs_one (w : World) (s : ByteArray) (h : s.size ≤ maxLen) : StrsAt (w.alloc (.cells #[.string s] 9)) (some ⟨w.heap.size, 0, none⟩) 1 [s] := by
  refine ⟨rfl, by unfold maxLen; omega, by simpa using h, .inr ⟨_, 0, rfl, by simp, fun i x hi => ?_⟩⟩
  match i, hi with
  | 0, hi => simp at hi; subst hi; exact cell_new _ _ _ 0
theorem heads_cell (k : Nat) (h6 : 6 ≤ k) (h19 : k ≤ 19) (h11 : ¬ k = 11) : (#[.string ⟨#[]⟩, .string ⟨#[]⟩, .string ⟨#[]⟩, .string ⟨#[]⟩, .string ⟨#[]⟩, .string ⟨#[]⟩, .string ⟨#[102, 117, 110]⟩, .string ⟨#[99, 97, 108, 108]⟩, .string ⟨#[108, 101, 116]⟩, .string ⟨#[105, 102]⟩, .string ⟨#[100, 111]⟩, .string ⟨#[]⟩, .string ⟨#[112, 101, 114, 102, 111, 114, 109]⟩, .string ⟨#[104, 97, 110, 100, 108, 101]⟩, .string ⟨#[114, 101, 115, 117, 109, 101]⟩, .string ⟨#[100, 114, 111, 112]⟩, .string ⟨#[119, 105, 110, 100]⟩, .string ⟨#[114, 101, 116, 117, 114, 110]⟩, .string ⟨#[111, 110]⟩, .string ⟨#[102, 105, 110, 97, 108, 108, 121]⟩] : Array Value)[k]? = some (.string (hdB k)) := by
  rcases (by omega : k = 6 ∨ k = 7 ∨ k = 8 ∨ k = 9 ∨ k = 10 ∨ k = 12 ∨ k = 13 ∨ k = 14 ∨ k = 15 ∨ k = 16 ∨ k = 17 ∨ k = 18 ∨ k = 19) with rfl | rfl | rfl | rfl | rfl | rfl | rfl | rfl | rfl | rfl | rfl | rfl | rfl <;> rfl
theorem hd_ne (k : Nat) (h6 : 6 ≤ k) (h19 : k ≤ 19) (h11 : ¬ k = 11) : ¬ hdB k = ⟨#[]⟩ := by
  rcases (by omega : k = 6 ∨ k = 7 ∨ k = 8 ∨ k = 9 ∨ k = 10 ∨ k = 12 ∨ k = 13 ∨ k = 14 ∨ k = 15 ∨ k = 16 ∨ k = 17 ∨ k = 18 ∨ k = 19) with rfl | rfl | rfl | rfl | rfl | rfl | rfl | rfl | rfl | rfl | rfl | rfl | rfl <;> decide
set_option maxRecDepth 100000 in
set_option maxHeartbeats 2000000 in
theorem refPrint_11 {n : Nat} (k : Nat) (tn : Int) (ts : ByteArray) (na : Option Addr) (nl nc : Nat) (ka : Option Addr) (kl kc : Nat) (ns : List ByteArray) (ks : List (Tr n)) (w : World) (R : ByteArray)
    (a1 : nl ≤ nc) (a2 : nc ≤ maxLen) (a3 : kl ≤ kc) (a4 : kl ≤ 2000000) (a5 : nl ≤ 2000000) (s1 : StrsAt w na nl ns) (S2 : Hid (SeqAt (NodeAt w n) w ka kl ks)) (hts : ts.size ≤ 100000000) (hjl : (bj ns).length ≤ 1000000000)
    (IH : Hid (∀ v x w', NodeAt w' n v x → x ∈ ks → Calls Tryd.prog 15 #[v] w' fun e w'' => e = .returned (.string (txB n x)) ∧ BW w' w'')) (HSX : Hid (∀ x ∈ ks, (txB n x).size ≤ maxLen)) (hne : ¬ ts = ⟨#[]⟩) (hn0 : ns = [])
    (HSM : Hid (∀ s ∈ [ts] ++ ks.map (txB n), s.size ≤ maxLen)) (HJL : Hid ((bj ([ts] ++ ks.map (txB n))).length ≤ 140000000000000)) (HFIN : Hid (⟨#[40]⟩ ++ bjB ([ts] ++ ks.map (txB n)) ++ ⟨#[41]⟩ = R)) :
    Calls Tryd.prog 15 #[ndv 11 tn ts na nl nc ka kl kc] w fun e w' => e = .returned (.string R) ∧ BW w w' := by
  have HKL : Hid (ks.length = kl) := S2.out.1
  have HST : Hid (StrsAt w na nl ns) := s1
  have HNL : Hid (ns.length = nl) := s1.1
  have HLN : Hid ([ts].length ≤ 2000010) := by show _ ≤ _; have := HNL.out; first | (simp; done) | (simp; omega)
  obtain ⟨et, et2⟩ := bytes_ne hne
  clear s1
  go_enter Tryd.func15, Tryd.ntmps15
  go_upto_region 2 with fail
  obtain ⟨W1, hW1⟩ : ∃ W1, W1 = (bx w 11 tn ts na nl nc ka kl kc).alloc (.cells #[.string ⟨#[]⟩, .string ⟨#[]⟩, .string ⟨#[]⟩, .string ⟨#[]⟩, .string ⟨#[]⟩, .string ⟨#[]⟩, .string ⟨#[102, 117, 110]⟩, .string ⟨#[99, 97, 108, 108]⟩, .string ⟨#[108, 101, 116]⟩, .string ⟨#[105, 102]⟩, .string ⟨#[100, 111]⟩, .string ⟨#[]⟩, .string ⟨#[112, 101, 114, 102, 111, 114, 109]⟩, .string ⟨#[104, 97, 110, 100, 108, 101]⟩, .string ⟨#[114, 101, 115, 117, 109, 101]⟩, .string ⟨#[100, 114, 111, 112]⟩, .string ⟨#[119, 105, 110, 100]⟩, .string ⟨#[114, 101, 116, 117, 114, 110]⟩, .string ⟨#[111, 110]⟩, .string ⟨#[102, 105, 110, 97, 108, 108, 121]⟩] 9) := ⟨_, rfl⟩
  have HB1 : Hid (BW (bx w 11 tn ts na nl nc ka kl kc) W1) := by show BW _ W1; rw [hW1]; exact BW.alloc (BW.refl _) _
  have hh : W1.cell? ⟨w.heap.size + 1, 11, none⟩ = some (.string ⟨#[]⟩) := by rw [hW1]; rw [show w.heap.size + 1 = (bx w 11 tn ts na nl nc ka kl kc).heap.size by simp]; exact cell_new _ _ _ 11
  have hz1 : W1.heap.size = w.heap.size + 1 + 1 := by rw [hW1]; simp
  obtain ⟨⟨g0, g1, g2, g3, g4⟩, _, hb1⟩ := bx_at HB1.out
  rw [← hW1]
  clear hW1
  have H0 := World.ownsRow_lit (base := w.heap.size + 1) (e := 9) (size := 1) W1 #[] 0 (by omega) (by unfold maxLen; omega) rfl
  go_upto_region 16 with fail
  obtain ⟨W0, hW0⟩ : ∃ W0, W0 = W1.alloc (.cells #[] 9) := ⟨_, rfl⟩
  obtain ⟨v0, hv0⟩ : ∃ v0, v0 = Value.slice (some ⟨w.heap.size + 1 + 1, 0, none⟩) 0 0 := ⟨_, rfl⟩
  have h0 : W0.ownsRow (w.heap.size + 1) 9 1 v0 ([] : List ByteArray).length (([] : List ByteArray).map Value.string) := by rw [hW0, hv0, ← hz1]; exact H0
  have B0 : Hid (BW (bx w 11 tn ts na nl nc ka kl kc) W0) := by show BW _ W0; rw [hW0]; exact BW.alloc HB1.out _
  have hh0 : W0.cell? ⟨w.heap.size + 1, 11, none⟩ = some (.string ⟨#[]⟩) := by rw [hW0]; exact (BW.cells (BW.alloc (BW.refl W1) _) (w.heap.size + 1) _ (by omega)).trans hh
  clear g0 g1 g2 g3 g4
  obtain ⟨⟨g0, g1, g2, g3, g4⟩, _, hb0⟩ := bx_at B0.out
  have hz0 : w.heap.size + 1 + 1 < W0.heap.size := by rw [hW0]; simp [hz1]
  rw [← hW0, ← hv0]
  clear H0 hW0 hv0 hh HB1 hz1
  go_wp2_with (at_builtin; refine wpList_append_strs rfl _ _ rfl (w.heap.size + 1) _ [] [ts] (some ⟨W0.heap.size, 0, none⟩) 1 1 rfl rfl (h0.alloc _) (strs_one W0 ts (by unfold maxLen; omega)) (by have := HNL.out; first | (simp; done) | (simp; omega)) (by first | omega | (simp; omega)) ?_)
  intro v1 u1 h1 gr1
  try simp only [List.nil_append, List.cons_append, List.append_nil] at h1
  have B1 : Hid (BW (bx w 11 tn ts na nl nc ka kl kc) u1) := Below.grown (BW.alloc B0.out _) gr1 (by first | (simp; omega) | omega) (fun q hq => by have := own_ge h0 q hq; first | (simp; omega) | omega)
  have zz1 := B1.out.size
  simp at zz1
  clear gr1 g0 g1 g2 g3 g4
  obtain ⟨⟨g0, g1, g2, g3, g4⟩, _, hb1⟩ := bx_at B1.out
  go_wp2_with (at_builtin; refine wpList_append_strs rfl _ _ rfl (w.heap.size + 1) _ [ts] [] na nl nc rfl rfl (h1) (by have := HST.out.bw hb1; rw [hn0] at this; exact this) (by have := HNL.out; first | (simp; done) | (simp; omega)) (by first | omega | (simp; omega)) ?_)
  intro v2 u2 h2 gr2
  try simp only [List.nil_append, List.cons_append, List.append_nil] at h2
  have B2 : Hid (BW (bx w 11 tn ts na nl nc ka kl kc) u2) := Below.grown (B1.out) gr2 (by first | (simp; omega) | omega) (fun q hq => by have := own_ge h1 q hq; first | (simp; omega) | omega)
  have zz2 := B2.out.size
  simp at zz2
  clear gr2 g0 g1 g2 g3 g4
  obtain ⟨⟨g0, g1, g2, g3, g4⟩, _, hb2⟩ := bx_at B2.out
  go_wp2_with (fail)
  go_loopw [4, 71] (fun o i w' => ∃ j : Nat, j ≤ kl ∧ i = .int .i64 j ∧ w'.ownsRow (w.heap.size + 1) 9 1 o ([ts] ++ (ks.take j).map (txB n)).length (([ts] ++ (ks.take j).map (txB n)).map Value.string) ∧ BW (bx w 11 tn ts na nl nc ka kl kc) w') (fun _ i _ => kl - (intOf i).toNat)
  case atStart => exact ⟨0, Nat.zero_le _, rfl, by simpa using h2, B2.out⟩
  case round =>
    clear h1 h2 zz1 zz2 B1 B2 g0 g1 g2 g3 g4 hb1 hb2
    obtain ⟨j, hj, rfl, hown, hb1⟩ := hrel
    obtain ⟨⟨g0, g1, g2, g3, g4⟩, hz1, hb⟩ := bx_at hb1
    by_cases hlt : j < kl
    · obtain ⟨bk, off, x, rfl, hbl, hx, r, hr, hax⟩ := SeqAt.get S2.out hlt
      have HX : Hid (x ∈ ks) := List.mem_of_getElem? hx
      have HXX : Hid (ks[j]? = some x) := hx
      have C15 : Hid (∀ w', BW wr w' → Calls Tryd.prog 15 #[r.v] w' fun e w'' => e = .returned (.string (txB n x)) ∧ BW w' w'') := fun w' h => IH.out r.v x w' (NodeAt.bw (BW.trans hb h) hax) HX.out
      obtain ⟨d0, d1, d2, d3, d4⟩ := hr.bw hb hbl
      have hz2 := hb.size
      clear hax hx hr
      go_wp2_with (fail)
      refine (C15.out _ (by repeat (first | exact BW.refl _ | assumption | apply BW.alloc | apply BW.drewN | apply BW.drew | (refine BW.setCell ?_ (by first | omega | (simp; done) | (simp; omega)) _) | (refine BW.trans ?_ (by assumption))))).mono ?_
      rintro e w2 ⟨rfl, b2⟩
      have hown2 := own_bw hown b2
      have HB2 : Hid (BW (bx w 11 tn ts na nl nc (some ⟨bk, off, none⟩) kl kc) w2) := BW.trans hb1 b2
      have hz3 := b2.size
      clear hown b2
      go_wp2_with (at_builtin; refine wpList_append_strs rfl _ _ rfl (w.heap.size + 1) _ ([ts] ++ (ks.take j).map (txB n)) [txB n x] (some ⟨w2.heap.size, 0, none⟩) 1 1 rfl rfl (hown2.alloc _) (strs_one w2 (txB n x) (HSX.out x HX.out)) (by have := HLN.out; simp only [List.length_append, List.length_map, List.length_take, List.length_cons, List.length_nil] at this ⊢; omega) (by first | omega | (simp; omega)) ?_)
      intro v' w3 hown3 hgrow3
      have HB3 : Hid (BW (bx w 11 tn ts na nl nc (some ⟨bk, off, none⟩) kl kc) w3) := Below.grown (BW.alloc HB2.out _) hgrow3 (by simp; omega) (fun q hq => by have := own_ge hown2 q hq; simp; omega)
      have HO3 : Hid (w3.ownsRow (w.heap.size + 1) 9 1 v' ([ts] ++ (ks.take j).map (txB n) ++ [txB n x]).length (([ts] ++ (ks.take j).map (txB n) ++ [txB n x]).map Value.string)) := by show World.ownsRow _ _ _ _ _ _ _; simpa using hown3
      clear hgrow3 hown3
      go_wp2_with (fail)
      go_roundw
      case rel => exact ⟨j + 1, by omega, by go_num, (by rw [takeS HXX.out, List.map_append, ← List.append_assoc]; exact HO3.out), HB3.out⟩
      case measure => simp [intOf]; omega
    · obtain rfl : kl = j := by omega
      have HTK : Hid (ks.take kl = ks) := List.take_of_length_le (by rw [HKL.out]; omega)
      rw [HTK.out] at hown
      obtain ⟨ao, cp, rfl, hst', hcp, hcm⟩ := own_strs' hown HSM.out
      have HS : Hid (StrsAt wr ao ([ts] ++ ks.map (txB n)).length ([ts] ++ ks.map (txB n))) := hst'
      have HCP : Hid (([ts] ++ ks.map (txB n)).length ≤ cp ∧ cp ≤ maxLen) := ⟨hcp, hcm⟩
      have HJ : Hid ((bj ([ts] ++ ks.map (txB n))).length ≤ 140000000000000) := HJL.out
      have HF : Hid (⟨#[40]⟩ ++ bjB ([ts] ++ ks.map (txB n)) ++ ⟨#[41]⟩ = R) := HFIN.out
      clear hst' hown hcp hcm HSM HLN HJL HFIN HTK IH
      generalize [ts] ++ ks.map (txB n) = LL at *
      generalize LL.length = LN at *
      have hss1 : ∀ v, (Op.stringOp .add (⟨#[40]⟩ : ByteArray) (bjB LL)).run Tryd.prog v = .ok (.string (⟨#[40]⟩ ++ bjB LL)) v := fun v => run_string_add_sum (w := v) _ _ (by have := HJ.out; have e := bjB_size LL; show 1 + _ ≤ _; omega)
      have hss2 : ∀ v, (Op.stringOp .add (⟨#[40]⟩ ++ bjB LL) (⟨#[41]⟩ : ByteArray)).run Tryd.prog v = .ok (.string (⟨#[40]⟩ ++ bjB LL ++ ⟨#[41]⟩)) v := fun v => run_string_add_sum (w := v) _ _ (by have := HJ.out; have e := bjB_size LL; rw [ByteArray.size_append]; show 1 + _ + 1 ≤ _; omega)
      go_wp2_with (go_at_call 28; refine (refJoin_any _ _ _ LL _ HS.out HCP.out.1 HCP.out.2 (by have := HJ.out; omega)).mono ?_; rintro e w4 ⟨rfl, rfl⟩)
      go_ret
      exact ⟨by rw [HF.out]; rfl, hb⟩

end Go.Proofs.YtiokcokmpmpcfaaDoor
