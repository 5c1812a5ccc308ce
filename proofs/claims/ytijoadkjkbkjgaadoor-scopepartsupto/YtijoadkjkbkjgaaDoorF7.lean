import Derived.Test.YtijoadkjkbkjgaaDoorF6
import Derived.Deep.DeepCutAuto
namespace Go.Proofs.YtijoadkjkbkjgaaDoor
open Go.RowKit
set_option linter.unusedVariables false
set_option linter.unusedSimpArgs false

theorem strs_new {w : World} {g : Nat} {s : ByteArray} (h : w.heap[g]? = some (.cells #[.string s] 9 (0, 0))) (hs : s.size ≤ maxLen) : StrsAt w (some ⟨g, 0, none⟩) 1 [s] := by
  refine ⟨rfl, by unfold maxLen; omega, by simpa using hs, .inr ⟨_, 0, rfl, (Array.getElem?_eq_some_iff.1 h).1, fun i x hi => ?_⟩⟩
  match i, hi with
  | 0, hi =>
    simp at hi; subst hi
    rw [Lib.cell_of_heap h]; rfl
/-- Which a call of the finder's leaves of a box and a part. -/
theorem sep_new {v : Value} {g : Nat} {w : World} {fb mb lo m : Nat} {c : ByteArray → Nat} {F : List ByteArray} (h : FiIs w fb mb lo m v c F) (hg : w.heap.size ≤ g) {ln : Nat} : ln = 0 ∨ ∀ b off, (some ⟨g, 0, none⟩ : Option Addr) = some ⟨b, off, none⟩ → v.ownBlock ≠ some b := .inr fun b off e ee => by
  have e1 : g = b := by simpa using congrArg (fun o => o.map (·.block)) e
  have := (h.nr.2.2 b ee).2
  omega
theorem sep_old {v : Value} {W0 w : World} {fb mb m : Nat} {c : ByteArray → Nat} {F l : List ByteArray} {na : Option Addr} {nl : Nat} (h : FiIs w fb mb W0.heap.size m v c F) (hS : StrsAt W0 na nl l) : nl = 0 ∨ ∀ b off, na = some ⟨b, off, none⟩ → v.ownBlock ≠ some b := by
  rcases hS.2.2.2 with h0 | ⟨b, off, e, hb, _⟩
  · exact .inl h0
  · refine .inr fun b' off' e' ee => ?_
    rw [e] at e'
    have e1 : b = b' := by simpa using congrArg (fun o => o.map (·.block)) e'
    have := (h.nr.2.2 b' ee).1
    omega
set_option maxRecDepth 100000 in
set_option maxHeartbeats 4000000 in
theorem node_8 {n : Nat} (ihN : NodeS n) (ihW : WithinS n) (W0 : World) (fb mb m : Nat) (v : Value) (B F : List ByteArray) (tn : Int) (ts : ByteArray) (tns : List ByteArray) (x y : Tr n) (na : Option Addr) (nl nc : Nat) (ka : Option Addr) (kl kc : Nat) (w : World) (hsz : ts.size ≤ maxLen) (hS : StrsAt W0 na nl tns) (hnc : nl ≤ nc) (hK : SeqAt (NodeAt W0 n) W0 ka kl [x, y]) (hkc : kl ≤ kc) (hkm : kc ≤ maxLen) (hr : ∀ z ∈ [x, y], rt n z = true) (hb : BW W0 w) (hF : FiB w fb mb W0.heap.size m v B F) (hm : m + 4 * (1 + tns.length + ([x, y].map (bz n)).sum) ≤ 1000000000) (hfl : F.length + (1 + tns.length + ([x, y].map (bz n)).sum) ≤ 10000000) (hns : tns = []) :
    Calls Tryd.prog 21 #[.pointer (some ⟨fb, 0, none⟩), ndv 8 tn ts na nl nc ka kl kc] w fun e w' => e = .returned (.tuple #[]) ∧ ∃ v', FiB w' fb mb W0.heap.size (m + 4 * (1 + tns.length + ([x, y].map (bz n)).sum)) v' B (fr n y (B ++ tns ++ [ts]) (fr n x B F)) ∧ Fq fb mb v v' w w' := by
  subst hns
  have e0 : 1 + ([] : List ByteArray).length + ([x, y].map (bz n)).sum = 1 + bz n x + bz n y := by simp; omega
  rw [e0] at hm hfl ⊢
  rw [List.append_nil]
  clear e0
  have IW : Hid (WithinS n) := ihW
  have HB : Hid (BW W0 w) := hb
  have HF : Hid (FiB w fb mb W0.heap.size m v B F) := hF
  have hlen : 2 = kl := hK.1
  subst hlen
  obtain ⟨b, off, x', rfl, hbl, hx, r, hcr, ha⟩ := SeqAt.get hK (i := 0) (by omega)
  obtain ⟨b', off', y', e', _, hy, q, hcq, hc⟩ := SeqAt.get hK (i := 1) (by omega)
  cases e'
  obtain rfl : x = x' := by simpa using hx
  obtain rfl : y = y' := by simpa using hy
  obtain ⟨rk, rn, rs, rna, rnl, rnc, rka, rkl, rkc⟩ := r
  obtain ⟨qk, qn, qs, qna, qnl, qnc, qka, qkl, qkc⟩ := q
  obtain ⟨d0, d1, d2, d3, d4⟩ := hcr.out hb hbl
  simp only [Nat.zero_mul, Nat.add_zero] at d0 d1 d2 d3 d4
  rw [Nat.one_mul] at hcq
  have HCQ : Hid _ := hcq
  have HC : Hid (NodeAt W0 n (ndv qk qn qs qna qnl qnc qka qkl qkc) y) := hc
  have HY : Hid (rt n y = true) := hr y (by simp)
  have hbw : b < w.heap.size := by have := hb.size; omega
  have CN : Hid (∀ w', BW w w' → Calls Tryd.prog 21 #[.pointer (some ⟨fb, 0, none⟩), ndv rk rn rs rna rnl rnc rka rkl rkc] w' fun e w'' => e = .returned (.tuple #[]) ∧ ∃ v', FiB w'' fb mb W0.heap.size (m + 4 * bz n x) v' B (fr n x B F) ∧ Fq fb mb v v' w' w'') := fun w' hw => ihN W0 fb mb m v _ B F x w' ha (hr x (by simp)) (BW.trans hb hw) (hF.bw hw) (by omega) (by omega)
  have hL1 : (fr n x B F).length ≤ F.length + bz n x := fr_len n x B F
  clear ihN ihW hb hF hK hr hS hcr hcq ha hc hx hy
  go_enter Tryd.func21, Tryd.ntmps21
  go_wp2_with (fail)
  refine (CN.out _ (BW.alloc (BW.refl w) _)).mono ?_
  rintro e w2 ⟨rfl, v2, hF2, hQ2⟩
  have HF2 : Hid (FiB w2 fb mb W0.heap.size (m + 4 * bz n x) v2 B (fr n x B F)) := hF2
  obtain ⟨g0, g1, g2, g3, g4⟩ := box_fq HF.out (BW.refl (bx w 8 tn ts na nl nc (some ⟨b, off, none⟩) 2 kc)) hQ2
  have HQ2 : Hid (Fq fb mb v v2 w w2) := Fq.trans ((BW.alloc (BW.refl w) _).fq fb mb v) hQ2
  have hz2 := HQ2.out.size
  have hz2' := hQ2.size
  simp at hz2'
  have HB2 : Hid (BW W0 w2) := HQ2.out.bw0 HF.out HB.out
  have hn1 : ¬ w.heap.size = fb := by have := HF.out.lt; omega
  have hn2 : ¬ w.heap.size = mb := by have := HF.out.ct.lt; omega
  have hn3 : v2.ownBlock ≠ some w.heap.size := by
    rcases hQ2.own with e | ⟨g, e, hg⟩
    · rw [e]; intro ee; have := (HF.out.nr.2.2 _ ee).2; omega
    · rw [e]; intro ee; have := Option.some.inj ee; simp at hg; omega
  clear d0 d1 d2 d3 d4 CN hF2 hQ2
  obtain ⟨d0, d1, d2, d3, d4⟩ := CellsAt.out (r := ⟨qk, qn, qs, qna, qnl, qnc, qka, qkl, qkc⟩) HCQ.out HB2.out hbl
  simp only at d0 d1 d2 d3 d4
  have G : Hid (w2.cell? ⟨w.heap.size, 2, none⟩ = some (.string ts) ∧ w2.cell? ⟨w.heap.size, 4, none⟩ = some (.slice (some ⟨b, off, none⟩) 2 kc)) := ⟨g2, g4⟩
  have CW : Hid (∀ w', BW w2 w' → w'.heap[w2.heap.size]? = some (.cells #[.string ts] 9 (0, 0)) → Calls Tryd.prog 41 #[.pointer (some ⟨fb, 0, none⟩), ndv qk qn qs qna qnl qnc qka qkl qkc, .slice (some ⟨w2.heap.size, 0, none⟩) 1 1] w' fun e w'' => e = .returned (.tuple #[]) ∧ (∃ v', FiB w'' fb mb W0.heap.size (m + 4 * (1 + bz n x + bz n y)) v' B (fr n y (B ++ [ts]) (fr n x B F)) ∧ Fq fb mb v v' w w'') ∧ w''.cell? ⟨w.heap.size, 2, none⟩ = some (.string ts) ∧ w''.cell? ⟨w.heap.size, 4, none⟩ = some (.slice (some ⟨b, off, none⟩) 2 kc) ∧ w''.cell? ⟨b, off + 5, none⟩ = some (.int .u8 qk) ∧ w''.cell? ⟨b, off + 5 + 1, none⟩ = some (.int .i64 qn) ∧ w''.cell? ⟨b, off + 5 + 2, none⟩ = some (.string qs) ∧ w''.cell? ⟨b, off + 5 + 3, none⟩ = some (.slice qna qnl qnc) ∧ w''.cell? ⟨b, off + 5 + 4, none⟩ = some (.slice qka qkl qkc)) := fun w' hw hh => by
    refine (IW.out W0 fb mb (m + 4 * bz n x) v2 _ B (fr n x B F) y (some ⟨w2.heap.size, 0, none⟩) 1 1 [ts] w' HC.out HY.out (BW.trans HB2.out hw) (HF2.out.bw hw) (strs_new hh hsz) (sep_new HF2.out (Nat.le_refl _)) (by omega) (by omega)).mono ?_
    rintro e w'' ⟨rfl, v', h1, h2⟩
    have hQW : Fq fb mb v2 v' w2 w'' := Fq.trans (hw.fq fb mb v2) h2
    have hk := CellsAt.out (r := ⟨qk, qn, qs, qna, qnl, qnc, qka, qkl, qkc⟩) HCQ.out (hQW.bw0 HF2.out HB2.out) hbl
    have hgw2 : w.heap.size < w2.heap.size := by omega
    exact ⟨rfl, ⟨v', h1.mono (by omega), HQ2.out.trans hQW⟩, (hQW.cells _ 2 hgw2 hn1 hn2 hn3).trans G.out.1, (hQW.cells _ 4 hgw2 hn1 hn2 hn3).trans G.out.2, hk⟩
  have hbw2 : b < w2.heap.size := by omega
  have hgw2 : w.heap.size < w2.heap.size := by omega
  clear hn1 hn2 hn3
  go_upto_region 15 with fail
  go_region_held3 (fun w' => w'.cell? ⟨w.heap.size, 2, none⟩ = some (.string ts) ∧ w'.cell? ⟨w.heap.size, 4, none⟩ = some (.slice (some ⟨b, off, none⟩) 2 kc) ∧ w'.cell? ⟨b, off + 5, none⟩ = some (.int .u8 qk) ∧ w'.cell? ⟨b, off + 5 + 1, none⟩ = some (.int .i64 qn) ∧ w'.cell? ⟨b, off + 5 + 2, none⟩ = some (.string qs) ∧ w'.cell? ⟨b, off + 5 + 3, none⟩ = some (.slice qna qnl qnc) ∧ w'.cell? ⟨b, off + 5 + 4, none⟩ = some (.slice qka qkl qkc)) (go_keep) (first | (go_at_call 41; refine (CW.out _ (by repeat (first | exact BW.refl _ | assumption | apply BW.alloc | apply BW.drewN | apply BW.drew | (refine BW.setCell ?_ (by first | omega | (simp; done) | (simp; omega)) _) | (refine BW.trans ?_ (by assumption)))) (by first | exact heap_alloc_new _ _ | simp)).mono ?_; rintro e w3 ⟨rfl, hP3, z2, z4, y0, y1, y2, y3, y4⟩))
  have HP3 : Hid _ := hP3
  clear z2 z4 y0 y1 y2 y3 y4 hP3
  go_wp2_with (fail)
  go_end0
  exact ⟨rfl, HP3.out⟩
set_option maxRecDepth 100000 in
set_option maxHeartbeats 4000000 in
theorem node_17 {n : Nat} (ihW : WithinS n) (W0 : World) (fb mb m : Nat) (v : Value) (B F : List ByteArray) (tn : Int) (ts : ByteArray) (tns : List ByteArray) (x : Tr n) (na : Option Addr) (nl nc : Nat) (ka : Option Addr) (kl kc : Nat) (w : World) (hsz : ts.size ≤ maxLen) (hS : StrsAt W0 na nl tns) (hnc : nl ≤ nc) (hK : SeqAt (NodeAt W0 n) W0 ka kl [x]) (hkc : kl ≤ kc) (hkm : kc ≤ maxLen) (hr : ∀ z ∈ [x], rt n z = true) (hb : BW W0 w) (hF : FiB w fb mb W0.heap.size m v B F) (hm : m + 4 * (1 + tns.length + ([x].map (bz n)).sum) ≤ 1000000000) (hfl : F.length + (1 + tns.length + ([x].map (bz n)).sum) ≤ 10000000) :
    Calls Tryd.prog 21 #[.pointer (some ⟨fb, 0, none⟩), ndv 17 tn ts na nl nc ka kl kc] w fun e w' => e = .returned (.tuple #[]) ∧ ∃ v', FiB w' fb mb W0.heap.size (m + 4 * (1 + tns.length + ([x].map (bz n)).sum)) v' B (fr n x (B ++ tns) F) ∧ Fq fb mb v v' w w' := by
  have e0 : (([x] : List (Tr n)).map (bz n)).sum = bz n x := by simp
  rw [e0] at hm hfl ⊢
  clear e0
  have IW : Hid (WithinS n) := ihW
  have HB : Hid (BW W0 w) := hb
  have HF : Hid (FiB w fb mb W0.heap.size m v B F) := hF
  have hlen : 1 = kl := hK.1
  subst hlen
  obtain ⟨b, off, x', rfl, hbl, hx, r, hcr, ha⟩ := SeqAt.get hK (i := 0) (by omega)
  obtain rfl : x = x' := by simpa using hx
  obtain ⟨rk, rn, rs, rna, rnl, rnc, rka, rkl, rkc⟩ := r
  rw [Nat.zero_mul, Nat.add_zero] at hcr
  have HCR : Hid (CellsAt W0 b off ⟨rk, rn, rs, rna, rnl, rnc, rka, rkl, rkc⟩) := by exact hcr
  have HC : Hid (NodeAt W0 n (ndv rk rn rs rna rnl rnc rka rkl rkc) x) := ha
  have HX : Hid (rt n x = true) := hr x (by simp)
  have HS : Hid (StrsAt W0 na nl tns) := hS
  have hnl : tns.length = nl := hS.1
  clear ihW hb hF hK hr hS hcr ha hx
  go_enter Tryd.func21, Tryd.ntmps21
  go_wp2_with (fail)
  obtain ⟨W, hW⟩ : ∃ W, W = w.alloc (.cells #[.int .u8 17, .int .i64 tn, .string ts, .slice na nl nc, .slice (some ⟨b, off, none⟩) 1 kc] 25) := ⟨_, rfl⟩
  have hbW : BW w W := by rw [hW]; exact BW.alloc (BW.refl w) _
  have hzW : w.heap.size < W.heap.size := by rw [hW]; simp
  obtain ⟨⟨g0, g1, g2, g3, g4⟩, _, _⟩ := bx_at (w' := W) (by rw [hW]; exact BW.refl _)
  simp only [Nat.zero_add] at g0 g1 g2 g3 g4
  rw [← hW]
  clear hW
  have HBW : Hid (BW W0 W) := BW.trans HB.out hbW
  have HFW : Hid (FiB W fb mb W0.heap.size m v B F) := HF.out.bw hbW
  have HQW : Hid (Fq fb mb v v w W) := hbW.fq fb mb v
  have hk := CellsAt.out HCR.out HBW.out hbl
  simp only at hk
  obtain ⟨d0, d1, d2, d3, d4⟩ := hk
  have hn1 : ¬ w.heap.size = fb := by have := HF.out.lt; omega
  have hn2 : ¬ w.heap.size = mb := by have := HF.out.ct.lt; omega
  have hn3 : v.ownBlock ≠ some w.heap.size := fun ee => by have := (HF.out.nr.2.2 _ ee).2; omega
  have G : Hid (W.cell? ⟨w.heap.size, 2, none⟩ = some (.string ts) ∧ W.cell? ⟨w.heap.size, 3, none⟩ = some (.slice na nl nc) ∧ W.cell? ⟨w.heap.size, 4, none⟩ = some (.slice (some ⟨b, off, none⟩) 1 kc)) := ⟨g2, g3, g4⟩
  have CW : Hid (∀ w', BW W w' → Calls Tryd.prog 41 #[.pointer (some ⟨fb, 0, none⟩), ndv rk rn rs rna rnl rnc rka rkl rkc, .slice na nl nc] w' fun e w'' => e = .returned (.tuple #[]) ∧ (∃ v', FiB w'' fb mb W0.heap.size (m + 4 * (1 + tns.length + bz n x)) v' B (fr n x (B ++ tns) F) ∧ Fq fb mb v v' w w'') ∧ w''.cell? ⟨w.heap.size, 2, none⟩ = some (.string ts) ∧ w''.cell? ⟨w.heap.size, 3, none⟩ = some (.slice na nl nc) ∧ w''.cell? ⟨w.heap.size, 4, none⟩ = some (.slice (some ⟨b, off, none⟩) 1 kc) ∧ w''.cell? ⟨b, off, none⟩ = some (.int .u8 rk) ∧ w''.cell? ⟨b, off + 1, none⟩ = some (.int .i64 rn) ∧ w''.cell? ⟨b, off + 2, none⟩ = some (.string rs) ∧ w''.cell? ⟨b, off + 3, none⟩ = some (.slice rna rnl rnc) ∧ w''.cell? ⟨b, off + 4, none⟩ = some (.slice rka rkl rkc)) := fun w' hw => by
    refine (IW.out W0 fb mb m v _ B F x na nl nc tns w' HC.out HX.out (BW.trans HBW.out hw) (HFW.out.bw hw) (HS.out.bw (BW.trans HBW.out hw)) (sep_old HFW.out HS.out) (by omega) (by omega)).mono ?_
    rintro e w'' ⟨rfl, v', h1, h2⟩
    have hQW : Fq fb mb v v' W w'' := Fq.trans (hw.fq fb mb v) h2
    have hk := CellsAt.out HCR.out (hQW.bw0 HFW.out HBW.out) hbl
    exact ⟨rfl, ⟨v', h1.mono (by omega), HQW.out.trans hQW⟩, (hQW.cells _ 2 hzW hn1 hn2 hn3).trans G.out.1, (hQW.cells _ 3 hzW hn1 hn2 hn3).trans G.out.2.1, (hQW.cells _ 4 hzW hn1 hn2 hn3).trans G.out.2.2, hk⟩
  have hbw2 : b < W.heap.size := by have := HBW.out.size; omega
  clear hn1 hn2 hn3 hbW
  go_region_held3 (fun w' => w'.cell? ⟨w.heap.size, 2, none⟩ = some (.string ts) ∧ w'.cell? ⟨w.heap.size, 3, none⟩ = some (.slice na nl nc) ∧ w'.cell? ⟨w.heap.size, 4, none⟩ = some (.slice (some ⟨b, off, none⟩) 1 kc) ∧ w'.cell? ⟨b, off, none⟩ = some (.int .u8 rk) ∧ w'.cell? ⟨b, off + 1, none⟩ = some (.int .i64 rn) ∧ w'.cell? ⟨b, off + 2, none⟩ = some (.string rs) ∧ w'.cell? ⟨b, off + 3, none⟩ = some (.slice rna rnl rnc) ∧ w'.cell? ⟨b, off + 4, none⟩ = some (.slice rka rkl rkc)) (go_keep) (first | (go_at_call 41; refine (CW.out _ (by repeat (first | exact BW.refl _ | assumption | apply BW.alloc | apply BW.drewN | apply BW.drew | (refine BW.setCell ?_ (by first | omega | (simp; done) | (simp; omega)) _) | (refine BW.trans ?_ (by assumption))))).mono ?_; rintro e w3 ⟨rfl, hP3, z2, z3, z4, y0, y1, y2, y3, y4⟩))
  have HP3 : Hid _ := hP3
  clear z2 z3 z4 y0 y1 y2 y3 y4 hP3
  go_wp2_with (fail)
  go_end0
  exact ⟨rfl, HP3.out⟩
set_option maxRecDepth 100000 in
set_option maxHeartbeats 4000000 in
theorem node_18 {n : Nat} (ihW : WithinS n) (W0 : World) (fb mb m : Nat) (v : Value) (B F : List ByteArray) (tn : Int) (ts : ByteArray) (tns : List ByteArray) (x : Tr n) (na : Option Addr) (nl nc : Nat) (ka : Option Addr) (kl kc : Nat) (w : World) (hsz : ts.size ≤ maxLen) (hS : StrsAt W0 na nl tns) (hnc : nl ≤ nc) (hK : SeqAt (NodeAt W0 n) W0 ka kl [x]) (hkc : kl ≤ kc) (hkm : kc ≤ maxLen) (hr : ∀ z ∈ [x], rt n z = true) (hb : BW W0 w) (hF : FiB w fb mb W0.heap.size m v B F) (hm : m + 4 * (1 + tns.length + ([x].map (bz n)).sum) ≤ 1000000000) (hfl : F.length + (1 + tns.length + ([x].map (bz n)).sum) ≤ 10000000) :
    Calls Tryd.prog 21 #[.pointer (some ⟨fb, 0, none⟩), ndv 18 tn ts na nl nc ka kl kc] w fun e w' => e = .returned (.tuple #[]) ∧ ∃ v', FiB w' fb mb W0.heap.size (m + 4 * (1 + tns.length + ([x].map (bz n)).sum)) v' B (fr n x (B ++ tns) F) ∧ Fq fb mb v v' w w' := by
  have e0 : (([x] : List (Tr n)).map (bz n)).sum = bz n x := by simp
  rw [e0] at hm hfl ⊢
  clear e0
  have IW : Hid (WithinS n) := ihW
  have HB : Hid (BW W0 w) := hb
  have HF : Hid (FiB w fb mb W0.heap.size m v B F) := hF
  have hlen : 1 = kl := hK.1
  subst hlen
  obtain ⟨b, off, x', rfl, hbl, hx, r, hcr, ha⟩ := SeqAt.get hK (i := 0) (by omega)
  obtain rfl : x = x' := by simpa using hx
  obtain ⟨rk, rn, rs, rna, rnl, rnc, rka, rkl, rkc⟩ := r
  rw [Nat.zero_mul, Nat.add_zero] at hcr
  have HCR : Hid (CellsAt W0 b off ⟨rk, rn, rs, rna, rnl, rnc, rka, rkl, rkc⟩) := by exact hcr
  have HC : Hid (NodeAt W0 n (ndv rk rn rs rna rnl rnc rka rkl rkc) x) := ha
  have HX : Hid (rt n x = true) := hr x (by simp)
  have HS : Hid (StrsAt W0 na nl tns) := hS
  have hnl : tns.length = nl := hS.1
  clear ihW hb hF hK hr hS hcr ha hx
  go_enter Tryd.func21, Tryd.ntmps21
  go_wp2_with (fail)
  obtain ⟨W, hW⟩ : ∃ W, W = w.alloc (.cells #[.int .u8 18, .int .i64 tn, .string ts, .slice na nl nc, .slice (some ⟨b, off, none⟩) 1 kc] 25) := ⟨_, rfl⟩
  have hbW : BW w W := by rw [hW]; exact BW.alloc (BW.refl w) _
  have hzW : w.heap.size < W.heap.size := by rw [hW]; simp
  obtain ⟨⟨g0, g1, g2, g3, g4⟩, _, _⟩ := bx_at (w' := W) (by rw [hW]; exact BW.refl _)
  simp only [Nat.zero_add] at g0 g1 g2 g3 g4
  rw [← hW]
  clear hW
  have HBW : Hid (BW W0 W) := BW.trans HB.out hbW
  have HFW : Hid (FiB W fb mb W0.heap.size m v B F) := HF.out.bw hbW
  have HQW : Hid (Fq fb mb v v w W) := hbW.fq fb mb v
  have hk := CellsAt.out HCR.out HBW.out hbl
  simp only at hk
  obtain ⟨d0, d1, d2, d3, d4⟩ := hk
  have hn1 : ¬ w.heap.size = fb := by have := HF.out.lt; omega
  have hn2 : ¬ w.heap.size = mb := by have := HF.out.ct.lt; omega
  have hn3 : v.ownBlock ≠ some w.heap.size := fun ee => by have := (HF.out.nr.2.2 _ ee).2; omega
  have G : Hid (W.cell? ⟨w.heap.size, 2, none⟩ = some (.string ts) ∧ W.cell? ⟨w.heap.size, 3, none⟩ = some (.slice na nl nc) ∧ W.cell? ⟨w.heap.size, 4, none⟩ = some (.slice (some ⟨b, off, none⟩) 1 kc)) := ⟨g2, g3, g4⟩
  have CW : Hid (∀ w', BW W w' → Calls Tryd.prog 41 #[.pointer (some ⟨fb, 0, none⟩), ndv rk rn rs rna rnl rnc rka rkl rkc, .slice na nl nc] w' fun e w'' => e = .returned (.tuple #[]) ∧ (∃ v', FiB w'' fb mb W0.heap.size (m + 4 * (1 + tns.length + bz n x)) v' B (fr n x (B ++ tns) F) ∧ Fq fb mb v v' w w'') ∧ w''.cell? ⟨w.heap.size, 2, none⟩ = some (.string ts) ∧ w''.cell? ⟨w.heap.size, 3, none⟩ = some (.slice na nl nc) ∧ w''.cell? ⟨w.heap.size, 4, none⟩ = some (.slice (some ⟨b, off, none⟩) 1 kc) ∧ w''.cell? ⟨b, off, none⟩ = some (.int .u8 rk) ∧ w''.cell? ⟨b, off + 1, none⟩ = some (.int .i64 rn) ∧ w''.cell? ⟨b, off + 2, none⟩ = some (.string rs) ∧ w''.cell? ⟨b, off + 3, none⟩ = some (.slice rna rnl rnc) ∧ w''.cell? ⟨b, off + 4, none⟩ = some (.slice rka rkl rkc)) := fun w' hw => by
    refine (IW.out W0 fb mb m v _ B F x na nl nc tns w' HC.out HX.out (BW.trans HBW.out hw) (HFW.out.bw hw) (HS.out.bw (BW.trans HBW.out hw)) (sep_old HFW.out HS.out) (by omega) (by omega)).mono ?_
    rintro e w'' ⟨rfl, v', h1, h2⟩
    have hQW : Fq fb mb v v' W w'' := Fq.trans (hw.fq fb mb v) h2
    have hk := CellsAt.out HCR.out (hQW.bw0 HFW.out HBW.out) hbl
    exact ⟨rfl, ⟨v', h1.mono (by omega), HQW.out.trans hQW⟩, (hQW.cells _ 2 hzW hn1 hn2 hn3).trans G.out.1, (hQW.cells _ 3 hzW hn1 hn2 hn3).trans G.out.2.1, (hQW.cells _ 4 hzW hn1 hn2 hn3).trans G.out.2.2, hk⟩
  have hbw2 : b < W.heap.size := by have := HBW.out.size; omega
  clear hn1 hn2 hn3 hbW
  go_region_held3 (fun w' => w'.cell? ⟨w.heap.size, 2, none⟩ = some (.string ts) ∧ w'.cell? ⟨w.heap.size, 3, none⟩ = some (.slice na nl nc) ∧ w'.cell? ⟨w.heap.size, 4, none⟩ = some (.slice (some ⟨b, off, none⟩) 1 kc) ∧ w'.cell? ⟨b, off, none⟩ = some (.int .u8 rk) ∧ w'.cell? ⟨b, off + 1, none⟩ = some (.int .i64 rn) ∧ w'.cell? ⟨b, off + 2, none⟩ = some (.string rs) ∧ w'.cell? ⟨b, off + 3, none⟩ = some (.slice rna rnl rnc) ∧ w'.cell? ⟨b, off + 4, none⟩ = some (.slice rka rkl rkc)) (go_keep) (first | (go_at_call 41; refine (CW.out _ (by repeat (first | exact BW.refl _ | assumption | apply BW.alloc | apply BW.drewN | apply BW.drew | (refine BW.setCell ?_ (by first | omega | (simp; done) | (simp; omega)) _) | (refine BW.trans ?_ (by assumption))))).mono ?_; rintro e w3 ⟨rfl, hP3, z2, z3, z4, y0, y1, y2, y3, y4⟩))
  have HP3 : Hid _ := hP3
  clear z2 z3 z4 y0 y1 y2 y3 y4 hP3
  go_wp2_with (fail)
  go_end0
  exact ⟨rfl, HP3.out⟩
set_option maxRecDepth 100000 in
set_option maxHeartbeats 4000000 in
theorem node_6 {n : Nat} (ihW : WithinS n) (W0 : World) (fb mb m : Nat) (v : Value) (B F : List ByteArray) (tn : Int) (ts : ByteArray) (tns : List ByteArray) (x : Tr n) (na : Option Addr) (nl nc : Nat) (ka : Option Addr) (kl kc : Nat) (w : World) (hsz : ts.size ≤ maxLen) (hS : StrsAt W0 na nl tns) (hnc : nl ≤ nc) (hK : SeqAt (NodeAt W0 n) W0 ka kl [x]) (hkc : kl ≤ kc) (hkm : kc ≤ maxLen) (hr : ∀ z ∈ [x], rt n z = true) (hb : BW W0 w) (hF : FiB w fb mb W0.heap.size m v B F) (hm : m + 4 * (1 + tns.length + ([x].map (bz n)).sum) ≤ 1000000000) (hfl : F.length + (1 + tns.length + ([x].map (bz n)).sum) ≤ 10000000) :
    Calls Tryd.prog 21 #[.pointer (some ⟨fb, 0, none⟩), ndv 6 tn ts na nl nc ka kl kc] w fun e w' => e = .returned (.tuple #[]) ∧ ∃ v', FiB w' fb mb W0.heap.size (m + 4 * (1 + tns.length + ([x].map (bz n)).sum)) v' B (fr n x (B ++ tns ++ [ts]) F) ∧ Fq fb mb v v' w w' := by
  have C1 : Hid (∀ w', BW w w' → w'.heap[w.heap.size + 1]? = some (.cells #[.string ts] 9 (0, 0)) → Calls Tryd.prog 40 #[.pointer (some ⟨fb, 0, none⟩), .slice (some ⟨w.heap.size + 1, 0, none⟩) 1 1] w' fun e w'' => e = .returned (.tuple #[]) ∧ FiIs w'' fb mb W0.heap.size (m + 1) v (fun s => (ct B s + ct F s) + ct [ts] s) F ∧ Fq fb mb v v w' w'') := fun w' hw hh => bind_any fb mb _ m v _ F _ 1 1 [ts] w' (hF.bw hw) (strs_new hh hsz) (by omega)
  have e0 : (([x] : List (Tr n)).map (bz n)).sum = bz n x := by simp
  rw [e0] at hm hfl ⊢
  clear e0
  have IW : Hid (WithinS n) := ihW
  have HB : Hid (BW W0 w) := hb
  have HF : Hid (FiB w fb mb W0.heap.size m v B F) := hF
  have hlen : 1 = kl := hK.1
  subst hlen
  obtain ⟨b, off, x', rfl, hbl, hx, r, hcr, ha⟩ := SeqAt.get hK (i := 0) (by omega)
  obtain rfl : x = x' := by simpa using hx
  obtain ⟨rk, rn, rs, rna, rnl, rnc, rka, rkl, rkc⟩ := r
  rw [Nat.zero_mul, Nat.add_zero] at hcr
  have HCR : Hid (CellsAt W0 b off ⟨rk, rn, rs, rna, rnl, rnc, rka, rkl, rkc⟩) := by exact hcr
  have HC : Hid (NodeAt W0 n (ndv rk rn rs rna rnl rnc rka rkl rkc) x) := ha
  have HX : Hid (rt n x = true) := hr x (by simp)
  have HS : Hid (StrsAt W0 na nl tns) := hS
  have hnl : tns.length = nl := hS.1
  clear ihW hb hF hK hr hS hcr ha hx
  go_enter Tryd.func21, Tryd.ntmps21
  go_wp2_with (fail)
  refine (C1.out _ (BW.alloc (BW.alloc (BW.refl w) _) _) (by simpa using heap_alloc_new (w.alloc (.cells #[.int .u8 6, .int .i64 tn, .string ts, .slice na nl nc, .slice (some ⟨b, off, none⟩) 1 kc] 25)) (.cells #[.string ts] 9))).mono ?_
  rintro e W ⟨rfl, hF1, hQ1⟩
  have hz1 := hQ1.size
  simp at hz1
  have hzW : w.heap.size < W.heap.size := by omega
  have HFW : Hid (FiB W fb mb W0.heap.size (m + 1) v (B ++ [ts]) F) := hF1.of (fun s => by rw [ct_append]; omega)
  have HQW : Hid (Fq fb mb v v w W) := Fq.trans ((BW.alloc (BW.alloc (BW.refl w) _) _).fq fb mb v) hQ1
  have HBW : Hid (BW W0 W) := HQW.out.bw0 HF.out HB.out
  obtain ⟨g0, g1, g2, g3, g4⟩ := box_fq HF.out (BW.alloc (BW.refl (bx w 6 tn ts na nl nc (some ⟨b, off, none⟩) 1 kc)) (.cells #[.string ts] 9)) hQ1
  have hk := CellsAt.out HCR.out HBW.out hbl
  simp only at hk
  obtain ⟨d0, d1, d2, d3, d4⟩ := hk
  have hn1 : ¬ w.heap.size = fb := by have := HF.out.lt; omega
  have hn2 : ¬ w.heap.size = mb := by have := HF.out.ct.lt; omega
  have hn3 : v.ownBlock ≠ some w.heap.size := fun ee => by have := (HF.out.nr.2.2 _ ee).2; omega
  have G : Hid (W.cell? ⟨w.heap.size, 2, none⟩ = some (.string ts) ∧ W.cell? ⟨w.heap.size, 3, none⟩ = some (.slice na nl nc) ∧ W.cell? ⟨w.heap.size, 4, none⟩ = some (.slice (some ⟨b, off, none⟩) 1 kc)) := ⟨g2, g3, g4⟩
  have CW : Hid (∀ w', BW W w' → Calls Tryd.prog 41 #[.pointer (some ⟨fb, 0, none⟩), ndv rk rn rs rna rnl rnc rka rkl rkc, .slice na nl nc] w' fun e w'' => e = .returned (.tuple #[]) ∧ (∃ v', FiB w'' fb mb W0.heap.size (m + 1 + 4 * bz n x + 2 * nl) v' (B ++ [ts]) (fr n x (B ++ tns ++ [ts]) F) ∧ Fq fb mb v v' w w'' ∧ Fq fb mb v v' W w'') ∧ w''.cell? ⟨w.heap.size, 2, none⟩ = some (.string ts) ∧ w''.cell? ⟨w.heap.size, 3, none⟩ = some (.slice na nl nc) ∧ w''.cell? ⟨w.heap.size, 4, none⟩ = some (.slice (some ⟨b, off, none⟩) 1 kc) ∧ w''.cell? ⟨b, off, none⟩ = some (.int .u8 rk) ∧ w''.cell? ⟨b, off + 1, none⟩ = some (.int .i64 rn) ∧ w''.cell? ⟨b, off + 2, none⟩ = some (.string rs) ∧ w''.cell? ⟨b, off + 3, none⟩ = some (.slice rna rnl rnc) ∧ w''.cell? ⟨b, off + 4, none⟩ = some (.slice rka rkl rkc)) := fun w' hw => by
    refine (IW.out W0 fb mb (m + 1) v _ (B ++ [ts]) F x na nl nc tns w' HC.out HX.out (BW.trans HBW.out hw) (HFW.out.bw hw) (HS.out.bw (BW.trans HBW.out hw)) (sep_old HFW.out HS.out) (by omega) (by omega)).mono ?_
    rintro e w'' ⟨rfl, v', h1, h2⟩
    have hQW : Fq fb mb v v' W w'' := Fq.trans (hw.fq fb mb v) h2
    have hk := CellsAt.out HCR.out (hQW.bw0 HFW.out HBW.out) hbl
    rw [fr_congr n x (B ++ [ts] ++ tns) (B ++ tns ++ [ts]) F (fun s => by simp only [ct_append]; omega)] at h1
    exact ⟨rfl, ⟨v', h1.mono (by omega), HQW.out.trans hQW, hQW⟩, (hQW.cells _ 2 hzW hn1 hn2 hn3).trans G.out.1, (hQW.cells _ 3 hzW hn1 hn2 hn3).trans G.out.2.1, (hQW.cells _ 4 hzW hn1 hn2 hn3).trans G.out.2.2, hk⟩
  have hbw2 : b < W.heap.size := by have := HBW.out.size; omega
  clear hn1 hn2 hn3 hF1 hQ1 C1
  go_upto_region 11 with fail
  go_region_held3 (fun w' => w'.cell? ⟨w.heap.size, 2, none⟩ = some (.string ts) ∧ w'.cell? ⟨w.heap.size, 3, none⟩ = some (.slice na nl nc) ∧ w'.cell? ⟨w.heap.size, 4, none⟩ = some (.slice (some ⟨b, off, none⟩) 1 kc) ∧ w'.cell? ⟨b, off, none⟩ = some (.int .u8 rk) ∧ w'.cell? ⟨b, off + 1, none⟩ = some (.int .i64 rn) ∧ w'.cell? ⟨b, off + 2, none⟩ = some (.string rs) ∧ w'.cell? ⟨b, off + 3, none⟩ = some (.slice rna rnl rnc) ∧ w'.cell? ⟨b, off + 4, none⟩ = some (.slice rka rkl rkc)) (go_keep) (first | (go_at_call 41; refine (CW.out _ (by repeat (first | exact BW.refl _ | assumption | apply BW.alloc | apply BW.drewN | apply BW.drew | (refine BW.setCell ?_ (by first | omega | (simp; done) | (simp; omega)) _) | (refine BW.trans ?_ (by assumption))))).mono ?_; rintro e w3 ⟨rfl, hP3, z2, z3, z4, y0, y1, y2, y3, y4⟩))
  obtain ⟨v3, hF3, hQ3, hQ3'⟩ := hP3
  have hz3 := hQ3'.size
  have HF3 : Hid (FiB w3 fb mb W0.heap.size (m + 1 + 4 * bz n x + 2 * nl) v3 (B ++ [ts]) (fr n x (B ++ tns ++ [ts]) F)) := hF3
  have HQ3 : Hid (Fq fb mb v v3 w w3) := hQ3
  have C4 : Hid (∀ w', BW w3 w' → w'.heap[w3.heap.size]? = some (.cells #[.string ts] 9 (0, 0)) → Calls Tryd.prog 42 #[.pointer (some ⟨fb, 0, none⟩), .slice (some ⟨w3.heap.size, 0, none⟩) 1 1] w' fun e w'' => e = .returned (.tuple #[]) ∧ FiIs w'' fb mb W0.heap.size (m + 1 + 4 * bz n x + 2 * nl + 1) v3 (fun s => (ct (B ++ [ts]) s + ct (fr n x (B ++ tns ++ [ts]) F) s) - ct [ts] s) (fr n x (B ++ tns ++ [ts]) F) ∧ Fq fb mb v3 v3 w' w'') := fun w' hw hh => unbind_any fb mb _ _ v3 _ _ _ 1 1 [ts] w' (HF3.out.bw hw) (strs_new hh hsz) (by omega) (fun s => by rw [ct_append]; omega)
  clear y0 y1 y2 y3 y4 hF3 hQ3 hQ3' CW d0 d1 d2 d3 d4 g0 g1 g2 g3 g4
  have hgw3 : w.heap.size < w3.heap.size := by omega
  go_wp2_with (fail)
  refine (C4.out _ (BW.alloc (BW.refl w3) _) (heap_alloc_new _ _)).mono ?_
  rintro e w4 ⟨rfl, hF4, hQ4⟩
  have HF4 : Hid (FiB w4 fb mb W0.heap.size (m + 4 * (1 + tns.length + bz n x)) v3 B (fr n x (B ++ tns ++ [ts]) F)) := (hF4.of (c' := fun s => ct B s + ct (fr n x (B ++ tns ++ [ts]) F) s) (fun s => by rw [ct_append]; omega)).mono (by omega)
  have HQ4 : Hid (Fq fb mb v v3 w w4) := HQ3.out.trans (Fq.trans ((BW.alloc (BW.refl w3) _).fq fb mb v3) hQ4)
  clear hF4 hQ4 C4 z2 z3 z4
  go_wp2_with (fail)
  go_end0
  exact ⟨rfl, v3, HF4.out, HQ4.out⟩

end Go.Proofs.YtijoadkjkbkjgaaDoor
