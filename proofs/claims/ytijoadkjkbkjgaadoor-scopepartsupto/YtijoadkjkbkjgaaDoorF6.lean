import Derived.Test.YtijoadkjkbkjgaaDoorF5
namespace Go.Proofs.YtijoadkjkbkjgaaDoor
open Go.RowKit
set_option linter.unusedVariables false
set_option linter.unusedSimpArgs false

theorem fr_congr : ∀ (n : Nat) (t : Tr n) (B B' F : List ByteArray), (∀ s, ct B s = ct B' s) → fr n t B F = fr n t B' F := by
  intro n
  induction n with
  | zero => intro t B B' F h; rfl
  | succ n ih =>
    intro t B B' F h
    have key : ∀ (l : List (Tr n)) (B B' F : List ByteArray), (∀ s, ct B s = ct B' s) → l.foldl (fun F x => fr n x B F) F = l.foldl (fun F x => fr n x B' F) F := by
      intro l
      induction l with
      | nil => intro B B' F h; rfl
      | cons a r ihr =>
        intro B B' F h
        rw [List.foldl_cons, List.foldl_cons, ih a B B' F h]
        exact ihr B B' _ h
    unfold fr
    split
    · unfold addN; rw [h]
    · split
      · cases (Nd.ks (K := Tr n) t) with
        | nil => rfl
        | cons a r =>
          simp only
          rw [ih a B B' F h]
          exact key r _ _ _ (fun s => by simp only [ct_append, h])
      · exact key _ _ _ _ (fun s => by simp only [ct_append, h])
theorem CellsAt.out {W w : World} {b o : Nat} {r : Rw} (h : CellsAt W b o r) (k : BW W w) (hb : b < W.heap.size) : w.cell? ⟨b, o, none⟩ = some (.int .u8 r.k) ∧ w.cell? ⟨b, o + 1, none⟩ = some (.int .i64 r.n) ∧ w.cell? ⟨b, o + 2, none⟩ = some (.string r.s) ∧ w.cell? ⟨b, o + 3, none⟩ = some (.slice r.na r.nl r.nc) ∧ w.cell? ⟨b, o + 4, none⟩ = some (.slice r.ka r.kl r.kc) := h.bw k hb
/-- The box's cells behind a call of the finder's. -/
theorem box_fq {w w1 w' : World} {fb mb lo m : Nat} {v v' : Value} {c : ByteArray → Nat} {F : List ByteArray} {k n : Int} {s : ByteArray} {na : Option Addr} {nl nc : Nat} {ka : Option Addr} {kl kc : Nat} (hF : FiIs w fb mb lo m v c F) (hb : BW (bx w k n s na nl nc ka kl kc) w1) (h : Fq fb mb v v' w1 w') : w'.cell? ⟨w.heap.size, 0, none⟩ = some (.int .u8 k) ∧ w'.cell? ⟨w.heap.size, 1, none⟩ = some (.int .i64 n) ∧ w'.cell? ⟨w.heap.size, 2, none⟩ = some (.string s) ∧ w'.cell? ⟨w.heap.size, 3, none⟩ = some (.slice na nl nc) ∧ w'.cell? ⟨w.heap.size, 4, none⟩ = some (.slice ka kl kc) := by
  obtain ⟨⟨c0, c1, c2, c3, c4⟩, hz, _⟩ := bx_at hb
  have h1 : ¬ w.heap.size = fb := by have := hF.lt; omega
  have h2 : ¬ w.heap.size = mb := by have := hF.ct.lt; omega
  have h3 : v.ownBlock ≠ some w.heap.size := fun e => by have := (hF.nr.2.2 _ e).2; omega
  have K := fun o => h.cells w.heap.size o hz h1 h2 h3
  exact ⟨(K 0).trans c0, (K 1).trans c1, (K 2).trans c2, (K 3).trans c3, (K 4).trans c4⟩
set_option maxRecDepth 100000 in
set_option maxHeartbeats 4000000 in
theorem node_5 {n : Nat} (W0 : World) (fb mb m : Nat) (v : Value) (B F : List ByteArray) (tn : Int) (ts : ByteArray) (tns : List ByteArray) (tks : List (Tr n)) (na : Option Addr) (nl nc : Nat) (ka : Option Addr) (kl kc : Nat) (w : World) (hsz : ts.size ≤ maxLen) (hS : StrsAt W0 na nl tns) (hnc : nl ≤ nc) (hK : SeqAt (NodeAt W0 n) W0 ka kl tks) (hkc : kl ≤ kc) (hkm : kc ≤ maxLen) (hr : ∀ z ∈ tks, rt n z = true) (hb : BW W0 w) (hF : FiB w fb mb W0.heap.size m v B F) (hm : m + 4 * (1 + tns.length + (tks.map (bz n)).sum) ≤ 1000000000) (hfl : F.length + (1 + tns.length + (tks.map (bz n)).sum) ≤ 10000000) :
    Calls Tryd.prog 21 #[.pointer (some ⟨fb, 0, none⟩), ndv 5 tn ts na nl nc ka kl kc] w fun e w' => e = .returned (.tuple #[]) ∧ ∃ v', FiB w' fb mb W0.heap.size (m + 4 * (1 + tns.length + (tks.map (bz n)).sum)) v' B (addN B F ts) ∧ Fq fb mb v v' w w' := by
  have CU : Hid (∀ w', BW w w' → Calls Tryd.prog 39 #[.pointer (some ⟨fb, 0, none⟩), .string ts] w' fun e w'' => e = .returned (.tuple #[]) ∧ ∃ v', FiB w'' fb mb W0.heap.size (m + 1) v' B (addN B F ts) ∧ Fq fb mb v v' w' w'') := fun w' hw => use_any fb mb _ m v B F ts w' (hF.bw hw) hsz (by omega) (by omega) (Nat.le_trans hb.size hw.size)
  clear hS hK hr hF
  go_enter Tryd.func21, Tryd.ntmps21
  go_wp2_with (fail)
  refine (CU.out _ (BW.alloc (BW.refl w) _)).mono ?_
  rintro e w1 ⟨rfl, v1, hF1, hQ1⟩
  have HF1 : Hid (FiB w1 fb mb W0.heap.size (m + 4 * (1 + tns.length + (tks.map (bz n)).sum)) v1 B (addN B F ts)) := hF1.mono (by omega)
  have HQ1 : Hid (Fq fb mb v v1 w w1) := Fq.trans ((BW.alloc (BW.refl w) _).fq fb mb v) hQ1
  clear hF1 hQ1 CU
  go_wp2_with (fail)
  go_end0
  exact ⟨rfl, v1, HF1.out, HQ1.out⟩
set_option maxRecDepth 100000 in
set_option maxHeartbeats 4000000 in
theorem node_d {n : Nat} (ihN : NodeS n) (tk : Int) (h5 : ¬ tk = 5) (h6 : ¬ tk = 6) (h8 : ¬ tk = 8) (h17 : ¬ tk = 17) (h18 : ¬ tk = 18) (W0 : World) (fb mb m : Nat) (v : Value) (B F : List ByteArray) (tn : Int) (ts : ByteArray) (tns : List ByteArray) (tks : List (Tr n)) (na : Option Addr) (nl nc : Nat) (ka : Option Addr) (kl kc : Nat) (w : World) (hsz : ts.size ≤ maxLen) (hS : StrsAt W0 na nl tns) (hnc : nl ≤ nc) (hK : SeqAt (NodeAt W0 n) W0 ka kl tks) (hkc : kl ≤ kc) (hkm : kc ≤ maxLen) (hr : ∀ z ∈ tks, rt n z = true) (hb : BW W0 w) (hF : FiB w fb mb W0.heap.size m v B F) (hm : m + 4 * (1 + tns.length + (tks.map (bz n)).sum) ≤ 1000000000) (hfl : F.length + (1 + tns.length + (tks.map (bz n)).sum) ≤ 10000000) :
    Calls Tryd.prog 21 #[.pointer (some ⟨fb, 0, none⟩), ndv tk tn ts na nl nc ka kl kc] w fun e w' => e = .returned (.tuple #[]) ∧ ∃ v', FiB w' fb mb W0.heap.size (m + 4 * (1 + tns.length + (tks.map (bz n)).sum)) v' B (tks.foldl (fun F x => fr n x B F) F) ∧ Fq fb mb v v' w w' := by
  have IH : Hid (NodeS n) := ihN
  have HB : Hid (BW W0 w) := hb
  have HF : Hid (FiB w fb mb W0.heap.size m v B F) := hF
  have HK : Hid (SeqAt (NodeAt W0 n) W0 ka kl tks) := hK
  have HR : Hid (∀ x ∈ tks, rt n x = true) := hr
  have hlen : tks.length = kl := hK.1
  have hml : kl ≤ 9223372036854775807 := by unfold maxLen at hkm; omega
  have e5 : (tk == 5) = false := by simpa using h5
  have e6 : (tk == 6) = false := by simpa using h6
  have e8 : (tk == 8) = false := by simpa using h8
  have e17 : (tk == 17) = false := by simpa using h17
  have e18 : (tk == 18) = false := by simpa using h18
  have hlt := hF.lt
  have hmlt := hF.ct.lt
  have hb0 := hb.size
  clear ihN hb hF hK hr hS
  go_enter Tryd.func21, Tryd.ntmps21
  go_wp2_with (fail)
  go_loopw [11] (fun i wr => ∃ (j : Nat) (vj : Value), j ≤ kl ∧ i = .int .i64 j ∧ Hid (FiB wr fb mb W0.heap.size (m + 4 * ((tks.map (bz n)).take j).sum) vj B ((tks.take j).foldl (fun F x => fr n x B F) F)) ∧ Hid (((tks.take j).foldl (fun F x => fr n x B F) F).length ≤ F.length + ((tks.map (bz n)).take j).sum) ∧ Hid (Fq fb mb v vj w wr)) (fun i _ => kl - (intOf i).toNat)
  case atStart => exact ⟨0, v, Nat.zero_le _, rfl, by show FiIs _ _ _ _ _ _ _ _; simpa using HF.out.bw (BW.alloc (BW.refl w) _), by simp [Hid], (BW.alloc (BW.refl w) _).fq fb mb v⟩
  case round =>
    obtain ⟨j, vj, hj, rfl, HFj, HLj, HQj⟩ := hrel
    have hbj := HQj.out.bw0 HF.out HB.out
    have hzj := HQj.out.size
    by_cases hlt2 : j < kl
    · obtain ⟨b, off, x, rfl, hbl, hx, r, hcr, ha⟩ := SeqAt.get HK.out hlt2
      obtain ⟨rk, rn, rs, rna, rnl, rnc, rka, rkl, rkc⟩ := r
      obtain ⟨d0, d1, d2, d3, d4⟩ := hcr.out hbj hbl
      simp only at d0 d1 d2 d3 d4
      have hbw : b < wr.heap.size := by have := hbj.size; omega
      have hsum := sum_snoc (map_get (bz n) hx)
      have hle : ((tks.map (bz n)).take (j + 1)).sum ≤ (tks.map (bz n)).sum := by
        conv => rhs; rw [← List.take_append_drop (j + 1) (tks.map (bz n)), List.sum_append]
        omega
      have HX : Hid (tks[j]? = some x) := hx
      have HLe : Hid (((tks.map (bz n)).take (j + 1)).sum ≤ (tks.map (bz n)).sum) := hle
      have HSum : Hid (((tks.map (bz n)).take (j + 1)).sum = ((tks.map (bz n)).take j).sum + bz n x) := hsum
      have CN : Hid (∀ w', BW wr w' → Calls Tryd.prog 21 #[.pointer (some ⟨fb, 0, none⟩), ndv rk rn rs rna rnl rnc rka rkl rkc] w' fun e w'' => e = .returned (.tuple #[]) ∧ ∃ v', FiB w'' fb mb W0.heap.size (m + 4 * ((tks.map (bz n)).take j).sum + 4 * bz n x) v' B (fr n x B ((tks.take j).foldl (fun F x => fr n x B F) F)) ∧ Fq fb mb vj v' w' w'') := fun w' hw => IH.out W0 fb mb _ vj _ B _ x w' ha (HR.out x (List.mem_of_getElem? hx)) (BW.trans hbj hw) (HFj.out.bw hw) (by omega) (by have := HLj.out; omega)
      clear ha hcr hx hsum hle hbj
      go_wp2_with (fail)
      refine (CN.out _ (by repeat (first | exact BW.refl _ | assumption | apply BW.alloc | apply BW.drewN | apply BW.drew | (refine BW.setCell ?_ (by first | omega | (simp; done) | (simp; omega)) _) | (refine BW.trans ?_ (by assumption))))).mono ?_
      rintro e w2 ⟨rfl, v2, hF2, hQ2⟩
      have HF2 : Hid (FiB w2 fb mb W0.heap.size (m + 4 * ((tks.map (bz n)).take (j + 1)).sum) v2 B ((tks.take (j + 1)).foldl (fun F x => fr n x B F) F)) := by
        show FiIs _ _ _ _ _ _ _ _
        rw [HSum.out, List.take_add_one, HX.out, Option.toList_some, List.foldl_append, List.foldl_cons, List.foldl_nil]
        exact hF2.mono (by omega)
      have HL2 : Hid (((tks.take (j + 1)).foldl (fun F x => fr n x B F) F).length ≤ F.length + ((tks.map (bz n)).take (j + 1)).sum) := by
        show _ ≤ _
        rw [HSum.out, List.take_add_one, HX.out, Option.toList_some, List.foldl_append, List.foldl_cons, List.foldl_nil]
        have h1 := fr_len n x B ((tks.take j).foldl (fun F x => fr n x B F) F)
        have h2 := HLj.out
        omega
      have HQ2 : Hid (Fq fb mb v v2 w w2) := HQj.out.trans (Fq.trans (BW.fq (by repeat (first | exact BW.refl _ | assumption | apply BW.alloc | apply BW.drewN | apply BW.drew | (refine BW.setCell ?_ (by first | omega | (simp; done) | (simp; omega)) _) | (refine BW.trans ?_ (by assumption)))) fb mb vj) hQ2)
      clear hF2 hQ2 CN d0 d1 d2 d3 d4
      go_wp2_with (fail)
      go_roundw
      case rel => exact ⟨j + 1, v2, by omega, by go_num, HF2, HL2, HQ2⟩
      case measure => simp [intOf]; omega
    · obtain rfl : kl = j := by omega
      have HF1 : Hid (FiB wr fb mb W0.heap.size (m + 4 * (1 + tns.length + (tks.map (bz n)).sum)) vj B (tks.foldl (fun F x => fr n x B F) F)) := by
        have h := HFj.out
        rw [List.take_of_length_le (l := tks) (by omega), List.take_of_length_le (l := tks.map (bz n)) (by rw [List.length_map]; omega)] at h
        exact h.mono (by omega)
      go_wp2_with (fail)
      go_end0
      exact ⟨rfl, vj, HF1.out, HQj.out⟩

end Go.Proofs.YtijoadkjkbkjgaaDoor
