import Derived.Test.YtijoadkjkbkjgaaDoorC4
namespace Go.Proofs.YtijoadkjkbkjgaaDoor
open Go.RowKit
set_option linter.unusedVariables false
set_option linter.unusedSimpArgs false

/-- What a call that may change the cell in block lb leaves of the world. -/
structure Fl (lb : Nat) (w w' : World) : Prop where
  os : w'.os = w.os
  tape : w'.tape = w.tape
  output : w'.output = w.output
  size : w.heap.size ≤ w'.heap.size
  block : ∀ k, k < w.heap.size → ¬ k = lb → w'.heap[k]? = w.heap[k]?
theorem BW.fl {w w' : World} (h : BW w w') (lb : Nat) : Fl lb w w' := ⟨h.os, h.tape, h.output, h.size, fun k hk _ => h.block k hk⟩
theorem Fl.trans {lb : Nat} {a b c : World} (h : Fl lb a b) (k : Fl lb b c) : Fl lb a c := ⟨k.os.trans h.os, k.tape.trans h.tape, k.output.trans h.output, Nat.le_trans h.size k.size, fun j hj hn => (k.block j (Nat.lt_of_lt_of_le hj h.size) hn).trans (h.block j hj hn)⟩
theorem Fl.bw {lb : Nat} {W w w' : World} (h : Fl lb w w') (hb : BW W w) (hl : W.heap.size ≤ lb) : BW W w' := ⟨h.os.trans hb.os, h.tape.trans hb.tape, h.output.trans hb.output, Nat.le_trans hb.size h.size, fun k hk => (h.block k (Nat.lt_of_lt_of_le hk hb.size) (by omega)).trans (hb.block k hk)⟩
theorem cell_block {w w' : World} {b : Nat} (h : w'.heap[b]? = w.heap[b]?) (o : Nat) : w'.cell? ⟨b, o, none⟩ = w.cell? ⟨b, o, none⟩ := by
  unfold World.cell?
  simp only [h]
theorem Fl.cells {lb : Nat} {w w' : World} (h : Fl lb w w') : ∀ b o, b < w.heap.size → ¬ b = lb → w'.cell? ⟨b, o, none⟩ = w.cell? ⟨b, o, none⟩ := fun b o hb hn => cell_block (h.block b hb hn) o
theorem Fl.set {lb : Nat} (w : World) (u : Value) : Fl lb w (w.setCell ⟨lb, 0, none⟩ u) := ⟨rfl, rfl, rfl, by simp [World.setCell], fun k hk hn => Below.heap_setCell _ _ _ _ (fun e => by first | exact hn e | exact hn e.symm)⟩
def LeftIs (w : World) (lb L : Nat) : Prop := w.heap[lb]? = some (.cells #[.int .i64 L] 3 (0, 0))
def FuncIs (w : World) (fb lb : Nat) : Prop := fb < w.heap.size ∧ w.cell? ⟨fb, 0, none⟩ = some (.func (.func 29) #[] #[.pointer (some ⟨lb, 0, none⟩), .pointer (some ⟨fb, 0, none⟩)])
theorem LeftIs.set {w : World} {lb L : Nat} (h : LeftIs w lb L) (M : Nat) : LeftIs (w.setCell ⟨lb, 0, none⟩ (.int .i64 M)) lb M := by
  unfold LeftIs at *
  simp [World.setCell, Array.getElem?_modify, h]
theorem LeftIs.bw {w w' : World} {lb L : Nat} (h : LeftIs w lb L) (k : BW w w') : LeftIs w' lb L := (k.block lb (Array.getElem?_eq_some_iff.1 h).1).trans h
theorem LeftIs.lt {w : World} {lb L : Nat} (h : LeftIs w lb L) : lb < w.heap.size := (Array.getElem?_eq_some_iff.1 h).1
/-- How many nodes are left behind a node, so deep; none, if it doesn't fit. -/
def wi : (n : Nat) → Tr n → Nat → Nat → Option Nat
  | 0, _, _, _ => none
  | n + 1, t, d, L => if 60 < d ∨ L = 0 then none else (Nd.ks (K := Tr n) t).foldl (fun o x => o.bind (fun M => wi n x (d + 1) M)) (some (L - 1))
theorem wi_le : ∀ (n : Nat) (t : Tr n) (d L M : Nat), wi n t d L = some M → M ≤ L := by
  intro n
  induction n with
  | zero => intro t; exact t.elim
  | succ n ih =>
    intro t d L M h
    unfold wi at h
    split at h
    · cases h
    · have : ∀ (l : List (Tr n)) (o : Option Nat), (∀ m, o = some m → m ≤ L) → ∀ m, l.foldl (fun o x => o.bind (fun M => wi n x (d + 1) M)) o = some m → m ≤ L := by
        intro l
        induction l with
        | nil => intro o ho m hm; exact ho m hm
        | cons a r ihr =>
          intro o ho m hm
          refine ihr _ (fun m' hm' => ?_) m hm
          cases o with
          | none => cases hm'
          | some q => have := ih a _ _ _ hm'; have := ho q rfl; omega
      exact this _ _ (fun m hm => by cases hm; omega) M h
theorem foldl_none {n : Nat} (f : Tr n → Nat → Option Nat) : ∀ l : List (Tr n), l.foldl (fun o x => o.bind (f x)) none = none
  | [] => rfl
  | a :: r => foldl_none f r
theorem fold_snoc {n : Nat} (f : Tr n → Nat → Option Nat) {l : List (Tr n)} {i : Nat} {x : Tr n} (h : l[i]? = some x) (o : Option Nat) : (l.take (i + 1)).foldl (fun o x => o.bind (f x)) o = ((l.take i).foldl (fun o x => o.bind (f x)) o).bind (f x) := by
  rw [List.take_add_one, h, List.foldl_append]; rfl
theorem fold_miss {n : Nat} (f : Tr n → Nat → Option Nat) {l : List (Tr n)} {i : Nat} (o : Option Nat) (h : (l.take i).foldl (fun o x => o.bind (f x)) o = none) : l.foldl (fun o x => o.bind (f x)) o = none := by
  rw [← List.take_append_drop i l, List.foldl_append, h, foldl_none]
def FitsAt (n : Nat) : Prop := ∀ (v : Value) (t : Tr n) (d L : Nat) (W w : World) (lb fb : Nat), NodeAt W n v t → BW W w → W.heap.size ≤ lb → ¬ fb = lb → LeftIs w lb L → FuncIs w fb lb → d ≤ 61 → L ≤ 4000 →
  Calls Tryd.prog 29 #[v, .int .i64 d, .pointer (some ⟨lb, 0, none⟩), .pointer (some ⟨fb, 0, none⟩)] w fun e w' => e = .returned (.bool (wi n t d L).isSome) ∧ (∃ M, LeftIs w' lb M ∧ (∀ q, wi n t d L = some q → M = q)) ∧ Fl lb w w'
set_option maxRecDepth 100000 in
set_option maxHeartbeats 2000000 in
theorem fits1_any : ∀ n, FitsAt n := by
  intro n
  induction n with
  | zero => intro v t d L W w lb fb h; exact h.elim
  | succ n ih =>
    intro v t d L W w lb fb h hW hlb hfl hL hF hd hL4
    have IH : Hid (FitsAt n) := ih
    obtain ⟨na, nl, nc, ka, kl, kc, rfl, wf, a1, a2, a3, a4, s1, s2⟩ := h
    have hml : kl ≤ 9223372036854775807 := by unfold maxLen at a4; omega
    have S2 : Hid (SeqAt (NodeAt W n) W ka kl (Nd.ks (K := Tr n) t)) := s2
    have L2 : Hid ((Nd.ks (K := Tr n) t).length = kl) := s2.1
    have HWI : Hid (wi (n + 1) t d L = if 60 < d ∨ L = 0 then none else (Nd.ks (K := Tr n) t).foldl (fun o x => o.bind (fun M => wi n x (d + 1) M)) (some (L - 1))) := rfl
    have hlt := hL.lt
    have hF1 := hF.1
    have HL : Hid (LeftIs w lb L) := hL
    have HF : Hid (FuncIs w fb lb) := hF
    have c0 : ∀ ob, (w.alloc ob).cell? ⟨lb, 0, none⟩ = some (.int .i64 L) := fun ob => by
      rw [BW.cells (BW.alloc (BW.refl w) ob) lb 0 hlt, Lib.cell_of_heap hL]; rfl
    have c1 : ∀ ob, (w.alloc ob).frozen? ⟨lb, 0, none⟩ = false := fun ob => by
      rw [BW.froz (BW.alloc (BW.refl w) ob) lb 0 hlt]; exact Lib.frozen_of_heap hL 0
    generalize wi (n + 1) t d L = R at *
    generalize Nd.k (K := Tr n) t = tk at *
    generalize Nd.n (K := Tr n) t = tn at *
    generalize Nd.s (K := Tr n) t = ts at *
    clear ih s1 s2 wf a1 a2 a4 hL hF
    by_cases hbad : 60 < d ∨ L = 0
    · have HR : Hid (R = none) := by show R = none; rw [HWI.out, if_pos hbad]
      clear HWI
      by_cases h60 : 60 < d
      · have e1 : decide ((60 : Int) < (d : Int)) = true := by simp; omega
        go_enter Tryd.func29, Tryd.ntmps29
        go_wp2_with (fail)
        go_ret
        exact ⟨by rw [HR.out]; rfl, ⟨L, HL.out.bw (BW.alloc (BW.refl w) _), fun q h => by rw [HR.out] at h; cases h⟩, BW.fl (BW.alloc (BW.refl w) _) lb⟩
      · have e1 : decide ((60 : Int) < (d : Int)) = false := by simp; omega
        obtain rfl : L = 0 := by omega
        go_enter Tryd.func29, Tryd.ntmps29
        go_wp2_with (fail)
        go_ret
        exact ⟨by rw [HR.out]; rfl, ⟨0, HL.out.bw (BW.alloc (BW.refl w) _), fun q h => by rw [HR.out] at h; cases h⟩, BW.fl (BW.alloc (BW.refl w) _) lb⟩
    · have e1 : decide ((60 : Int) < (d : Int)) = false := by simp; omega
      have e2 : ((L : Int) == 0) = false := by simp; omega
      have HR : Hid (R = (Nd.ks (K := Tr n) t).foldl (fun o x => o.bind (fun M => wi n x (d + 1) M)) (some (L - 1))) := by show R = _; rw [HWI.out, if_neg hbad]
      have hd60 : d ≤ 60 := by omega
      have hL1 : 1 ≤ L := by omega
      have hw1 : wrap64 ((L : Int) - 1) = ((L - 1 : Nat) : Int) := by simp only [wrap64]; omega
      clear HWI hbad
      go_enter Tryd.func29, Tryd.ntmps29
      go_wp2_with (fail)
      go_loopw [20] (fun i w' => ∃ (j M : Nat), j ≤ kl ∧ i = .int .i64 j ∧ LeftIs w' lb M ∧ Hid (((Nd.ks (K := Tr n) t).take j).foldl (fun o x => o.bind (fun M => wi n x (d + 1) M)) (some (L - 1)) = some M) ∧ M ≤ 4000 ∧ Fl lb w w') (fun i _ => kl - (intOf i).toNat)
      case atStart =>
        refine ⟨0, L - 1, Nat.zero_le _, rfl, ?_, rfl, by omega, Fl.trans (Fl.set w _) (BW.fl (BW.alloc (BW.refl _) _) lb)⟩
        have := (HL.out.set (L - 1)).bw (BW.alloc (BW.refl _) (.cells #[.int .u8 tk, .int .i64 tn, .string ts, .slice na nl nc, .slice ka kl kc] 25))
        rw [show ((L - 1 : Nat) : Int) = (L : Int) - 1 by omega] at this
        exact this
      case round =>
        obtain ⟨j, M, hj, rfl, hLM, HA, hM4, hfr⟩ := hrel
        have hsz := hfr.size
        have hbW : BW W wr := hfr.bw hW hlb
        have gf : wr.cell? ⟨fb, 0, none⟩ = some (.func (.func 29) #[] #[.pointer (some ⟨lb, 0, none⟩), .pointer (some ⟨fb, 0, none⟩)]) := by rw [hfr.cells _ _ hF1 hfl]; exact HF.out.2
        have HF2 : Hid (FuncIs wr fb lb) := ⟨by omega, gf⟩
        have HLM : Hid (LeftIs wr lb M) := hLM
        clear hLM
        by_cases hjk : j < kl
        · obtain ⟨bk, off, x, rfl, hbl, hx, r, hr, hax⟩ := SeqAt.get S2.out hjk
          have HX : Hid (NodeAt W n r.v x) := hax
          have HXX : Hid _ := hx
          obtain ⟨d0, d1, d2, d3, d4⟩ := hr.bw hbW hbl
          have hzW := hW.size
          have gf' := fun ob => (BW.cells (BW.alloc (BW.refl wr) ob) fb 0 (by omega)).trans gf
          have C : Hid (∀ w2, BW wr w2 → Calls Tryd.prog 29 #[r.v, .int .i64 ((d : Int) + 1), .pointer (some ⟨lb, 0, none⟩), .pointer (some ⟨fb, 0, none⟩)] w2 fun e w' => e = .returned (.bool (wi n x (d + 1) M).isSome) ∧ (∃ M', LeftIs w' lb M' ∧ (∀ q, wi n x (d + 1) M = some q → M' = q)) ∧ Fl lb w2 w') := fun w2 h2 => by
            have := IH.out r.v x (d + 1) M W w2 lb fb HX.out (BW.trans hbW h2) hlb hfl (HLM.out.bw h2) ⟨Nat.lt_of_lt_of_le HF2.out.1 h2.size, (h2.cells fb 0 HF2.out.1).trans gf⟩ (by omega) hM4
            push_cast at this
            exact this
          clear hax hx hr
          go_wp2_with (fail)
          refine (C.out _ (BW.alloc (BW.refl wr) _)).mono ?_
          rintro e w2 ⟨rfl, ⟨M', hL', hM'⟩, hf2⟩
          have HL' : Hid _ := hL'
          have HFR : Hid (Fl lb w w2) := Fl.trans hfr (Fl.trans (BW.fl (BW.alloc (BW.refl wr) _) lb) hf2)
          clear hL' hf2
          have HS := fold_snoc (fun x M => wi n x (d + 1) M) HXX.out (some (L - 1))
          rw [HA.out] at HS
          cases hwx : wi n x (d + 1) M with
          | none =>
            have HR2 : Hid (R = none) := by
              show R = none
              rw [HR.out]
              refine fold_miss (fun x M => wi n x (d + 1) M) (i := j + 1) _ ?_
              rw [HS]; exact hwx
            clear hwx hM' HS
            go_wp2_with (fail)
            go_ret
            exact ⟨by rw [HR2.out]; rfl, ⟨M', HL'.out, fun q h => by rw [HR2.out] at h; cases h⟩, HFR.out⟩
          | some q =>
            obtain rfl : M' = q := hM' q hwx
            have HS2 : Hid (((Nd.ks (K := Tr n) t).take (j + 1)).foldl (fun o x => o.bind (fun M => wi n x (d + 1) M)) (some (L - 1)) = some M') := by
              show _ = some M'
              exact HS.trans hwx
            have hM2 : M' ≤ 4000 := by have := wi_le n x _ _ _ hwx; omega
            clear hwx hM' HS
            go_wp2_with (fail)
            go_roundw
            case rel => exact ⟨j + 1, M', by omega, by go_num, HL'.out, HS2, hM2, HFR.out⟩
            case measure => simp [intOf]; omega
        · have hjn : kl = j := by omega
          have HR2 : Hid (R = some M) := by
            show R = _
            have := HA.out
            rw [List.take_of_length_le (by rw [L2.out]; omega)] at this
            rw [HR.out, this]
          go_wp2_with (fail)
          go_ret
          exact ⟨by rw [HR2.out]; rfl, ⟨M, HLM.out, fun q h => by rw [HR2.out] at h; cases h; rfl⟩, hfr⟩

end Go.Proofs.YtijoadkjkbkjgaaDoor
