import Derived.Test.YtijoadkjkbkjgaaDoorF11
namespace Go.Proofs.YtijoadkjkbkjgaaDoor
open Go.RowKit
set_option linter.unusedVariables false
set_option linter.unusedSimpArgs false

theorem set5 {w : World} {g T : Nat} {x y z u v a c d e f : Value} (h : w.heap[g]? = some (.cells #[x, y, z, u, v] T (0, 0))) : (((((w.setCell ⟨g, 0, none⟩ a).setCell ⟨g, 1, none⟩ c).setCell ⟨g, 2, none⟩ d).setCell ⟨g, 3, none⟩ e).setCell ⟨g, 4, none⟩ f).heap[g]? = some (.cells #[a, c, d, e, f] T (0, 0)) := by
  have h1 := heap_setCell_same w g 0 _ T a h
  have h2 := heap_setCell_same _ g 1 _ T c h1
  have h3 := heap_setCell_same _ g 2 _ T d h2
  have h4 := heap_setCell_same _ g 3 _ T e h3
  exact heap_setCell_same _ g 4 _ T f h4
theorem set5o {w : World} {g k : Nat} {a c d e f : Value} (hk : k ≠ g) : (((((w.setCell ⟨g, 0, none⟩ a).setCell ⟨g, 1, none⟩ c).setCell ⟨g, 2, none⟩ d).setCell ⟨g, 3, none⟩ e).setCell ⟨g, 4, none⟩ f).heap[k]? = w.heap[k]? :=
  (heap_setCell_other _ ⟨g, 4, none⟩ k f hk).trans ((heap_setCell_other _ ⟨g, 3, none⟩ k e hk).trans ((heap_setCell_other _ ⟨g, 2, none⟩ k d hk).trans ((heap_setCell_other _ ⟨g, 1, none⟩ k c hk).trans (heap_setCell_other _ ⟨g, 0, none⟩ k a hk))))
theorem CellsAt.of5 {w : World} {g k o : Nat} {r : Rw} {a c d e f : Value} (hk : ¬ k = g) (h : CellsAt w k o r) : CellsAt (((((w.setCell ⟨g, 0, none⟩ a).setCell ⟨g, 1, none⟩ c).setCell ⟨g, 2, none⟩ d).setCell ⟨g, 3, none⟩ e).setCell ⟨g, 4, none⟩ f) k o r := by
  obtain ⟨h0, h1, h2, h3, h4⟩ := h
  have F := fun o => cell_block (set5o (w := w) (g := g) (a := a) (c := c) (d := d) (e := e) (f := f) hk) o
  exact ⟨(F _).trans h0, (F _).trans h1, (F _).trans h2, (F _).trans h3, (F _).trans h4⟩
theorem leaf_q (P : Nat → Prop) (W : World) (n : Nat) (k i : Int) (s : ByteArray) (h : Wf (⟨k, i, s, [], []⟩ : Nd (Tr n))) : NodeQ P W (n + 1) (ndv k i s none 0 0 none 0 0) ((⟨k, i, s, [], []⟩ : Nd (Tr n)) : Tr (n + 1)) :=
  ⟨none, 0, 0, none, 0, 0, rfl, h, ⟨Nat.le_refl _, Nat.zero_le _, Nat.le_refl _, Nat.zero_le _⟩, ⟨rfl, Nat.zero_le _, (by intro s hs; cases hs), .inl rfl⟩, ⟨rfl, Nat.zero_le _, .inl rfl⟩, .inl rfl, .inl rfl⟩
/-- A node's cells. -/
def rcs (r : Rw) : List Value := [.int .u8 r.k, .int .i64 r.n, .string r.s, .slice r.na r.nl r.nc, .slice r.ka r.kl r.kc]
set_option maxRecDepth 100000 in
set_option maxHeartbeats 4000000 in
theorem lets_walk (k : Nat) (hk : k ≤ 255) (s : ByteArray) (hs : s.size ≤ maxLen) (w : World) (hT : Tw w) : Calls Tryd.prog 6 #[.int .u8 k, .string s] w fun e w' => e = .returned (.bool true) ∧ BW w w' := by
  have CA : Hid (∀ w', BW w w' → Calls Tryd.prog 8 #[] w' fun e w'' => e = .returned (.bool true) ∧ BW w' w'') := fun w' hw => awake_any w' (hT.bw hw)
  by_cases h1 : 100 < s.size
  · have e1 : decide ((100 : Int) < (s.size : Int)) = true := decide_eq_true (by omega)
    clear hT
    go_enter Tryd.func6, Tryd.ntmps6
    go_wp2_with (first | (go_at_call 8; refine (CA.out _ (by repeat (first | exact BW.refl _ | assumption | apply BW.alloc | apply BW.drewN | apply BW.drew | (refine BW.setCell ?_ (by first | omega | (simp; done) | (simp; omega)) _) | (refine BW.trans ?_ (by assumption))))).mono ?_; rintro e w1 ⟨rfl, b1⟩))
    go_ret
    exact ⟨rfl, (by repeat (first | exact BW.refl _ | assumption | apply BW.alloc | apply BW.drewN | apply BW.drew | (refine BW.setCell ?_ (by first | omega | (simp; done) | (simp; omega)) _) | (refine BW.trans ?_ (by assumption))))⟩
  · have e1 : decide ((100 : Int) < (s.size : Int)) = false := decide_eq_false (by omega)
    have hl : Wf (⟨5, 0, s, [], []⟩ : Nd (Tr 0)) := ⟨(show (0 : Int) ≤ 5 by decide), (show (5 : Int) ≤ 255 by decide), (show (-9223372036854775808 : Int) ≤ 0 by decide), (show (0 : Int) ≤ 9223372036854775807 by decide), hs⟩
    have CM : Hid (∀ w', BW w w' → Calls Tryd.prog 11 #[ndv 5 0 s none 0 0 none 0 0] w' fun e w'' => e = .returned (.bool (mayB 1 (leaf 0 5 0 s))) ∧ BW w' w'') := fun w' hw => refMay_any 1 _ _ w' (leaf_at w' 0 5 0 s hl) (show 1 + 0 ≤ 2000000 by decide)
    cases hm : mayB 1 (leaf 0 5 0 s) with
    | false =>
      rw [hm] at CM
      clear hT hm hl
      go_enter Tryd.func6, Tryd.ntmps6
      go_wp2_with (first | (go_at_call 11; refine (CM.out _ (by repeat (first | exact BW.refl _ | assumption | apply BW.alloc | apply BW.drewN | apply BW.drew | (refine BW.setCell ?_ (by first | omega | (simp; done) | (simp; omega)) _) | (refine BW.trans ?_ (by assumption))))).mono ?_; rintro e w1 ⟨rfl, b1⟩) | (go_at_call 8; refine (CA.out _ (by repeat (first | exact BW.refl _ | assumption | apply BW.alloc | apply BW.drewN | apply BW.drew | (refine BW.setCell ?_ (by first | omega | (simp; done) | (simp; omega)) _) | (refine BW.trans ?_ (by assumption))))).mono ?_; rintro e w2 ⟨rfl, b2⟩))
      go_ret
      exact ⟨rfl, (by repeat (first | exact BW.refl _ | assumption | apply BW.alloc | apply BW.drewN | apply BW.drew | (refine BW.setCell ?_ (by first | omega | (simp; done) | (simp; omega)) _) | (refine BW.trans ?_ (by assumption))))⟩
    | true =>
      rw [hm] at CM
      have HN : Hid (nmB s = true) := var_nm hm
      have HL : Hid (Wf (⟨5, 0, s, [], []⟩ : Nd (Tr 0))) := hl
      have HT : Hid (Tw w) := hT
      clear hT hm hl
      go_enter Tryd.func6, Tryd.ntmps6
      go_wp2_with (fail)
      refine (CM.out _ (by repeat (first | exact BW.refl _ | assumption | apply BW.alloc | apply BW.drewN | apply BW.drew | (refine BW.setCell ?_ (by first | omega | (simp; done) | (simp; omega)) _) | (refine BW.trans ?_ (by assumption))))).mono ?_
      rintro e w1 ⟨rfl, b1⟩
      obtain ⟨⟨g0, g1, g2, g3, g4⟩, gz, gb⟩ := bx_at b1
      go_wp2_with (fail)
      have hzz : w1.heap.size < (w1.alloc (.cells #[.int .u8 5, .int .i64 0, .string s, .slice none 0 0, .slice none 0 0] 25)).heap.size := by simp
      have HG : Hid (BW w w1) := gb
      clear g0 g1 g2 g3 g4 b1 CM
      go_loopw [7] (fun i wr => ∃ (j : Nat) (r : Rw), j ≤ k % 20 ∧ i = .int .i64 j ∧ Hid (wr.heap[w1.heap.size]? = some (.cells (rcs r).toArray 25 (0, 0))) ∧ Hid (NodeQ (fun b => w1.heap.size < b) wr (j + 1) r.v (lt s j)) ∧ BW w1 wr) (fun i _ => k % 20 - (intOf i).toNat)
      case atStart => exact ⟨0, ⟨5, 0, s, none, 0, 0, none, 0, 0⟩, Nat.zero_le _, rfl, heap_alloc_new _ _, leaf_q _ _ 0 5 0 s HL.out, BW.alloc (BW.refl w1) _⟩
      case round =>
        obtain ⟨j, r, hj, rfl, hg, hq, hb⟩ := hrel
        have hzr := hb.size
        obtain ⟨rk, rn, rs, rna, rnl, rnc, rka, rkl, rkc⟩ := r
        have HG6 : Hid (wr.heap[w1.heap.size]? = some (.cells #[.int .u8 rk, .int .i64 rn, .string rs, .slice rna rnl rnc, .slice rka rkl rkc] 25 (0, 0))) := hg.out
        have hl6 : w1.heap.size < wr.heap.size := (Array.getElem?_eq_some_iff.1 HG6.out).1
        have c0 : wr.cell? ⟨w1.heap.size, 0, none⟩ = some (.int .u8 rk) := by rw [Lib.cell_of_heap HG6.out]; rfl
        have c1 : wr.cell? ⟨w1.heap.size, 1, none⟩ = some (.int .i64 rn) := by rw [Lib.cell_of_heap HG6.out]; rfl
        have c2 : wr.cell? ⟨w1.heap.size, 2, none⟩ = some (.string rs) := by rw [Lib.cell_of_heap HG6.out]; rfl
        have c3 : wr.cell? ⟨w1.heap.size, 3, none⟩ = some (.slice rna rnl rnc) := by rw [Lib.cell_of_heap HG6.out]; rfl
        have c4 : wr.cell? ⟨w1.heap.size, 4, none⟩ = some (.slice rka rkl rkc) := by rw [Lib.cell_of_heap HG6.out]; rfl
        have cz : ∀ o, wr.frozen? ⟨w1.heap.size, o, none⟩ = false := fun o => Lib.frozen_of_heap HG6.out o
        have HQ : Hid (NodeQ (fun b => w1.heap.size < b) wr (j + 1) (ndv rk rn rs rna rnl rnc rka rkl rkc) (lt s j)) := hq.out
        have HBr : Hid (BW w1 wr) := hb
        clear hg hq hb
        by_cases hjk : j < k % 20
        · have n1 : ¬ w1.heap.size = wr.heap.size := by omega
          have n2 : ¬ wr.heap.size = w1.heap.size := by omega
          go_wp2_with (fail)
          obtain ⟨W5, hW5⟩ : ∃ W5, W5 = ((((wr.setCell ⟨w1.heap.size, 0, none⟩ (.int .u8 8)).setCell ⟨w1.heap.size, 1, none⟩ (.int .i64 0)).setCell ⟨w1.heap.size, 2, none⟩ (.string s)).setCell ⟨w1.heap.size, 3, none⟩ (.slice none 0 0)).setCell ⟨w1.heap.size, 4, none⟩ (.slice (some ⟨wr.heap.size, 0, none⟩) 2 2) := ⟨_, rfl⟩
          have s5 : W5.heap.size = wr.heap.size := by rw [hW5]; simp [World.setCell]
          have h56 : Hid (W5.heap[w1.heap.size]? = some (.cells #[.int .u8 8, .int .i64 0, .string s, .slice none 0 0, .slice (some ⟨wr.heap.size, 0, none⟩) 2 2] 25 (0, 0))) := by show _ = _; rw [hW5]; exact set5 HG6.out
          have hK5 : Hid (∀ b, ¬ b = w1.heap.size → W5.heap[b]? = wr.heap[b]?) := fun b hb => by rw [hW5]; exact set5o hb
          have hB5 : Hid (BW w1 W5) := by
            show BW w1 W5
            rw [hW5]
            exact BW.setCell (BW.setCell (BW.setCell (BW.setCell (BW.setCell HBr.out (Nat.le_refl _) _) (Nat.le_refl _) _) (Nat.le_refl _) _) (Nat.le_refl _) _) (Nat.le_refl _) _
          go_roundw
          case rel =>
            rw [← hW5]
            clear hW5 c0 c1 c2 c3 c4 cz
            refine ⟨j + 1, ⟨8, 0, s, none, 0, 0, some ⟨wr.heap.size, 0, none⟩, 2, 2⟩, by omega, by go_num, ((BW.alloc (BW.refl W5) _).block w1.heap.size (by omega)).trans h56.out, ?_, BW.alloc hB5.out _⟩
            obtain ⟨q1, q2, q3⟩ := cells2 (w := W5) (r1 := ⟨1, j, ⟨#[]⟩, none, 0, 0, none, 0, 0⟩) (r2 := ⟨rk, rn, rs, rna, rnl, rnc, rka, rkl, rkc⟩) (BW.refl _)
            rw [s5] at q1 q2
            exact ⟨none, 0, 0, some ⟨wr.heap.size, 0, none⟩, 2, 2, rfl, ⟨(show (0 : Int) ≤ 8 by decide), (show (8 : Int) ≤ 255 by decide), (show (-9223372036854775808 : Int) ≤ 0 by decide), (show (0 : Int) ≤ 9223372036854775807 by decide), hs⟩, ⟨Nat.le_refl _, Nat.zero_le _, Nat.le_refl _, by decide⟩, StrsAt.nil, SeqAt.two (r1 := ⟨1, j, ⟨#[]⟩, none, 0, 0, none, 0, 0⟩) (r2 := ⟨rk, rn, rs, rna, rnl, rnc, rka, rkl, rkc⟩) (by simp; omega) q1 q2 (leaf_q _ _ j 1 j ⟨#[]⟩ ⟨(show (0 : Int) ≤ 1 by decide), (show (1 : Int) ≤ 255 by decide), (show (-9223372036854775808 : Int) ≤ (j : Int) by omega), (show (j : Int) ≤ 9223372036854775807 by omega), (show (0 : Nat) ≤ maxLen by decide)⟩) (NodeQ.keep (fun _ h => h) (fun b hb hbz => ((BW.alloc (BW.refl W5) _).block b (by omega)).trans (hK5.out b (by omega))) (by simp; omega) HQ.out), .inl rfl, .inr ⟨_, _, rfl, hl6⟩⟩
          case measure => simp [intOf]; omega
        · obtain rfl : j = k % 20 := by omega
          have hjb : k % 20 ≤ 20 := by omega
          have hBW : BW w wr := BW.trans HG.out HBr.out
          have CF : Hid (Calls Tryd.prog 9 #[ndv rk rn rs rna rnl rnc rka rkl rkc] wr fun e w'' => ∃ v, e = .returned v ∧ StrsV w'' v (if k % 20 = 0 then [s] else []) ∧ BW wr w'') := by
            have := Free_any (k % 20 + 1) _ (lt s (k % 20)) wr HQ.out.at' (lt_n200 s _) (HT.out.bw hBW)
            rw [lt_fre HN.out (by omega) _ hjb] at this
            exact this
          have HBW : Hid (BW w wr) := hBW
          clear hBW
          by_cases hk0 : k % 20 = 0
          · rw [if_pos hk0] at CF
            have t0 : ((k : Int) % 20 == 0) = true := by simp; omega
            have t1 : ((k : Int) % 20) = 0 := by omega
            go_wp2_with (fail)
            refine CF.out.mono ?_
            rintro e w3 ⟨v, rfl, hv, b3⟩
            obtain ⟨ao, cp, hve, hsa, _, _⟩ := hv
            subst hve
            obtain ⟨b, off, x, rfl, hbl, hx, hxs, hc⟩ := StrsAt.get hsa (i := 0) (by simp)
            obtain rfl : s = x := by simpa using hx
            simp only [Nat.add_zero, List.length_cons, List.length_nil, Nat.zero_add] at hc ⊢
            have HB3 : Hid (BW w w3) := BW.trans HBW.out b3
            clear hsa hx b3 c0 c1 c2 c3 c4 cz
            have CA3 : Hid (∀ w', BW w3 w' → Calls Tryd.prog 8 #[] w' fun e w'' => e = .returned (.bool true) ∧ BW w' w'') := fun w' hw => CA.out w' (BW.trans HB3.out hw)
            go_wp2_with (first | (go_at_call 8; refine (CA3.out _ (by repeat (first | exact BW.refl _ | assumption | apply BW.alloc | apply BW.drewN | apply BW.drew | (refine BW.setCell ?_ (by first | omega | (simp; done) | (simp; omega)) _) | (refine BW.trans ?_ (by assumption))))).mono ?_; rintro e w4 ⟨rfl, b4⟩))
            go_ret
            exact ⟨rfl, BW.trans HB3.out b4⟩
          · rw [if_neg hk0] at CF
            have t0 : ((k : Int) % 20 == 0) = false := by simp; omega
            have t1 : ¬ ((k : Int) % 20) = 0 := by omega
            go_wp2_with (fail)
            refine CF.out.mono ?_
            rintro e w3 ⟨v, rfl, hv, b3⟩
            obtain ⟨ao, cp, hve, _, _, _⟩ := hv
            subst hve
            simp only [List.length_nil]
            have HB3 : Hid (BW w w3) := BW.trans HBW.out b3
            clear b3 c0 c1 c2 c3 c4 cz
            have CA3 : Hid (∀ w', BW w3 w' → Calls Tryd.prog 8 #[] w' fun e w'' => e = .returned (.bool true) ∧ BW w' w'') := fun w' hw => CA.out w' (BW.trans HB3.out hw)
            go_wp2_with (first | (go_at_call 8; refine (CA3.out _ (by repeat (first | exact BW.refl _ | assumption | apply BW.alloc | apply BW.drewN | apply BW.drew | (refine BW.setCell ?_ (by first | omega | (simp; done) | (simp; omega)) _) | (refine BW.trans ?_ (by assumption))))).mono ?_; rintro e w4 ⟨rfl, b4⟩))
            go_ret
            exact ⟨rfl, BW.trans HB3.out b4⟩

end Go.Proofs.YtijoadkjkbkjgaaDoor
