import Derived.Test.YtijoadkjkbkjgaaDoorF9
namespace Go.Proofs.YtijoadkjkbkjgaaDoor
open Go.RowKit
set_option linter.unusedVariables false
set_option linter.unusedSimpArgs false

/-- A node of two parts, that lie in a new row. -/
theorem pair_at {n : Nat} {a b : Tr n} {w w' : World} {k : Int} {s : ByteArray} {r1 r2 : Rw} (h0 : 0 ≤ k) (h1 : k ≤ 255) (hs : s.size ≤ maxLen) (ha : NodeAt w n r1.v a) (hc : NodeAt w n r2.v b) (h : BW (w.alloc (.cells #[.int .u8 r1.k, .int .i64 r1.n, .string r1.s, .slice r1.na r1.nl r1.nc, .slice r1.ka r1.kl r1.kc, .int .u8 r2.k, .int .i64 r2.n, .string r2.s, .slice r2.na r2.nl r2.nc, .slice r2.ka r2.kl r2.kc] 25)) w') : NodeAt w' (n + 1) (ndv k 0 s none 0 0 (some ⟨w.heap.size, 0, none⟩) 2 2) ((⟨k, 0, s, [], [a, b]⟩ : Nd (Tr n)) : Tr (n + 1)) := by
  have hb : BW w w' := BW.trans (BW.alloc (BW.refl _) _) h
  obtain ⟨c1, c2, c3⟩ := cells2 h
  exact ⟨none, 0, 0, _, 2, 2, rfl, ⟨h0, h1, (show (-9223372036854775808 : Int) ≤ 0 by decide), (show (0 : Int) ≤ 9223372036854775807 by decide), hs⟩, Nat.le_refl _, Nat.zero_le _, Nat.le_refl _, by decide, StrsAt.nil, SeqAt.two c3 c1 c2 (ha.bw hb) (hc.bw hb)⟩
abbrev xs1 : ByteArray := ⟨#[120]⟩
def exL : Tr 2 := (⟨8, 0, xs1, [], [leaf 0 5 0 xs1, leaf 0 5 0 xs1]⟩ : Nd (Tr 1))
theorem exL_may : mayB 2 exL = true := by decide +kernel
theorem exL_chk : chk 2 exL = (xs1, 14) := by
  unfold chk
  rw [exL_may]
  have : fr 2 exL [] [] = [xs1] := by decide +kernel
  rw [this]; rfl
set_option maxRecDepth 100000 in
set_option maxHeartbeats 4000000 in
theorem awake_any (w : World) (hT : Tw w) : Calls Tryd.prog 8 #[] w fun e w' => e = .returned (.bool true) ∧ BW w w' := by
  have CC : Hid (∀ w', BW ((w.alloc (.cells #[.int .u8 5, .int .i64 0, .string ⟨#[120]⟩, .slice none 0 0, .slice none 0 0] 25)).alloc (.cells #[.int .u8 5, .int .i64 0, .string ⟨#[120]⟩, .slice none 0 0, .slice none 0 0, .int .u8 5, .int .i64 0, .string ⟨#[120]⟩, .slice none 0 0, .slice none 0 0] 25)) w' → Calls Tryd.prog 10 #[ndv 8 0 ⟨#[120]⟩ none 0 0 (some ⟨w.heap.size + 1, 0, none⟩) 2 2] w' fun e w'' => e = .returned (.tuple #[.string ⟨#[120]⟩, .int .i64 14]) ∧ BW w' w'') := fun w' hw => by
    have hl : Wf (⟨5, 0, xs1, [], []⟩ : Nd (Tr 0)) := wf_small _ _ _ _ _ (by decide) (by decide) (by decide) (by decide) (by decide)
    have hN := pair_at (w := w.alloc (.cells #[.int .u8 5, .int .i64 0, .string ⟨#[120]⟩, .slice none 0 0, .slice none 0 0] 25)) (w' := w') (k := 8) (s := xs1) (r1 := ⟨5, 0, xs1, none, 0, 0, none, 0, 0⟩) (r2 := ⟨5, 0, xs1, none, 0, 0, none, 0, 0⟩) (by decide) (by decide) (by decide) (leaf_at _ 0 5 0 xs1 hl) (leaf_at _ 0 5 0 xs1 hl) hw
    rw [show (w.alloc (.cells #[.int .u8 5, .int .i64 0, .string ⟨#[120]⟩, .slice none 0 0, .slice none 0 0] 25)).heap.size = w.heap.size + 1 by simp] at hN
    have := Check_any 2 _ exL w' hN (by decide +kernel) (hT.bw (BW.trans (BW.alloc (BW.alloc (BW.refl w) _) _) hw))
    rw [exL_chk] at this
    exact this
  clear hT
  go_enter Tryd.func8, Tryd.ntmps8
  go_wp2_with (first | (go_at_call 10; refine (CC.out _ (BW.refl _)).mono ?_; rintro e w1 ⟨rfl, b1⟩))
  go_ret
  exact ⟨rfl, (by repeat (first | exact BW.refl _ | assumption | apply BW.alloc | apply BW.drewN | apply BW.drew | (refine BW.setCell ?_ (by first | omega | (simp; done) | (simp; omega)) _) | (refine BW.trans ?_ (by assumption))))⟩

end Go.Proofs.YtijoadkjkbkjgaaDoor
