import Derived.Test.YtlacjiihbbgbeaaDoorN9
namespace Go.Proofs.YtlacjiihbbgbeaaDoor
open Go.RowKit
set_option linter.unusedVariables false
set_option linter.unusedSimpArgs false

theorem Gv.ord {w : World} (h : Gv w) : w.cell? ⟨2, 0, none⟩ = some (.string ⟨#[114, 101, 116, 117, 114, 110]⟩) ∧ w.cell? ⟨2, 1, none⟩ = some (.int .u8 17) ∧ w.cell? ⟨2, 2, none⟩ = some (.int .i64 1) ∧ w.cell? ⟨2, 3, none⟩ = some (.string ⟨#[111, 110]⟩) ∧ w.cell? ⟨2, 4, none⟩ = some (.int .u8 18) ∧ w.cell? ⟨2, 5, none⟩ = some (.int .i64 2) ∧ w.cell? ⟨2, 6, none⟩ = some (.string ⟨#[102, 105, 110, 97, 108, 108, 121]⟩) ∧ w.cell? ⟨2, 7, none⟩ = some (.int .u8 19) ∧ w.cell? ⟨2, 8, none⟩ = some (.int .i64 0) := by
  have H := h.2.2.2
  have F := fun j x hx => H j x hx
  exact ⟨by simpa using F 0 _ rfl, by simpa using F 1 _ rfl, by simpa using F 2 _ rfl, by simpa using F 3 _ rfl, by simpa using F 4 _ rfl, by simpa using F 5 _ rfl, by simpa using F 6 _ rfl, by simpa using F 7 _ rfl, by simpa using F 8 _ rfl⟩
/-- A clause's word, from a certain one on. -/
def pFrom (first : Nat) (st : Ps) : Pr Nat := match pExpect 3 st with
  | .error e => .error e
  | .ok (t, q) => match clOf first t.s with
    | none => .error (12, t.back)
    | some k => .ok (k, q)
theorem clOf_3 (s : List UInt8) : clOf 3 s = none := by unfold clOf; simp
theorem clOf_step (j : Nat) (s : List UInt8) (hj : j ≤ 2) (hn : ¬ s = (if j = 0 then [114, 101, 116, 117, 114, 110] else if j = 1 then [111, 110] else [102, 105, 110, 97, 108, 108, 121])) : clOf j s = clOf (j + 1) s := by
  rcases (by omega : j = 0 ∨ j = 1 ∨ j = 2) with rfl | rfl | rfl
  · simp only [if_true] at hn; unfold clOf; simp [hn]
  · simp only [show ¬ (1 : Nat) = 0 by decide, if_true, if_false] at hn; unfold clOf; simp [hn]
  · simp only [show ¬ (2 : Nat) = 0 by decide, show ¬ (2 : Nat) = 1 by decide, if_false] at hn; unfold clOf; simp [hn]
theorem clOf_hit (j : Nat) (s : List UInt8) (hj : j ≤ 2) (hn : s = (if j = 0 then [114, 101, 116, 117, 114, 110] else if j = 1 then [111, 110] else [102, 105, 110, 97, 108, 108, 121])) : clOf j s = some j := by
  rcases (by omega : j = 0 ∨ j = 1 ∨ j = 2) with rfl | rfl | rfl
  · simp only [if_true] at hn; subst hn; rfl
  · simp only [show ¬ (1 : Nat) = 0 by decide, if_true, if_false] at hn; subst hn; rfl
  · simp only [show ¬ (2 : Nat) = 0 by decide, show ¬ (2 : Nat) = 1 by decide, if_false] at hn; subst hn; rfl
set_option maxRecDepth 100000 in
set_option maxHeartbeats 4000000 in
theorem from_any (rb B N first : Nat) (hf : first ≤ 3) (st : Ps) (w : World) (h : RdP rb B N st w) (hG : Gv w) (hrb : 2 < rb) : Calls Tryd.prog 48 #[.pointer (some ⟨rb, 0, none⟩), .int .i64 first] w (PostP (fun _ v k => v = .int .i64 (k : Nat)) rb B N w (pFrom first st)) := by
  have hlt := h.lt
  have hBw := h.2.2.2.2.1
  have HG : Hid (Gv w) := hG
  have C : Hid (Calls Tryd.prog 19 #[.pointer (some ⟨rb, 0, none⟩), .int .u8 3] w (PostP (tvl N) rb B N w (pExpect 3 st))) := expect_any rb B N 3 (by omega) st _ h
  unfold pFrom
  cases hx : pExpect 3 st with
  | error er =>
    rw [hx] at C
    show Calls Tryd.prog 48 _ w (fun e w' => e = .panicked (thrP N er) ∧ Fl rb w w')
    have C2 : Hid (Calls Tryd.prog 19 #[.pointer (some ⟨rb, 0, none⟩), .int .u8 3] w (fun e w' => e = .panicked (thrP N er) ∧ Fl rb w w')) := C.out
    clear C h hx
    go_enter Tryd.func48, Tryd.ntmps48
    go_wp2_with (go_at_call 19; refine C2.out.mono ?_; rintro e w1 ⟨rfl, f1⟩)
    exact ⟨rfl, rfl, f1⟩
  | ok p =>
    obtain ⟨t, q⟩ := p
    rw [hx] at C
    have C2 : Hid (Calls Tryd.prog 19 #[.pointer (some ⟨rb, 0, none⟩), .int .u8 3] w (fun e w' => e = .returned (.agg #[.int .u8 t.kind, .string ⟨t.s.toArray⟩, .int .i64 t.n, .int .i64 ((N - t.back : Nat) : Int)]) ∧ TokOk t ∧ RdP rb B N q w' ∧ Fl rb w w')) := C.out.mono fun e w' hh => by
      obtain ⟨v, h1, ⟨h2, h3⟩, h4, h5⟩ := hh
      subst h2
      exact ⟨h1, h3, h4, h5⟩
    clear C hx h
    simp only
    generalize hR : (match clOf first t.s with
      | none => .error (12, t.back)
      | some k => .ok (k, q) : Pr Nat) = R
    have HRR : Hid ((match clOf first t.s with
      | none => .error (12, t.back)
      | some k => .ok (k, q) : Pr Nat) = R) := hR
    clear hR
    go_enter Tryd.func48, Tryd.ntmps48
    go_wp2_with (fail)
    refine C2.out.mono ?_
    rintro e w1 ⟨rfl, ok, R1, F1⟩
    have hz1 := F1.size
    have HF1 : Hid (Fl rb w w1) := F1
    have HR1 : Hid (RdP rb B N q w1) := R1
    clear F1 R1 C2
    go_upto_region 2 with fail
    obtain ⟨W, hW⟩ : ∃ W, W = w1.alloc (.cells #[.int .u8 t.kind, .string ⟨t.s.toArray⟩, .int .i64 t.n, .int .i64 ((N - t.back : Nat) : Int)] 50) := ⟨_, rfl⟩
    have bW : BW w1 W := by rw [hW]; exact BW.alloc (BW.refl _) _
    have hzW : w1.heap.size < W.heap.size := by rw [hW]; simp
    have x0 : W.cell? ⟨w1.heap.size, 0, none⟩ = some (.int .u8 t.kind) := by rw [hW]; exact cell_new _ _ _ 0
    have x1 : W.cell? ⟨w1.heap.size, 1, none⟩ = some (.string ⟨t.s.toArray⟩) := by rw [hW]; exact cell_new _ _ _ 1
    have x2 : W.cell? ⟨w1.heap.size, 2, none⟩ = some (.int .i64 t.n) := by rw [hW]; exact cell_new _ _ _ 2
    have x3 : W.cell? ⟨w1.heap.size, 3, none⟩ = some (.int .i64 ((N - t.back : Nat) : Int)) := by rw [hW]; exact cell_new _ _ _ 3
    rw [← hW]
    clear hW
    have HFW : Hid (Fl rb w W) := HF1.out.trans (bW.fl rb)
    have HRW : Hid (RdP rb B N q W) := HR1.out.bw bW
    clear HF1 HR1 bW
    go_wp2_with (fail)
    go_loopw [6] (fun i wr => ∃ j : Nat, j ≤ 3 ∧ i = .int .i64 j ∧ Hid (clOf first t.s = clOf j t.s) ∧ BW W wr) (fun i _ => 3 - (intOf i).toNat)
    case atStart => exact ⟨first, hf, rfl, rfl, (by repeat (first | exact BW.refl _ | assumption | apply BW.alloc | apply BW.drewN | apply BW.drew | (refine BW.setCell ?_ (by first | omega | (simp; done) | (simp; omega)) _) | (refine BW.trans ?_ (by assumption))))⟩
    case round =>
      obtain ⟨j, hj, rfl, HJ, hb⟩ := hrel
      obtain ⟨o0, o1, o2, o3, o4, o5, o6, o7, o8⟩ := (HG.out.fl (HFW.out.trans (hb.fl rb)) hrb).ord
      have y1 := (hb.cells w1.heap.size 1 (by omega)).trans x1
      have y3 := (hb.cells w1.heap.size 3 (by omega)).trans x3
      have HB : Hid (BW W wr) := hb
      clear hb x0 x1 x2 x3 o1 o2 o4 o5 o7 o8
      rcases (by omega : j = 0 ∨ j = 1 ∨ j = 2 ∨ j = 3) with rfl | rfl | rfl | rfl
      · by_cases he : t.s = [114, 101, 116, 117, 114, 110]
        · obtain rfl : R = .ok (0, q) := by rw [← HRR.out, HJ.out, clOf_hit 0 t.s (by decide) he]
          have q1 : (([114, 101, 116, 117, 114, 110] : List UInt8) == t.s) = true := by rw [he]; decide
          have q2 : (t.s == [114, 101, 116, 117, 114, 110]) = true := by rw [he]; decide
          clear HRR HJ he
          go_wp2_with (fail)
          go_quiet (fail)
          go_wp2_with (fail)
          go_ret
          exact ⟨_, rfl, rfl, HRW.out.bw (BW.drewN HB.out _), HFW.out.trans (BW.fl (BW.drewN HB.out _) rb)⟩
        · have HJ2 : Hid (clOf first t.s = clOf 1 t.s) := by show _ = _; rw [HJ.out, clOf_step 0 t.s (by decide) he]
          have q1 : (([114, 101, 116, 117, 114, 110] : List UInt8) == t.s) = false := by simp; exact fun e => he e.symm
          have q2 : (t.s == [114, 101, 116, 117, 114, 110]) = false := by simpa using he
          have q3 : ¬ ([114, 101, 116, 117, 114, 110] : List UInt8) = t.s := fun e => he e.symm
          clear HJ he
          go_wp2_with (fail)
          go_quiet (fail)
          go_wp2_with (fail)
          go_roundw
          case rel => exact ⟨1, by omega, by rfl, HJ2, BW.drewN HB.out _⟩
          case measure => simp [intOf]
      · by_cases he : t.s = [111, 110]
        · obtain rfl : R = .ok (1, q) := by rw [← HRR.out, HJ.out, clOf_hit 1 t.s (by decide) he]
          have q1 : (([111, 110] : List UInt8) == t.s) = true := by rw [he]; decide
          have q2 : (t.s == [111, 110]) = true := by rw [he]; decide
          clear HRR HJ he
          go_wp2_with (fail)
          go_quiet (fail)
          go_wp2_with (fail)
          go_ret
          exact ⟨_, rfl, rfl, HRW.out.bw (BW.drewN HB.out _), HFW.out.trans (BW.fl (BW.drewN HB.out _) rb)⟩
        · have HJ2 : Hid (clOf first t.s = clOf 2 t.s) := by show _ = _; rw [HJ.out, clOf_step 1 t.s (by decide) he]
          have q1 : (([111, 110] : List UInt8) == t.s) = false := by simp; exact fun e => he e.symm
          have q2 : (t.s == [111, 110]) = false := by simpa using he
          have q3 : ¬ ([111, 110] : List UInt8) = t.s := fun e => he e.symm
          clear HJ he
          go_wp2_with (fail)
          go_quiet (fail)
          go_wp2_with (fail)
          go_roundw
          case rel => exact ⟨2, by omega, by rfl, HJ2, BW.drewN HB.out _⟩
          case measure => simp [intOf]
      · by_cases he : t.s = [102, 105, 110, 97, 108, 108, 121]
        · obtain rfl : R = .ok (2, q) := by rw [← HRR.out, HJ.out, clOf_hit 2 t.s (by decide) he]
          have q1 : (([102, 105, 110, 97, 108, 108, 121] : List UInt8) == t.s) = true := by rw [he]; decide
          have q2 : (t.s == [102, 105, 110, 97, 108, 108, 121]) = true := by rw [he]; decide
          clear HRR HJ he
          go_wp2_with (fail)
          go_quiet (fail)
          go_wp2_with (fail)
          go_ret
          exact ⟨_, rfl, rfl, HRW.out.bw (BW.drewN HB.out _), HFW.out.trans (BW.fl (BW.drewN HB.out _) rb)⟩
        · have HJ2 : Hid (clOf first t.s = clOf 3 t.s) := by show _ = _; rw [HJ.out, clOf_step 2 t.s (by decide) he]
          have q1 : (([102, 105, 110, 97, 108, 108, 121] : List UInt8) == t.s) = false := by simp; exact fun e => he e.symm
          have q2 : (t.s == [102, 105, 110, 97, 108, 108, 121]) = false := by simpa using he
          have q3 : ¬ ([102, 105, 110, 97, 108, 108, 121] : List UInt8) = t.s := fun e => he e.symm
          clear HJ he
          go_wp2_with (fail)
          go_quiet (fail)
          go_wp2_with (fail)
          go_roundw
          case rel => exact ⟨3, by omega, by rfl, HJ2, BW.drewN HB.out _⟩
          case measure => simp [intOf]
      · obtain rfl : R = .error (12, t.back) := by rw [← HRR.out, HJ.out, clOf_3]
        clear HRR HJ
        go_wp2_with (fail)
        exact ⟨rfl, rfl, HFW.out.trans (HB.out.fl rb)⟩

end Go.Proofs.YtlacjiihbbgbeaaDoor
