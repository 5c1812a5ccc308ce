import Derived.Test.YtlacjiihbbgbeaaDoorN8
namespace Go.Proofs.YtlacjiihbbgbeaaDoor
open Go.RowKit
set_option linter.unusedVariables false
set_option linter.unusedSimpArgs false

theorem leaf_q (P : Nat → Prop) (W : World) (n : Nat) (k i : Int) (s : ByteArray) (h : Wf (⟨k, i, s, [], []⟩ : Nd (Tr n))) : NodeQ P W (n + 1) (ndv k i s none 0 0 none 0 0) ((⟨k, i, s, [], []⟩ : Nd (Tr n)) : Tr (n + 1)) :=
  ⟨none, 0, 0, none, 0, 0, rfl, h, ⟨Nat.le_refl _, Nat.zero_le _, Nat.le_refl _, Nat.zero_le _⟩, ⟨rfl, Nat.zero_le _, (by intro s hs; cases hs), .inl rfl⟩, ⟨rfl, Nat.zero_le _, .inl rfl⟩, .inl rfl, .inl rfl⟩
theorem wf_tok {K : Type} (k i : Int) (s : List UInt8) (h0 : 0 ≤ k) (h1 : k ≤ 255) (h2 : -9223372036854775808 ≤ i) (h3 : i ≤ 9223372036854775807) (h4 : s.length ≤ 100000) : Wf (⟨k, i, ⟨s.toArray⟩, [], []⟩ : Nd K) := ⟨h0, h1, h2, h3, by show s.toArray.size ≤ maxLen; simp; unfold maxLen; omega⟩
theorem plain_form (f : Nat) (s : List UInt8) (hs : s.length ≤ 100000) : ∃ k i u, plV s = ndv k i u none 0 0 none 0 0 ∧ pPlain f s = (⟨k, i, u, [], []⟩ : Nd (Tr f)) ∧ Wf (⟨k, i, u, [], []⟩ : Nd (Tr f)) := by
  unfold plV pPlain
  by_cases h1 : s = [116, 114, 117, 101]
  · rw [if_pos h1, if_pos h1]; exact ⟨2, 1, ⟨#[]⟩, rfl, rfl, wf_tok 2 1 [] (by decide) (by decide) (by decide) (by decide) (by simp)⟩
  · rw [if_neg h1, if_neg h1]
    by_cases h2 : s = [102, 97, 108, 115, 101]
    · rw [if_pos h2, if_pos h2]; exact ⟨2, 0, ⟨#[]⟩, rfl, rfl, wf_tok 2 0 [] (by decide) (by decide) (by decide) (by decide) (by simp)⟩
    · rw [if_neg h2, if_neg h2]
      by_cases h3 : s = [117, 110, 105, 116]
      · rw [if_pos h3, if_pos h3]; exact ⟨4, 0, ⟨#[]⟩, rfl, rfl, wf_tok 4 0 [] (by decide) (by decide) (by decide) (by decide) (by simp)⟩
      · rw [if_neg h3, if_neg h3]
        exact ⟨5, 0, ⟨s.toArray⟩, rfl, rfl, wf_tok 5 0 s (by decide) (by decide) (by decide) (by decide) hs⟩
set_option maxRecDepth 100000 in
set_option maxHeartbeats 4000000 in
theorem node_zero : NodeC 0 := by
  intro rb B N d st w hd h hG hrb
  obtain rfl : d = 61 := by omega
  obtain ⟨ts, g⟩ := st
  have hlt := h.lt
  have hB := h.2.2.2.2.1
  have HG : Hid (Gv w) := hG
  cases ts with
  | nil =>
    have C : Hid (∀ w', BW w w' → Calls Tryd.prog 15 #[.pointer (some ⟨rb, 0, none⟩)] w' fun e w'' => e = .panicked (thrP N (11, 0)) ∧ BW w' w'') := fun w' hb => take_nil rb B N g w' (h.bw hb)
    show Calls Tryd.prog 12 _ w (fun e w' => e = .panicked (thrP N (11, 0)) ∧ Fl rb w w')
    clear h
    go_enter Tryd.func12, Tryd.ntmps12
    go_wp2_with (go_at_call 15; refine (C.out _ (by repeat (first | exact BW.refl _ | assumption | apply BW.alloc | apply BW.drewN | apply BW.drew | (refine BW.setCell ?_ (by first | omega | (simp; done) | (simp; omega)) _) | (refine BW.trans ?_ (by assumption))))).mono ?_; rintro e w1 ⟨rfl, b1⟩)
    exact ⟨rfl, rfl, BW.fl (by repeat (first | exact BW.refl _ | assumption | apply BW.alloc | apply BW.drewN | apply BW.drew | (refine BW.setCell ?_ (by first | omega | (simp; done) | (simp; omega)) _) | (refine BW.trans ?_ (by assumption)))) rb⟩
  | cons t r =>
    have ok := h.1 t (by simp)
    have C : Hid (∀ w', BW w w' → Calls Tryd.prog 15 #[.pointer (some ⟨rb, 0, none⟩)] w' fun e w'' => e = .returned (.agg #[.int .u8 t.kind, .string ⟨t.s.toArray⟩, .int .i64 t.n, .int .i64 ((N - t.back : Nat) : Int)]) ∧ RdP rb B N (r, g) w'' ∧ Fl rb w' w'') := fun w' hb => take_cons rb B N g t r w' (h.bw hb)
    clear h
    have e0 : (pN 0).1 (t :: r, g) = .error (if t.kind = 2 then 12 else 13, t.back) := rfl
    rw [e0]
    clear e0
    by_cases h2 : t.kind = 2
    · rw [if_pos h2]
      show Calls Tryd.prog 12 _ w (fun e w' => e = .panicked (thrP N (12, t.back)) ∧ Fl rb w w')
      have c1 : ((t.kind : Int) == 2) = true := by simp; omega
      clear h2
      go_enter Tryd.func12, Tryd.ntmps12
      go_wp2_with (fail)
      refine (C.out _ (by repeat (first | exact BW.refl _ | assumption | apply BW.alloc | apply BW.drewN | apply BW.drew | (refine BW.setCell ?_ (by first | omega | (simp; done) | (simp; omega)) _) | (refine BW.trans ?_ (by assumption))))).mono ?_
      rintro e w1 ⟨rfl, R1, F1⟩
      have hz1 := F1.size
      simp at hz1
      have HG1 : Hid (w1.heap[w.heap.size]? = some (.cells #[.int .u8 0, .int .i64 0, .string ⟨#[]⟩, .slice none 0 0, .slice none 0 0] 26 (0, 0))) := (F1.block w.heap.size (by simp) (by omega)).trans (heap_alloc_new w _)
      have HF1 : Hid (Fl rb w w1) := Fl.trans (Fl.alloc (Fl.refl rb w) _) F1
      have HR1 : Hid (RdP rb B N (r, g) w1) := R1
      clear F1 R1
      go_upto_region 2 with fail
      obtain ⟨W, hW⟩ : ∃ W, W = w1.alloc (.cells #[.int .u8 t.kind, .string ⟨t.s.toArray⟩, .int .i64 t.n, .int .i64 ((N - t.back : Nat) : Int)] 50) := ⟨_, rfl⟩
      have bW : BW w1 W := by rw [hW]; exact BW.alloc (BW.refl _) _
      have hzW : w1.heap.size < W.heap.size := by rw [hW]; simp
      have x0 : W.cell? ⟨w1.heap.size, 0, none⟩ = some (.int .u8 t.kind) := by rw [hW]; exact cell_new _ _ _ 0
      have x1 : W.cell? ⟨w1.heap.size, 1, none⟩ = some (.string ⟨t.s.toArray⟩) := by rw [hW]; exact cell_new _ _ _ 1
      have x2 : W.cell? ⟨w1.heap.size, 2, none⟩ = some (.int .i64 t.n) := by rw [hW]; exact cell_new _ _ _ 2
      have x3 : W.cell? ⟨w1.heap.size, 3, none⟩ = some (.int .i64 ((N - t.back : Nat) : Int)) := by rw [hW]; exact cell_new _ _ _ 3
      rw [← hW]
      clear hW
      have HGW : Hid (W.heap[w.heap.size]? = some (.cells #[.int .u8 0, .int .i64 0, .string ⟨#[]⟩, .slice none 0 0, .slice none 0 0] 26 (0, 0))) := (bW.block w.heap.size (by omega)).trans HG1.out
      have HRW : Hid (RdP rb B N (r, g) W) := HR1.out.bw bW
      have HFW : Hid (Fl rb w W) := HF1.out.trans (bW.fl rb)
      clear HG1 HF1 HR1 C bW
      go_wp2_with (fail)
      exact ⟨rfl, rfl, HFW.out⟩
    · rw [if_neg h2]
      show Calls Tryd.prog 12 _ w (fun e w' => e = .panicked (thrP N (13, t.back)) ∧ Fl rb w w')
      have c1 : ((t.kind : Int) == 2) = false := by simp; omega
      go_enter Tryd.func12, Tryd.ntmps12
      go_wp2_with (fail)
      refine (C.out _ (by repeat (first | exact BW.refl _ | assumption | apply BW.alloc | apply BW.drewN | apply BW.drew | (refine BW.setCell ?_ (by first | omega | (simp; done) | (simp; omega)) _) | (refine BW.trans ?_ (by assumption))))).mono ?_
      rintro e w1 ⟨rfl, R1, F1⟩
      have hz1 := F1.size
      simp at hz1
      have HG1 : Hid (w1.heap[w.heap.size]? = some (.cells #[.int .u8 0, .int .i64 0, .string ⟨#[]⟩, .slice none 0 0, .slice none 0 0] 26 (0, 0))) := (F1.block w.heap.size (by simp) (by omega)).trans (heap_alloc_new w _)
      have HF1 : Hid (Fl rb w w1) := Fl.trans (Fl.alloc (Fl.refl rb w) _) F1
      have HR1 : Hid (RdP rb B N (r, g) w1) := R1
      clear F1 R1
      go_upto_region 2 with fail
      obtain ⟨W, hW⟩ : ∃ W, W = w1.alloc (.cells #[.int .u8 t.kind, .string ⟨t.s.toArray⟩, .int .i64 t.n, .int .i64 ((N - t.back : Nat) : Int)] 50) := ⟨_, rfl⟩
      have bW : BW w1 W := by rw [hW]; exact BW.alloc (BW.refl _) _
      have hzW : w1.heap.size < W.heap.size := by rw [hW]; simp
      have x0 : W.cell? ⟨w1.heap.size, 0, none⟩ = some (.int .u8 t.kind) := by rw [hW]; exact cell_new _ _ _ 0
      have x1 : W.cell? ⟨w1.heap.size, 1, none⟩ = some (.string ⟨t.s.toArray⟩) := by rw [hW]; exact cell_new _ _ _ 1
      have x2 : W.cell? ⟨w1.heap.size, 2, none⟩ = some (.int .i64 t.n) := by rw [hW]; exact cell_new _ _ _ 2
      have x3 : W.cell? ⟨w1.heap.size, 3, none⟩ = some (.int .i64 ((N - t.back : Nat) : Int)) := by rw [hW]; exact cell_new _ _ _ 3
      rw [← hW]
      clear hW
      have HGW : Hid (W.heap[w.heap.size]? = some (.cells #[.int .u8 0, .int .i64 0, .string ⟨#[]⟩, .slice none 0 0, .slice none 0 0] 26 (0, 0))) := (bW.block w.heap.size (by omega)).trans HG1.out
      have HRW : Hid (RdP rb B N (r, g) W) := HR1.out.bw bW
      have HFW : Hid (Fl rb w W) := HF1.out.trans (bW.fl rb)
      clear HG1 HF1 HR1 C bW
      have CB : Hid (Calls Tryd.prog 16 #[.pointer (some ⟨rb, 0, none⟩), .agg #[.int .u8 t.kind, .string ⟨t.s.toArray⟩, .int .i64 t.n, .int .i64 ((N - t.back : Nat) : Int)], .int .i64 61] W fun e w' => e = .panicked (thrP N (13, t.back)) ∧ Fl rb W w') := begin_any rb B N t 61 (r, g) W HRW.out
      go_wp2_with (go_at_call 16; refine CB.out.mono ?_; rintro e w3 ⟨rfl, f3⟩)
      exact ⟨rfl, rfl, HFW.out.trans f3⟩
/-- Reading what stands between brackets, at a level. -/
def BrC (f : Nat) : Prop := ∀ (rb B N d : Nat) (st : Ps) (w : World), d + (f + 1) = 61 → RdP rb B N st w → Gv w → 2 < rb → Calls Tryd.prog 18 #[.pointer (some ⟨rb, 0, none⟩), .int .i64 d] w (PostP (fun w' v x => NodeQ (fun b => w.heap.size ≤ b ∧ b < w'.heap.size) w' (f + 1) v x) rb B N w (pBr f (pN f).1 (pN f).2 st))
set_option maxRecDepth 100000 in
set_option maxHeartbeats 4000000 in
theorem node_succ {f : Nat} (ih : BrC f) : NodeC (f + 1) := by
  intro rb B N d st w hd h hG hrb
  have IH : Hid (BrC f) := ih
  obtain ⟨ts, g⟩ := st
  have hlt := h.lt
  have hB := h.2.2.2.2.1
  have HG : Hid (Gv w) := hG
  cases ts with
  | nil =>
    have C : Hid (∀ w', BW w w' → Calls Tryd.prog 15 #[.pointer (some ⟨rb, 0, none⟩)] w' fun e w'' => e = .panicked (thrP N (11, 0)) ∧ BW w' w'') := fun w' hb => take_nil rb B N g w' (h.bw hb)
    show Calls Tryd.prog 12 _ w (fun e w' => e = .panicked (thrP N (11, 0)) ∧ Fl rb w w')
    clear h
    go_enter Tryd.func12, Tryd.ntmps12
    go_wp2_with (go_at_call 15; refine (C.out _ (by repeat (first | exact BW.refl _ | assumption | apply BW.alloc | apply BW.drewN | apply BW.drew | (refine BW.setCell ?_ (by first | omega | (simp; done) | (simp; omega)) _) | (refine BW.trans ?_ (by assumption))))).mono ?_; rintro e w1 ⟨rfl, b1⟩)
    exact ⟨rfl, rfl, BW.fl (by repeat (first | exact BW.refl _ | assumption | apply BW.alloc | apply BW.drewN | apply BW.drew | (refine BW.setCell ?_ (by first | omega | (simp; done) | (simp; omega)) _) | (refine BW.trans ?_ (by assumption)))) rb⟩
  | cons t r =>
    have ok := h.1 t (by simp)
    have C : Hid (∀ w', BW w w' → Calls Tryd.prog 15 #[.pointer (some ⟨rb, 0, none⟩)] w' fun e w'' => e = .returned (.agg #[.int .u8 t.kind, .string ⟨t.s.toArray⟩, .int .i64 t.n, .int .i64 ((N - t.back : Nat) : Int)]) ∧ RdP rb B N (r, g) w'' ∧ Fl rb w' w'') := fun w' hb => take_cons rb B N g t r w' (h.bw hb)
    clear h
    have e0 : (pN (f + 1)).1 (t :: r, g) = if t.kind = 2 then .error (12, t.back) else match pBeg false t (r, g) with
      | .error e => .error e
      | .ok st2 => if t.kind = 4 then .ok ((⟨1, t.n, ⟨#[]⟩, [], []⟩ : Nd (Tr f)), st2) else if t.kind = 5 then .ok ((⟨3, 0, bsB t.s, [], []⟩ : Nd (Tr f)), st2) else if t.kind = 3 then .ok (pPlain f t.s, st2) else match pBr f (pN f).1 (pN f).2 st2 with
        | .error e => .error e
        | .ok (x, st3) => match pExpect 2 st3 with
          | .error e => .error e
          | .ok (_, st4) => .ok (x, st4) := rfl
    rw [e0]
    clear e0
    by_cases h2 : t.kind = 2
    · rw [if_pos h2]
      show Calls Tryd.prog 12 _ w (fun e w' => e = .panicked (thrP N (12, t.back)) ∧ Fl rb w w')
      have c1 : ((t.kind : Int) == 2) = true := by simp; omega
      clear h2
      go_enter Tryd.func12, Tryd.ntmps12
      go_wp2_with (fail)
      refine (C.out _ (by repeat (first | exact BW.refl _ | assumption | apply BW.alloc | apply BW.drewN | apply BW.drew | (refine BW.setCell ?_ (by first | omega | (simp; done) | (simp; omega)) _) | (refine BW.trans ?_ (by assumption))))).mono ?_
      rintro e w1 ⟨rfl, R1, F1⟩
      have hz1 := F1.size
      simp at hz1
      have HG1 : Hid (w1.heap[w.heap.size]? = some (.cells #[.int .u8 0, .int .i64 0, .string ⟨#[]⟩, .slice none 0 0, .slice none 0 0] 26 (0, 0))) := (F1.block w.heap.size (by simp) (by omega)).trans (heap_alloc_new w _)
      have HF1 : Hid (Fl rb w w1) := Fl.trans (Fl.alloc (Fl.refl rb w) _) F1
      have HR1 : Hid (RdP rb B N (r, g) w1) := R1
      clear F1 R1
      go_upto_region 2 with fail
      obtain ⟨W, hW⟩ : ∃ W, W = w1.alloc (.cells #[.int .u8 t.kind, .string ⟨t.s.toArray⟩, .int .i64 t.n, .int .i64 ((N - t.back : Nat) : Int)] 50) := ⟨_, rfl⟩
      have bW : BW w1 W := by rw [hW]; exact BW.alloc (BW.refl _) _
      have hzW : w1.heap.size < W.heap.size := by rw [hW]; simp
      have x0 : W.cell? ⟨w1.heap.size, 0, none⟩ = some (.int .u8 t.kind) := by rw [hW]; exact cell_new _ _ _ 0
      have x1 : W.cell? ⟨w1.heap.size, 1, none⟩ = some (.string ⟨t.s.toArray⟩) := by rw [hW]; exact cell_new _ _ _ 1
      have x2 : W.cell? ⟨w1.heap.size, 2, none⟩ = some (.int .i64 t.n) := by rw [hW]; exact cell_new _ _ _ 2
      have x3 : W.cell? ⟨w1.heap.size, 3, none⟩ = some (.int .i64 ((N - t.back : Nat) : Int)) := by rw [hW]; exact cell_new _ _ _ 3
      rw [← hW]
      clear hW
      have HGW : Hid (W.heap[w.heap.size]? = some (.cells #[.int .u8 0, .int .i64 0, .string ⟨#[]⟩, .slice none 0 0, .slice none 0 0] 26 (0, 0))) := (bW.block w.heap.size (by omega)).trans HG1.out
      have HRW : Hid (RdP rb B N (r, g) W) := HR1.out.bw bW
      have HFW : Hid (Fl rb w W) := HF1.out.trans (bW.fl rb)
      clear HG1 HF1 HR1 C bW
      go_wp2_with (fail)
      exact ⟨rfl, rfl, HFW.out⟩
    · rw [if_neg h2]
      have c1 : ((t.kind : Int) == 2) = false := by simp; omega
      have hd60 : decide (60 < d) = false := decide_eq_false (by omega)
      by_cases h4 : g = 4000
      · have e1 : pBeg false t (r, g) = .error (13, t.back) := by subst h4; rfl
        rw [e1]
        show Calls Tryd.prog 12 _ w (fun e w' => e = .panicked (thrP N (13, t.back)) ∧ Fl rb w w')
        go_enter Tryd.func12, Tryd.ntmps12
        go_wp2_with (fail)
        refine (C.out _ (by repeat (first | exact BW.refl _ | assumption | apply BW.alloc | apply BW.drewN | apply BW.drew | (refine BW.setCell ?_ (by first | omega | (simp; done) | (simp; omega)) _) | (refine BW.trans ?_ (by assumption))))).mono ?_
        rintro e w1 ⟨rfl, R1, F1⟩
        have hz1 := F1.size
        simp at hz1
        have HG1 : Hid (w1.heap[w.heap.size]? = some (.cells #[.int .u8 0, .int .i64 0, .string ⟨#[]⟩, .slice none 0 0, .slice none 0 0] 26 (0, 0))) := (F1.block w.heap.size (by simp) (by omega)).trans (heap_alloc_new w _)
        have HF1 : Hid (Fl rb w w1) := Fl.trans (Fl.alloc (Fl.refl rb w) _) F1
        have HR1 : Hid (RdP rb B N (r, g) w1) := R1
        clear F1 R1
        go_upto_region 2 with fail
        obtain ⟨W, hW⟩ : ∃ W, W = w1.alloc (.cells #[.int .u8 t.kind, .string ⟨t.s.toArray⟩, .int .i64 t.n, .int .i64 ((N - t.back : Nat) : Int)] 50) := ⟨_, rfl⟩
        have bW : BW w1 W := by rw [hW]; exact BW.alloc (BW.refl _) _
        have hzW : w1.heap.size < W.heap.size := by rw [hW]; simp
        have x0 : W.cell? ⟨w1.heap.size, 0, none⟩ = some (.int .u8 t.kind) := by rw [hW]; exact cell_new _ _ _ 0
        have x1 : W.cell? ⟨w1.heap.size, 1, none⟩ = some (.string ⟨t.s.toArray⟩) := by rw [hW]; exact cell_new _ _ _ 1
        have x2 : W.cell? ⟨w1.heap.size, 2, none⟩ = some (.int .i64 t.n) := by rw [hW]; exact cell_new _ _ _ 2
        have x3 : W.cell? ⟨w1.heap.size, 3, none⟩ = some (.int .i64 ((N - t.back : Nat) : Int)) := by rw [hW]; exact cell_new _ _ _ 3
        rw [← hW]
        clear hW
        have HGW : Hid (W.heap[w.heap.size]? = some (.cells #[.int .u8 0, .int .i64 0, .string ⟨#[]⟩, .slice none 0 0, .slice none 0 0] 26 (0, 0))) := (bW.block w.heap.size (by omega)).trans HG1.out
        have HRW : Hid (RdP rb B N (r, g) W) := HR1.out.bw bW
        have HFW : Hid (Fl rb w W) := HF1.out.trans (bW.fl rb)
        clear HG1 HF1 HR1 C bW
        have CB : Hid (Calls Tryd.prog 16 #[.pointer (some ⟨rb, 0, none⟩), .agg #[.int .u8 t.kind, .string ⟨t.s.toArray⟩, .int .i64 t.n, .int .i64 ((N - t.back : Nat) : Int)], .int .i64 d] W fun e w' => e = .panicked (thrP N (13, t.back)) ∧ Fl rb W w') := by
          have := begin_any rb B N t d (r, g) W HRW.out
          rw [hd60, e1] at this
          exact this
        clear e1 hd60
        go_wp2_with (go_at_call 16; refine CB.out.mono ?_; rintro e w3 ⟨rfl, f3⟩)
        exact ⟨rfl, rfl, HFW.out.trans f3⟩
      · have e1 : pBeg false t (r, g) = .ok (r, g + 1) := by
          unfold pBeg
          have : (g == 4000) = false := by simp; omega
          simp [this]
        rw [e1]
        simp only
        generalize hR : (if t.kind = 4 then _ else _ : Pr (Tr (f + 1))) = R
        have HRR : Hid _ := hR
        clear hR
        go_enter Tryd.func12, Tryd.ntmps12
        go_wp2_with (fail)
        refine (C.out _ (by repeat (first | exact BW.refl _ | assumption | apply BW.alloc | apply BW.drewN | apply BW.drew | (refine BW.setCell ?_ (by first | omega | (simp; done) | (simp; omega)) _) | (refine BW.trans ?_ (by assumption))))).mono ?_
        rintro e w1 ⟨rfl, R1, F1⟩
        have hz1 := F1.size
        simp at hz1
        have HG1 : Hid (w1.heap[w.heap.size]? = some (.cells #[.int .u8 0, .int .i64 0, .string ⟨#[]⟩, .slice none 0 0, .slice none 0 0] 26 (0, 0))) := (F1.block w.heap.size (by simp) (by omega)).trans (heap_alloc_new w _)
        have HF1 : Hid (Fl rb w w1) := Fl.trans (Fl.alloc (Fl.refl rb w) _) F1
        have HR1 : Hid (RdP rb B N (r, g) w1) := R1
        clear F1 R1
        go_upto_region 2 with fail
        obtain ⟨W, hW⟩ : ∃ W, W = w1.alloc (.cells #[.int .u8 t.kind, .string ⟨t.s.toArray⟩, .int .i64 t.n, .int .i64 ((N - t.back : Nat) : Int)] 50) := ⟨_, rfl⟩
        have bW : BW w1 W := by rw [hW]; exact BW.alloc (BW.refl _) _
        have hzW : w1.heap.size < W.heap.size := by rw [hW]; simp
        have x0 : W.cell? ⟨w1.heap.size, 0, none⟩ = some (.int .u8 t.kind) := by rw [hW]; exact cell_new _ _ _ 0
        have x1 : W.cell? ⟨w1.heap.size, 1, none⟩ = some (.string ⟨t.s.toArray⟩) := by rw [hW]; exact cell_new _ _ _ 1
        have x2 : W.cell? ⟨w1.heap.size, 2, none⟩ = some (.int .i64 t.n) := by rw [hW]; exact cell_new _ _ _ 2
        have x3 : W.cell? ⟨w1.heap.size, 3, none⟩ = some (.int .i64 ((N - t.back : Nat) : Int)) := by rw [hW]; exact cell_new _ _ _ 3
        rw [← hW]
        clear hW
        have HGW : Hid (W.heap[w.heap.size]? = some (.cells #[.int .u8 0, .int .i64 0, .string ⟨#[]⟩, .slice none 0 0, .slice none 0 0] 26 (0, 0))) := (bW.block w.heap.size (by omega)).trans HG1.out
        have HRW : Hid (RdP rb B N (r, g) W) := HR1.out.bw bW
        have HFW : Hid (Fl rb w W) := HF1.out.trans (bW.fl rb)
        clear HG1 HF1 HR1 C bW
        have CB : Hid (Calls Tryd.prog 16 #[.pointer (some ⟨rb, 0, none⟩), .agg #[.int .u8 t.kind, .string ⟨t.s.toArray⟩, .int .i64 t.n, .int .i64 ((N - t.back : Nat) : Int)], .int .i64 d] W fun e w' => e = .returned (.tuple #[]) ∧ RdP rb B N (r, g + 1) w' ∧ Fl rb W w') := by
          have := begin_any rb B N t d (r, g) W HRW.out
          rw [hd60, e1] at this
          exact this
        clear e1 hd60
        go_wp2_with (fail)
        refine CB.out.mono ?_
        rintro e w3 ⟨rfl, R3, F3⟩
        have hz3 := F3.size
        have y0 : w3.cell? ⟨w1.heap.size, 0, none⟩ = some (.int .u8 t.kind) := (F3.cells w1.heap.size 0 (by omega) (by omega)).trans x0
        have y1 : w3.cell? ⟨w1.heap.size, 1, none⟩ = some (.string ⟨t.s.toArray⟩) := (F3.cells w1.heap.size 1 (by omega) (by omega)).trans x1
        have y2 : w3.cell? ⟨w1.heap.size, 2, none⟩ = some (.int .i64 t.n) := (F3.cells w1.heap.size 2 (by omega) (by omega)).trans x2
        have HG3 : Hid (w3.heap[w.heap.size]? = some (.cells #[.int .u8 0, .int .i64 0, .string ⟨#[]⟩, .slice none 0 0, .slice none 0 0] 26 (0, 0))) := (F3.block w.heap.size (by omega) (by omega)).trans HGW.out
        have HR3 : Hid (RdP rb B N (r, g + 1) w3) := R3
        have HF3 : Hid (Fl rb w w3) := HFW.out.trans F3
        have k0 : w3.cell? ⟨w.heap.size, 0, none⟩ = some (.int .u8 0) := by rw [Lib.cell_of_heap HG3.out]; rfl
        have k1 : w3.cell? ⟨w.heap.size, 1, none⟩ = some (.int .i64 0) := by rw [Lib.cell_of_heap HG3.out]; rfl
        have k2 : w3.cell? ⟨w.heap.size, 2, none⟩ = some (.string ⟨#[]⟩) := by rw [Lib.cell_of_heap HG3.out]; rfl
        have k3 : w3.cell? ⟨w.heap.size, 3, none⟩ = some (.slice none 0 0) := by rw [Lib.cell_of_heap HG3.out]; rfl
        have k4 : w3.cell? ⟨w.heap.size, 4, none⟩ = some (.slice none 0 0) := by rw [Lib.cell_of_heap HG3.out]; rfl
        have kz : ∀ o, w3.frozen? ⟨w.heap.size, o, none⟩ = false := fun o => Lib.frozen_of_heap HG3.out o
        clear R3 F3 CB x0 x1 x2 x3 HGW HRW HFW
        by_cases h4' : t.kind = 4
        · obtain rfl : R = .ok ((⟨1, t.n, ⟨#[]⟩, [], []⟩ : Nd (Tr f)), (r, g + 1)) := by rw [← HRR.out, if_pos h4']
          have c4 : ((t.kind : Int) == 4) = true := by simp; omega
          clear HRR h4' h2
          go_wp2_with (fail)
          refine end_node Tryd.func12 4 rfl rfl (set5 HG3.out) ⟨_, rfl, ?_, HR3.out.up (fun j hj => set5o (by omega)) (by simp [World.setCell]; omega), HF3.out.set5 (Nat.le_refl _)⟩
          exact leaf_q _ _ _ _ _ _ (wf_tok 1 t.n [] (by decide) (by decide) ok.n0 ok.n1 (by simp))
        · by_cases h5' : t.kind = 5
          · obtain rfl : R = .ok ((⟨3, 0, bsB t.s, [], []⟩ : Nd (Tr f)), (r, g + 1)) := by rw [← HRR.out, if_neg h4', if_pos h5']
            have c4 : ((t.kind : Int) == 4) = false := by simp; omega
            have c5 : ((t.kind : Int) == 5) = true := by simp; omega
            clear HRR h4' h5' h2
            go_wp2_with (fail)
            refine end_node Tryd.func12 4 rfl rfl (set5 HG3.out) ⟨_, rfl, ?_, HR3.out.up (fun j hj => set5o (by omega)) (by simp [World.setCell]; omega), HF3.out.set5 (Nat.le_refl _)⟩
            exact leaf_q _ _ _ _ _ _ (wf_tok 3 0 t.s (by decide) (by decide) (by decide) (by decide) ok.s)
          · by_cases h3' : t.kind = 3
            · obtain rfl : R = .ok (pPlain f t.s, (r, g + 1)) := by rw [← HRR.out, if_neg h4', if_neg h5', if_pos h3']
              have c4 : ((t.kind : Int) == 4) = false := by simp; omega
              have c5 : ((t.kind : Int) == 5) = false := by simp; omega
              have c3 : ((t.kind : Int) == 3) = true := by simp; omega
              obtain ⟨k, i, u, hv, hp, hw⟩ := plain_form f t.s ok.s
              have CP : Hid (Calls Tryd.prog 17 #[.string ⟨t.s.toArray⟩] w3 fun e w' => e = .returned (ndv k i u none 0 0 none 0 0) ∧ BW w3 w') := by
                have := plainP_any t.s w3
                rw [hv] at this
                exact this
              have HPP : Hid (pPlain f t.s = (⟨k, i, u, [], []⟩ : Nd (Tr f))) := hp
              clear HRR h4' h5' h3' h2 hv hp
              go_wp2_with (fail)
              refine CP.out.mono ?_
              rintro e w4 ⟨rfl, b4⟩
              have hz4 := b4.size
              have HG4 : Hid (w4.heap[w.heap.size]? = some (.cells #[.int .u8 0, .int .i64 0, .string ⟨#[]⟩, .slice none 0 0, .slice none 0 0] 26 (0, 0))) := (b4.block w.heap.size (by omega)).trans HG3.out
              have HR4 : Hid (RdP rb B N (r, g + 1) w4) := HR3.out.bw b4
              have HF4 : Hid (Fl rb w w4) := HF3.out.trans (b4.fl rb)
              clear k0 k1 k2 k3 k4 kz b4 CP
              have k0 : w4.cell? ⟨w.heap.size, 0, none⟩ = some (.int .u8 0) := by rw [Lib.cell_of_heap HG4.out]; rfl
              have k1 : w4.cell? ⟨w.heap.size, 1, none⟩ = some (.int .i64 0) := by rw [Lib.cell_of_heap HG4.out]; rfl
              have k2 : w4.cell? ⟨w.heap.size, 2, none⟩ = some (.string ⟨#[]⟩) := by rw [Lib.cell_of_heap HG4.out]; rfl
              have k3 : w4.cell? ⟨w.heap.size, 3, none⟩ = some (.slice none 0 0) := by rw [Lib.cell_of_heap HG4.out]; rfl
              have k4 : w4.cell? ⟨w.heap.size, 4, none⟩ = some (.slice none 0 0) := by rw [Lib.cell_of_heap HG4.out]; rfl
              have kz : ∀ o, w4.frozen? ⟨w.heap.size, o, none⟩ = false := fun o => Lib.frozen_of_heap HG4.out o
              go_wp2_with (fail)
              refine end_node Tryd.func12 4 rfl rfl (set5 HG4.out) ⟨_, rfl, ?_, HR4.out.up (fun j hj => set5o (by omega)) (by simp [World.setCell]; omega), HF4.out.set5 (Nat.le_refl _)⟩
              rw [HPP.out]
              exact leaf_q _ _ _ _ _ _ hw
            · have c4 : ((t.kind : Int) == 4) = false := by simp; omega
              have c5 : ((t.kind : Int) == 5) = false := by simp; omega
              have c3 : ((t.kind : Int) == 3) = false := by simp; omega
              have HR5 : Hid ((match pBr f (pN f).1 (pN f).2 (r, g + 1) with
                  | .error e => .error e
                  | .ok (x, st3) => match pExpect 2 st3 with
                    | .error e => .error e
                    | .ok (_, st4) => .ok (x, st4)) = R) := by
                show _ = R
                rw [← HRR.out, if_neg h4', if_neg h5', if_neg h3']
              have CB : Hid (Calls Tryd.prog 18 #[.pointer (some ⟨rb, 0, none⟩), .int .i64 d] w3 (PostP (fun w' v x => NodeQ (fun b => w3.heap.size ≤ b ∧ b < w'.heap.size) w' (f + 1) v x) rb B N w3 (pBr f (pN f).1 (pN f).2 (r, g + 1)))) := IH.out rb B N d (r, g + 1) w3 hd HR3.out (HG.out.fl HF3.out hrb) hrb
              clear HRR h4' h5' h3' h2
              cases hb : pBr f (pN f).1 (pN f).2 (r, g + 1) with
              | error er =>
                rw [hb] at CB HR5
                obtain rfl : R = .error er := HR5.out.symm
                clear hb HR5
                go_wp2_with (fail)
                refine CB.out.mono ?_
                rintro e w4 ⟨rfl, f4⟩
                exact ⟨rfl, rfl, HF3.out.trans f4⟩
              | ok p =>
                obtain ⟨x, st3⟩ := p
                rw [hb] at CB HR5
                have HR6 : Hid ((match pExpect 2 st3 with
                    | .error e => .error e
                    | .ok (_, st4) => .ok (x, st4)) = R) := HR5.out
                clear hb HR5
                go_wp2_with (fail)
                refine CB.out.mono ?_
                rintro e w4 ⟨v4, rfl, hx, R4, F4⟩
                obtain ⟨ro, rfl⟩ := hx.rw
                have hz4 := F4.size
                have HX : Hid (NodeQ (fun b => w3.heap.size ≤ b ∧ b < w4.heap.size) w4 (f + 1) ro.v x) := hx
                have HG4 : Hid (w4.heap[w.heap.size]? = some (.cells #[.int .u8 0, .int .i64 0, .string ⟨#[]⟩, .slice none 0 0, .slice none 0 0] 26 (0, 0))) := (F4.block w.heap.size (by omega) (by omega)).trans HG3.out
                have HR4 : Hid (RdP rb B N st3 w4) := R4
                have HF4 : Hid (Fl rb w w4) := HF3.out.trans F4
                clear hx R4 F4 k0 k1 k2 k3 k4 kz y0 y1 y2 HG3 HR3 HF3 CB
                go_upto_region 13 with fail
                obtain ⟨W5, hW5⟩ : ∃ W5, W5 = w4.alloc (.cells #[.int .u8 ro.k, .int .i64 ro.n, .string ro.s, .slice ro.na ro.nl ro.nc, .slice ro.ka ro.kl ro.kc] 26) := ⟨_, rfl⟩
                have b5 : BW w4 W5 := by rw [hW5]; exact BW.alloc (BW.refl _) _
                have hz5 : w4.heap.size < W5.heap.size := by rw [hW5]; simp
                have HN5 : Hid (W5.heap[w4.heap.size]? = some (.cells #[.int .u8 ro.k, .int .i64 ro.n, .string ro.s, .slice ro.na ro.nl ro.nc, .slice ro.ka ro.kl ro.kc] 26 (0, 0))) := by show _ = _; rw [hW5]; exact heap_alloc_new _ _
                rw [← hW5]
                clear hW5
                have CE : Hid (Calls Tryd.prog 19 #[.pointer (some ⟨rb, 0, none⟩), .int .u8 2] W5 (PostP (tvl N) rb B N W5 (pExpect 2 st3))) := expect_any rb B N 2 (by omega) st3 W5 (HR4.out.bw b5)
                cases he : pExpect 2 st3 with
                | error er =>
                  rw [he] at CE HR6
                  obtain rfl : R = .error er := HR6.out.symm
                  clear he HR6
                  go_wp2_with (fail)
                  refine CE.out.mono ?_
                  rintro e w6 ⟨rfl, f6⟩
                  exact ⟨rfl, rfl, (HF4.out.trans (b5.fl rb)).trans f6⟩
                | ok p =>
                  obtain ⟨t2, st4⟩ := p
                  rw [he] at CE HR6
                  obtain rfl : R = .ok (x, st4) := HR6.out.symm
                  clear he HR6
                  go_wp2_with (fail)
                  refine CE.out.mono ?_
                  rintro e w6 ⟨v6, rfl, _, R6, F6⟩
                  have hz6 := F6.size
                  have HG6 : Hid (w6.heap[w.heap.size]? = some (.cells #[.int .u8 0, .int .i64 0, .string ⟨#[]⟩, .slice none 0 0, .slice none 0 0] 26 (0, 0))) := (F6.block w.heap.size (by omega) (by omega)).trans ((b5.block w.heap.size (by omega)).trans HG4.out)
                  have HN6 : Hid (w6.heap[w4.heap.size]? = some (.cells #[.int .u8 ro.k, .int .i64 ro.n, .string ro.s, .slice ro.na ro.nl ro.nc, .slice ro.ka ro.kl ro.kc] 26 (0, 0))) := (F6.block w4.heap.size (by omega) (by have := HR4.out.lt; omega)).trans HN5.out
                  have HF6 : Hid (Fl rb w w6) := (HF4.out.trans (b5.fl rb)).trans F6
                  have HR6' : Hid (RdP rb B N st4 w6) := R6
                  have HX6 : Hid (NodeQ (fun b => w3.heap.size ≤ b ∧ b < w4.heap.size) w6 (f + 1) ro.v x) := NodeQ.keep (fun _ hb => hb) (fun b hb hl => (F6.block b (by omega) (by omega)).trans (b5.block b hl)) (by omega) HX.out
                  have m0 : w6.cell? ⟨w4.heap.size, 0, none⟩ = some (.int .u8 ro.k) := by rw [Lib.cell_of_heap HN6.out]; rfl
                  have m1 : w6.cell? ⟨w4.heap.size, 1, none⟩ = some (.int .i64 ro.n) := by rw [Lib.cell_of_heap HN6.out]; rfl
                  have m2 : w6.cell? ⟨w4.heap.size, 2, none⟩ = some (.string ro.s) := by rw [Lib.cell_of_heap HN6.out]; rfl
                  have m3 : w6.cell? ⟨w4.heap.size, 3, none⟩ = some (.slice ro.na ro.nl ro.nc) := by rw [Lib.cell_of_heap HN6.out]; rfl
                  have m4 : w6.cell? ⟨w4.heap.size, 4, none⟩ = some (.slice ro.ka ro.kl ro.kc) := by rw [Lib.cell_of_heap HN6.out]; rfl
                  have k0 : w6.cell? ⟨w.heap.size, 0, none⟩ = some (.int .u8 0) := by rw [Lib.cell_of_heap HG6.out]; rfl
                  have k1 : w6.cell? ⟨w.heap.size, 1, none⟩ = some (.int .i64 0) := by rw [Lib.cell_of_heap HG6.out]; rfl
                  have k2 : w6.cell? ⟨w.heap.size, 2, none⟩ = some (.string ⟨#[]⟩) := by rw [Lib.cell_of_heap HG6.out]; rfl
                  have k3 : w6.cell? ⟨w.heap.size, 3, none⟩ = some (.slice none 0 0) := by rw [Lib.cell_of_heap HG6.out]; rfl
                  have k4 : w6.cell? ⟨w.heap.size, 4, none⟩ = some (.slice none 0 0) := by rw [Lib.cell_of_heap HG6.out]; rfl
                  have kz : ∀ o, w6.frozen? ⟨w.heap.size, o, none⟩ = false := fun o => Lib.frozen_of_heap HG6.out o
                  clear R6 F6 CE HN5 HG4 HR4 HF4 HX b5
                  go_wp2_with (fail)
                  refine end_node Tryd.func12 4 rfl rfl (set5 HG6.out) ⟨_, rfl, ?_, HR6'.out.up (fun j hj => set5o (by omega)) (by simp [World.setCell]; omega), HF6.out.set5 (Nat.le_refl _)⟩
                  exact NodeQ.keep (fun b hb => ⟨by omega, by simp [World.setCell]; omega⟩) (fun b hb hl => set5o (by omega)) (by simp [World.setCell]) HX6.out

end Go.Proofs.YtlacjiihbbgbeaaDoor
