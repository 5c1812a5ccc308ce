import Derived.Test.YtlacjiihbbgbeaaDoorN2
namespace Go.Proofs.YtlacjiihbbgbeaaDoor
open Go.RowKit
set_option linter.unusedVariables false
set_option linter.unusedSimpArgs false

/-- How reading ends. -/
def PostP {α : Type} (val : World → Value → α → Prop) (rb B N : Nat) (w : World) (R : Pr α) (e : Ending) (w' : World) : Prop := match R with
  | .ok (x, st) => ∃ v, e = .returned v ∧ val w' v x ∧ RdP rb B N st w' ∧ Fl rb w w'
  | .error er => e = .panicked (thrP N er) ∧ Fl rb w w'
theorem PostP.ok {α : Type} {val : World → Value → α → Prop} {rb B N : Nat} {w : World} {x : α} {st : Ps} {e : Ending} {w' : World} (h : PostP val rb B N w (.ok (x, st)) e w') : ∃ v, e = .returned v ∧ val w' v x ∧ RdP rb B N st w' ∧ Fl rb w w' := h
theorem PostP.err {α : Type} {val : World → Value → α → Prop} {rb B N : Nat} {w : World} {er : Pe} {e : Ending} {w' : World} (h : PostP val rb B N w (.error er) e w') : e = .panicked (thrP N er) ∧ Fl rb w w' := h
def tvl (N : Nat) (_ : World) (v : Value) (t : Tok) : Prop := v = tv N t ∧ TokOk t
theorem take_any (rb B N : Nat) (st : Ps) (w : World) (h : RdP rb B N st w) : Calls Tryd.prog 15 #[.pointer (some ⟨rb, 0, none⟩)] w (PostP (tvl N) rb B N w (pTake st)) := by
  obtain ⟨ts, g⟩ := st
  cases ts with
  | nil => exact (take_nil rb B N g w h).mono fun e w' ⟨h1, h2⟩ => ⟨h1, h2.fl rb⟩
  | cons t r => exact (take_cons rb B N g t r w h).mono fun e w' ⟨h1, h2, h3⟩ => ⟨_, h1, ⟨rfl, h.1 t (by simp)⟩, h2, h3⟩
/-- Changes of blocks from g on alone. -/
theorem Fl.hi {rb : Nat} {W w w' : World} (h : Fl rb W w) (k : ∀ j, j < W.heap.size → w'.heap[j]? = w.heap[j]?) (ho : w'.os = w.os) (ht : w'.tape = w.tape) (hp : w'.output = w.output) (hz : w.heap.size ≤ w'.heap.size) : Fl rb W w' := ⟨ho.trans h.os, ht.trans h.tape, hp.trans h.output, Nat.le_trans h.size hz, fun j hj hn => (k j hj).trans (h.block j hj hn)⟩
set_option maxRecDepth 100000 in
set_option maxHeartbeats 1000000 in
theorem expect_any (rb B N k : Nat) (hk : k ≤ 255) (st : Ps) (w : World) (h : RdP rb B N st w) : Calls Tryd.prog 19 #[.pointer (some ⟨rb, 0, none⟩), .int .u8 k] w (PostP (tvl N) rb B N w (pExpect k st)) := by
  obtain ⟨ts, g⟩ := st
  have hlt := h.lt
  have hB := h.2.2.2.2.1
  cases ts with
  | nil =>
    have C : Hid (∀ w', BW w w' → Calls Tryd.prog 15 #[.pointer (some ⟨rb, 0, none⟩)] w' fun e w'' => e = .panicked (thrP N (11, 0)) ∧ BW w' w'') := fun w' hb => take_nil rb B N g w' (h.bw hb)
    show Calls Tryd.prog 19 _ w (fun e w' => e = .panicked (thrP N (11, 0)) ∧ Fl rb w w')
    clear h
    go_enter Tryd.func19, Tryd.ntmps19
    go_wp2_with (go_at_call 15; refine (C.out _ (by repeat (first | exact BW.refl _ | assumption | apply BW.alloc | apply BW.drewN | apply BW.drew | (refine BW.setCell ?_ (by first | omega | (simp; done) | (simp; omega)) _) | (refine BW.trans ?_ (by assumption))))).mono ?_; rintro e w1 ⟨rfl, b1⟩)
    exact ⟨rfl, rfl, BW.fl (by repeat (first | exact BW.refl _ | assumption | apply BW.alloc | apply BW.drewN | apply BW.drew | (refine BW.setCell ?_ (by first | omega | (simp; done) | (simp; omega)) _) | (refine BW.trans ?_ (by assumption)))) rb⟩
  | cons t r =>
    have ok := h.1 t (by simp)
    have C : Hid (∀ w', BW w w' → Calls Tryd.prog 15 #[.pointer (some ⟨rb, 0, none⟩)] w' fun e w'' => e = .returned (.agg #[.int .u8 t.kind, .string ⟨t.s.toArray⟩, .int .i64 t.n, .int .i64 ((N - t.back : Nat) : Int)]) ∧ RdP rb B N (r, g) w'' ∧ Fl rb w' w'') := fun w' hb => take_cons rb B N g t r w' (h.bw hb)
    have e0 : pExpect k (t :: r, g) = if t.kind = k then .ok (t, (r, g)) else .error (12, t.back) := rfl
    rw [e0]
    clear e0 h
    by_cases hkk : t.kind = k
    · rw [if_pos hkk]
      show Calls Tryd.prog 19 _ w (fun e w' => ∃ v, e = .returned v ∧ tvl N w' v t ∧ RdP rb B N (r, g) w' ∧ Fl rb w w')
      have c1 : ((t.kind : Int) == (k : Int)) = true := by simp; omega
      have c2 : ((t.kind : Int) != (k : Int)) = false := by simp; omega
      subst hkk
      go_enter Tryd.func19, Tryd.ntmps19
      go_wp2_with (fail)
      refine (C.out _ (by repeat (first | exact BW.refl _ | assumption | apply BW.alloc | apply BW.drewN | apply BW.drew | (refine BW.setCell ?_ (by first | omega | (simp; done) | (simp; omega)) _) | (refine BW.trans ?_ (by assumption))))).mono ?_
      rintro e w1 ⟨rfl, R1, F1⟩
      have hz1 := F1.size
      simp at hz1
      have HG : Hid (w1.heap[w.heap.size]? = some (.cells #[.int .u8 0, .string ⟨#[]⟩, .int .i64 0, .int .i64 0] 50 (0, 0))) := (F1.block w.heap.size (by simp) (by omega)).trans (heap_alloc_new w _)
      have HF1 : Hid (Fl rb w w1) := Fl.trans (Fl.alloc (Fl.refl rb w) _) F1
      have HR1 : Hid (RdP rb B N (r, g) w1) := R1
      clear F1 R1
      go_upto_region 2 with fail
      obtain ⟨W, hW⟩ : ∃ W, W = w1.alloc (.cells #[.int .u8 t.kind, .string ⟨t.s.toArray⟩, .int .i64 t.n, .int .i64 ((N - t.back : Nat) : Int)] 50) := ⟨_, rfl⟩
      have bW : BW w1 W := by rw [hW]; exact BW.alloc (BW.refl _) _
      have hzW : w1.heap.size < W.heap.size := by rw [hW]; simp
      have x0 : W.cell? ⟨w1.heap.size, 0, none⟩ = some (.int .u8 t.kind) := by rw [hW]; exact cell_new _ _ _ 0
      have x1 : W.cell? ⟨w1.heap.size, 1, none⟩ = some (.string ⟨t.s.toArray⟩) := by rw [hW]; exact cell_new _ _ _ 1
      have x2 : W.cell? ⟨w1.heap.size, 2, none⟩ = some (.int .i64 t.n) := by rw [hW]; exact cell_new _ _ _ 2
      have x3 : W.cell? ⟨w1.heap.size, 3, none⟩ = some (.int .i64 ((N - t.back : Nat) : Int)) := by rw [hW]; exact cell_new _ _ _ 3
      rw [← hW]
      clear hW
      have HGW : Hid (W.heap[w.heap.size]? = some (.cells #[.int .u8 0, .string ⟨#[]⟩, .int .i64 0, .int .i64 0] 50 (0, 0))) := (bW.block w.heap.size (by omega)).trans HG.out
      have HRW : Hid (RdP rb B N (r, g) W) := HR1.out.bw bW
      have HFW : Hid (Fl rb w W) := HF1.out.trans (bW.fl rb)
      have k0 : W.cell? ⟨w.heap.size, 0, none⟩ = some (.int .u8 0) := by rw [Lib.cell_of_heap HGW.out]; rfl
      have k1 : W.cell? ⟨w.heap.size, 1, none⟩ = some (.string ⟨#[]⟩) := by rw [Lib.cell_of_heap HGW.out]; rfl
      have k2 : W.cell? ⟨w.heap.size, 2, none⟩ = some (.int .i64 0) := by rw [Lib.cell_of_heap HGW.out]; rfl
      have k3 : W.cell? ⟨w.heap.size, 3, none⟩ = some (.int .i64 0) := by rw [Lib.cell_of_heap HGW.out]; rfl
      have kz : ∀ o, W.frozen? ⟨w.heap.size, o, none⟩ = false := fun o => Lib.frozen_of_heap HGW.out o
      clear HG HF1 HR1 C bW
      go_wp2_with (fail)
      refine end_tok Tryd.func19 4 rfl rfl (set4 HGW.out) ⟨_, rfl, ⟨rfl, ok⟩, HRW.out.up (fun j hj => set4o (by omega)) (by simp [World.setCell]; omega), HFW.out.set4 (Nat.le_refl _)⟩
    · rw [if_neg hkk]
      show Calls Tryd.prog 19 _ w (fun e w' => e = .panicked (thrP N (12, t.back)) ∧ Fl rb w w')
      have c1 : ((t.kind : Int) == (k : Int)) = false := by simp; omega
      have c2 : ((t.kind : Int) != (k : Int)) = true := by simp; omega
      go_enter Tryd.func19, Tryd.ntmps19
      go_wp2_with (fail)
      refine (C.out _ (by repeat (first | exact BW.refl _ | assumption | apply BW.alloc | apply BW.drewN | apply BW.drew | (refine BW.setCell ?_ (by first | omega | (simp; done) | (simp; omega)) _) | (refine BW.trans ?_ (by assumption))))).mono ?_
      rintro e w1 ⟨rfl, R1, F1⟩
      have hz1 := F1.size
      simp at hz1
      have HG : Hid (w1.heap[w.heap.size]? = some (.cells #[.int .u8 0, .string ⟨#[]⟩, .int .i64 0, .int .i64 0] 50 (0, 0))) := (F1.block w.heap.size (by simp) (by omega)).trans (heap_alloc_new w _)
      have HF1 : Hid (Fl rb w w1) := Fl.trans (Fl.alloc (Fl.refl rb w) _) F1
      have HR1 : Hid (RdP rb B N (r, g) w1) := R1
      clear F1 R1
      go_upto_region 2 with fail
      obtain ⟨W, hW⟩ : ∃ W, W = w1.alloc (.cells #[.int .u8 t.kind, .string ⟨t.s.toArray⟩, .int .i64 t.n, .int .i64 ((N - t.back : Nat) : Int)] 50) := ⟨_, rfl⟩
      have bW : BW w1 W := by rw [hW]; exact BW.alloc (BW.refl _) _
      have hzW : w1.heap.size < W.heap.size := by rw [hW]; simp
      have x0 : W.cell? ⟨w1.heap.size, 0, none⟩ = some (.int .u8 t.kind) := by rw [hW]; exact cell_new _ _ _ 0
      have x1 : W.cell? ⟨w1.heap.size, 1, none⟩ = some (.string ⟨t.s.toArray⟩) := by rw [hW]; exact cell_new _ _ _ 1
      have x2 : W.cell? ⟨w1.heap.size, 2, none⟩ = some (.int .i64 t.n) := by rw [hW]; exact cell_new _ _ _ 2
      have x3 : W.cell? ⟨w1.heap.size, 3, none⟩ = some (.int .i64 ((N - t.back : Nat) : Int)) := by rw [hW]; exact cell_new _ _ _ 3
      rw [← hW]
      clear hW
      have HGW : Hid (W.heap[w.heap.size]? = some (.cells #[.int .u8 0, .string ⟨#[]⟩, .int .i64 0, .int .i64 0] 50 (0, 0))) := (bW.block w.heap.size (by omega)).trans HG.out
      have HRW : Hid (RdP rb B N (r, g) W) := HR1.out.bw bW
      have HFW : Hid (Fl rb w W) := HF1.out.trans (bW.fl rb)
      have k0 : W.cell? ⟨w.heap.size, 0, none⟩ = some (.int .u8 0) := by rw [Lib.cell_of_heap HGW.out]; rfl
      have k1 : W.cell? ⟨w.heap.size, 1, none⟩ = some (.string ⟨#[]⟩) := by rw [Lib.cell_of_heap HGW.out]; rfl
      have k2 : W.cell? ⟨w.heap.size, 2, none⟩ = some (.int .i64 0) := by rw [Lib.cell_of_heap HGW.out]; rfl
      have k3 : W.cell? ⟨w.heap.size, 3, none⟩ = some (.int .i64 0) := by rw [Lib.cell_of_heap HGW.out]; rfl
      have kz : ∀ o, W.frozen? ⟨w.heap.size, o, none⟩ = false := fun o => Lib.frozen_of_heap HGW.out o
      clear HG HF1 HR1 C bW
      go_wp2_with (fail)
      exact ⟨rfl, rfl, HFW.out⟩

end Go.Proofs.YtlacjiihbbgbeaaDoor
