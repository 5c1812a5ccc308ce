import Derived.Test.YtlacjiihbbgbeaaDoorN21
namespace Go.Proofs.YtlacjiihbbgbeaaDoor
open Go.RowKit
set_option linter.unusedVariables false
set_option linter.unusedSimpArgs false

/-- How reading a program ends. -/
def PostPr (rb B N : Nat) (w : World) (R : Except Pe (Tr 60)) (e : Ending) (w' : World) : Prop := match R with
  | .ok x => ∃ v, e = .returned v ∧ NodeQ (fun b => w.heap.size ≤ b ∧ b < w'.heap.size) w' 60 v x ∧ Fl rb w w'
  | .error er => e = .panicked (thrP N er) ∧ Fl rb w w'
set_option maxRecDepth 100000 in
set_option maxHeartbeats 4000000 in
theorem program_any (rb B N : Nat) (ts : List Tok) (w : World) (h : RdP rb B N (ts, 0) w) (hG : Gv w) (hrb : 2 < rb) : Calls Tryd.prog 9 #[.pointer (some ⟨rb, 0, none⟩)] w (PostPr rb B N w (pProg ts)) := by
  have hlt := h.lt
  have hBw := h.2.2.2.2.1
  have hlb : rb < B := h.2.2.2.1
  have CN : Hid (∀ w', BW w w' → Calls Tryd.prog 12 #[.pointer (some ⟨rb, 0, none⟩), .int .i64 1] w' (PostP (fun w'' v x => NodeQ (fun b => w'.heap.size ≤ b ∧ b < w''.heap.size) w'' 60 v x) rb B N w' ((pN 60).1 (ts, 0)))) := fun w' hb => nodeC 60 rb B N 1 (ts, 0) w' (by omega) (h.bw hb) (hG.bw hb) hrb
  unfold pProg
  clear h hG
  generalize (pN 60).1 (ts, 0) = R at CN ⊢
  cases R with
  | error er =>
    show Calls Tryd.prog 9 _ w (fun e w' => e = .panicked (thrP N er) ∧ Fl rb w w')
    have CN2 : Hid (∀ w', BW w w' → Calls Tryd.prog 12 #[.pointer (some ⟨rb, 0, none⟩), .int .i64 1] w' (fun e w'' => e = .panicked (thrP N er) ∧ Fl rb w' w'')) := CN.out
    clear CN
    go_enter Tryd.func9, Tryd.ntmps9
    go_wp2_with (go_at_call 12; refine (CN2.out _ (by repeat (first | exact BW.refl _ | assumption | apply BW.alloc | apply BW.drewN | apply BW.drew | (refine BW.setCell ?_ (by first | omega | (simp; done) | (simp; omega)) _) | (refine BW.trans ?_ (by assumption))))).mono ?_; rintro e w1 ⟨rfl, f1⟩)
    exact ⟨rfl, rfl, Fl.trans (BW.fl (by repeat (first | exact BW.refl _ | assumption | apply BW.alloc | apply BW.drewN | apply BW.drew | (refine BW.setCell ?_ (by first | omega | (simp; done) | (simp; omega)) _) | (refine BW.trans ?_ (by assumption)))) rb) f1⟩
  | ok p =>
    obtain ⟨x, q⟩ := p
    have CN2 : Hid (∀ w', BW w w' → Calls Tryd.prog 12 #[.pointer (some ⟨rb, 0, none⟩), .int .i64 1] w' (fun e w'' => ∃ v, e = .returned v ∧ NodeQ (fun b => w'.heap.size ≤ b ∧ b < w''.heap.size) w'' 60 v x ∧ RdP rb B N q w'' ∧ Fl rb w' w'')) := CN.out
    clear CN
    obtain ⟨us, gg⟩ := q
    cases us with
    | nil =>
      show Calls Tryd.prog 9 _ w (fun e w' => ∃ v, e = .returned v ∧ NodeQ (fun b => w.heap.size ≤ b ∧ b < w'.heap.size) w' 60 v x ∧ Fl rb w w')
      go_enter Tryd.func9, Tryd.ntmps9
      go_wp2_with (fail)
      refine (CN2.out _ (by repeat (first | exact BW.refl _ | assumption | apply BW.alloc | apply BW.drewN | apply BW.drew | (refine BW.setCell ?_ (by first | omega | (simp; done) | (simp; omega)) _) | (refine BW.trans ?_ (by assumption))))).mono ?_
      rintro e w1 ⟨v1, rfl, hx, R1, F1⟩
      obtain ⟨ro, rfl⟩ := hx.rw
      have hz1 := F1.size
      simp at hz1
      have HX : Hid (NodeQ (fun b => w.heap.size + 1 ≤ b ∧ b < w1.heap.size) w1 60 ro.v x) := NodeQ.keep (fun b hb => ⟨by have := hb.1; simp at this; omega, hb.2⟩) (fun _ _ _ => rfl) (Nat.le_refl _) hx
      have HG1 : Hid (w1.heap[w.heap.size]? = some (.cells #[.int .u8 0, .int .i64 0, .string ⟨#[]⟩, .slice none 0 0, .slice none 0 0] 26 (0, 0))) := (F1.block w.heap.size (by simp) (by omega)).trans (heap_alloc_new w _)
      have HF1 : Hid (Fl rb w w1) := Fl.trans (BW.fl (by repeat (first | exact BW.refl _ | assumption | apply BW.alloc | apply BW.drewN | apply BW.drew | (refine BW.setCell ?_ (by first | omega | (simp; done) | (simp; omega)) _) | (refine BW.trans ?_ (by assumption)))) rb) F1
      obtain ⟨⟨ao, cp, _, _, r0⟩, _⟩ := R1.cellsR
      simp only [List.length_nil] at r0
      clear hx R1 F1 CN2
      go_upto_region 2 with fail
      obtain ⟨W, hW⟩ : ∃ W, W = w1.alloc (.cells #[.int .u8 ro.k, .int .i64 ro.n, .string ro.s, .slice ro.na ro.nl ro.nc, .slice ro.ka ro.kl ro.kc] 26) := ⟨_, rfl⟩
      have bW : BW w1 W := by rw [hW]; exact BW.alloc (BW.refl _) _
      have hzW : w1.heap.size < W.heap.size := by rw [hW]; simp
      have HN : Hid (W.heap[w1.heap.size]? = some (.cells #[.int .u8 ro.k, .int .i64 ro.n, .string ro.s, .slice ro.na ro.nl ro.nc, .slice ro.ka ro.kl ro.kc] 26 (0, 0))) := by show _ = _; rw [hW]; exact heap_alloc_new _ _
      have HGW : Hid (W.heap[w.heap.size]? = some (.cells #[.int .u8 0, .int .i64 0, .string ⟨#[]⟩, .slice none 0 0, .slice none 0 0] 26 (0, 0))) := (bW.block _ (by omega)).trans HG1.out
      have HXW : Hid (NodeQ (fun b => w.heap.size + 1 ≤ b ∧ b < w1.heap.size) W 60 ro.v x) := NodeQ.keep (fun _ hb => hb) (fun b hb hl => bW.block b hl) (by omega) HX.out
      have HFW : Hid (Fl rb w W) := HF1.out.trans (bW.fl rb)
      have r0W := (bW.cells rb 0 (by omega)).trans r0
      have m0 : W.cell? ⟨w1.heap.size, 0, none⟩ = some (.int .u8 ro.k) := by rw [Lib.cell_of_heap HN.out]; rfl
      have m1 : W.cell? ⟨w1.heap.size, 1, none⟩ = some (.int .i64 ro.n) := by rw [Lib.cell_of_heap HN.out]; rfl
      have m2 : W.cell? ⟨w1.heap.size, 2, none⟩ = some (.string ro.s) := by rw [Lib.cell_of_heap HN.out]; rfl
      have m3 : W.cell? ⟨w1.heap.size, 3, none⟩ = some (.slice ro.na ro.nl ro.nc) := by rw [Lib.cell_of_heap HN.out]; rfl
      have m4 : W.cell? ⟨w1.heap.size, 4, none⟩ = some (.slice ro.ka ro.kl ro.kc) := by rw [Lib.cell_of_heap HN.out]; rfl
      have k0 : W.cell? ⟨w.heap.size, 0, none⟩ = some (.int .u8 0) := by rw [Lib.cell_of_heap HGW.out]; rfl
      have k1 : W.cell? ⟨w.heap.size, 1, none⟩ = some (.int .i64 0) := by rw [Lib.cell_of_heap HGW.out]; rfl
      have k2 : W.cell? ⟨w.heap.size, 2, none⟩ = some (.string ⟨#[]⟩) := by rw [Lib.cell_of_heap HGW.out]; rfl
      have k3 : W.cell? ⟨w.heap.size, 3, none⟩ = some (.slice none 0 0) := by rw [Lib.cell_of_heap HGW.out]; rfl
      have k4 : W.cell? ⟨w.heap.size, 4, none⟩ = some (.slice none 0 0) := by rw [Lib.cell_of_heap HGW.out]; rfl
      have kz : ∀ o, W.frozen? ⟨w.heap.size, o, none⟩ = false := fun o => Lib.frozen_of_heap HGW.out o
      rw [← hW]
      clear hW HN HG1 HX HF1 bW r0
      go_wp2_with (fail)
      refine end_node Tryd.func9 2 rfl rfl (set5 HGW.out) ⟨_, rfl, ?_, HFW.out.set5 (Nat.le_refl _)⟩
      exact NodeQ.keep (fun b hb => ⟨by omega, by simp [World.setCell]; omega⟩) (fun b hb hl => set5o (by omega)) (by simp [World.setCell]) HXW.out
    | cons t r =>
      show Calls Tryd.prog 9 _ w (fun e w' => e = .panicked (thrP N (12, t.back)) ∧ Fl rb w w')
      go_enter Tryd.func9, Tryd.ntmps9
      go_wp2_with (fail)
      refine (CN2.out _ (by repeat (first | exact BW.refl _ | assumption | apply BW.alloc | apply BW.drewN | apply BW.drew | (refine BW.setCell ?_ (by first | omega | (simp; done) | (simp; omega)) _) | (refine BW.trans ?_ (by assumption))))).mono ?_
      rintro e w1 ⟨v1, rfl, hx, R1, F1⟩
      obtain ⟨ro, rfl⟩ := hx.rw
      have hz1 := F1.size
      simp at hz1
      have HF1 : Hid (Fl rb w w1) := Fl.trans (BW.fl (by repeat (first | exact BW.refl _ | assumption | apply BW.alloc | apply BW.drewN | apply BW.drew | (refine BW.setCell ?_ (by first | omega | (simp; done) | (simp; omega)) _) | (refine BW.trans ?_ (by assumption)))) rb) F1
      clear hx F1 CN2
      go_upto_region 2 with fail
      obtain ⟨W, hW⟩ : ∃ W, W = w1.alloc (.cells #[.int .u8 ro.k, .int .i64 ro.n, .string ro.s, .slice ro.na ro.nl ro.nc, .slice ro.ka ro.kl ro.kc] 26) := ⟨_, rfl⟩
      have bW : BW w1 W := by rw [hW]; exact BW.alloc (BW.refl _) _
      have RW := R1.bw bW
      obtain ⟨b, off, cp, q1, q2, hb, ⟨t0, t1, t2, t3⟩, ok, nb, hbl, r0⟩ := RW.head
      have d0 : W.cell? ⟨rb, 0, none⟩ = some (.slice (some ⟨b, off, none⟩) (r.length + 1) cp) := by rw [Lib.cell_of_heap hb]; rfl
      have e1 : decide ((0 : Int) < (r.length : Int) + 1) = true := decide_eq_true (by omega)
      have e2 : (0 : Int) < (r.length : Int) + 1 := by omega
      have HFW : Hid (Fl rb w W) := HF1.out.trans (bW.fl rb)
      rw [← hW]
      clear hW HF1 bW R1
      clear hb t0 t1 t2 RW r0 ok
      go_wp2_with (fail)
      exact ⟨rfl, rfl, HFW.out⟩


theorem end3 {w : World} {a2 a3 a4 : Nat} {x0 y0 : Value} (h23 : a2 < a3) (h34 : a3 < a4) (B2 : w.heap[a2]? = some (.cells #[.int .u8 0, .int .i64 0, .string ⟨#[]⟩, .slice none 0 0, .slice none 0 0] 26 (0, 0))) (B3 : w.heap[a3]? = some (.cells #[x0] 3 (0, 0))) (B4 : w.heap[a4]? = some (.cells #[y0] 27 (0, 0))) (at' code : Int) : ((((((w.setCell ⟨a2, 0, none⟩ (.int .u8 0)).setCell ⟨a2, 1, none⟩ (.int .i64 0)).setCell ⟨a2, 2, none⟩ (.string ⟨#[]⟩)).setCell ⟨a2, 3, none⟩ (.slice none 0 0)).setCell ⟨a2, 4, none⟩ (.slice none 0 0)).setCell ⟨a3, 0, none⟩ (.int .i64 at') |>.setCell ⟨a4, 0, none⟩ (.int .i64 code)).heap[a2]? = some (.cells #[.int .u8 0, .int .i64 0, .string ⟨#[]⟩, .slice none 0 0, .slice none 0 0] 26 (0, 0)) ∧ ((((((w.setCell ⟨a2, 0, none⟩ (.int .u8 0)).setCell ⟨a2, 1, none⟩ (.int .i64 0)).setCell ⟨a2, 2, none⟩ (.string ⟨#[]⟩)).setCell ⟨a2, 3, none⟩ (.slice none 0 0)).setCell ⟨a2, 4, none⟩ (.slice none 0 0)).setCell ⟨a3, 0, none⟩ (.int .i64 at') |>.setCell ⟨a4, 0, none⟩ (.int .i64 code)).heap[a3]? = some (.cells #[.int .i64 at'] 3 (0, 0)) ∧ ((((((w.setCell ⟨a2, 0, none⟩ (.int .u8 0)).setCell ⟨a2, 1, none⟩ (.int .i64 0)).setCell ⟨a2, 2, none⟩ (.string ⟨#[]⟩)).setCell ⟨a2, 3, none⟩ (.slice none 0 0)).setCell ⟨a2, 4, none⟩ (.slice none 0 0)).setCell ⟨a3, 0, none⟩ (.int .i64 at') |>.setCell ⟨a4, 0, none⟩ (.int .i64 code)).heap[a4]? = some (.cells #[.int .i64 code] 27 (0, 0)) ∧ Below a2 w ((((((w.setCell ⟨a2, 0, none⟩ (.int .u8 0)).setCell ⟨a2, 1, none⟩ (.int .i64 0)).setCell ⟨a2, 2, none⟩ (.string ⟨#[]⟩)).setCell ⟨a2, 3, none⟩ (.slice none 0 0)).setCell ⟨a2, 4, none⟩ (.slice none 0 0)).setCell ⟨a3, 0, none⟩ (.int .i64 at') |>.setCell ⟨a4, 0, none⟩ (.int .i64 code)) := by
  have s5 := set5 (a := .int .u8 0) (c := .int .i64 0) (d := .string ⟨#[]⟩) (e := .slice none 0 0) (f := .slice none 0 0) B2
  have o5 : ∀ b, ¬ b = a2 → (((((w.setCell ⟨a2, 0, none⟩ (.int .u8 0)).setCell ⟨a2, 1, none⟩ (.int .i64 0)).setCell ⟨a2, 2, none⟩ (.string ⟨#[]⟩)).setCell ⟨a2, 3, none⟩ (.slice none 0 0)).setCell ⟨a2, 4, none⟩ (.slice none 0 0)).heap[b]? = w.heap[b]? := fun b hb => set5o hb
  have b5 : Below a2 w (((((w.setCell ⟨a2, 0, none⟩ (.int .u8 0)).setCell ⟨a2, 1, none⟩ (.int .i64 0)).setCell ⟨a2, 2, none⟩ (.string ⟨#[]⟩)).setCell ⟨a2, 3, none⟩ (.slice none 0 0)).setCell ⟨a2, 4, none⟩ (.slice none 0 0)) := Below.setCell (p := ⟨a2, 4, none⟩) (Below.setCell (p := ⟨a2, 3, none⟩) (Below.setCell (p := ⟨a2, 2, none⟩) (Below.setCell (p := ⟨a2, 1, none⟩) (Below.setCell (p := ⟨a2, 0, none⟩) (Below.refl a2 w) (Nat.le_refl _) _) (Nat.le_refl _) _) (Nat.le_refl _) _) (Nat.le_refl _) _) (Nat.le_refl _) _
  generalize (((((w.setCell ⟨a2, 0, none⟩ (.int .u8 0)).setCell ⟨a2, 1, none⟩ (.int .i64 0)).setCell ⟨a2, 2, none⟩ (.string ⟨#[]⟩)).setCell ⟨a2, 3, none⟩ (.slice none 0 0)).setCell ⟨a2, 4, none⟩ (.slice none 0 0)) = W at s5 o5 b5 ⊢
  have t3 : (W.setCell ⟨a3, 0, none⟩ (.int .i64 at')).heap[a3]? = some (.cells #[.int .i64 at'] 3 (0, 0)) := heap_setCell_same W a3 0 _ 3 _ ((o5 a3 (by omega)).trans B3)
  have t4 := heap_setCell_same (W.setCell ⟨a3, 0, none⟩ (.int .i64 at')) a4 0 #[y0] 27 (.int .i64 code) ((sco _ (by omega)).trans ((o5 a4 (by omega)).trans B4))
  refine ⟨(sco _ (by omega)).trans ((sco _ (by omega)).trans s5), (sco _ (by omega)).trans t3, t4, ?_⟩
  exact Below.setCell (p := ⟨a4, 0, none⟩) (Below.setCell (p := ⟨a3, 0, none⟩) b5 (Nat.le_of_lt h23) _) (by show a2 ≤ a4; omega) _
set_option maxRecDepth 100000 in
theorem catchP_idle (a1 a2 a3 a4 : Nat) (w : World) : CallsD Tryd.prog 8 #[.pointer (some ⟨a1, 0, none⟩), .pointer (some ⟨a2, 0, none⟩), .pointer (some ⟨a3, 0, none⟩), .pointer (some ⟨a4, 0, none⟩)] .returning w fun e u' w' => e = .returned (.tuple #[]) ∧ u' = .returning ∧ w' = w := by
  have k36 : ∀ w : World, (Instr.typeAssert (.nilIface) 20 36 true).run Tryd.prog w = .ok (.tuple #[.agg #[], .bool false]) w := fun _ => by kernel_rfl
  have k37 : ∀ w : World, (Instr.typeAssert (.nilIface) 20 37 true).run Tryd.prog w = .ok (.tuple #[.int .i64 0, .bool false]) w := fun _ => by kernel_rfl
  have k38 : ∀ w : World, (Instr.typeAssert (.nilIface) 20 38 true).run Tryd.prog w = .ok (.tuple #[.int .i64 0, .bool false]) w := fun _ => by kernel_rfl
  refine callsD_of_wpS Tryd.func8 rfl fun c₀ cs hu => ?_
  apply wpS_seq
  apply wpS_region
  simp [wpOpsS, go_sem, recoverD, hu, Tryd.ntmps8, Exit.thenS, bodyPostS, results, Tryd.results8]
  have et : #[Value.pointer (some ⟨a1, 0, none⟩), Value.pointer (some ⟨a2, 0, none⟩), Value.pointer (some ⟨a3, 0, none⟩), Value.pointer (some ⟨a4, 0, none⟩)] ++ (Array.replicate 20 undef).setIfInBounds 3 (.nilIface) = #[.pointer (some ⟨a1, 0, none⟩), .pointer (some ⟨a2, 0, none⟩), .pointer (some ⟨a3, 0, none⟩), .pointer (some ⟨a4, 0, none⟩), undef, undef, undef, .nilIface, undef, undef, undef, undef, undef, undef, undef, undef, undef, undef, undef, undef, undef, undef, undef, undef] := by kernel_rfl
  rw [et]
  clear et
  refine wpS_of_wp ?_
  go_wp2_with fail
  simp [bodyPostS, results, Tryd.results8]
  cases c₀
  simp_all
set_option maxRecDepth 100000 in
set_option maxHeartbeats 1000000 in
theorem catchP_miss (a1 a2 a3 a4 : Nat) (s : ByteArray) (w : World) (h12 : a1 < a2) (h23 : a2 < a3) (h34 : a3 < a4) (B1 : w.heap[a1]? = some (.cells #[.string s] 9 (0, 0))) (B2 : w.heap[a2]? = some (.cells #[.int .u8 0, .int .i64 0, .string ⟨#[]⟩, .slice none 0 0, .slice none 0 0] 26 (0, 0))) (B3 : w.heap[a3]? = some (.cells #[.int .i64 0] 3 (0, 0))) (B4 : w.heap[a4]? = some (.cells #[.int .i64 0] 27 (0, 0))) : CallsD Tryd.prog 8 #[.pointer (some ⟨a1, 0, none⟩), .pointer (some ⟨a2, 0, none⟩), .pointer (some ⟨a3, 0, none⟩), .pointer (some ⟨a4, 0, none⟩)] (.panicking [{ v := .iface 36 (.agg #[]), recovered := false }]) w fun e u' w' => e = .returned (.tuple #[]) ∧ u' = .panicking [{ v := .iface 36 (.agg #[]), recovered := true }] ∧ w'.heap[a2]? = some (.cells #[.int .u8 0, .int .i64 0, .string ⟨#[]⟩, .slice none 0 0, .slice none 0 0] 26 (0, 0)) ∧ w'.heap[a3]? = some (.cells #[.int .i64 s.size] 3 (0, 0)) ∧ w'.heap[a4]? = some (.cells #[.int .i64 11] 27 (0, 0)) ∧ Below a2 w w'  := by
  have hz4 : a4 < w.heap.size := (Array.getElem?_eq_some_iff.1 B4).1
  have l1 : a1 < w.heap.size := by omega
  have l2 : a2 < w.heap.size := by omega
  have l3 : a3 < w.heap.size := by omega
  have n1 : ¬ a1 = w.heap.size := by omega
  have n2 : ¬ a2 = w.heap.size := by omega
  have n3 : ¬ a3 = w.heap.size := by omega
  have n4 : ¬ a4 = w.heap.size := by omega
  have m1 : ¬ a2 = a3 := by omega
  have m2 : ¬ a2 = a4 := by omega
  have m3 : ¬ a3 = a4 := by omega
  have m4 : ¬ a3 = a2 := by omega
  have m5 : ¬ a4 = a2 := by omega
  have m6 : ¬ a4 = a3 := by omega
  have m7 : ¬ a1 = a2 := by omega
  have c1 : w.cell? ⟨a1, 0, none⟩ = some (.string s) := by rw [Lib.cell_of_heap B1]; rfl
  have b0 : w.cell? ⟨a2, 0, none⟩ = some (.int .u8 0) := by rw [Lib.cell_of_heap B2]; rfl
  have b1 : w.cell? ⟨a2, 1, none⟩ = some (.int .i64 0) := by rw [Lib.cell_of_heap B2]; rfl
  have b2 : w.cell? ⟨a2, 2, none⟩ = some (.string ⟨#[]⟩) := by rw [Lib.cell_of_heap B2]; rfl
  have b3 : w.cell? ⟨a2, 3, none⟩ = some (.slice none 0 0) := by rw [Lib.cell_of_heap B2]; rfl
  have b4 : w.cell? ⟨a2, 4, none⟩ = some (.slice none 0 0) := by rw [Lib.cell_of_heap B2]; rfl
  have c3 : w.cell? ⟨a3, 0, none⟩ = some (.int .i64 0) := by rw [Lib.cell_of_heap B3]; rfl
  have c4 : w.cell? ⟨a4, 0, none⟩ = some (.int .i64 0) := by rw [Lib.cell_of_heap B4]; rfl
  have z2 : ∀ o, w.frozen? ⟨a2, o, none⟩ = false := fun o => Lib.frozen_of_heap B2 o
  have z3 : ∀ o, w.frozen? ⟨a3, o, none⟩ = false := fun o => Lib.frozen_of_heap B3 o
  have z4 : ∀ o, w.frozen? ⟨a4, o, none⟩ = false := fun o => Lib.frozen_of_heap B4 o
  have k36 : ∀ w : World, (Instr.typeAssert (.iface 36 (.agg #[])) 20 36 true).run Tryd.prog w = .ok (.tuple #[.agg #[], .bool true]) w := fun _ => by kernel_rfl
  have k37 : ∀ w : World, (Instr.typeAssert (.iface 36 (.agg #[])) 20 37 true).run Tryd.prog w = .ok (.tuple #[.int .i64 0, .bool false]) w := fun _ => by kernel_rfl
  have k38 : ∀ w : World, (Instr.typeAssert (.iface 36 (.agg #[])) 20 38 true).run Tryd.prog w = .ok (.tuple #[.int .i64 0, .bool false]) w := fun _ => by kernel_rfl
  refine callsD_of_wpS Tryd.func8 rfl fun c₀ cs hu => ?_
  apply wpS_seq
  apply wpS_region
  simp [wpOpsS, go_sem, recoverD, hu, Tryd.ntmps8, Exit.thenS, bodyPostS, results, Tryd.results8]
  have et : #[Value.pointer (some ⟨a1, 0, none⟩), Value.pointer (some ⟨a2, 0, none⟩), Value.pointer (some ⟨a3, 0, none⟩), Value.pointer (some ⟨a4, 0, none⟩)] ++ (Array.replicate 20 undef).setIfInBounds 3 (.iface 36 (.agg #[])) = #[.pointer (some ⟨a1, 0, none⟩), .pointer (some ⟨a2, 0, none⟩), .pointer (some ⟨a3, 0, none⟩), .pointer (some ⟨a4, 0, none⟩), undef, undef, undef, .iface 36 (.agg #[]), undef, undef, undef, undef, undef, undef, undef, undef, undef, undef, undef, undef, undef, undef, undef, undef] := by kernel_rfl
  rw [et]
  clear et
  refine wpS_of_wp ?_
  go_wp2_with fail
  simp [bodyPostS, results, Tryd.results8]
  obtain ⟨q1, q2, q3, q4⟩ := end3 h23 h34 B2 B3 B4 (s.size : Int) 11
  have qb := BW.alloc (BW.refl ((((((w.setCell ⟨a2, 0, none⟩ (.int .u8 0)).setCell ⟨a2, 1, none⟩ (.int .i64 0)).setCell ⟨a2, 2, none⟩ (.string ⟨#[]⟩)).setCell ⟨a2, 3, none⟩ (.slice none 0 0)).setCell ⟨a2, 4, none⟩ (.slice none 0 0)).setCell ⟨a3, 0, none⟩ (.int .i64 s.size) |>.setCell ⟨a4, 0, none⟩ (.int .i64 11))) (.cells #[] 36)
  have hsz : ((((((w.setCell ⟨a2, 0, none⟩ (.int .u8 0)).setCell ⟨a2, 1, none⟩ (.int .i64 0)).setCell ⟨a2, 2, none⟩ (.string ⟨#[]⟩)).setCell ⟨a2, 3, none⟩ (.slice none 0 0)).setCell ⟨a2, 4, none⟩ (.slice none 0 0)).setCell ⟨a3, 0, none⟩ (.int .i64 s.size) |>.setCell ⟨a4, 0, none⟩ (.int .i64 11)).heap.size = w.heap.size := by simp [World.setCell]
  exact ⟨(qb.block a2 (by omega)).trans q1, (qb.block a3 (by omega)).trans q2, (qb.block a4 (by omega)).trans q3, q4.trans (Below.mono qb (by omega))⟩
set_option maxRecDepth 100000 in
set_option maxHeartbeats 1000000 in
theorem catchP_stray (a1 a2 a3 a4 : Nat) (s : ByteArray) (p : Int) (w : World) (h12 : a1 < a2) (h23 : a2 < a3) (h34 : a3 < a4) (B1 : w.heap[a1]? = some (.cells #[.string s] 9 (0, 0))) (B2 : w.heap[a2]? = some (.cells #[.int .u8 0, .int .i64 0, .string ⟨#[]⟩, .slice none 0 0, .slice none 0 0] 26 (0, 0))) (B3 : w.heap[a3]? = some (.cells #[.int .i64 0] 3 (0, 0))) (B4 : w.heap[a4]? = some (.cells #[.int .i64 0] 27 (0, 0))) : CallsD Tryd.prog 8 #[.pointer (some ⟨a1, 0, none⟩), .pointer (some ⟨a2, 0, none⟩), .pointer (some ⟨a3, 0, none⟩), .pointer (some ⟨a4, 0, none⟩)] (.panicking [{ v := .iface 37 (.int .i64 p), recovered := false }]) w fun e u' w' => e = .returned (.tuple #[]) ∧ u' = .panicking [{ v := .iface 37 (.int .i64 p), recovered := true }] ∧ w'.heap[a2]? = some (.cells #[.int .u8 0, .int .i64 0, .string ⟨#[]⟩, .slice none 0 0, .slice none 0 0] 26 (0, 0)) ∧ w'.heap[a3]? = some (.cells #[.int .i64 p] 3 (0, 0)) ∧ w'.heap[a4]? = some (.cells #[.int .i64 12] 27 (0, 0)) ∧ Below a2 w w'  := by
  have hz4 : a4 < w.heap.size := (Array.getElem?_eq_some_iff.1 B4).1
  have l1 : a1 < w.heap.size := by omega
  have l2 : a2 < w.heap.size := by omega
  have l3 : a3 < w.heap.size := by omega
  have n1 : ¬ a1 = w.heap.size := by omega
  have n2 : ¬ a2 = w.heap.size := by omega
  have n3 : ¬ a3 = w.heap.size := by omega
  have n4 : ¬ a4 = w.heap.size := by omega
  have m1 : ¬ a2 = a3 := by omega
  have m2 : ¬ a2 = a4 := by omega
  have m3 : ¬ a3 = a4 := by omega
  have m4 : ¬ a3 = a2 := by omega
  have m5 : ¬ a4 = a2 := by omega
  have m6 : ¬ a4 = a3 := by omega
  have m7 : ¬ a1 = a2 := by omega
  have c1 : w.cell? ⟨a1, 0, none⟩ = some (.string s) := by rw [Lib.cell_of_heap B1]; rfl
  have b0 : w.cell? ⟨a2, 0, none⟩ = some (.int .u8 0) := by rw [Lib.cell_of_heap B2]; rfl
  have b1 : w.cell? ⟨a2, 1, none⟩ = some (.int .i64 0) := by rw [Lib.cell_of_heap B2]; rfl
  have b2 : w.cell? ⟨a2, 2, none⟩ = some (.string ⟨#[]⟩) := by rw [Lib.cell_of_heap B2]; rfl
  have b3 : w.cell? ⟨a2, 3, none⟩ = some (.slice none 0 0) := by rw [Lib.cell_of_heap B2]; rfl
  have b4 : w.cell? ⟨a2, 4, none⟩ = some (.slice none 0 0) := by rw [Lib.cell_of_heap B2]; rfl
  have c3 : w.cell? ⟨a3, 0, none⟩ = some (.int .i64 0) := by rw [Lib.cell_of_heap B3]; rfl
  have c4 : w.cell? ⟨a4, 0, none⟩ = some (.int .i64 0) := by rw [Lib.cell_of_heap B4]; rfl
  have z2 : ∀ o, w.frozen? ⟨a2, o, none⟩ = false := fun o => Lib.frozen_of_heap B2 o
  have z3 : ∀ o, w.frozen? ⟨a3, o, none⟩ = false := fun o => Lib.frozen_of_heap B3 o
  have z4 : ∀ o, w.frozen? ⟨a4, o, none⟩ = false := fun o => Lib.frozen_of_heap B4 o
  have k36 : ∀ w : World, (Instr.typeAssert (.iface 37 (.int .i64 p)) 20 36 true).run Tryd.prog w = .ok (.tuple #[.agg #[], .bool false]) w := fun _ => by kernel_rfl
  have k37 : ∀ w : World, (Instr.typeAssert (.iface 37 (.int .i64 p)) 20 37 true).run Tryd.prog w = .ok (.tuple #[.int .i64 p, .bool true]) w := fun _ => by kernel_rfl
  have k38 : ∀ w : World, (Instr.typeAssert (.iface 37 (.int .i64 p)) 20 38 true).run Tryd.prog w = .ok (.tuple #[.int .i64 0, .bool false]) w := fun _ => by kernel_rfl
  refine callsD_of_wpS Tryd.func8 rfl fun c₀ cs hu => ?_
  apply wpS_seq
  apply wpS_region
  simp [wpOpsS, go_sem, recoverD, hu, Tryd.ntmps8, Exit.thenS, bodyPostS, results, Tryd.results8]
  have et : #[Value.pointer (some ⟨a1, 0, none⟩), Value.pointer (some ⟨a2, 0, none⟩), Value.pointer (some ⟨a3, 0, none⟩), Value.pointer (some ⟨a4, 0, none⟩)] ++ (Array.replicate 20 undef).setIfInBounds 3 (.iface 37 (.int .i64 p)) = #[.pointer (some ⟨a1, 0, none⟩), .pointer (some ⟨a2, 0, none⟩), .pointer (some ⟨a3, 0, none⟩), .pointer (some ⟨a4, 0, none⟩), undef, undef, undef, .iface 37 (.int .i64 p), undef, undef, undef, undef, undef, undef, undef, undef, undef, undef, undef, undef, undef, undef, undef, undef] := by kernel_rfl
  rw [et]
  clear et
  refine wpS_of_wp ?_
  go_wp2_with fail
  simp [bodyPostS, results, Tryd.results8]
  exact end3 h23 h34 B2 B3 B4 _ _
set_option maxRecDepth 100000 in
set_option maxHeartbeats 1000000 in
theorem catchP_excess (a1 a2 a3 a4 : Nat) (s : ByteArray) (p : Int) (w : World) (h12 : a1 < a2) (h23 : a2 < a3) (h34 : a3 < a4) (B1 : w.heap[a1]? = some (.cells #[.string s] 9 (0, 0))) (B2 : w.heap[a2]? = some (.cells #[.int .u8 0, .int .i64 0, .string ⟨#[]⟩, .slice none 0 0, .slice none 0 0] 26 (0, 0))) (B3 : w.heap[a3]? = some (.cells #[.int .i64 0] 3 (0, 0))) (B4 : w.heap[a4]? = some (.cells #[.int .i64 0] 27 (0, 0))) : CallsD Tryd.prog 8 #[.pointer (some ⟨a1, 0, none⟩), .pointer (some ⟨a2, 0, none⟩), .pointer (some ⟨a3, 0, none⟩), .pointer (some ⟨a4, 0, none⟩)] (.panicking [{ v := .iface 38 (.int .i64 p), recovered := false }]) w fun e u' w' => e = .returned (.tuple #[]) ∧ u' = .panicking [{ v := .iface 38 (.int .i64 p), recovered := true }] ∧ w'.heap[a2]? = some (.cells #[.int .u8 0, .int .i64 0, .string ⟨#[]⟩, .slice none 0 0, .slice none 0 0] 26 (0, 0)) ∧ w'.heap[a3]? = some (.cells #[.int .i64 p] 3 (0, 0)) ∧ w'.heap[a4]? = some (.cells #[.int .i64 13] 27 (0, 0)) ∧ Below a2 w w'  := by
  have hz4 : a4 < w.heap.size := (Array.getElem?_eq_some_iff.1 B4).1
  have l1 : a1 < w.heap.size := by omega
  have l2 : a2 < w.heap.size := by omega
  have l3 : a3 < w.heap.size := by omega
  have n1 : ¬ a1 = w.heap.size := by omega
  have n2 : ¬ a2 = w.heap.size := by omega
  have n3 : ¬ a3 = w.heap.size := by omega
  have n4 : ¬ a4 = w.heap.size := by omega
  have m1 : ¬ a2 = a3 := by omega
  have m2 : ¬ a2 = a4 := by omega
  have m3 : ¬ a3 = a4 := by omega
  have m4 : ¬ a3 = a2 := by omega
  have m5 : ¬ a4 = a2 := by omega
  have m6 : ¬ a4 = a3 := by omega
  have m7 : ¬ a1 = a2 := by omega
  have c1 : w.cell? ⟨a1, 0, none⟩ = some (.string s) := by rw [Lib.cell_of_heap B1]; rfl
  have b0 : w.cell? ⟨a2, 0, none⟩ = some (.int .u8 0) := by rw [Lib.cell_of_heap B2]; rfl
  have b1 : w.cell? ⟨a2, 1, none⟩ = some (.int .i64 0) := by rw [Lib.cell_of_heap B2]; rfl
  have b2 : w.cell? ⟨a2, 2, none⟩ = some (.string ⟨#[]⟩) := by rw [Lib.cell_of_heap B2]; rfl
  have b3 : w.cell? ⟨a2, 3, none⟩ = some (.slice none 0 0) := by rw [Lib.cell_of_heap B2]; rfl
  have b4 : w.cell? ⟨a2, 4, none⟩ = some (.slice none 0 0) := by rw [Lib.cell_of_heap B2]; rfl
  have c3 : w.cell? ⟨a3, 0, none⟩ = some (.int .i64 0) := by rw [Lib.cell_of_heap B3]; rfl
  have c4 : w.cell? ⟨a4, 0, none⟩ = some (.int .i64 0) := by rw [Lib.cell_of_heap B4]; rfl
  have z2 : ∀ o, w.frozen? ⟨a2, o, none⟩ = false := fun o => Lib.frozen_of_heap B2 o
  have z3 : ∀ o, w.frozen? ⟨a3, o, none⟩ = false := fun o => Lib.frozen_of_heap B3 o
  have z4 : ∀ o, w.frozen? ⟨a4, o, none⟩ = false := fun o => Lib.frozen_of_heap B4 o
  have k36 : ∀ w : World, (Instr.typeAssert (.iface 38 (.int .i64 p)) 20 36 true).run Tryd.prog w = .ok (.tuple #[.agg #[], .bool false]) w := fun _ => by kernel_rfl
  have k37 : ∀ w : World, (Instr.typeAssert (.iface 38 (.int .i64 p)) 20 37 true).run Tryd.prog w = .ok (.tuple #[.int .i64 0, .bool false]) w := fun _ => by kernel_rfl
  have k38 : ∀ w : World, (Instr.typeAssert (.iface 38 (.int .i64 p)) 20 38 true).run Tryd.prog w = .ok (.tuple #[.int .i64 p, .bool true]) w := fun _ => by kernel_rfl
  refine callsD_of_wpS Tryd.func8 rfl fun c₀ cs hu => ?_
  apply wpS_seq
  apply wpS_region
  simp [wpOpsS, go_sem, recoverD, hu, Tryd.ntmps8, Exit.thenS, bodyPostS, results, Tryd.results8]
  have et : #[Value.pointer (some ⟨a1, 0, none⟩), Value.pointer (some ⟨a2, 0, none⟩), Value.pointer (some ⟨a3, 0, none⟩), Value.pointer (some ⟨a4, 0, none⟩)] ++ (Array.replicate 20 undef).setIfInBounds 3 (.iface 38 (.int .i64 p)) = #[.pointer (some ⟨a1, 0, none⟩), .pointer (some ⟨a2, 0, none⟩), .pointer (some ⟨a3, 0, none⟩), .pointer (some ⟨a4, 0, none⟩), undef, undef, undef, .iface 38 (.int .i64 p), undef, undef, undef, undef, undef, undef, undef, undef, undef, undef, undef, undef, undef, undef, undef, undef] := by kernel_rfl
  rw [et]
  clear et
  refine wpS_of_wp ?_
  go_wp2_with fail
  simp [bodyPostS, results, Tryd.results8]
  exact end3 h23 h34 B2 B3 B4 _ _

end Go.Proofs.YtlacjiihbbgbeaaDoor
