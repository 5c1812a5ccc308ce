import Derived.Test.YtlacjiihbbgbeaaDoorN10
namespace Go.Proofs.YtlacjiihbbgbeaaDoor
open Go.RowKit
set_option linter.unusedVariables false
set_option linter.unusedSimpArgs false

def fv : Value := .agg fcs.toArray
theorem index_forms : ∀ w : World, (Instr.index 65 fv (.int .i64 0)).run Tryd.prog w = .ok (.agg #[.string ⟨#[102, 117, 110]⟩, .int .u8 6, .bool true, .int .i64 1, .bool false]) w ∧ (Instr.index 65 fv (.int .i64 1)).run Tryd.prog w = .ok (.agg #[.string ⟨#[99, 97, 108, 108]⟩, .int .u8 7, .bool false, .int .i64 1, .bool true]) w ∧ (Instr.index 65 fv (.int .i64 2)).run Tryd.prog w = .ok (.agg #[.string ⟨#[108, 101, 116]⟩, .int .u8 8, .bool true, .int .i64 2, .bool false]) w ∧ (Instr.index 65 fv (.int .i64 3)).run Tryd.prog w = .ok (.agg #[.string ⟨#[105, 102]⟩, .int .u8 9, .bool false, .int .i64 3, .bool false]) w ∧ (Instr.index 65 fv (.int .i64 4)).run Tryd.prog w = .ok (.agg #[.string ⟨#[100, 111]⟩, .int .u8 10, .bool false, .int .i64 1, .bool true]) w ∧ (Instr.index 65 fv (.int .i64 5)).run Tryd.prog w = .ok (.agg #[.string ⟨#[112, 101, 114, 102, 111, 114, 109]⟩, .int .u8 12, .bool true, .int .i64 1, .bool false]) w ∧ (Instr.index 65 fv (.int .i64 6)).run Tryd.prog w = .ok (.agg #[.string ⟨#[104, 97, 110, 100, 108, 101]⟩, .int .u8 13, .bool false, .int .i64 1, .bool false]) w ∧ (Instr.index 65 fv (.int .i64 7)).run Tryd.prog w = .ok (.agg #[.string ⟨#[114, 101, 115, 117, 109, 101]⟩, .int .u8 14, .bool false, .int .i64 2, .bool false]) w ∧ (Instr.index 65 fv (.int .i64 8)).run Tryd.prog w = .ok (.agg #[.string ⟨#[100, 114, 111, 112]⟩, .int .u8 15, .bool false, .int .i64 2, .bool false]) w ∧ (Instr.index 65 fv (.int .i64 9)).run Tryd.prog w = .ok (.agg #[.string ⟨#[119, 105, 110, 100]⟩, .int .u8 16, .bool false, .int .i64 3, .bool false]) w := fun w => ⟨by kernel_rfl, by kernel_rfl, by kernel_rfl, by kernel_rfl, by kernel_rfl, by kernel_rfl, by kernel_rfl, by kernel_rfl, by kernel_rfl, by kernel_rfl⟩
def foV (F : Fo) : Value := .agg #[.string ⟨F.word.toArray⟩, .int .u8 F.kind, .bool F.named, .int .i64 F.parts, .bool F.more]
/-- Reading what stands behind a form's word, at a level. -/
def FormC (f : Nat) : Prop := ∀ (rb B N d : Nat) (F : Fo) (st : Ps) (w : World), d + (f + 1) = 61 → F ∈ fos → RdP rb B N st w → Gv w → 2 < rb → Calls Tryd.prog 30 #[.pointer (some ⟨rb, 0, none⟩), foV F, .int .i64 d] w (PostP (fun w' v x => NodeQ (fun b => w.heap.size ≤ b ∧ b < w'.heap.size) w' (f + 1) v x) rb B N w (pForm f (pN f).1 (pN f).2 F st))
theorem wf_any {K : Type} (k i : Int) (s : List UInt8) (ns : List ByteArray) (l : List K) (h0 : 0 ≤ k) (h1 : k ≤ 255) (h2 : -9223372036854775808 ≤ i) (h3 : i ≤ 9223372036854775807) (h4 : s.length ≤ 100000) : Wf (⟨k, i, ⟨s.toArray⟩, ns, l⟩ : Nd K) := ⟨h0, h1, h2, h3, by show s.toArray.size ≤ maxLen; simp; unfold maxLen; omega⟩
theorem frozen_fl {rb : Nat} {w w' : World} (h : Fl rb w w') {b o : Nat} (hb : b < w.heap.size) (hn : ¬ b = rb) : w'.frozen? ⟨b, o, none⟩ = w.frozen? ⟨b, o, none⟩ := by
  simp only [World.frozen?, h.block b hb hn]
theorem tk_le (s : List UInt8) : tk s ≤ 2 ∧ -1 ≤ tk s := by
  unfold tk
  cases h : wtab.find? _ with
  | none => simp
  | some p =>
    have hm := List.mem_of_find?_eq_some h
    have : ∀ p ∈ wtab, (p.2 : Int) ≤ 2 ∧ -1 ≤ (p.2 : Int) := by decide
    simpa using this p hm
set_option maxRecDepth 100000 in
set_option maxHeartbeats 4000000 in
theorem bracketed_of {f : Nat} (ihN : NodeC f) (ihF : FormC f) : BrC f := by
  intro rb B N d st w hd h hG hrb
  have hlt := h.lt
  have hBw := h.2.2.2.2.1
  have HG : Hid (Gv w) := hG
  have IN : Hid (NodeC f) := ihN
  have IF : Hid (FormC f) := ihF
  have C : Hid (∀ w', BW w w' → Calls Tryd.prog 19 #[.pointer (some ⟨rb, 0, none⟩), .int .u8 3] w' (PostP (tvl N) rb B N w' (pExpect 3 st))) := fun w' hb => expect_any rb B N 3 (by omega) st _ (h.bw hb)
  unfold pBr
  cases hx : pExpect 3 st with
  | error er =>
    rw [hx] at C
    show Calls Tryd.prog 18 _ w (fun e w' => e = .panicked (thrP N er) ∧ Fl rb w w')
    have C2 : Hid (∀ w', BW w w' → Calls Tryd.prog 19 #[.pointer (some ⟨rb, 0, none⟩), .int .u8 3] w' (fun e w'' => e = .panicked (thrP N er) ∧ Fl rb w' w'')) := C.out
    clear C h hx
    go_enter Tryd.func18, Tryd.ntmps18
    go_wp2_with (go_at_call 19; refine (C2.out _ (by repeat (first | exact BW.refl _ | assumption | apply BW.alloc | apply BW.drewN | apply BW.drew | (refine BW.setCell ?_ (by first | omega | (simp; done) | (simp; omega)) _) | (refine BW.trans ?_ (by assumption))))).mono ?_; rintro e w1 ⟨rfl, f1⟩)
    exact ⟨rfl, rfl, (Fl.alloc (Fl.refl rb w) _).trans f1⟩
  | ok p =>
    obtain ⟨t, q⟩ := p
    rw [hx] at C
    have C2 : Hid (∀ w', BW w w' → Calls Tryd.prog 19 #[.pointer (some ⟨rb, 0, none⟩), .int .u8 3] w' (fun e w'' => e = .returned (.agg #[.int .u8 t.kind, .string ⟨t.s.toArray⟩, .int .i64 t.n, .int .i64 ((N - t.back : Nat) : Int)]) ∧ TokOk t ∧ RdP rb B N q w'' ∧ Fl rb w' w'')) := fun w' hb => (C.out w' hb).mono fun e w'' hh => by
      obtain ⟨v, h1, ⟨h2, h3⟩, h4, h5⟩ := hh
      subst h2
      exact ⟨h1, h3, h4, h5⟩
    clear C hx h
    simp only
    generalize hR : (if 0 ≤ tk t.s then _ else _ : Pr (Tr (f + 1))) = R
    have HRR : Hid _ := hR
    clear hR
    go_enter Tryd.func18, Tryd.ntmps18
    go_wp2_with (fail)
    refine (C2.out _ (by repeat (first | exact BW.refl _ | assumption | apply BW.alloc | apply BW.drewN | apply BW.drew | (refine BW.setCell ?_ (by first | omega | (simp; done) | (simp; omega)) _) | (refine BW.trans ?_ (by assumption))))).mono ?_
    rintro e w1 ⟨rfl, ok, R1, F1⟩
    have hz1 := F1.size
    simp at hz1
    have HG1 : Hid (w1.heap[w.heap.size]? = some (.cells #[.int .u8 0, .int .i64 0, .string ⟨#[]⟩, .slice none 0 0, .slice none 0 0] 26 (0, 0))) := (F1.block w.heap.size (by simp) (by omega)).trans (heap_alloc_new w _)
    have HF1 : Hid (Fl rb w w1) := Fl.trans (Fl.alloc (Fl.refl rb w) _) F1
    have HR1 : Hid (RdP rb B N q w1) := R1
    clear F1 R1 C2
    go_upto_region 2 with fail
    obtain ⟨W, hW⟩ : ∃ W, W = w1.alloc (.cells #[.int .u8 t.kind, .string ⟨t.s.toArray⟩, .int .i64 t.n, .int .i64 ((N - t.back : Nat) : Int)] 50) := ⟨_, rfl⟩
    have bW : BW w1 W := by rw [hW]; exact BW.alloc (BW.refl _) _
    have hzW : w1.heap.size < W.heap.size := by rw [hW]; simp
    have x0 : W.cell? ⟨w1.heap.size, 0, none⟩ = some (.int .u8 t.kind) := by rw [hW]; exact cell_new _ _ _ 0
    have x1 : W.cell? ⟨w1.heap.size, 1, none⟩ = some (.string ⟨t.s.toArray⟩) := by rw [hW]; exact cell_new _ _ _ 1
    have x2 : W.cell? ⟨w1.heap.size, 2, none⟩ = some (.int .i64 t.n) := by rw [hW]; exact cell_new _ _ _ 2
    have x3 : W.cell? ⟨w1.heap.size, 3, none⟩ = some (.int .i64 ((N - t.back : Nat) : Int)) := by rw [hW]; exact cell_new _ _ _ 3
    rw [← hW]
    clear hW
    have HGW : Hid (W.heap[w.heap.size]? = some (.cells #[.int .u8 0, .int .i64 0, .string ⟨#[]⟩, .slice none 0 0, .slice none 0 0] 26 (0, 0))) := (bW.block w.heap.size (by omega)).trans HG1.out
    have HRW : Hid (RdP rb B N q W) := HR1.out.bw bW
    have HFW : Hid (Fl rb w W) := HF1.out.trans (bW.fl rb)
    clear HG1 HF1 HR1 bW
    have CT : Hid (Calls Tryd.prog 28 #[.string ⟨t.s.toArray⟩] W fun e w' => e = .returned (.int .i64 (tk t.s)) ∧ BW W w') := by
      have := takes_any ⟨t.s.toArray⟩ W (HG.out.fl HFW.out hrb).2.1
      show Calls Tryd.prog 28 _ W _
      simpa using this
    go_wp2_with (fail)
    refine CT.out.mono ?_
    rintro e w2 ⟨rfl, b2⟩
    have hz2 := b2.size
    have HG2 : Hid (w2.heap[w.heap.size]? = some (.cells #[.int .u8 0, .int .i64 0, .string ⟨#[]⟩, .slice none 0 0, .slice none 0 0] 26 (0, 0))) := (b2.block w.heap.size (by omega)).trans HGW.out
    have HR2 : Hid (RdP rb B N q w2) := HRW.out.bw b2
    have HF2 : Hid (Fl rb w w2) := HFW.out.trans (b2.fl rb)
    have HGv : Hid (Gv w2) := HG.out.fl HF2.out hrb
    have y1 := (b2.cells w1.heap.size 1 (by omega)).trans x1
    have y3 := (b2.cells w1.heap.size 3 (by omega)).trans x3
    clear x0 x1 x2 x3 b2 HGW HRW HFW CT
    have htk := tk_le t.s
    have k0 : w2.cell? ⟨w.heap.size, 0, none⟩ = some (.int .u8 0) := by rw [Lib.cell_of_heap HG2.out]; rfl
    have k1 : w2.cell? ⟨w.heap.size, 1, none⟩ = some (.int .i64 0) := by rw [Lib.cell_of_heap HG2.out]; rfl
    have k2 : w2.cell? ⟨w.heap.size, 2, none⟩ = some (.string ⟨#[]⟩) := by rw [Lib.cell_of_heap HG2.out]; rfl
    have k3 : w2.cell? ⟨w.heap.size, 3, none⟩ = some (.slice none 0 0) := by rw [Lib.cell_of_heap HG2.out]; rfl
    have k4 : w2.cell? ⟨w.heap.size, 4, none⟩ = some (.slice none 0 0) := by rw [Lib.cell_of_heap HG2.out]; rfl
    have kz : ∀ o, w2.frozen? ⟨w.heap.size, o, none⟩ = false := fun o => Lib.frozen_of_heap HG2.out o
    by_cases h0 : 0 ≤ tk t.s
    · obtain ⟨m, hm⟩ : ∃ m : Nat, tk t.s = m := ⟨(tk t.s).toNat, by omega⟩
      have c1 : decide ((0 : Int) ≤ (m : Int)) = true := decide_eq_true (by omega)
      have CN : Hid (∀ w0, BW w2 w0 → Calls Tryd.prog 29 #[.pointer (some ⟨rb, 0, none⟩), .int .i64 m, .int .i64 ((d : Int) + 1)] w0 (PostP (fun w' v l => QRow w' w0.heap.size f v l) rb B N w0 (pMany (pN f).1 m q))) := fun w0 hb0 => by
        have := nodes_of IN.out rb B N (d + 1) m (by omega) (by omega) q w0 (HR2.out.bw hb0) (HGv.out.bw hb0) hrb
        push_cast at this
        exact this
      have hwd : IntKind.i64.wrap ((d : Int) + 1) = (d : Int) + 1 := i64w _ (by omega) (by omega)
      rw [hm]
      have hm2 : m ≤ 2 := by omega
      cases hp : pMany (pN f).1 m q with
      | error er =>
        rw [hp] at CN
        obtain rfl : R = .error er := by rw [← HRR.out, if_pos h0, hm, Int.toNat_natCast, hp]
        clear HRR h0 hm htk hp
        go_wp2_with (fail)
        refine wp_region_held_drew (S := (fun w' => w'.cell? ⟨w1.heap.size, 1, none⟩ = some (.string ⟨t.s.toArray⟩))) (by kernel_rfl) (by (try dsimp only); exact y1) (fun hHeld => ?_)
        refine wpAnyH_take (i := 0) (v := ?va0) rfl (by kernel_rfl) (by kernel_rfl) (by kernel_rfl) (fun _ _ _ h => h) (Or.inl ⟨by kernel_rfl, ?hya0⟩) (by assumption) ?resta0
        case hya0 => (intro w hSw; (try dsimp only at hSw); go_simp; first | done | with_reducible rfl)
        try simp only [Act.put, List.setIfInBounds_toArray, List.set_cons_zero, List.set_cons_succ]
        refine wpAnyH_take (i := 1) (v := ?va1) rfl (by kernel_rfl) (by kernel_rfl) (by kernel_rfl) (fun _ _ _ h => h) (Or.inl ⟨by kernel_rfl, ?hya1⟩) (by assumption) ?resta1
        case hya1 => (intro w hSw; (try dsimp only at hSw); go_simp; first | done | with_reducible rfl)
        try simp only [Act.put, List.setIfInBounds_toArray, List.set_cons_zero, List.set_cons_succ]
        refine wpAnyH_take (i := 2) (v := ?va2) rfl (by kernel_rfl) (by kernel_rfl) (by kernel_rfl) (fun _ _ _ h => h) (Or.inl ⟨by kernel_rfl, ?hya2⟩) (by assumption) ?resta2
        case hya2 => (intro w hSw; (try dsimp only at hSw); go_simp; first | done | with_reducible rfl)
        try simp only [Act.put, List.setIfInBounds_toArray, List.set_cons_zero, List.set_cons_succ]
        refine wpAnyH_take (i := 3) (v := ?va3) rfl (by kernel_rfl) (by kernel_rfl) (by kernel_rfl) (fun _ _ _ h => h) (Or.inl ⟨by kernel_rfl, ?hya3⟩) (by assumption) ?resta3
        case hya3 => (intro w hSw; (try dsimp only at hSw); go_simp; first | done | with_reducible rfl)
        try simp only [Act.put, List.setIfInBounds_toArray, List.set_cons_zero, List.set_cons_succ]
        refine wpAnyH_take (i := 4) (v := ?va4) rfl (by kernel_rfl) (by kernel_rfl) (by kernel_rfl) (fun _ _ _ h => h) (Or.inl ⟨by kernel_rfl, ?hya4⟩) (by assumption) ?resta4
        case hya4 => (intro w hSw; (try dsimp only at hSw); go_simp; first | done | with_reducible rfl)
        try simp only [Act.put, List.setIfInBounds_toArray, List.set_cons_zero, List.set_cons_succ]
        refine wpAnyH_take (i := 5) (v := ?va5) rfl (by kernel_rfl) (by kernel_rfl) (by kernel_rfl) (fun _ _ _ h => h) (Or.inl ⟨by kernel_rfl, ?hya5⟩) (by assumption) ?resta5
        case hya5 => (intro w hSw; (try dsimp only at hSw); go_simp; first | done | with_reducible rfl)
        try simp only [Act.put, List.setIfInBounds_toArray, List.set_cons_zero, List.set_cons_succ]
        refine wpAnyH_ready (rs := [6]) (by kernel_rfl) (by simp) ?_
        refine AllReadyH.cons rfl (fun K hK => ?_) AllReadyH.nil
        go_simp
        refine (CN.out _ (by repeat (first | exact BW.refl _ | assumption | apply BW.alloc | apply BW.drewN | apply BW.drew | (refine BW.setCell ?_ (by first | omega | (simp; done) | (simp; omega)) _) | (refine BW.trans ?_ (by assumption))))).mono ?_
        rintro e w3 ⟨rfl, f3⟩
        exact ⟨rfl, rfl, HF2.out.trans (Fl.trans (BW.fl (by repeat (first | exact BW.refl _ | assumption | apply BW.alloc | apply BW.drewN | apply BW.drew | (refine BW.setCell ?_ (by first | omega | (simp; done) | (simp; omega)) _) | (refine BW.trans ?_ (by assumption)))) rb) f3)⟩
      | ok p =>
        obtain ⟨l, q2⟩ := p
        rw [hp] at CN
        obtain rfl : R = .ok ((⟨11, 0, bsB t.s, [], l⟩ : Nd (Tr f)), q2) := by rw [← HRR.out, if_pos h0, hm, Int.toNat_natCast, hp]
        clear HRR h0 hm htk hp
        go_wp2_with (fail)
        refine wp_region_held_drew (S := (fun w' => w'.cell? ⟨w1.heap.size, 1, none⟩ = some (.string ⟨t.s.toArray⟩))) (by kernel_rfl) (by (try dsimp only); exact y1) (fun hHeld => ?_)
        refine wpAnyH_take (i := 0) (v := ?vb0) rfl (by kernel_rfl) (by kernel_rfl) (by kernel_rfl) (fun _ _ _ h => h) (Or.inl ⟨by kernel_rfl, ?hyb0⟩) (by assumption) ?restb0
        case hyb0 => (intro w hSw; (try dsimp only at hSw); go_simp; first | done | with_reducible rfl)
        try simp only [Act.put, List.setIfInBounds_toArray, List.set_cons_zero, List.set_cons_succ]
        refine wpAnyH_take (i := 1) (v := ?vb1) rfl (by kernel_rfl) (by kernel_rfl) (by kernel_rfl) (fun _ _ _ h => h) (Or.inl ⟨by kernel_rfl, ?hyb1⟩) (by assumption) ?restb1
        case hyb1 => (intro w hSw; (try dsimp only at hSw); go_simp; first | done | with_reducible rfl)
        try simp only [Act.put, List.setIfInBounds_toArray, List.set_cons_zero, List.set_cons_succ]
        refine wpAnyH_take (i := 2) (v := ?vb2) rfl (by kernel_rfl) (by kernel_rfl) (by kernel_rfl) (fun _ _ _ h => h) (Or.inl ⟨by kernel_rfl, ?hyb2⟩) (by assumption) ?restb2
        case hyb2 => (intro w hSw; (try dsimp only at hSw); go_simp; first | done | with_reducible rfl)
        try simp only [Act.put, List.setIfInBounds_toArray, List.set_cons_zero, List.set_cons_succ]
        refine wpAnyH_take (i := 3) (v := ?vb3) rfl (by kernel_rfl) (by kernel_rfl) (by kernel_rfl) (fun _ _ _ h => h) (Or.inl ⟨by kernel_rfl, ?hyb3⟩) (by assumption) ?restb3
        case hyb3 => (intro w hSw; (try dsimp only at hSw); go_simp; first | done | with_reducible rfl)
        try simp only [Act.put, List.setIfInBounds_toArray, List.set_cons_zero, List.set_cons_succ]
        refine wpAnyH_take (i := 4) (v := ?vb4) rfl (by kernel_rfl) (by kernel_rfl) (by kernel_rfl) (fun _ _ _ h => h) (Or.inl ⟨by kernel_rfl, ?hyb4⟩) (by assumption) ?restb4
        case hyb4 => (intro w hSw; (try dsimp only at hSw); go_simp; first | done | with_reducible rfl)
        try simp only [Act.put, List.setIfInBounds_toArray, List.set_cons_zero, List.set_cons_succ]
        refine wpAnyH_take (i := 5) (v := ?vb5) rfl (by kernel_rfl) (by kernel_rfl) (by kernel_rfl) (fun _ _ _ h => h) (Or.inl ⟨by kernel_rfl, ?hyb5⟩) (by assumption) ?restb5
        case hyb5 => (intro w hSw; (try dsimp only at hSw); go_simp; first | done | with_reducible rfl)
        try simp only [Act.put, List.setIfInBounds_toArray, List.set_cons_zero, List.set_cons_succ]
        refine wpAnyH_ready (rs := [6]) (by kernel_rfl) (by simp) ?_
        refine AllReadyH.cons rfl (fun K hK => ?_) AllReadyH.nil
        go_simp
        refine (CN.out _ (by repeat (first | exact BW.refl _ | assumption | apply BW.alloc | apply BW.drewN | apply BW.drew | (refine BW.setCell ?_ (by first | omega | (simp; done) | (simp; omega)) _) | (refine BW.trans ?_ (by assumption))))).mono ?_
        rintro e w3 ⟨v3, rfl, W3, R3, F3⟩
        obtain ⟨ao, cp, rfl, S3, q1, q2', q3⟩ := W3.seq
        have hz3 := F3.size
        simp at hz3
        dsimp only
        refine hK.out _ _ ?hS6 (fun hHeld2 => ?rest6)
        case hS6 => exact (F3.cells w1.heap.size 1 (by simp; omega) (by have := HR2.out.lt; have := HR2.out.2.2.2.2.1; have := HR2.out.2.2.2.1; omega)).trans y1
        clear hK K
        try simp only [Act.put, List.setIfInBounds_toArray, List.set_cons_zero, List.set_cons_succ]
        refine wpAnyH_take (i := 7) (v := ?vb7) rfl (by kernel_rfl) (by kernel_rfl) (by kernel_rfl) (fun _ _ _ h => h) (Or.inl ⟨by kernel_rfl, ?hyb7⟩) (by assumption) ?restb7
        case hyb7 => (intro w hSw; (try dsimp only at hSw); go_simp; first | done | with_reducible rfl)
        try simp only [Act.put, List.setIfInBounds_toArray, List.set_cons_zero, List.set_cons_succ]
        have HG3 : Hid (w3.heap[w.heap.size]? = some (.cells #[.int .u8 0, .int .i64 0, .string ⟨#[]⟩, .slice none 0 0, .slice none 0 0] 26 (0, 0))) := (F3.block w.heap.size (by simp; omega) (by omega)).trans HG2.out
        have j0 : w3.cell? ⟨w.heap.size, 0, none⟩ = some (.int .u8 0) := by rw [Lib.cell_of_heap HG3.out]; rfl
        have j1 : w3.cell? ⟨w.heap.size, 1, none⟩ = some (.int .i64 0) := by rw [Lib.cell_of_heap HG3.out]; rfl
        have j2 : w3.cell? ⟨w.heap.size, 2, none⟩ = some (.string ⟨#[]⟩) := by rw [Lib.cell_of_heap HG3.out]; rfl
        have j3 : w3.cell? ⟨w.heap.size, 3, none⟩ = some (.slice none 0 0) := by rw [Lib.cell_of_heap HG3.out]; rfl
        have j4 : w3.cell? ⟨w.heap.size, 4, none⟩ = some (.slice none 0 0) := by rw [Lib.cell_of_heap HG3.out]; rfl
        have jz : ∀ o, w3.frozen? ⟨w.heap.size, o, none⟩ = false := fun o => Lib.frozen_of_heap HG3.out o
        have HN3 : Hid (NodeQ (fun b => w2.heap.size ≤ b ∧ b < w3.heap.size) w3 (f + 1) (ndv 11 0 ⟨t.s.toArray⟩ none 0 0 ao l.length cp) ((⟨11, 0, bsB t.s, [], l⟩ : Nd (Tr f)) : Tr (f + 1))) := ⟨none, 0, 0, ao, l.length, cp, rfl, wf_any 11 0 t.s [] l (by decide) (by decide) (by decide) (by decide) ok.s, ⟨Nat.le_refl _, Nat.zero_le _, q1, q2'⟩, ⟨rfl, Nat.zero_le _, (by intro s hs; cases hs), .inl rfl⟩, S3, .inl rfl, q3⟩
        have HR3 : Hid (RdP rb B N q2 w3) := R3
        have HF3 : Hid (Fl rb w w3) := HF2.out.trans (Fl.trans (BW.fl (by repeat (first | exact BW.refl _ | assumption | apply BW.alloc | apply BW.drewN | apply BW.drew | (refine BW.setCell ?_ (by first | omega | (simp; done) | (simp; omega)) _) | (refine BW.trans ?_ (by assumption)))) rb) F3)
        clear R3 F3 S3 q3 W3 k0 k1 k2 k3 k4 kz y3
        refine wpAnyH_ready (rs := [8]) (by kernel_rfl) (by simp) ?_
        refine AllReadyH.cons rfl (fun K hK => ?_) AllReadyH.nil
        go_simp
        refine hK.out _ _ ?hS8 (fun hHeld3 => ?rest8)
        case hS8 => exact (cell_block (set5o (by omega)) 1).trans hHeld2
        clear hK K
        refine wpAnyH_done (by kernel_rfl) ?_ _
        clear hHeld hHeld2 hHeld3 y1
        go_wp2_with (fail)
        refine end_node Tryd.func18 4 rfl rfl (set5 HG3.out) ⟨_, rfl, ?_, HR3.out.up (fun j hj => set5o (by omega)) (by simp [World.setCell]; omega), HF3.out.set5 (Nat.le_refl _)⟩
        exact NodeQ.keep (fun b hb => ⟨by omega, by simp [World.setCell]; omega⟩) (fun b hb hl => set5o (by omega)) (by simp [World.setCell]) HN3.out
    · have c1 : decide ((0 : Int) ≤ tk t.s) = false := decide_eq_false h0
      have HH : Hid (¬ 0 ≤ tk t.s) := h0
      generalize tk t.s = tks at c1
      clear htk h0
      go_wp2_with (refine wpList_load_mid rfl 65 (.global 0) rfl 0 0 rfl fcs _ HGv.out.2.2.1 Tryd.underlying65 rfl (by kernel_rfl) (?_ : wpList _ _ _ _ (Act.put _ (some 24) fv) _))
      go_loopw [25] (fun i wr => ∃ j : Nat, j ≤ 10 ∧ i = .int .i64 j ∧ Hid (foOf t.s = (fos.drop j).find? (fun x => x.word == t.s)) ∧ BW w2 wr) (fun i _ => 10 - (intOf i).toNat)
      case atStart => exact ⟨0, by omega, rfl, rfl, (by repeat (first | exact BW.refl _ | assumption | apply BW.alloc | apply BW.drewN | apply BW.drew | (refine BW.setCell ?_ (by first | omega | (simp; done) | (simp; omega)) _) | (refine BW.trans ?_ (by assumption))))⟩
      case round =>
        obtain ⟨j, hj, rfl, HJ, hb⟩ := hrel
        have HB : Hid (BW w2 wr) := hb
        have hzr := hb.size
        have z1 := (hb.cells w1.heap.size 1 (by omega)).trans y1
        have z3 := (hb.cells w1.heap.size 3 (by omega)).trans y3
        have hl1 : w1.heap.size < wr.heap.size := by omega
        rcases (by omega : j = 0 ∨ j = 1 ∨ j = 2 ∨ j = 3 ∨ j = 4 ∨ j = 5 ∨ j = 6 ∨ j = 7 ∨ j = 8 ∨ j = 9 ∨ j = 10) with rfl | rfl | rfl | rfl | rfl | rfl | rfl | rfl | rfl | rfl | rfl
        · have hI := fun w => (index_forms w).1
          by_cases he : t.s = [102, 117, 110]
          · have HRE : Hid (pForm f (pN f).1 (pN f).2 ⟨[102, 117, 110], 6, true, 1, false⟩ q = R) := by
              show _ = R
              rw [← HRR.out, if_neg (by have := HH.out; omega), show foOf t.s = some ⟨[102, 117, 110], 6, true, 1, false⟩ by rw [he]; rfl]
            have r1 : (([102, 117, 110] : List UInt8) == t.s) = true := by rw [he]; decide
            have r2 : (t.s == [102, 117, 110]) = true := by rw [he]; decide
            have CF : Hid (∀ w', BW w2 w' → Calls Tryd.prog 30 #[.pointer (some ⟨rb, 0, none⟩), .agg #[.string ⟨#[102, 117, 110]⟩, .int .u8 6, .bool true, .int .i64 1, .bool false], .int .i64 d] w' (PostP (fun w'' v x => NodeQ (fun b => w'.heap.size ≤ b ∧ b < w''.heap.size) w'' (f + 1) v x) rb B N w' (pForm f (pN f).1 (pN f).2 ⟨[102, 117, 110], 6, true, 1, false⟩ q))) := fun w' hb => IF.out rb B N d ⟨[102, 117, 110], 6, true, 1, false⟩ q w' hd (by simp [fos]) (HR2.out.bw hb) (HGv.out.bw hb) hrb
            generalize pForm f (pN f).1 (pN f).2 ⟨[102, 117, 110], 6, true, 1, false⟩ q = RF at *
            obtain rfl : RF = R := HRE.out
            clear HRR HJ he HRE
            cases RF with
            | error er =>
              go_wp2_with (go_at_call 30; refine (CF.out _ (by repeat (first | exact BW.refl _ | assumption | apply BW.alloc | apply BW.drewN | apply BW.drew | (refine BW.setCell ?_ (by first | omega | (simp; done) | (simp; omega)) _) | (refine BW.trans ?_ (by assumption))))).mono ?_; rintro e w5 ⟨rfl, f5⟩)
              exact ⟨rfl, rfl, HF2.out.trans (Fl.trans (BW.fl (by repeat (first | exact BW.refl _ | assumption | apply BW.alloc | apply BW.drewN | apply BW.drew | (refine BW.setCell ?_ (by first | omega | (simp; done) | (simp; omega)) _) | (refine BW.trans ?_ (by assumption)))) rb) f5)⟩
            | ok p =>
              obtain ⟨x, q5⟩ := p
              go_wp2_with (fail)
              refine (CF.out _ (by repeat (first | exact BW.refl _ | assumption | apply BW.alloc | apply BW.drewN | apply BW.drew | (refine BW.setCell ?_ (by first | omega | (simp; done) | (simp; omega)) _) | (refine BW.trans ?_ (by assumption))))).mono ?_
              rintro e w5 ⟨v5, rfl, hx, R5, F5⟩
              obtain ⟨ro, rfl⟩ := hx.rw
              have hz5 := F5.size
              simp at hz5
              have hB5 := R5.2.2.2.2.1
              have HG5 : Hid (w5.heap[w.heap.size]? = some (.cells #[.int .u8 0, .int .i64 0, .string ⟨#[]⟩, .slice none 0 0, .slice none 0 0] 26 (0, 0))) := (F5.block w.heap.size (by simp; omega) (by omega)).trans (((BW.alloc HB.out _).block w.heap.size (by omega)).trans HG2.out)
              have HF5 : Hid (Fl rb w w5) := HF2.out.trans (Fl.trans (BW.fl (by repeat (first | exact BW.refl _ | assumption | apply BW.alloc | apply BW.drewN | apply BW.drew | (refine BW.setCell ?_ (by first | omega | (simp; done) | (simp; omega)) _) | (refine BW.trans ?_ (by assumption)))) rb) F5)
              have HR5 : Hid (RdP rb B N q5 w5) := R5
              have HX5 : Hid (NodeQ (fun b => w.heap.size + 1 ≤ b ∧ b < w5.heap.size) w5 (f + 1) ro.v x) := NodeQ.keep (fun b hb => ⟨by have := hb.1; simp at this; omega, hb.2⟩) (fun _ _ _ => rfl) (Nat.le_refl _) hx
              clear hx R5 F5 CF k0 k1 k2 k3 k4 kz y1 y3
              have k0 : w5.cell? ⟨w.heap.size, 0, none⟩ = some (.int .u8 0) := by rw [Lib.cell_of_heap HG5.out]; rfl
              have k1 : w5.cell? ⟨w.heap.size, 1, none⟩ = some (.int .i64 0) := by rw [Lib.cell_of_heap HG5.out]; rfl
              have k2 : w5.cell? ⟨w.heap.size, 2, none⟩ = some (.string ⟨#[]⟩) := by rw [Lib.cell_of_heap HG5.out]; rfl
              have k3 : w5.cell? ⟨w.heap.size, 3, none⟩ = some (.slice none 0 0) := by rw [Lib.cell_of_heap HG5.out]; rfl
              have k4 : w5.cell? ⟨w.heap.size, 4, none⟩ = some (.slice none 0 0) := by rw [Lib.cell_of_heap HG5.out]; rfl
              have kz : ∀ o, w5.frozen? ⟨w.heap.size, o, none⟩ = false := fun o => Lib.frozen_of_heap HG5.out o
              go_wp2_with (fail)
              refine end_node Tryd.func18 4 rfl rfl (set5 HG5.out) ⟨_, rfl, ?_, HR5.out.up (fun j hj => set5o (by omega)) (by simp [World.setCell]; omega), HF5.out.set5 (Nat.le_refl _)⟩
              exact NodeQ.keep (fun b hb => ⟨by omega, by simp [World.setCell]; omega⟩) (fun b hb hl => set5o (by omega)) (by simp [World.setCell]) HX5.out
          · have HJ2 : Hid (foOf t.s = (fos.drop 1).find? (fun x => x.word == t.s)) := by
              show _ = _
              rw [HJ.out]
              have hq : (([102, 117, 110] : List UInt8) == t.s) = false := by simp; exact fun e => he e.symm
              simp [fos, List.find?_cons, hq]
            have r1 : (([102, 117, 110] : List UInt8) == t.s) = false := by simp; exact fun e => he e.symm
            have r2 : (t.s == [102, 117, 110]) = false := by simpa using he
            have r3 : ¬ ([102, 117, 110] : List UInt8) = t.s := fun e => he e.symm
            clear HJ he
            go_wp2_with (fail)
            go_roundw
            case rel => exact ⟨1, by omega, by rfl, HJ2, (by repeat (first | exact BW.refl _ | assumption | apply BW.alloc | apply BW.drewN | apply BW.drew | (refine BW.setCell ?_ (by first | omega | (simp; done) | (simp; omega)) _) | (refine BW.trans ?_ (by assumption))))⟩
            case measure => simp [intOf]
        · have hI := fun w => (index_forms w).2.1
          by_cases he : t.s = [99, 97, 108, 108]
          · have HRE : Hid (pForm f (pN f).1 (pN f).2 ⟨[99, 97, 108, 108], 7, false, 1, true⟩ q = R) := by
              show _ = R
              rw [← HRR.out, if_neg (by have := HH.out; omega), show foOf t.s = some ⟨[99, 97, 108, 108], 7, false, 1, true⟩ by rw [he]; rfl]
            have r1 : (([99, 97, 108, 108] : List UInt8) == t.s) = true := by rw [he]; decide
            have r2 : (t.s == [99, 97, 108, 108]) = true := by rw [he]; decide
            have CF : Hid (∀ w', BW w2 w' → Calls Tryd.prog 30 #[.pointer (some ⟨rb, 0, none⟩), .agg #[.string ⟨#[99, 97, 108, 108]⟩, .int .u8 7, .bool false, .int .i64 1, .bool true], .int .i64 d] w' (PostP (fun w'' v x => NodeQ (fun b => w'.heap.size ≤ b ∧ b < w''.heap.size) w'' (f + 1) v x) rb B N w' (pForm f (pN f).1 (pN f).2 ⟨[99, 97, 108, 108], 7, false, 1, true⟩ q))) := fun w' hb => IF.out rb B N d ⟨[99, 97, 108, 108], 7, false, 1, true⟩ q w' hd (by simp [fos]) (HR2.out.bw hb) (HGv.out.bw hb) hrb
            generalize pForm f (pN f).1 (pN f).2 ⟨[99, 97, 108, 108], 7, false, 1, true⟩ q = RF at *
            obtain rfl : RF = R := HRE.out
            clear HRR HJ he HRE
            cases RF with
            | error er =>
              go_wp2_with (go_at_call 30; refine (CF.out _ (by repeat (first | exact BW.refl _ | assumption | apply BW.alloc | apply BW.drewN | apply BW.drew | (refine BW.setCell ?_ (by first | omega | (simp; done) | (simp; omega)) _) | (refine BW.trans ?_ (by assumption))))).mono ?_; rintro e w5 ⟨rfl, f5⟩)
              exact ⟨rfl, rfl, HF2.out.trans (Fl.trans (BW.fl (by repeat (first | exact BW.refl _ | assumption | apply BW.alloc | apply BW.drewN | apply BW.drew | (refine BW.setCell ?_ (by first | omega | (simp; done) | (simp; omega)) _) | (refine BW.trans ?_ (by assumption)))) rb) f5)⟩
            | ok p =>
              obtain ⟨x, q5⟩ := p
              go_wp2_with (fail)
              refine (CF.out _ (by repeat (first | exact BW.refl _ | assumption | apply BW.alloc | apply BW.drewN | apply BW.drew | (refine BW.setCell ?_ (by first | omega | (simp; done) | (simp; omega)) _) | (refine BW.trans ?_ (by assumption))))).mono ?_
              rintro e w5 ⟨v5, rfl, hx, R5, F5⟩
              obtain ⟨ro, rfl⟩ := hx.rw
              have hz5 := F5.size
              simp at hz5
              have hB5 := R5.2.2.2.2.1
              have HG5 : Hid (w5.heap[w.heap.size]? = some (.cells #[.int .u8 0, .int .i64 0, .string ⟨#[]⟩, .slice none 0 0, .slice none 0 0] 26 (0, 0))) := (F5.block w.heap.size (by simp; omega) (by omega)).trans (((BW.alloc HB.out _).block w.heap.size (by omega)).trans HG2.out)
              have HF5 : Hid (Fl rb w w5) := HF2.out.trans (Fl.trans (BW.fl (by repeat (first | exact BW.refl _ | assumption | apply BW.alloc | apply BW.drewN | apply BW.drew | (refine BW.setCell ?_ (by first | omega | (simp; done) | (simp; omega)) _) | (refine BW.trans ?_ (by assumption)))) rb) F5)
              have HR5 : Hid (RdP rb B N q5 w5) := R5
              have HX5 : Hid (NodeQ (fun b => w.heap.size + 1 ≤ b ∧ b < w5.heap.size) w5 (f + 1) ro.v x) := NodeQ.keep (fun b hb => ⟨by have := hb.1; simp at this; omega, hb.2⟩) (fun _ _ _ => rfl) (Nat.le_refl _) hx
              clear hx R5 F5 CF k0 k1 k2 k3 k4 kz y1 y3
              have k0 : w5.cell? ⟨w.heap.size, 0, none⟩ = some (.int .u8 0) := by rw [Lib.cell_of_heap HG5.out]; rfl
              have k1 : w5.cell? ⟨w.heap.size, 1, none⟩ = some (.int .i64 0) := by rw [Lib.cell_of_heap HG5.out]; rfl
              have k2 : w5.cell? ⟨w.heap.size, 2, none⟩ = some (.string ⟨#[]⟩) := by rw [Lib.cell_of_heap HG5.out]; rfl
              have k3 : w5.cell? ⟨w.heap.size, 3, none⟩ = some (.slice none 0 0) := by rw [Lib.cell_of_heap HG5.out]; rfl
              have k4 : w5.cell? ⟨w.heap.size, 4, none⟩ = some (.slice none 0 0) := by rw [Lib.cell_of_heap HG5.out]; rfl
              have kz : ∀ o, w5.frozen? ⟨w.heap.size, o, none⟩ = false := fun o => Lib.frozen_of_heap HG5.out o
              go_wp2_with (fail)
              refine end_node Tryd.func18 4 rfl rfl (set5 HG5.out) ⟨_, rfl, ?_, HR5.out.up (fun j hj => set5o (by omega)) (by simp [World.setCell]; omega), HF5.out.set5 (Nat.le_refl _)⟩
              exact NodeQ.keep (fun b hb => ⟨by omega, by simp [World.setCell]; omega⟩) (fun b hb hl => set5o (by omega)) (by simp [World.setCell]) HX5.out
          · have HJ2 : Hid (foOf t.s = (fos.drop 2).find? (fun x => x.word == t.s)) := by
              show _ = _
              rw [HJ.out]
              have hq : (([99, 97, 108, 108] : List UInt8) == t.s) = false := by simp; exact fun e => he e.symm
              simp [fos, List.find?_cons, hq]
            have r1 : (([99, 97, 108, 108] : List UInt8) == t.s) = false := by simp; exact fun e => he e.symm
            have r2 : (t.s == [99, 97, 108, 108]) = false := by simpa using he
            have r3 : ¬ ([99, 97, 108, 108] : List UInt8) = t.s := fun e => he e.symm
            clear HJ he
            go_wp2_with (fail)
            go_roundw
            case rel => exact ⟨2, by omega, by rfl, HJ2, (by repeat (first | exact BW.refl _ | assumption | apply BW.alloc | apply BW.drewN | apply BW.drew | (refine BW.setCell ?_ (by first | omega | (simp; done) | (simp; omega)) _) | (refine BW.trans ?_ (by assumption))))⟩
            case measure => simp [intOf]
        · have hI := fun w => (index_forms w).2.2.1
          by_cases he : t.s = [108, 101, 116]
          · have HRE : Hid (pForm f (pN f).1 (pN f).2 ⟨[108, 101, 116], 8, true, 2, false⟩ q = R) := by
              show _ = R
              rw [← HRR.out, if_neg (by have := HH.out; omega), show foOf t.s = some ⟨[108, 101, 116], 8, true, 2, false⟩ by rw [he]; rfl]
            have r1 : (([108, 101, 116] : List UInt8) == t.s) = true := by rw [he]; decide
            have r2 : (t.s == [108, 101, 116]) = true := by rw [he]; decide
            have CF : Hid (∀ w', BW w2 w' → Calls Tryd.prog 30 #[.pointer (some ⟨rb, 0, none⟩), .agg #[.string ⟨#[108, 101, 116]⟩, .int .u8 8, .bool true, .int .i64 2, .bool false], .int .i64 d] w' (PostP (fun w'' v x => NodeQ (fun b => w'.heap.size ≤ b ∧ b < w''.heap.size) w'' (f + 1) v x) rb B N w' (pForm f (pN f).1 (pN f).2 ⟨[108, 101, 116], 8, true, 2, false⟩ q))) := fun w' hb => IF.out rb B N d ⟨[108, 101, 116], 8, true, 2, false⟩ q w' hd (by simp [fos]) (HR2.out.bw hb) (HGv.out.bw hb) hrb
            generalize pForm f (pN f).1 (pN f).2 ⟨[108, 101, 116], 8, true, 2, false⟩ q = RF at *
            obtain rfl : RF = R := HRE.out
            clear HRR HJ he HRE
            cases RF with
            | error er =>
              go_wp2_with (go_at_call 30; refine (CF.out _ (by repeat (first | exact BW.refl _ | assumption | apply BW.alloc | apply BW.drewN | apply BW.drew | (refine BW.setCell ?_ (by first | omega | (simp; done) | (simp; omega)) _) | (refine BW.trans ?_ (by assumption))))).mono ?_; rintro e w5 ⟨rfl, f5⟩)
              exact ⟨rfl, rfl, HF2.out.trans (Fl.trans (BW.fl (by repeat (first | exact BW.refl _ | assumption | apply BW.alloc | apply BW.drewN | apply BW.drew | (refine BW.setCell ?_ (by first | omega | (simp; done) | (simp; omega)) _) | (refine BW.trans ?_ (by assumption)))) rb) f5)⟩
            | ok p =>
              obtain ⟨x, q5⟩ := p
              go_wp2_with (fail)
              refine (CF.out _ (by repeat (first | exact BW.refl _ | assumption | apply BW.alloc | apply BW.drewN | apply BW.drew | (refine BW.setCell ?_ (by first | omega | (simp; done) | (simp; omega)) _) | (refine BW.trans ?_ (by assumption))))).mono ?_
              rintro e w5 ⟨v5, rfl, hx, R5, F5⟩
              obtain ⟨ro, rfl⟩ := hx.rw
              have hz5 := F5.size
              simp at hz5
              have hB5 := R5.2.2.2.2.1
              have HG5 : Hid (w5.heap[w.heap.size]? = some (.cells #[.int .u8 0, .int .i64 0, .string ⟨#[]⟩, .slice none 0 0, .slice none 0 0] 26 (0, 0))) := (F5.block w.heap.size (by simp; omega) (by omega)).trans (((BW.alloc HB.out _).block w.heap.size (by omega)).trans HG2.out)
              have HF5 : Hid (Fl rb w w5) := HF2.out.trans (Fl.trans (BW.fl (by repeat (first | exact BW.refl _ | assumption | apply BW.alloc | apply BW.drewN | apply BW.drew | (refine BW.setCell ?_ (by first | omega | (simp; done) | (simp; omega)) _) | (refine BW.trans ?_ (by assumption)))) rb) F5)
              have HR5 : Hid (RdP rb B N q5 w5) := R5
              have HX5 : Hid (NodeQ (fun b => w.heap.size + 1 ≤ b ∧ b < w5.heap.size) w5 (f + 1) ro.v x) := NodeQ.keep (fun b hb => ⟨by have := hb.1; simp at this; omega, hb.2⟩) (fun _ _ _ => rfl) (Nat.le_refl _) hx
              clear hx R5 F5 CF k0 k1 k2 k3 k4 kz y1 y3
              have k0 : w5.cell? ⟨w.heap.size, 0, none⟩ = some (.int .u8 0) := by rw [Lib.cell_of_heap HG5.out]; rfl
              have k1 : w5.cell? ⟨w.heap.size, 1, none⟩ = some (.int .i64 0) := by rw [Lib.cell_of_heap HG5.out]; rfl
              have k2 : w5.cell? ⟨w.heap.size, 2, none⟩ = some (.string ⟨#[]⟩) := by rw [Lib.cell_of_heap HG5.out]; rfl
              have k3 : w5.cell? ⟨w.heap.size, 3, none⟩ = some (.slice none 0 0) := by rw [Lib.cell_of_heap HG5.out]; rfl
              have k4 : w5.cell? ⟨w.heap.size, 4, none⟩ = some (.slice none 0 0) := by rw [Lib.cell_of_heap HG5.out]; rfl
              have kz : ∀ o, w5.frozen? ⟨w.heap.size, o, none⟩ = false := fun o => Lib.frozen_of_heap HG5.out o
              go_wp2_with (fail)
              refine end_node Tryd.func18 4 rfl rfl (set5 HG5.out) ⟨_, rfl, ?_, HR5.out.up (fun j hj => set5o (by omega)) (by simp [World.setCell]; omega), HF5.out.set5 (Nat.le_refl _)⟩
              exact NodeQ.keep (fun b hb => ⟨by omega, by simp [World.setCell]; omega⟩) (fun b hb hl => set5o (by omega)) (by simp [World.setCell]) HX5.out
          · have HJ2 : Hid (foOf t.s = (fos.drop 3).find? (fun x => x.word == t.s)) := by
              show _ = _
              rw [HJ.out]
              have hq : (([108, 101, 116] : List UInt8) == t.s) = false := by simp; exact fun e => he e.symm
              simp [fos, List.find?_cons, hq]
            have r1 : (([108, 101, 116] : List UInt8) == t.s) = false := by simp; exact fun e => he e.symm
            have r2 : (t.s == [108, 101, 116]) = false := by simpa using he
            have r3 : ¬ ([108, 101, 116] : List UInt8) = t.s := fun e => he e.symm
            clear HJ he
            go_wp2_with (fail)
            go_roundw
            case rel => exact ⟨3, by omega, by rfl, HJ2, (by repeat (first | exact BW.refl _ | assumption | apply BW.alloc | apply BW.drewN | apply BW.drew | (refine BW.setCell ?_ (by first | omega | (simp; done) | (simp; omega)) _) | (refine BW.trans ?_ (by assumption))))⟩
            case measure => simp [intOf]
        · have hI := fun w => (index_forms w).2.2.2.1
          by_cases he : t.s = [105, 102]
          · have HRE : Hid (pForm f (pN f).1 (pN f).2 ⟨[105, 102], 9, false, 3, false⟩ q = R) := by
              show _ = R
              rw [← HRR.out, if_neg (by have := HH.out; omega), show foOf t.s = some ⟨[105, 102], 9, false, 3, false⟩ by rw [he]; rfl]
            have r1 : (([105, 102] : List UInt8) == t.s) = true := by rw [he]; decide
            have r2 : (t.s == [105, 102]) = true := by rw [he]; decide
            have CF : Hid (∀ w', BW w2 w' → Calls Tryd.prog 30 #[.pointer (some ⟨rb, 0, none⟩), .agg #[.string ⟨#[105, 102]⟩, .int .u8 9, .bool false, .int .i64 3, .bool false], .int .i64 d] w' (PostP (fun w'' v x => NodeQ (fun b => w'.heap.size ≤ b ∧ b < w''.heap.size) w'' (f + 1) v x) rb B N w' (pForm f (pN f).1 (pN f).2 ⟨[105, 102], 9, false, 3, false⟩ q))) := fun w' hb => IF.out rb B N d ⟨[105, 102], 9, false, 3, false⟩ q w' hd (by simp [fos]) (HR2.out.bw hb) (HGv.out.bw hb) hrb
            generalize pForm f (pN f).1 (pN f).2 ⟨[105, 102], 9, false, 3, false⟩ q = RF at *
            obtain rfl : RF = R := HRE.out
            clear HRR HJ he HRE
            cases RF with
            | error er =>
              go_wp2_with (go_at_call 30; refine (CF.out _ (by repeat (first | exact BW.refl _ | assumption | apply BW.alloc | apply BW.drewN | apply BW.drew | (refine BW.setCell ?_ (by first | omega | (simp; done) | (simp; omega)) _) | (refine BW.trans ?_ (by assumption))))).mono ?_; rintro e w5 ⟨rfl, f5⟩)
              exact ⟨rfl, rfl, HF2.out.trans (Fl.trans (BW.fl (by repeat (first | exact BW.refl _ | assumption | apply BW.alloc | apply BW.drewN | apply BW.drew | (refine BW.setCell ?_ (by first | omega | (simp; done) | (simp; omega)) _) | (refine BW.trans ?_ (by assumption)))) rb) f5)⟩
            | ok p =>
              obtain ⟨x, q5⟩ := p
              go_wp2_with (fail)
              refine (CF.out _ (by repeat (first | exact BW.refl _ | assumption | apply BW.alloc | apply BW.drewN | apply BW.drew | (refine BW.setCell ?_ (by first | omega | (simp; done) | (simp; omega)) _) | (refine BW.trans ?_ (by assumption))))).mono ?_
              rintro e w5 ⟨v5, rfl, hx, R5, F5⟩
              obtain ⟨ro, rfl⟩ := hx.rw
              have hz5 := F5.size
              simp at hz5
              have hB5 := R5.2.2.2.2.1
              have HG5 : Hid (w5.heap[w.heap.size]? = some (.cells #[.int .u8 0, .int .i64 0, .string ⟨#[]⟩, .slice none 0 0, .slice none 0 0] 26 (0, 0))) := (F5.block w.heap.size (by simp; omega) (by omega)).trans (((BW.alloc HB.out _).block w.heap.size (by omega)).trans HG2.out)
              have HF5 : Hid (Fl rb w w5) := HF2.out.trans (Fl.trans (BW.fl (by repeat (first | exact BW.refl _ | assumption | apply BW.alloc | apply BW.drewN | apply BW.drew | (refine BW.setCell ?_ (by first | omega | (simp; done) | (simp; omega)) _) | (refine BW.trans ?_ (by assumption)))) rb) F5)
              have HR5 : Hid (RdP rb B N q5 w5) := R5
              have HX5 : Hid (NodeQ (fun b => w.heap.size + 1 ≤ b ∧ b < w5.heap.size) w5 (f + 1) ro.v x) := NodeQ.keep (fun b hb => ⟨by have := hb.1; simp at this; omega, hb.2⟩) (fun _ _ _ => rfl) (Nat.le_refl _) hx
              clear hx R5 F5 CF k0 k1 k2 k3 k4 kz y1 y3
              have k0 : w5.cell? ⟨w.heap.size, 0, none⟩ = some (.int .u8 0) := by rw [Lib.cell_of_heap HG5.out]; rfl
              have k1 : w5.cell? ⟨w.heap.size, 1, none⟩ = some (.int .i64 0) := by rw [Lib.cell_of_heap HG5.out]; rfl
              have k2 : w5.cell? ⟨w.heap.size, 2, none⟩ = some (.string ⟨#[]⟩) := by rw [Lib.cell_of_heap HG5.out]; rfl
              have k3 : w5.cell? ⟨w.heap.size, 3, none⟩ = some (.slice none 0 0) := by rw [Lib.cell_of_heap HG5.out]; rfl
              have k4 : w5.cell? ⟨w.heap.size, 4, none⟩ = some (.slice none 0 0) := by rw [Lib.cell_of_heap HG5.out]; rfl
              have kz : ∀ o, w5.frozen? ⟨w.heap.size, o, none⟩ = false := fun o => Lib.frozen_of_heap HG5.out o
              go_wp2_with (fail)
              refine end_node Tryd.func18 4 rfl rfl (set5 HG5.out) ⟨_, rfl, ?_, HR5.out.up (fun j hj => set5o (by omega)) (by simp [World.setCell]; omega), HF5.out.set5 (Nat.le_refl _)⟩
              exact NodeQ.keep (fun b hb => ⟨by omega, by simp [World.setCell]; omega⟩) (fun b hb hl => set5o (by omega)) (by simp [World.setCell]) HX5.out
          · have HJ2 : Hid (foOf t.s = (fos.drop 4).find? (fun x => x.word == t.s)) := by
              show _ = _
              rw [HJ.out]
              have hq : (([105, 102] : List UInt8) == t.s) = false := by simp; exact fun e => he e.symm
              simp [fos, List.find?_cons, hq]
            have r1 : (([105, 102] : List UInt8) == t.s) = false := by simp; exact fun e => he e.symm
            have r2 : (t.s == [105, 102]) = false := by simpa using he
            have r3 : ¬ ([105, 102] : List UInt8) = t.s := fun e => he e.symm
            clear HJ he
            go_wp2_with (fail)
            go_roundw
            case rel => exact ⟨4, by omega, by rfl, HJ2, (by repeat (first | exact BW.refl _ | assumption | apply BW.alloc | apply BW.drewN | apply BW.drew | (refine BW.setCell ?_ (by first | omega | (simp; done) | (simp; omega)) _) | (refine BW.trans ?_ (by assumption))))⟩
            case measure => simp [intOf]
        · have hI := fun w => (index_forms w).2.2.2.2.1
          by_cases he : t.s = [100, 111]
          · have HRE : Hid (pForm f (pN f).1 (pN f).2 ⟨[100, 111], 10, false, 1, true⟩ q = R) := by
              show _ = R
              rw [← HRR.out, if_neg (by have := HH.out; omega), show foOf t.s = some ⟨[100, 111], 10, false, 1, true⟩ by rw [he]; rfl]
            have r1 : (([100, 111] : List UInt8) == t.s) = true := by rw [he]; decide
            have r2 : (t.s == [100, 111]) = true := by rw [he]; decide
            have CF : Hid (∀ w', BW w2 w' → Calls Tryd.prog 30 #[.pointer (some ⟨rb, 0, none⟩), .agg #[.string ⟨#[100, 111]⟩, .int .u8 10, .bool false, .int .i64 1, .bool true], .int .i64 d] w' (PostP (fun w'' v x => NodeQ (fun b => w'.heap.size ≤ b ∧ b < w''.heap.size) w'' (f + 1) v x) rb B N w' (pForm f (pN f).1 (pN f).2 ⟨[100, 111], 10, false, 1, true⟩ q))) := fun w' hb => IF.out rb B N d ⟨[100, 111], 10, false, 1, true⟩ q w' hd (by simp [fos]) (HR2.out.bw hb) (HGv.out.bw hb) hrb
            generalize pForm f (pN f).1 (pN f).2 ⟨[100, 111], 10, false, 1, true⟩ q = RF at *
            obtain rfl : RF = R := HRE.out
            clear HRR HJ he HRE
            cases RF with
            | error er =>
              go_wp2_with (go_at_call 30; refine (CF.out _ (by repeat (first | exact BW.refl _ | assumption | apply BW.alloc | apply BW.drewN | apply BW.drew | (refine BW.setCell ?_ (by first | omega | (simp; done) | (simp; omega)) _) | (refine BW.trans ?_ (by assumption))))).mono ?_; rintro e w5 ⟨rfl, f5⟩)
              exact ⟨rfl, rfl, HF2.out.trans (Fl.trans (BW.fl (by repeat (first | exact BW.refl _ | assumption | apply BW.alloc | apply BW.drewN | apply BW.drew | (refine BW.setCell ?_ (by first | omega | (simp; done) | (simp; omega)) _) | (refine BW.trans ?_ (by assumption)))) rb) f5)⟩
            | ok p =>
              obtain ⟨x, q5⟩ := p
              go_wp2_with (fail)
              refine (CF.out _ (by repeat (first | exact BW.refl _ | assumption | apply BW.alloc | apply BW.drewN | apply BW.drew | (refine BW.setCell ?_ (by first | omega | (simp; done) | (simp; omega)) _) | (refine BW.trans ?_ (by assumption))))).mono ?_
              rintro e w5 ⟨v5, rfl, hx, R5, F5⟩
              obtain ⟨ro, rfl⟩ := hx.rw
              have hz5 := F5.size
              simp at hz5
              have hB5 := R5.2.2.2.2.1
              have HG5 : Hid (w5.heap[w.heap.size]? = some (.cells #[.int .u8 0, .int .i64 0, .string ⟨#[]⟩, .slice none 0 0, .slice none 0 0] 26 (0, 0))) := (F5.block w.heap.size (by simp; omega) (by omega)).trans (((BW.alloc HB.out _).block w.heap.size (by omega)).trans HG2.out)
              have HF5 : Hid (Fl rb w w5) := HF2.out.trans (Fl.trans (BW.fl (by repeat (first | exact BW.refl _ | assumption | apply BW.alloc | apply BW.drewN | apply BW.drew | (refine BW.setCell ?_ (by first | omega | (simp; done) | (simp; omega)) _) | (refine BW.trans ?_ (by assumption)))) rb) F5)
              have HR5 : Hid (RdP rb B N q5 w5) := R5
              have HX5 : Hid (NodeQ (fun b => w.heap.size + 1 ≤ b ∧ b < w5.heap.size) w5 (f + 1) ro.v x) := NodeQ.keep (fun b hb => ⟨by have := hb.1; simp at this; omega, hb.2⟩) (fun _ _ _ => rfl) (Nat.le_refl _) hx
              clear hx R5 F5 CF k0 k1 k2 k3 k4 kz y1 y3
              have k0 : w5.cell? ⟨w.heap.size, 0, none⟩ = some (.int .u8 0) := by rw [Lib.cell_of_heap HG5.out]; rfl
              have k1 : w5.cell? ⟨w.heap.size, 1, none⟩ = some (.int .i64 0) := by rw [Lib.cell_of_heap HG5.out]; rfl
              have k2 : w5.cell? ⟨w.heap.size, 2, none⟩ = some (.string ⟨#[]⟩) := by rw [Lib.cell_of_heap HG5.out]; rfl
              have k3 : w5.cell? ⟨w.heap.size, 3, none⟩ = some (.slice none 0 0) := by rw [Lib.cell_of_heap HG5.out]; rfl
              have k4 : w5.cell? ⟨w.heap.size, 4, none⟩ = some (.slice none 0 0) := by rw [Lib.cell_of_heap HG5.out]; rfl
              have kz : ∀ o, w5.frozen? ⟨w.heap.size, o, none⟩ = false := fun o => Lib.frozen_of_heap HG5.out o
              go_wp2_with (fail)
              refine end_node Tryd.func18 4 rfl rfl (set5 HG5.out) ⟨_, rfl, ?_, HR5.out.up (fun j hj => set5o (by omega)) (by simp [World.setCell]; omega), HF5.out.set5 (Nat.le_refl _)⟩
              exact NodeQ.keep (fun b hb => ⟨by omega, by simp [World.setCell]; omega⟩) (fun b hb hl => set5o (by omega)) (by simp [World.setCell]) HX5.out
          · have HJ2 : Hid (foOf t.s = (fos.drop 5).find? (fun x => x.word == t.s)) := by
              show _ = _
              rw [HJ.out]
              have hq : (([100, 111] : List UInt8) == t.s) = false := by simp; exact fun e => he e.symm
              simp [fos, List.find?_cons, hq]
            have r1 : (([100, 111] : List UInt8) == t.s) = false := by simp; exact fun e => he e.symm
            have r2 : (t.s == [100, 111]) = false := by simpa using he
            have r3 : ¬ ([100, 111] : List UInt8) = t.s := fun e => he e.symm
            clear HJ he
            go_wp2_with (fail)
            go_roundw
            case rel => exact ⟨5, by omega, by rfl, HJ2, (by repeat (first | exact BW.refl _ | assumption | apply BW.alloc | apply BW.drewN | apply BW.drew | (refine BW.setCell ?_ (by first | omega | (simp; done) | (simp; omega)) _) | (refine BW.trans ?_ (by assumption))))⟩
            case measure => simp [intOf]
        · have hI := fun w => (index_forms w).2.2.2.2.2.1
          by_cases he : t.s = [112, 101, 114, 102, 111, 114, 109]
          · have HRE : Hid (pForm f (pN f).1 (pN f).2 ⟨[112, 101, 114, 102, 111, 114, 109], 12, true, 1, false⟩ q = R) := by
              show _ = R
              rw [← HRR.out, if_neg (by have := HH.out; omega), show foOf t.s = some ⟨[112, 101, 114, 102, 111, 114, 109], 12, true, 1, false⟩ by rw [he]; rfl]
            have r1 : (([112, 101, 114, 102, 111, 114, 109] : List UInt8) == t.s) = true := by rw [he]; decide
            have r2 : (t.s == [112, 101, 114, 102, 111, 114, 109]) = true := by rw [he]; decide
            have CF : Hid (∀ w', BW w2 w' → Calls Tryd.prog 30 #[.pointer (some ⟨rb, 0, none⟩), .agg #[.string ⟨#[112, 101, 114, 102, 111, 114, 109]⟩, .int .u8 12, .bool true, .int .i64 1, .bool false], .int .i64 d] w' (PostP (fun w'' v x => NodeQ (fun b => w'.heap.size ≤ b ∧ b < w''.heap.size) w'' (f + 1) v x) rb B N w' (pForm f (pN f).1 (pN f).2 ⟨[112, 101, 114, 102, 111, 114, 109], 12, true, 1, false⟩ q))) := fun w' hb => IF.out rb B N d ⟨[112, 101, 114, 102, 111, 114, 109], 12, true, 1, false⟩ q w' hd (by simp [fos]) (HR2.out.bw hb) (HGv.out.bw hb) hrb
            generalize pForm f (pN f).1 (pN f).2 ⟨[112, 101, 114, 102, 111, 114, 109], 12, true, 1, false⟩ q = RF at *
            obtain rfl : RF = R := HRE.out
            clear HRR HJ he HRE
            cases RF with
            | error er =>
              go_wp2_with (go_at_call 30; refine (CF.out _ (by repeat (first | exact BW.refl _ | assumption | apply BW.alloc | apply BW.drewN | apply BW.drew | (refine BW.setCell ?_ (by first | omega | (simp; done) | (simp; omega)) _) | (refine BW.trans ?_ (by assumption))))).mono ?_; rintro e w5 ⟨rfl, f5⟩)
              exact ⟨rfl, rfl, HF2.out.trans (Fl.trans (BW.fl (by repeat (first | exact BW.refl _ | assumption | apply BW.alloc | apply BW.drewN | apply BW.drew | (refine BW.setCell ?_ (by first | omega | (simp; done) | (simp; omega)) _) | (refine BW.trans ?_ (by assumption)))) rb) f5)⟩
            | ok p =>
              obtain ⟨x, q5⟩ := p
              go_wp2_with (fail)
              refine (CF.out _ (by repeat (first | exact BW.refl _ | assumption | apply BW.alloc | apply BW.drewN | apply BW.drew | (refine BW.setCell ?_ (by first | omega | (simp; done) | (simp; omega)) _) | (refine BW.trans ?_ (by assumption))))).mono ?_
              rintro e w5 ⟨v5, rfl, hx, R5, F5⟩
              obtain ⟨ro, rfl⟩ := hx.rw
              have hz5 := F5.size
              simp at hz5
              have hB5 := R5.2.2.2.2.1
              have HG5 : Hid (w5.heap[w.heap.size]? = some (.cells #[.int .u8 0, .int .i64 0, .string ⟨#[]⟩, .slice none 0 0, .slice none 0 0] 26 (0, 0))) := (F5.block w.heap.size (by simp; omega) (by omega)).trans (((BW.alloc HB.out _).block w.heap.size (by omega)).trans HG2.out)
              have HF5 : Hid (Fl rb w w5) := HF2.out.trans (Fl.trans (BW.fl (by repeat (first | exact BW.refl _ | assumption | apply BW.alloc | apply BW.drewN | apply BW.drew | (refine BW.setCell ?_ (by first | omega | (simp; done) | (simp; omega)) _) | (refine BW.trans ?_ (by assumption)))) rb) F5)
              have HR5 : Hid (RdP rb B N q5 w5) := R5
              have HX5 : Hid (NodeQ (fun b => w.heap.size + 1 ≤ b ∧ b < w5.heap.size) w5 (f + 1) ro.v x) := NodeQ.keep (fun b hb => ⟨by have := hb.1; simp at this; omega, hb.2⟩) (fun _ _ _ => rfl) (Nat.le_refl _) hx
              clear hx R5 F5 CF k0 k1 k2 k3 k4 kz y1 y3
              have k0 : w5.cell? ⟨w.heap.size, 0, none⟩ = some (.int .u8 0) := by rw [Lib.cell_of_heap HG5.out]; rfl
              have k1 : w5.cell? ⟨w.heap.size, 1, none⟩ = some (.int .i64 0) := by rw [Lib.cell_of_heap HG5.out]; rfl
              have k2 : w5.cell? ⟨w.heap.size, 2, none⟩ = some (.string ⟨#[]⟩) := by rw [Lib.cell_of_heap HG5.out]; rfl
              have k3 : w5.cell? ⟨w.heap.size, 3, none⟩ = some (.slice none 0 0) := by rw [Lib.cell_of_heap HG5.out]; rfl
              have k4 : w5.cell? ⟨w.heap.size, 4, none⟩ = some (.slice none 0 0) := by rw [Lib.cell_of_heap HG5.out]; rfl
              have kz : ∀ o, w5.frozen? ⟨w.heap.size, o, none⟩ = false := fun o => Lib.frozen_of_heap HG5.out o
              go_wp2_with (fail)
              refine end_node Tryd.func18 4 rfl rfl (set5 HG5.out) ⟨_, rfl, ?_, HR5.out.up (fun j hj => set5o (by omega)) (by simp [World.setCell]; omega), HF5.out.set5 (Nat.le_refl _)⟩
              exact NodeQ.keep (fun b hb => ⟨by omega, by simp [World.setCell]; omega⟩) (fun b hb hl => set5o (by omega)) (by simp [World.setCell]) HX5.out
          · have HJ2 : Hid (foOf t.s = (fos.drop 6).find? (fun x => x.word == t.s)) := by
              show _ = _
              rw [HJ.out]
              have hq : (([112, 101, 114, 102, 111, 114, 109] : List UInt8) == t.s) = false := by simp; exact fun e => he e.symm
              simp [fos, List.find?_cons, hq]
            have r1 : (([112, 101, 114, 102, 111, 114, 109] : List UInt8) == t.s) = false := by simp; exact fun e => he e.symm
            have r2 : (t.s == [112, 101, 114, 102, 111, 114, 109]) = false := by simpa using he
            have r3 : ¬ ([112, 101, 114, 102, 111, 114, 109] : List UInt8) = t.s := fun e => he e.symm
            clear HJ he
            go_wp2_with (fail)
            go_roundw
            case rel => exact ⟨6, by omega, by rfl, HJ2, (by repeat (first | exact BW.refl _ | assumption | apply BW.alloc | apply BW.drewN | apply BW.drew | (refine BW.setCell ?_ (by first | omega | (simp; done) | (simp; omega)) _) | (refine BW.trans ?_ (by assumption))))⟩
            case measure => simp [intOf]
        · have hI := fun w => (index_forms w).2.2.2.2.2.2.1
          by_cases he : t.s = [104, 97, 110, 100, 108, 101]
          · have HRE : Hid (pForm f (pN f).1 (pN f).2 ⟨[104, 97, 110, 100, 108, 101], 13, false, 1, false⟩ q = R) := by
              show _ = R
              rw [← HRR.out, if_neg (by have := HH.out; omega), show foOf t.s = some ⟨[104, 97, 110, 100, 108, 101], 13, false, 1, false⟩ by rw [he]; rfl]
            have r1 : (([104, 97, 110, 100, 108, 101] : List UInt8) == t.s) = true := by rw [he]; decide
            have r2 : (t.s == [104, 97, 110, 100, 108, 101]) = true := by rw [he]; decide
            have CF : Hid (∀ w', BW w2 w' → Calls Tryd.prog 30 #[.pointer (some ⟨rb, 0, none⟩), .agg #[.string ⟨#[104, 97, 110, 100, 108, 101]⟩, .int .u8 13, .bool false, .int .i64 1, .bool false], .int .i64 d] w' (PostP (fun w'' v x => NodeQ (fun b => w'.heap.size ≤ b ∧ b < w''.heap.size) w'' (f + 1) v x) rb B N w' (pForm f (pN f).1 (pN f).2 ⟨[104, 97, 110, 100, 108, 101], 13, false, 1, false⟩ q))) := fun w' hb => IF.out rb B N d ⟨[104, 97, 110, 100, 108, 101], 13, false, 1, false⟩ q w' hd (by simp [fos]) (HR2.out.bw hb) (HGv.out.bw hb) hrb
            generalize pForm f (pN f).1 (pN f).2 ⟨[104, 97, 110, 100, 108, 101], 13, false, 1, false⟩ q = RF at *
            obtain rfl : RF = R := HRE.out
            clear HRR HJ he HRE
            cases RF with
            | error er =>
              go_wp2_with (go_at_call 30; refine (CF.out _ (by repeat (first | exact BW.refl _ | assumption | apply BW.alloc | apply BW.drewN | apply BW.drew | (refine BW.setCell ?_ (by first | omega | (simp; done) | (simp; omega)) _) | (refine BW.trans ?_ (by assumption))))).mono ?_; rintro e w5 ⟨rfl, f5⟩)
              exact ⟨rfl, rfl, HF2.out.trans (Fl.trans (BW.fl (by repeat (first | exact BW.refl _ | assumption | apply BW.alloc | apply BW.drewN | apply BW.drew | (refine BW.setCell ?_ (by first | omega | (simp; done) | (simp; omega)) _) | (refine BW.trans ?_ (by assumption)))) rb) f5)⟩
            | ok p =>
              obtain ⟨x, q5⟩ := p
              go_wp2_with (fail)
              refine (CF.out _ (by repeat (first | exact BW.refl _ | assumption | apply BW.alloc | apply BW.drewN | apply BW.drew | (refine BW.setCell ?_ (by first | omega | (simp; done) | (simp; omega)) _) | (refine BW.trans ?_ (by assumption))))).mono ?_
              rintro e w5 ⟨v5, rfl, hx, R5, F5⟩
              obtain ⟨ro, rfl⟩ := hx.rw
              have hz5 := F5.size
              simp at hz5
              have hB5 := R5.2.2.2.2.1
              have HG5 : Hid (w5.heap[w.heap.size]? = some (.cells #[.int .u8 0, .int .i64 0, .string ⟨#[]⟩, .slice none 0 0, .slice none 0 0] 26 (0, 0))) := (F5.block w.heap.size (by simp; omega) (by omega)).trans (((BW.alloc HB.out _).block w.heap.size (by omega)).trans HG2.out)
              have HF5 : Hid (Fl rb w w5) := HF2.out.trans (Fl.trans (BW.fl (by repeat (first | exact BW.refl _ | assumption | apply BW.alloc | apply BW.drewN | apply BW.drew | (refine BW.setCell ?_ (by first | omega | (simp; done) | (simp; omega)) _) | (refine BW.trans ?_ (by assumption)))) rb) F5)
              have HR5 : Hid (RdP rb B N q5 w5) := R5
              have HX5 : Hid (NodeQ (fun b => w.heap.size + 1 ≤ b ∧ b < w5.heap.size) w5 (f + 1) ro.v x) := NodeQ.keep (fun b hb => ⟨by have := hb.1; simp at this; omega, hb.2⟩) (fun _ _ _ => rfl) (Nat.le_refl _) hx
              clear hx R5 F5 CF k0 k1 k2 k3 k4 kz y1 y3
              have k0 : w5.cell? ⟨w.heap.size, 0, none⟩ = some (.int .u8 0) := by rw [Lib.cell_of_heap HG5.out]; rfl
              have k1 : w5.cell? ⟨w.heap.size, 1, none⟩ = some (.int .i64 0) := by rw [Lib.cell_of_heap HG5.out]; rfl
              have k2 : w5.cell? ⟨w.heap.size, 2, none⟩ = some (.string ⟨#[]⟩) := by rw [Lib.cell_of_heap HG5.out]; rfl
              have k3 : w5.cell? ⟨w.heap.size, 3, none⟩ = some (.slice none 0 0) := by rw [Lib.cell_of_heap HG5.out]; rfl
              have k4 : w5.cell? ⟨w.heap.size, 4, none⟩ = some (.slice none 0 0) := by rw [Lib.cell_of_heap HG5.out]; rfl
              have kz : ∀ o, w5.frozen? ⟨w.heap.size, o, none⟩ = false := fun o => Lib.frozen_of_heap HG5.out o
              go_wp2_with (fail)
              refine end_node Tryd.func18 4 rfl rfl (set5 HG5.out) ⟨_, rfl, ?_, HR5.out.up (fun j hj => set5o (by omega)) (by simp [World.setCell]; omega), HF5.out.set5 (Nat.le_refl _)⟩
              exact NodeQ.keep (fun b hb => ⟨by omega, by simp [World.setCell]; omega⟩) (fun b hb hl => set5o (by omega)) (by simp [World.setCell]) HX5.out
          · have HJ2 : Hid (foOf t.s = (fos.drop 7).find? (fun x => x.word == t.s)) := by
              show _ = _
              rw [HJ.out]
              have hq : (([104, 97, 110, 100, 108, 101] : List UInt8) == t.s) = false := by simp; exact fun e => he e.symm
              simp [fos, List.find?_cons, hq]
            have r1 : (([104, 97, 110, 100, 108, 101] : List UInt8) == t.s) = false := by simp; exact fun e => he e.symm
            have r2 : (t.s == [104, 97, 110, 100, 108, 101]) = false := by simpa using he
            have r3 : ¬ ([104, 97, 110, 100, 108, 101] : List UInt8) = t.s := fun e => he e.symm
            clear HJ he
            go_wp2_with (fail)
            go_roundw
            case rel => exact ⟨7, by omega, by rfl, HJ2, (by repeat (first | exact BW.refl _ | assumption | apply BW.alloc | apply BW.drewN | apply BW.drew | (refine BW.setCell ?_ (by first | omega | (simp; done) | (simp; omega)) _) | (refine BW.trans ?_ (by assumption))))⟩
            case measure => simp [intOf]
        · have hI := fun w => (index_forms w).2.2.2.2.2.2.2.1
          by_cases he : t.s = [114, 101, 115, 117, 109, 101]
          · have HRE : Hid (pForm f (pN f).1 (pN f).2 ⟨[114, 101, 115, 117, 109, 101], 14, false, 2, false⟩ q = R) := by
              show _ = R
              rw [← HRR.out, if_neg (by have := HH.out; omega), show foOf t.s = some ⟨[114, 101, 115, 117, 109, 101], 14, false, 2, false⟩ by rw [he]; rfl]
            have r1 : (([114, 101, 115, 117, 109, 101] : List UInt8) == t.s) = true := by rw [he]; decide
            have r2 : (t.s == [114, 101, 115, 117, 109, 101]) = true := by rw [he]; decide
            have CF : Hid (∀ w', BW w2 w' → Calls Tryd.prog 30 #[.pointer (some ⟨rb, 0, none⟩), .agg #[.string ⟨#[114, 101, 115, 117, 109, 101]⟩, .int .u8 14, .bool false, .int .i64 2, .bool false], .int .i64 d] w' (PostP (fun w'' v x => NodeQ (fun b => w'.heap.size ≤ b ∧ b < w''.heap.size) w'' (f + 1) v x) rb B N w' (pForm f (pN f).1 (pN f).2 ⟨[114, 101, 115, 117, 109, 101], 14, false, 2, false⟩ q))) := fun w' hb => IF.out rb B N d ⟨[114, 101, 115, 117, 109, 101], 14, false, 2, false⟩ q w' hd (by simp [fos]) (HR2.out.bw hb) (HGv.out.bw hb) hrb
            generalize pForm f (pN f).1 (pN f).2 ⟨[114, 101, 115, 117, 109, 101], 14, false, 2, false⟩ q = RF at *
            obtain rfl : RF = R := HRE.out
            clear HRR HJ he HRE
            cases RF with
            | error er =>
              go_wp2_with (go_at_call 30; refine (CF.out _ (by repeat (first | exact BW.refl _ | assumption | apply BW.alloc | apply BW.drewN | apply BW.drew | (refine BW.setCell ?_ (by first | omega | (simp; done) | (simp; omega)) _) | (refine BW.trans ?_ (by assumption))))).mono ?_; rintro e w5 ⟨rfl, f5⟩)
              exact ⟨rfl, rfl, HF2.out.trans (Fl.trans (BW.fl (by repeat (first | exact BW.refl _ | assumption | apply BW.alloc | apply BW.drewN | apply BW.drew | (refine BW.setCell ?_ (by first | omega | (simp; done) | (simp; omega)) _) | (refine BW.trans ?_ (by assumption)))) rb) f5)⟩
            | ok p =>
              obtain ⟨x, q5⟩ := p
              go_wp2_with (fail)
              refine (CF.out _ (by repeat (first | exact BW.refl _ | assumption | apply BW.alloc | apply BW.drewN | apply BW.drew | (refine BW.setCell ?_ (by first | omega | (simp; done) | (simp; omega)) _) | (refine BW.trans ?_ (by assumption))))).mono ?_
              rintro e w5 ⟨v5, rfl, hx, R5, F5⟩
              obtain ⟨ro, rfl⟩ := hx.rw
              have hz5 := F5.size
              simp at hz5
              have hB5 := R5.2.2.2.2.1
              have HG5 : Hid (w5.heap[w.heap.size]? = some (.cells #[.int .u8 0, .int .i64 0, .string ⟨#[]⟩, .slice none 0 0, .slice none 0 0] 26 (0, 0))) := (F5.block w.heap.size (by simp; omega) (by omega)).trans (((BW.alloc HB.out _).block w.heap.size (by omega)).trans HG2.out)
              have HF5 : Hid (Fl rb w w5) := HF2.out.trans (Fl.trans (BW.fl (by repeat (first | exact BW.refl _ | assumption | apply BW.alloc | apply BW.drewN | apply BW.drew | (refine BW.setCell ?_ (by first | omega | (simp; done) | (simp; omega)) _) | (refine BW.trans ?_ (by assumption)))) rb) F5)
              have HR5 : Hid (RdP rb B N q5 w5) := R5
              have HX5 : Hid (NodeQ (fun b => w.heap.size + 1 ≤ b ∧ b < w5.heap.size) w5 (f + 1) ro.v x) := NodeQ.keep (fun b hb => ⟨by have := hb.1; simp at this; omega, hb.2⟩) (fun _ _ _ => rfl) (Nat.le_refl _) hx
              clear hx R5 F5 CF k0 k1 k2 k3 k4 kz y1 y3
              have k0 : w5.cell? ⟨w.heap.size, 0, none⟩ = some (.int .u8 0) := by rw [Lib.cell_of_heap HG5.out]; rfl
              have k1 : w5.cell? ⟨w.heap.size, 1, none⟩ = some (.int .i64 0) := by rw [Lib.cell_of_heap HG5.out]; rfl
              have k2 : w5.cell? ⟨w.heap.size, 2, none⟩ = some (.string ⟨#[]⟩) := by rw [Lib.cell_of_heap HG5.out]; rfl
              have k3 : w5.cell? ⟨w.heap.size, 3, none⟩ = some (.slice none 0 0) := by rw [Lib.cell_of_heap HG5.out]; rfl
              have k4 : w5.cell? ⟨w.heap.size, 4, none⟩ = some (.slice none 0 0) := by rw [Lib.cell_of_heap HG5.out]; rfl
              have kz : ∀ o, w5.frozen? ⟨w.heap.size, o, none⟩ = false := fun o => Lib.frozen_of_heap HG5.out o
              go_wp2_with (fail)
              refine end_node Tryd.func18 4 rfl rfl (set5 HG5.out) ⟨_, rfl, ?_, HR5.out.up (fun j hj => set5o (by omega)) (by simp [World.setCell]; omega), HF5.out.set5 (Nat.le_refl _)⟩
              exact NodeQ.keep (fun b hb => ⟨by omega, by simp [World.setCell]; omega⟩) (fun b hb hl => set5o (by omega)) (by simp [World.setCell]) HX5.out
          · have HJ2 : Hid (foOf t.s = (fos.drop 8).find? (fun x => x.word == t.s)) := by
              show _ = _
              rw [HJ.out]
              have hq : (([114, 101, 115, 117, 109, 101] : List UInt8) == t.s) = false := by simp; exact fun e => he e.symm
              simp [fos, List.find?_cons, hq]
            have r1 : (([114, 101, 115, 117, 109, 101] : List UInt8) == t.s) = false := by simp; exact fun e => he e.symm
            have r2 : (t.s == [114, 101, 115, 117, 109, 101]) = false := by simpa using he
            have r3 : ¬ ([114, 101, 115, 117, 109, 101] : List UInt8) = t.s := fun e => he e.symm
            clear HJ he
            go_wp2_with (fail)
            go_roundw
            case rel => exact ⟨8, by omega, by rfl, HJ2, (by repeat (first | exact BW.refl _ | assumption | apply BW.alloc | apply BW.drewN | apply BW.drew | (refine BW.setCell ?_ (by first | omega | (simp; done) | (simp; omega)) _) | (refine BW.trans ?_ (by assumption))))⟩
            case measure => simp [intOf]
        · have hI := fun w => (index_forms w).2.2.2.2.2.2.2.2.1
          by_cases he : t.s = [100, 114, 111, 112]
          · have HRE : Hid (pForm f (pN f).1 (pN f).2 ⟨[100, 114, 111, 112], 15, false, 2, false⟩ q = R) := by
              show _ = R
              rw [← HRR.out, if_neg (by have := HH.out; omega), show foOf t.s = some ⟨[100, 114, 111, 112], 15, false, 2, false⟩ by rw [he]; rfl]
            have r1 : (([100, 114, 111, 112] : List UInt8) == t.s) = true := by rw [he]; decide
            have r2 : (t.s == [100, 114, 111, 112]) = true := by rw [he]; decide
            have CF : Hid (∀ w', BW w2 w' → Calls Tryd.prog 30 #[.pointer (some ⟨rb, 0, none⟩), .agg #[.string ⟨#[100, 114, 111, 112]⟩, .int .u8 15, .bool false, .int .i64 2, .bool false], .int .i64 d] w' (PostP (fun w'' v x => NodeQ (fun b => w'.heap.size ≤ b ∧ b < w''.heap.size) w'' (f + 1) v x) rb B N w' (pForm f (pN f).1 (pN f).2 ⟨[100, 114, 111, 112], 15, false, 2, false⟩ q))) := fun w' hb => IF.out rb B N d ⟨[100, 114, 111, 112], 15, false, 2, false⟩ q w' hd (by simp [fos]) (HR2.out.bw hb) (HGv.out.bw hb) hrb
            generalize pForm f (pN f).1 (pN f).2 ⟨[100, 114, 111, 112], 15, false, 2, false⟩ q = RF at *
            obtain rfl : RF = R := HRE.out
            clear HRR HJ he HRE
            cases RF with
            | error er =>
              go_wp2_with (go_at_call 30; refine (CF.out _ (by repeat (first | exact BW.refl _ | assumption | apply BW.alloc | apply BW.drewN | apply BW.drew | (refine BW.setCell ?_ (by first | omega | (simp; done) | (simp; omega)) _) | (refine BW.trans ?_ (by assumption))))).mono ?_; rintro e w5 ⟨rfl, f5⟩)
              exact ⟨rfl, rfl, HF2.out.trans (Fl.trans (BW.fl (by repeat (first | exact BW.refl _ | assumption | apply BW.alloc | apply BW.drewN | apply BW.drew | (refine BW.setCell ?_ (by first | omega | (simp; done) | (simp; omega)) _) | (refine BW.trans ?_ (by assumption)))) rb) f5)⟩
            | ok p =>
              obtain ⟨x, q5⟩ := p
              go_wp2_with (fail)
              refine (CF.out _ (by repeat (first | exact BW.refl _ | assumption | apply BW.alloc | apply BW.drewN | apply BW.drew | (refine BW.setCell ?_ (by first | omega | (simp; done) | (simp; omega)) _) | (refine BW.trans ?_ (by assumption))))).mono ?_
              rintro e w5 ⟨v5, rfl, hx, R5, F5⟩
              obtain ⟨ro, rfl⟩ := hx.rw
              have hz5 := F5.size
              simp at hz5
              have hB5 := R5.2.2.2.2.1
              have HG5 : Hid (w5.heap[w.heap.size]? = some (.cells #[.int .u8 0, .int .i64 0, .string ⟨#[]⟩, .slice none 0 0, .slice none 0 0] 26 (0, 0))) := (F5.block w.heap.size (by simp; omega) (by omega)).trans (((BW.alloc HB.out _).block w.heap.size (by omega)).trans HG2.out)
              have HF5 : Hid (Fl rb w w5) := HF2.out.trans (Fl.trans (BW.fl (by repeat (first | exact BW.refl _ | assumption | apply BW.alloc | apply BW.drewN | apply BW.drew | (refine BW.setCell ?_ (by first | omega | (simp; done) | (simp; omega)) _) | (refine BW.trans ?_ (by assumption)))) rb) F5)
              have HR5 : Hid (RdP rb B N q5 w5) := R5
              have HX5 : Hid (NodeQ (fun b => w.heap.size + 1 ≤ b ∧ b < w5.heap.size) w5 (f + 1) ro.v x) := NodeQ.keep (fun b hb => ⟨by have := hb.1; simp at this; omega, hb.2⟩) (fun _ _ _ => rfl) (Nat.le_refl _) hx
              clear hx R5 F5 CF k0 k1 k2 k3 k4 kz y1 y3
              have k0 : w5.cell? ⟨w.heap.size, 0, none⟩ = some (.int .u8 0) := by rw [Lib.cell_of_heap HG5.out]; rfl
              have k1 : w5.cell? ⟨w.heap.size, 1, none⟩ = some (.int .i64 0) := by rw [Lib.cell_of_heap HG5.out]; rfl
              have k2 : w5.cell? ⟨w.heap.size, 2, none⟩ = some (.string ⟨#[]⟩) := by rw [Lib.cell_of_heap HG5.out]; rfl
              have k3 : w5.cell? ⟨w.heap.size, 3, none⟩ = some (.slice none 0 0) := by rw [Lib.cell_of_heap HG5.out]; rfl
              have k4 : w5.cell? ⟨w.heap.size, 4, none⟩ = some (.slice none 0 0) := by rw [Lib.cell_of_heap HG5.out]; rfl
              have kz : ∀ o, w5.frozen? ⟨w.heap.size, o, none⟩ = false := fun o => Lib.frozen_of_heap HG5.out o
              go_wp2_with (fail)
              refine end_node Tryd.func18 4 rfl rfl (set5 HG5.out) ⟨_, rfl, ?_, HR5.out.up (fun j hj => set5o (by omega)) (by simp [World.setCell]; omega), HF5.out.set5 (Nat.le_refl _)⟩
              exact NodeQ.keep (fun b hb => ⟨by omega, by simp [World.setCell]; omega⟩) (fun b hb hl => set5o (by omega)) (by simp [World.setCell]) HX5.out
          · have HJ2 : Hid (foOf t.s = (fos.drop 9).find? (fun x => x.word == t.s)) := by
              show _ = _
              rw [HJ.out]
              have hq : (([100, 114, 111, 112] : List UInt8) == t.s) = false := by simp; exact fun e => he e.symm
              simp [fos, List.find?_cons, hq]
            have r1 : (([100, 114, 111, 112] : List UInt8) == t.s) = false := by simp; exact fun e => he e.symm
            have r2 : (t.s == [100, 114, 111, 112]) = false := by simpa using he
            have r3 : ¬ ([100, 114, 111, 112] : List UInt8) = t.s := fun e => he e.symm
            clear HJ he
            go_wp2_with (fail)
            go_roundw
            case rel => exact ⟨9, by omega, by rfl, HJ2, (by repeat (first | exact BW.refl _ | assumption | apply BW.alloc | apply BW.drewN | apply BW.drew | (refine BW.setCell ?_ (by first | omega | (simp; done) | (simp; omega)) _) | (refine BW.trans ?_ (by assumption))))⟩
            case measure => simp [intOf]
        · have hI := fun w => (index_forms w).2.2.2.2.2.2.2.2.2
          by_cases he : t.s = [119, 105, 110, 100]
          · have HRE : Hid (pForm f (pN f).1 (pN f).2 ⟨[119, 105, 110, 100], 16, false, 3, false⟩ q = R) := by
              show _ = R
              rw [← HRR.out, if_neg (by have := HH.out; omega), show foOf t.s = some ⟨[119, 105, 110, 100], 16, false, 3, false⟩ by rw [he]; rfl]
            have r1 : (([119, 105, 110, 100] : List UInt8) == t.s) = true := by rw [he]; decide
            have r2 : (t.s == [119, 105, 110, 100]) = true := by rw [he]; decide
            have CF : Hid (∀ w', BW w2 w' → Calls Tryd.prog 30 #[.pointer (some ⟨rb, 0, none⟩), .agg #[.string ⟨#[119, 105, 110, 100]⟩, .int .u8 16, .bool false, .int .i64 3, .bool false], .int .i64 d] w' (PostP (fun w'' v x => NodeQ (fun b => w'.heap.size ≤ b ∧ b < w''.heap.size) w'' (f + 1) v x) rb B N w' (pForm f (pN f).1 (pN f).2 ⟨[119, 105, 110, 100], 16, false, 3, false⟩ q))) := fun w' hb => IF.out rb B N d ⟨[119, 105, 110, 100], 16, false, 3, false⟩ q w' hd (by simp [fos]) (HR2.out.bw hb) (HGv.out.bw hb) hrb
            generalize pForm f (pN f).1 (pN f).2 ⟨[119, 105, 110, 100], 16, false, 3, false⟩ q = RF at *
            obtain rfl : RF = R := HRE.out
            clear HRR HJ he HRE
            cases RF with
            | error er =>
              go_wp2_with (go_at_call 30; refine (CF.out _ (by repeat (first | exact BW.refl _ | assumption | apply BW.alloc | apply BW.drewN | apply BW.drew | (refine BW.setCell ?_ (by first | omega | (simp; done) | (simp; omega)) _) | (refine BW.trans ?_ (by assumption))))).mono ?_; rintro e w5 ⟨rfl, f5⟩)
              exact ⟨rfl, rfl, HF2.out.trans (Fl.trans (BW.fl (by repeat (first | exact BW.refl _ | assumption | apply BW.alloc | apply BW.drewN | apply BW.drew | (refine BW.setCell ?_ (by first | omega | (simp; done) | (simp; omega)) _) | (refine BW.trans ?_ (by assumption)))) rb) f5)⟩
            | ok p =>
              obtain ⟨x, q5⟩ := p
              go_wp2_with (fail)
              refine (CF.out _ (by repeat (first | exact BW.refl _ | assumption | apply BW.alloc | apply BW.drewN | apply BW.drew | (refine BW.setCell ?_ (by first | omega | (simp; done) | (simp; omega)) _) | (refine BW.trans ?_ (by assumption))))).mono ?_
              rintro e w5 ⟨v5, rfl, hx, R5, F5⟩
              obtain ⟨ro, rfl⟩ := hx.rw
              have hz5 := F5.size
              simp at hz5
              have hB5 := R5.2.2.2.2.1
              have HG5 : Hid (w5.heap[w.heap.size]? = some (.cells #[.int .u8 0, .int .i64 0, .string ⟨#[]⟩, .slice none 0 0, .slice none 0 0] 26 (0, 0))) := (F5.block w.heap.size (by simp; omega) (by omega)).trans (((BW.alloc HB.out _).block w.heap.size (by omega)).trans HG2.out)
              have HF5 : Hid (Fl rb w w5) := HF2.out.trans (Fl.trans (BW.fl (by repeat (first | exact BW.refl _ | assumption | apply BW.alloc | apply BW.drewN | apply BW.drew | (refine BW.setCell ?_ (by first | omega | (simp; done) | (simp; omega)) _) | (refine BW.trans ?_ (by assumption)))) rb) F5)
              have HR5 : Hid (RdP rb B N q5 w5) := R5
              have HX5 : Hid (NodeQ (fun b => w.heap.size + 1 ≤ b ∧ b < w5.heap.size) w5 (f + 1) ro.v x) := NodeQ.keep (fun b hb => ⟨by have := hb.1; simp at this; omega, hb.2⟩) (fun _ _ _ => rfl) (Nat.le_refl _) hx
              clear hx R5 F5 CF k0 k1 k2 k3 k4 kz y1 y3
              have k0 : w5.cell? ⟨w.heap.size, 0, none⟩ = some (.int .u8 0) := by rw [Lib.cell_of_heap HG5.out]; rfl
              have k1 : w5.cell? ⟨w.heap.size, 1, none⟩ = some (.int .i64 0) := by rw [Lib.cell_of_heap HG5.out]; rfl
              have k2 : w5.cell? ⟨w.heap.size, 2, none⟩ = some (.string ⟨#[]⟩) := by rw [Lib.cell_of_heap HG5.out]; rfl
              have k3 : w5.cell? ⟨w.heap.size, 3, none⟩ = some (.slice none 0 0) := by rw [Lib.cell_of_heap HG5.out]; rfl
              have k4 : w5.cell? ⟨w.heap.size, 4, none⟩ = some (.slice none 0 0) := by rw [Lib.cell_of_heap HG5.out]; rfl
              have kz : ∀ o, w5.frozen? ⟨w.heap.size, o, none⟩ = false := fun o => Lib.frozen_of_heap HG5.out o
              go_wp2_with (fail)
              refine end_node Tryd.func18 4 rfl rfl (set5 HG5.out) ⟨_, rfl, ?_, HR5.out.up (fun j hj => set5o (by omega)) (by simp [World.setCell]; omega), HF5.out.set5 (Nat.le_refl _)⟩
              exact NodeQ.keep (fun b hb => ⟨by omega, by simp [World.setCell]; omega⟩) (fun b hb hl => set5o (by omega)) (by simp [World.setCell]) HX5.out
          · have HJ2 : Hid (foOf t.s = (fos.drop 10).find? (fun x => x.word == t.s)) := by
              show _ = _
              rw [HJ.out]
              have hq : (([119, 105, 110, 100] : List UInt8) == t.s) = false := by simp; exact fun e => he e.symm
              simp [fos, List.find?_cons, hq]
            have r1 : (([119, 105, 110, 100] : List UInt8) == t.s) = false := by simp; exact fun e => he e.symm
            have r2 : (t.s == [119, 105, 110, 100]) = false := by simpa using he
            have r3 : ¬ ([119, 105, 110, 100] : List UInt8) = t.s := fun e => he e.symm
            clear HJ he
            go_wp2_with (fail)
            go_roundw
            case rel => exact ⟨10, by omega, by rfl, HJ2, (by repeat (first | exact BW.refl _ | assumption | apply BW.alloc | apply BW.drewN | apply BW.drew | (refine BW.setCell ?_ (by first | omega | (simp; done) | (simp; omega)) _) | (refine BW.trans ?_ (by assumption))))⟩
            case measure => simp [intOf]
        · obtain rfl : R = .error (12, t.back) := by rw [← HRR.out, if_neg (by have := HH.out; omega), HJ.out]; rfl
          clear HRR HJ
          go_wp2_with (fail)
          exact ⟨rfl, rfl, HF2.out.trans (HB.out.fl rb)⟩

end Go.Proofs.YtlacjiihbbgbeaaDoor
