import Derived.Test.YtndhhmgbekcfoaaDoorQ9
namespace Go.Proofs.YtndhhmgbekcfoaaDoor
open Go.RowKit
set_option linter.unusedVariables false
set_option linter.unusedSimpArgs false

/-- What stands at a result's place is kept by a reader's method. -/
theorem keep_at {w w' : World} {rb B : Nat} (g : w.grownBy w' (some rb)) (hB : B < w.heap.size) (hn : B ≠ rb) : (∀ j, w'.cell? ⟨B, j, none⟩ = w.cell? ⟨B, j, none⟩) ∧ (∀ j, w'.frozen? ⟨B, j, none⟩ = w.frozen? ⟨B, j, none⟩) ∧ B < w'.heap.size := by
  have e := g.block B hB (fun x => hn (Option.some.inj x))
  exact ⟨fun j => World.cell?_of_block e, fun j => World.frozen?_of_block e, by have := g.size; omega⟩
theorem gb_set (w : World) (B j : Nat) (v : Value) : w.grownBy (w.setCell ⟨B, j, none⟩ v) (some B) := ⟨rfl, rfl, rfl, by simp, fun k hk hn => heap_setCell_other w _ k _ (fun e => hn (by rw [e]))⟩
theorem keep_heap {w w' : World} {rb B : Nat} {o : Obj} (g : w.grownBy w' (some rb)) (h : w.heap[B]? = some o) (hn : B ≠ rb) : w'.heap[B]? = some o := (g.block B (Array.getElem?_eq_some_iff.1 h).1 (fun x => hn (Option.some.inj x))).trans h
theorem rd_set {W0 w : World} {rb B : Nat} {l : List Nat} (h : Rd W0 w rb l) (hB : W0.heap.size ≤ B) (hn : B ≠ rb) {w' : World} (g : w.grownBy w' (some B)) : Rd W0 w' rb l := Rd.gb h g (fun k hk => by cases hk; exact ⟨hB, hn⟩)
set_option maxRecDepth 100000 in
set_option maxHeartbeats 4000000 in
theorem rdInstr_any (W0 w : World) (rb : Nat) (l : List Nat) (h : Rd W0 w rb l) : Calls Tryd.prog 78 #[.pointer (some ⟨rb, 0, none⟩)] w (PQ W0 rb w (VN w.heap.size) (dIns l)) := by
  have hrb := h.lt
  obtain ⟨x, hx⟩ : ∃ x, x = w.alloc (.cells #[.int .u8 0, .int .i64 0] 43) := ⟨_, rfl⟩
  have hbx : BW w x := by rw [hx]; exact BW.alloc (BW.refl _) _
  have HRX : Hid (Rd W0 x rb l) := h.bw hbx
  have HGX : Hid (w.grownBy x (some rb)) := gb_bw hbx
  have hz : w.heap.size < x.heap.size := by rw [hx]; simp
  have hc : ∀ j, x.cell? ⟨w.heap.size, j, none⟩ = (#[.int .u8 0, .int .i64 0] : Array Value)[j]? := fun j => by rw [hx]; exact cell_new _ _ _ j
  have hf : ∀ j, x.frozen? ⟨w.heap.size, j, none⟩ = false := fun j => by rw [hx]; exact frozen_of_row _ _ j _ _ (heap_alloc_new w _)
  have HH : Hid (x.heap[w.heap.size]? = some (.cells #[.int .u8 0, .int .i64 0] 43 (0, 0))) := by rw [hx]; exact heap_alloc_new w _
  have HX : Hid (x = w.alloc (.cells #[.int .u8 0, .int .i64 0] 43)) := hx
  have HN : Hid (Calls Tryd.prog 80 #[.pointer (some ⟨rb, 0, none⟩)] x (PQ W0 rb x (fun (_ : World) (v : Value) (k : Nat) => v = .int .u8 (k : Int)) (dByte l))) := next_any W0 x rb l HRX.out
  unfold dIns
  cases l with
  | nil =>
    clear hx h hbx
    go_enter Tryd.func78, Tryd.ntmps78
    go_wp2_with (first | (go_at_call 80; go_loud (rw [← HX.out]; refine Calls.mono HN.out ?_; rintro e w2 ⟨g2, hp⟩; obtain rfl := hp; have G2 : Hid _ := g2; clear g2)))
    exact ⟨rfl, gb_trans HGX.out G2.out, rfl⟩
  | cons c t =>
    have hc255 : c ≤ 255 := h.2.2.2.1 c (by simp)
    simp only [dByte, Option.bind_some] at HN ⊢
    have HS : Hid (∀ w1, Rd W0 w1 rb t → Calls Tryd.prog 75 #[.pointer (some ⟨rb, 0, none⟩)] w1 (PQ W0 rb w1 (fun (_ : World) (v : Value) (n : Int) => v = .int .i64 n ∧ I64 n) (dPlace t))) := fun w1 k => dplace_any W0 w1 rb t k
    cases hp : dPlace t with
    | none =>
      rw [hp] at HS
      clear hx h hbx hp
      go_enter Tryd.func78, Tryd.ntmps78
      go_wp2_with (first
        | (go_at_call 80; go_loud (rw [← HX.out]; refine Calls.mono HN.out ?_; rintro e w1 ⟨g1, v1, rfl, hv1, R1⟩; obtain rfl := hv1; have G1 : Hid _ := g1; have RR1 : Hid (Rd W0 w1 rb t) := R1; clear g1 R1))
        | (go_at_call 75; go_loud (refine Calls.mono (HS.out _ RR1.out) ?_; rintro e w2 ⟨g2, hp⟩; obtain rfl := hp; have G2 : Hid _ := g2; clear g2)))
      exact ⟨rfl, gb_trans HGX.out (gb_trans G1.out G2.out), rfl⟩
    | some p =>
      obtain ⟨a, r⟩ := p
      rw [hp] at HS
      clear hx h hbx hp
      go_enter Tryd.func78, Tryd.ntmps78
      go_wp2_with (first
        | (go_at_call 80; go_loud (rw [← HX.out]; refine Calls.mono HN.out ?_; rintro e w1 ⟨g1, v1, rfl, hv1, R1⟩; obtain rfl := hv1; have G1 : Hid (x.grownBy w1 (some rb)) := g1; have RR1 : Hid (Rd W0 w1 rb t) := R1; clear g1 R1))
        | (go_at_call 75; go_loud (refine Calls.mono (HS.out _ RR1.out) ?_; rintro e w2 ⟨g2, v2, rfl, ⟨hv2, hi2⟩, R2⟩; obtain rfl := hv2; have G2 : Hid (x.grownBy w2 (some rb)) := gb_trans G1.out g2; have RR2 : Hid (Rd W0 w2 rb r) := R2; obtain ⟨kc, kf, kz⟩ := keep_at G2.out hz (by omega); have d0 := (kc 0).trans (hc 0); have d1 := (kc 1).trans (hc 1); have f0 := (kf 0).trans (hf 0); have f1 := (kf 1).trans (hf 1); simp at d0 d1; clear g2 R2 kc kf)))
      have hh := keep_heap G2.out HH.out (by omega)
      have h1 := heap_setCell_same w2 w.heap.size 0 _ 43 (.int .u8 (c : Int)) hh
      have h2 := heap_setCell_same (w2.setCell ⟨w.heap.size, 0, none⟩ (.int .u8 (c : Int))) w.heap.size 1 _ 43 (.int .i64 a) h1
      have hg := gb_trans (gb_set w2 w.heap.size 0 (.int .u8 (c : Int))) (gb_set _ w.heap.size 1 (.int .i64 a))
      refine bodyPost_ret (results_cell_row (P := Tryd.prog) (p := 2) (ty := 43) rfl _ _ w.heap.size 43 #[.int .u8 (c : Int), .int .i64 a] (0, 0) _ rfl (by simpa using h2) Tryd.underlying43 (by kernel_rfl) (by kernel_rfl)) rfl ?_
      exact ⟨gb_own (gb_trans HGX.out G2.out) hg (fun k hk => by cases hk; exact Nat.le_refl _), _, rfl, ⟨rfl, ⟨by show (0 : Int) ≤ (c : Int); omega, by show (c : Int) ≤ 255; omega⟩, hi2⟩, rd_set RR2.out (by have := HRX.out.2.1; omega) (by omega) hg⟩

set_option maxRecDepth 100000 in
set_option maxHeartbeats 4000000 in
theorem rdProto_any (W0 w : World) (rb : Nat) (l : List Nat) (h : Rd W0 w rb l) : Calls Tryd.prog 57 #[.pointer (some ⟨rb, 0, none⟩)] w (PQ W0 rb w (VP w.heap.size) (dPro l)) := by
  have hrb := h.lt
  obtain ⟨x, hx⟩ : ∃ x, x = w.alloc (.cells #[.int .i64 0, .int .i64 0, .int .i64 0, .slice none 0 0] 46) := ⟨_, rfl⟩
  have hbx : BW w x := by rw [hx]; exact BW.alloc (BW.refl _) _
  have HRX : Hid (Rd W0 x rb l) := h.bw hbx
  have HGX : Hid (w.grownBy x (some rb)) := gb_bw hbx
  have hz : w.heap.size < x.heap.size := by rw [hx]; simp
  have hc : ∀ j, x.cell? ⟨w.heap.size, j, none⟩ = (#[.int .i64 0, .int .i64 0, .int .i64 0, .slice none 0 0] : Array Value)[j]? := fun j => by rw [hx]; exact cell_new _ _ _ j
  have hf : ∀ j, x.frozen? ⟨w.heap.size, j, none⟩ = false := fun j => by rw [hx]; exact frozen_of_row _ _ j _ _ (heap_alloc_new w _)
  have HH : Hid (x.heap[w.heap.size]? = some (.cells #[.int .i64 0, .int .i64 0, .int .i64 0, .slice none 0 0] 46 (0, 0))) := by rw [hx]; exact heap_alloc_new w _
  have HX : Hid (x = w.alloc (.cells #[.int .i64 0, .int .i64 0, .int .i64 0, .slice none 0 0] 46)) := hx
  have HS : Hid (∀ w1 r, Rd W0 w1 rb r → Calls Tryd.prog 75 #[.pointer (some ⟨rb, 0, none⟩)] w1 (PQ W0 rb w1 (fun (_ : World) (v : Value) (n : Int) => v = .int .i64 n ∧ I64 n) (dPlace r))) := fun w1 r k => dplace_any W0 w1 rb r k
  have HQ : Hid (∀ w1 r, Rd W0 w1 rb r → Calls Tryd.prog 77 #[.pointer (some ⟨rb, 0, none⟩), .func (.func 78) #[.pointer (some ⟨rb, 0, none⟩)] #[]] w1 (PQ W0 rb w1 (VL CodeAt w1.heap.size) (dList dIns r))) := fun w1 r k => listCode_any W0 w1 rb r k (fun w2 q k2 => rdInstr_any W0 w2 rb q k2)
  clear hx h hbx
  unfold dPro
  cases h1 : dPlace l with
  | none =>
    have HS1 : Hid (Calls Tryd.prog 75 #[.pointer (some ⟨rb, 0, none⟩)] x (PQ W0 rb x (fun (_ : World) (v : Value) (n : Int) => v = .int .i64 n ∧ I64 n) none)) := by rw [← h1]; exact HS.out x l HRX.out
    clear h1
    go_enter Tryd.func57, Tryd.ntmps57
    go_wp2_with (first
      | (go_at_call 75; rw [← HX.out]; refine Calls.mono (HS1.out) ?_; rintro e w1 ⟨g1, hp⟩; obtain rfl := hp; have G1 : Hid (x.grownBy w1 (some rb)) := g1; clear g1))
    exact ⟨rfl, gb_trans HGX.out G1.out, rfl⟩
  | some a =>
    obtain ⟨p, q1⟩ := a
    simp only [Option.bind_some]
    have HS1 : Hid (Calls Tryd.prog 75 #[.pointer (some ⟨rb, 0, none⟩)] x (PQ W0 rb x (fun (_ : World) (v : Value) (n : Int) => v = .int .i64 n ∧ I64 n) (some (p, q1)))) := by rw [← h1]; exact HS.out x l HRX.out
    clear h1
    cases h2 : dPlace q1 with
    | none =>
      have HS2 : Hid (∀ w1, Rd W0 w1 rb q1 → Calls Tryd.prog 75 #[.pointer (some ⟨rb, 0, none⟩)] w1 (PQ W0 rb w1 (fun (_ : World) (v : Value) (n : Int) => v = .int .i64 n ∧ I64 n) none)) := fun w1 k => by rw [← h2]; exact HS.out w1 q1 k
      clear h2
      go_enter Tryd.func57, Tryd.ntmps57
      go_wp2_with (first
        | (go_at_call 75; rw [← HX.out]; refine Calls.mono (HS1.out) ?_; rintro e w1 ⟨g1, v1, rfl, ⟨hv1, hi1⟩, R1⟩; obtain rfl := hv1; have G1 : Hid (x.grownBy w1 (some rb)) := g1; have RR1 : Hid (Rd W0 w1 rb q1) := R1; clear g1 R1)
        | (go_at_call 75; refine Calls.mono (HS2.out _ RR1.out) ?_; rintro e w2 ⟨g2, hp⟩; obtain rfl := hp; have G2 : Hid (x.grownBy w2 (some rb)) := gb_trans G1.out g2; clear g2))
      exact ⟨rfl, gb_trans HGX.out G2.out, rfl⟩
    | some a =>
      obtain ⟨s, q2⟩ := a
      simp only [Option.bind_some]
      have HS2 : Hid (∀ w1, Rd W0 w1 rb q1 → Calls Tryd.prog 75 #[.pointer (some ⟨rb, 0, none⟩)] w1 (PQ W0 rb w1 (fun (_ : World) (v : Value) (n : Int) => v = .int .i64 n ∧ I64 n) (some (s, q2)))) := fun w1 k => by rw [← h2]; exact HS.out w1 q1 k
      clear h2
      cases h3 : dPlace q2 with
      | none =>
        have HS3 : Hid (∀ w1, Rd W0 w1 rb q2 → Calls Tryd.prog 75 #[.pointer (some ⟨rb, 0, none⟩)] w1 (PQ W0 rb w1 (fun (_ : World) (v : Value) (n : Int) => v = .int .i64 n ∧ I64 n) none)) := fun w1 k => by rw [← h3]; exact HS.out w1 q2 k
        clear h3
        go_enter Tryd.func57, Tryd.ntmps57
        go_wp2_with (first
          | (go_at_call 75; rw [← HX.out]; refine Calls.mono (HS1.out) ?_; rintro e w1 ⟨g1, v1, rfl, ⟨hv1, hi1⟩, R1⟩; obtain rfl := hv1; have G1 : Hid (x.grownBy w1 (some rb)) := g1; have RR1 : Hid (Rd W0 w1 rb q1) := R1; clear g1 R1)
          | (go_at_call 75; refine Calls.mono (HS2.out _ RR1.out) ?_; rintro e w2 ⟨g2, v2, rfl, ⟨hv2, hi2⟩, R2⟩; obtain rfl := hv2; have G2 : Hid (x.grownBy w2 (some rb)) := gb_trans G1.out g2; have RR2 : Hid (Rd W0 w2 rb q2) := R2; clear g2 R2)
          | (go_at_call 75; refine Calls.mono (HS3.out _ RR2.out) ?_; rintro e w3 ⟨g3, hp⟩; obtain rfl := hp; have G3 : Hid (x.grownBy w3 (some rb)) := gb_trans G2.out g3; clear g3))
        exact ⟨rfl, gb_trans HGX.out G3.out, rfl⟩
      | some a =>
        obtain ⟨u, q3⟩ := a
        simp only [Option.bind_some]
        have HS3 : Hid (∀ w1, Rd W0 w1 rb q2 → Calls Tryd.prog 75 #[.pointer (some ⟨rb, 0, none⟩)] w1 (PQ W0 rb w1 (fun (_ : World) (v : Value) (n : Int) => v = .int .i64 n ∧ I64 n) (some (u, q3)))) := fun w1 k => by rw [← h3]; exact HS.out w1 q2 k
        clear h3 HS
        cases h4 : dList dIns q3 with
        | none =>
          have HS4 : Hid (∀ w1, Rd W0 w1 rb q3 → Calls Tryd.prog 77 #[.pointer (some ⟨rb, 0, none⟩), .func (.func 78) #[.pointer (some ⟨rb, 0, none⟩)] #[]] w1 (PQ W0 rb w1 (VL CodeAt w1.heap.size) none)) := fun w1 k => by rw [← h4]; exact HQ.out w1 q3 k
          clear h4
          go_enter Tryd.func57, Tryd.ntmps57
          go_wp2_with (first
            | (go_at_call 75; rw [← HX.out]; refine Calls.mono (HS1.out) ?_; rintro e w1 ⟨g1, v1, rfl, ⟨hv1, hi1⟩, R1⟩; obtain rfl := hv1; have G1 : Hid (x.grownBy w1 (some rb)) := g1; have RR1 : Hid (Rd W0 w1 rb q1) := R1; clear g1 R1)
            | (go_at_call 75; refine Calls.mono (HS2.out _ RR1.out) ?_; rintro e w2 ⟨g2, v2, rfl, ⟨hv2, hi2⟩, R2⟩; obtain rfl := hv2; have G2 : Hid (x.grownBy w2 (some rb)) := gb_trans G1.out g2; have RR2 : Hid (Rd W0 w2 rb q2) := R2; clear g2 R2)
            | (go_at_call 75; refine Calls.mono (HS3.out _ RR2.out) ?_; rintro e w3 ⟨g3, v3, rfl, ⟨hv3, hi3⟩, R3⟩; obtain rfl := hv3; have G3 : Hid (x.grownBy w3 (some rb)) := gb_trans G2.out g3; have RR3 : Hid (Rd W0 w3 rb q3) := R3; clear g3 R3)
            | (go_at_call 77; refine Calls.mono (HS4.out _ RR3.out) ?_; rintro e w4 ⟨g4, hp⟩; obtain rfl := hp; have G4 : Hid (x.grownBy w4 (some rb)) := gb_trans G3.out g4; clear g4))
          exact ⟨rfl, gb_trans HGX.out G4.out, rfl⟩
        | some a =>
          obtain ⟨c, q4⟩ := a
          simp only [Option.map_some]
          have HS4 : Hid (∀ w1, Rd W0 w1 rb q3 → Calls Tryd.prog 77 #[.pointer (some ⟨rb, 0, none⟩), .func (.func 78) #[.pointer (some ⟨rb, 0, none⟩)] #[]] w1 (PQ W0 rb w1 (VL CodeAt w1.heap.size) (some (c, q4)))) := fun w1 k => by rw [← h4]; exact HQ.out w1 q3 k
          clear h4 HQ
          have hrx : ∀ w', x.grownBy w' (some rb) → w.heap.size < w'.heap.size := fun w' g => by have := g.size; omega
          go_enter Tryd.func57, Tryd.ntmps57
          go_wp2_with (first
            | (go_at_call 75; rw [← HX.out]; refine Calls.mono (HS1.out) ?_; rintro e w1 ⟨g1, v1, rfl, ⟨hv1, hi1⟩, R1⟩; obtain rfl := hv1; have G1 : Hid (x.grownBy w1 (some rb)) := g1; have RR1 : Hid (Rd W0 w1 rb q1) := R1; clear g1 R1)
            | (go_at_call 75; refine Calls.mono (HS2.out _ RR1.out) ?_; rintro e w2 ⟨g2, v2, rfl, ⟨hv2, hi2⟩, R2⟩; obtain rfl := hv2; have G2 : Hid (x.grownBy w2 (some rb)) := gb_trans G1.out g2; have RR2 : Hid (Rd W0 w2 rb q2) := R2; clear g2 R2)
            | (go_at_call 75; refine Calls.mono (HS3.out _ RR2.out) ?_; rintro e w3 ⟨g3, v3, rfl, ⟨hv3, hi3⟩, R3⟩; obtain rfl := hv3; have G3 : Hid (x.grownBy w3 (some rb)) := gb_trans G2.out g3; have RR3 : Hid (Rd W0 w3 rb q3) := R3; clear g3 R3)
            | (go_at_call 77; refine Calls.mono (HS4.out _ RR3.out) ?_; rintro e w4 ⟨g4, v4, rfl, ⟨ao, cp, hve, hl1, hl2, hl3, hat⟩, R4⟩; obtain rfl := hve; have G4 : Hid (x.grownBy w4 (some rb)) := gb_trans G3.out g4; have RR4 : Hid (Rd W0 w4 rb q4) := R4; have AT : Hid (CodeAt (hidP (bel w3.heap.size) w4) ao c.length c) := hat; obtain ⟨kc, kf, kz⟩ := keep_at G4.out hz (by omega); have d0 := (kc 0).trans (hc 0); have d1 := (kc 1).trans (hc 1); have d2 := (kc 2).trans (hc 2); have d3 := (kc 3).trans (hc 3); have f0 := (kf 0).trans (hf 0); have f1 := (kf 1).trans (hf 1); have f2 := (kf 2).trans (hf 2); have f3 := (kf 3).trans (hf 3); simp at d0 d1 d2 d3; clear g4 R4 kc kf hat))
          have hh := keep_heap G4.out HH.out (by omega)
          have s1 := heap_setCell_same w4 w.heap.size 0 _ 46 (.int .i64 p) hh
          have s2 := heap_setCell_same _ w.heap.size 1 _ 46 (.int .i64 s) s1
          have s3 := heap_setCell_same _ w.heap.size 2 _ 46 (.int .i64 u) s2
          have s4 := heap_setCell_same _ w.heap.size 3 _ 46 (.slice ao c.length cp) s3
          have hg := gb_trans (gb_trans (gb_trans (gb_set w4 w.heap.size 0 (.int .i64 p)) (gb_set _ w.heap.size 1 (.int .i64 s))) (gb_set _ w.heap.size 2 (.int .i64 u))) (gb_set _ w.heap.size 3 (.slice ao c.length cp))
          refine bodyPost_ret (results_cell_row (P := Tryd.prog) (p := 2) (ty := 46) rfl _ _ w.heap.size 46 #[.int .i64 p, .int .i64 s, .int .i64 u, .slice ao c.length cp] (0, 0) _ rfl (by simpa using s4) Tryd.underlying46 (by kernel_rfl) (by kernel_rfl)) rfl ?_
          refine ⟨gb_own (gb_trans HGX.out G4.out) hg (fun k hk => by cases hk; exact Nat.le_refl _), _, rfl, ⟨ao, c.length, cp, rfl, hi1, hi2, hi3, hl1, hl2, ?_⟩, rd_set RR4.out (by have := HRX.out.2.1; omega) (by omega) hg⟩
          have h34 := hrx w3 G3.out
          exact Sub.code (hidP_sub hg.size (fun b hb hp => ⟨by simp at hp ⊢; omega, hg.block b hb (fun e => by cases e; simp at hp; omega)⟩)) AT.out

set_option maxRecDepth 100000 in
set_option maxHeartbeats 4000000 in
theorem rdTable_any (W0 w : World) (rb : Nat) (l : List Nat) (h : Rd W0 w rb l) : Calls Tryd.prog 59 #[.pointer (some ⟨rb, 0, none⟩)] w (PQ W0 rb w (VT w.heap.size) (dTbl l)) := by
  have hrb := h.lt
  obtain ⟨x, hx⟩ : ∃ x, x = w.alloc (.cells #[.slice none 0 0, .bool false, .bool false] 50) := ⟨_, rfl⟩
  have hbx : BW w x := by rw [hx]; exact BW.alloc (BW.refl _) _
  have HRX : Hid (Rd W0 x rb l) := h.bw hbx
  have HGX : Hid (w.grownBy x (some rb)) := gb_bw hbx
  have hz : w.heap.size < x.heap.size := by rw [hx]; simp
  have hrx : rb < x.heap.size := by omega
  have hc : ∀ j, x.cell? ⟨w.heap.size, j, none⟩ = (#[.slice none 0 0, .bool false, .bool false] : Array Value)[j]? := fun j => by rw [hx]; exact cell_new _ _ _ j
  have hf : ∀ j, x.frozen? ⟨w.heap.size, j, none⟩ = false := fun j => by rw [hx]; exact frozen_of_row _ _ j _ _ (heap_alloc_new w _)
  have HH : Hid (x.heap[w.heap.size]? = some (.cells #[.slice none 0 0, .bool false, .bool false] 50 (0, 0))) := by rw [hx]; exact heap_alloc_new w _
  have HX : Hid (x = w.alloc (.cells #[.slice none 0 0, .bool false, .bool false] 50)) := hx
  have HQ : Hid (Calls Tryd.prog 79 #[.pointer (some ⟨rb, 0, none⟩), .func (.func 75) #[.pointer (some ⟨rb, 0, none⟩)] #[]] x (PQ W0 rb x (VL IntsAt x.heap.size) (dList dPlace l))) := listOps_any W0 x rb l HRX.out (fun w2 q k2 => dplace_any W0 w2 rb q k2)
  have HN0 : Hid (∀ w1 r, Rd W0 w1 rb r → Calls Tryd.prog 80 #[.pointer (some ⟨rb, 0, none⟩)] w1 (PQ W0 rb w1 (fun (_ : World) (v : Value) (k : Nat) => v = .int .u8 (k : Int)) (dByte r))) := fun w1 r k => next_any W0 w1 rb r k
  have HB : Hid (Byt l) := h.2.2.2.1
  clear hx h hbx
  unfold dTbl
  cases h1 : dList dPlace l with
  | none =>
    rw [h1] at HQ
    clear h1 HN0
    go_enter Tryd.func59, Tryd.ntmps59
    go_wp2_with (first
      | (go_at_call 79; rw [← HX.out]; refine Calls.mono (HQ.out) ?_; rintro e w1 ⟨g1, hp⟩; obtain rfl := hp; have G1 : Hid (x.grownBy w1 (some rb)) := g1; clear g1))
    exact ⟨rfl, gb_trans HGX.out G1.out, rfl⟩
  | some a =>
    obtain ⟨ops, q1⟩ := a
    simp only [Option.bind_some]
    rw [h1] at HQ
    have HS1 : Hid (Calls Tryd.prog 79 #[.pointer (some ⟨rb, 0, none⟩), .func (.func 75) #[.pointer (some ⟨rb, 0, none⟩)] #[]] x (PQ W0 rb x (VL IntsAt x.heap.size) (some (ops, q1)))) := HQ
    have HBq : Hid (Byt q1) := (by
      have := (dList_back (e := fun n => nb (szn n)) (G := fun n => 0 ≤ n ∧ n ≤ 9223372036854775807) (fun l x r hb h => dPlace_back hb h) HB.out h1).1
      have h2 := HB.out
      rw [this] at h2
      exact h2.right)
    clear h1 HQ
    cases q1 with
    | nil =>
      have HN : Hid (∀ w1, Rd W0 w1 rb [] → Calls Tryd.prog 80 #[.pointer (some ⟨rb, 0, none⟩)] w1 (PQ W0 rb w1 (fun (_ : World) (v : Value) (k : Nat) => v = .int .u8 (k : Int)) none)) := fun w1 k => HN0.out w1 [] k
      clear HN0
      go_enter Tryd.func59, Tryd.ntmps59
      go_wp2_with (first
        | (go_at_call 79; rw [← HX.out]; refine Calls.mono (HS1.out) ?_; rintro e w1 ⟨g1, v1, rfl, ⟨ao, cp, hve, hl1, hl2, hl3, hat⟩, R1⟩; obtain rfl := hve; have G1 : Hid (x.grownBy w1 (some rb)) := g1; have RR1 : Hid (Rd W0 w1 rb []) := R1; have AT : Hid (IntsAt (hidP (bel x.heap.size) w1) ao ops.length ops) := hat; clear g1 R1 hat)
        | (go_at_call 80; refine Calls.mono (HN.out _ RR1.out) ?_; rintro e w2 ⟨g2, hp⟩; obtain rfl := hp; have G2 : Hid (x.grownBy w2 (some rb)) := gb_trans G1.out g2; clear g2))
      exact ⟨rfl, gb_trans HGX.out G2.out, rfl⟩
    | cons f t =>
      simp only [dByte, Option.bind_some]
      have hf255 : f ≤ 255 := HBq.out f (by simp)
      have HN : Hid (∀ w1, Rd W0 w1 rb (f :: t) → Calls Tryd.prog 80 #[.pointer (some ⟨rb, 0, none⟩)] w1 (PQ W0 rb w1 (fun (_ : World) (v : Value) (k : Nat) => v = .int .u8 (k : Int)) (some (f, t)))) := fun w1 k => HN0.out w1 (f :: t) k
      clear HN0
      by_cases h3 : 3 < f
      · simp only [if_pos h3]
        have e3 : decide ((3 : Int) < (f : Int)) = true := by simp; omega
        go_enter Tryd.func59, Tryd.ntmps59
        go_wp2_with (first
          | (go_at_call 79; rw [← HX.out]; refine Calls.mono (HS1.out) ?_; rintro e w1 ⟨g1, v1, rfl, ⟨ao, cp, hve, hl1, hl2, hl3, hat⟩, R1⟩; obtain rfl := hve; have G1 : Hid (x.grownBy w1 (some rb)) := g1; have RR1 : Hid (Rd W0 w1 rb (f :: t)) := R1; have AT : Hid (IntsAt (hidP (bel x.heap.size) w1) ao ops.length ops) := hat; clear g1 R1 hat)
          | (go_at_call 80; refine Calls.mono (HN.out _ RR1.out) ?_; rintro e w2 ⟨g2, v2, rfl, hv2, R2⟩; obtain rfl := hv2; have G2 : Hid (x.grownBy w2 (some rb)) := gb_trans G1.out g2; have RR2 : Hid (Rd W0 w2 rb t) := R2; have AT2 : Hid (IntsAt (hidP (bel x.heap.size) w2) ao ops.length ops) := Sub.ints (bel_gb g2 hrx) AT.out; obtain ⟨kc, kf, kz⟩ := keep_at G2.out hz (by omega); have d0 := (kc 0).trans (hc 0); have d1 := (kc 1).trans (hc 1); have d2 := (kc 2).trans (hc 2); have f0 := (kf 0).trans (hf 0); have f1 := (kf 1).trans (hf 1); have f2 := (kf 2).trans (hf 2); simp at d0 d1 d2; clear g2 R2 kc kf))
        exact ⟨rfl, gb_trans HGX.out G2.out, rfl⟩
      · simp only [if_neg h3]
        have h4 : f = 0 ∨ f = 1 ∨ f = 2 ∨ f = 3 := by omega
        clear hf255 h3
        have a0 : bits .and .u8 0 1 = 0 := by decide +kernel
        have a1 : bits .and .u8 1 1 = 1 := by decide +kernel
        have a2 : bits .and .u8 2 1 = 0 := by decide +kernel
        have a3 : bits .and .u8 3 1 = 1 := by decide +kernel
        have b0 : bits .and .u8 0 2 = 0 := by decide +kernel
        have b1 : bits .and .u8 1 2 = 0 := by decide +kernel
        have b2 : bits .and .u8 2 2 = 2 := by decide +kernel
        have b3 : bits .and .u8 3 2 = 2 := by decide +kernel
        rcases h4 with rfl | rfl | rfl | rfl
        · go_enter Tryd.func59, Tryd.ntmps59
          go_wp2_with (first
            | (go_at_call 79; rw [← HX.out]; refine Calls.mono (HS1.out) ?_; rintro e w1 ⟨g1, v1, rfl, ⟨ao, cp, hve, hl1, hl2, hl3, hat⟩, R1⟩; obtain rfl := hve; have G1 : Hid (x.grownBy w1 (some rb)) := g1; have RR1 : Hid (Rd W0 w1 rb (0 :: t)) := R1; have AT : Hid (IntsAt (hidP (bel x.heap.size) w1) ao ops.length ops) := hat; clear g1 R1 hat)
            | (go_at_call 80; refine Calls.mono (HN.out _ RR1.out) ?_; rintro e w2 ⟨g2, v2, rfl, hv2, R2⟩; obtain rfl := hv2; have G2 : Hid (x.grownBy w2 (some rb)) := gb_trans G1.out g2; have RR2 : Hid (Rd W0 w2 rb t) := R2; have AT2 : Hid (IntsAt (hidP (bel x.heap.size) w2) ao ops.length ops) := Sub.ints (bel_gb g2 hrx) AT.out; obtain ⟨kc, kf, kz⟩ := keep_at G2.out hz (by omega); have d0 := (kc 0).trans (hc 0); have d1 := (kc 1).trans (hc 1); have d2 := (kc 2).trans (hc 2); have f0 := (kf 0).trans (hf 0); have f1 := (kf 1).trans (hf 1); have f2 := (kf 2).trans (hf 2); simp at d0 d1 d2; clear g2 R2 kc kf))
          have hh := keep_heap G2.out HH.out (by omega)
          have s1 := heap_setCell_same w2 w.heap.size 0 _ 50 (.slice ao ops.length cp) hh
          have s2 := heap_setCell_same _ w.heap.size 1 _ 50 (.bool false) s1
          have s3 := heap_setCell_same _ w.heap.size 2 _ 50 (.bool false) s2
          have hg := gb_trans (gb_trans (gb_set w2 w.heap.size 0 (.slice ao ops.length cp)) (gb_set _ w.heap.size 1 (.bool false))) (gb_set _ w.heap.size 2 (.bool false))
          refine bodyPost_ret (results_cell_row (P := Tryd.prog) (p := 2) (ty := 50) rfl _ _ w.heap.size 50 #[.slice ao ops.length cp, .bool false, .bool false] (0, 0) _ rfl (by simpa using s3) Tryd.underlying50 (by kernel_rfl) (by kernel_rfl)) rfl ?_
          refine ⟨gb_own (gb_trans HGX.out G2.out) hg (fun k hk => by cases hk; exact Nat.le_refl _), _, rfl, ⟨ao, ops.length, cp, (by first | rfl | simp [tbv]), hl1, hl2, by omega, ?_⟩, rd_set RR2.out (by have := HRX.out.2.1; omega) (by omega) hg⟩
          exact Sub.ints (hidP_sub hg.size (fun b hb hp => ⟨by simp at hp ⊢; omega, hg.block b hb (fun e => by cases e; simp at hp; omega)⟩)) AT2.out
        · go_enter Tryd.func59, Tryd.ntmps59
          go_wp2_with (first
            | (go_at_call 79; rw [← HX.out]; refine Calls.mono (HS1.out) ?_; rintro e w1 ⟨g1, v1, rfl, ⟨ao, cp, hve, hl1, hl2, hl3, hat⟩, R1⟩; obtain rfl := hve; have G1 : Hid (x.grownBy w1 (some rb)) := g1; have RR1 : Hid (Rd W0 w1 rb (1 :: t)) := R1; have AT : Hid (IntsAt (hidP (bel x.heap.size) w1) ao ops.length ops) := hat; clear g1 R1 hat)
            | (go_at_call 80; refine Calls.mono (HN.out _ RR1.out) ?_; rintro e w2 ⟨g2, v2, rfl, hv2, R2⟩; obtain rfl := hv2; have G2 : Hid (x.grownBy w2 (some rb)) := gb_trans G1.out g2; have RR2 : Hid (Rd W0 w2 rb t) := R2; have AT2 : Hid (IntsAt (hidP (bel x.heap.size) w2) ao ops.length ops) := Sub.ints (bel_gb g2 hrx) AT.out; obtain ⟨kc, kf, kz⟩ := keep_at G2.out hz (by omega); have d0 := (kc 0).trans (hc 0); have d1 := (kc 1).trans (hc 1); have d2 := (kc 2).trans (hc 2); have f0 := (kf 0).trans (hf 0); have f1 := (kf 1).trans (hf 1); have f2 := (kf 2).trans (hf 2); simp at d0 d1 d2; clear g2 R2 kc kf))
          have hh := keep_heap G2.out HH.out (by omega)
          have s1 := heap_setCell_same w2 w.heap.size 0 _ 50 (.slice ao ops.length cp) hh
          have s2 := heap_setCell_same _ w.heap.size 1 _ 50 (.bool true) s1
          have s3 := heap_setCell_same _ w.heap.size 2 _ 50 (.bool false) s2
          have hg := gb_trans (gb_trans (gb_set w2 w.heap.size 0 (.slice ao ops.length cp)) (gb_set _ w.heap.size 1 (.bool true))) (gb_set _ w.heap.size 2 (.bool false))
          refine bodyPost_ret (results_cell_row (P := Tryd.prog) (p := 2) (ty := 50) rfl _ _ w.heap.size 50 #[.slice ao ops.length cp, .bool true, .bool false] (0, 0) _ rfl (by simpa using s3) Tryd.underlying50 (by kernel_rfl) (by kernel_rfl)) rfl ?_
          refine ⟨gb_own (gb_trans HGX.out G2.out) hg (fun k hk => by cases hk; exact Nat.le_refl _), _, rfl, ⟨ao, ops.length, cp, (by first | rfl | simp [tbv]), hl1, hl2, by omega, ?_⟩, rd_set RR2.out (by have := HRX.out.2.1; omega) (by omega) hg⟩
          exact Sub.ints (hidP_sub hg.size (fun b hb hp => ⟨by simp at hp ⊢; omega, hg.block b hb (fun e => by cases e; simp at hp; omega)⟩)) AT2.out
        · go_enter Tryd.func59, Tryd.ntmps59
          go_wp2_with (first
            | (go_at_call 79; rw [← HX.out]; refine Calls.mono (HS1.out) ?_; rintro e w1 ⟨g1, v1, rfl, ⟨ao, cp, hve, hl1, hl2, hl3, hat⟩, R1⟩; obtain rfl := hve; have G1 : Hid (x.grownBy w1 (some rb)) := g1; have RR1 : Hid (Rd W0 w1 rb (2 :: t)) := R1; have AT : Hid (IntsAt (hidP (bel x.heap.size) w1) ao ops.length ops) := hat; clear g1 R1 hat)
            | (go_at_call 80; refine Calls.mono (HN.out _ RR1.out) ?_; rintro e w2 ⟨g2, v2, rfl, hv2, R2⟩; obtain rfl := hv2; have G2 : Hid (x.grownBy w2 (some rb)) := gb_trans G1.out g2; have RR2 : Hid (Rd W0 w2 rb t) := R2; have AT2 : Hid (IntsAt (hidP (bel x.heap.size) w2) ao ops.length ops) := Sub.ints (bel_gb g2 hrx) AT.out; obtain ⟨kc, kf, kz⟩ := keep_at G2.out hz (by omega); have d0 := (kc 0).trans (hc 0); have d1 := (kc 1).trans (hc 1); have d2 := (kc 2).trans (hc 2); have f0 := (kf 0).trans (hf 0); have f1 := (kf 1).trans (hf 1); have f2 := (kf 2).trans (hf 2); simp at d0 d1 d2; clear g2 R2 kc kf))
          have hh := keep_heap G2.out HH.out (by omega)
          have s1 := heap_setCell_same w2 w.heap.size 0 _ 50 (.slice ao ops.length cp) hh
          have s2 := heap_setCell_same _ w.heap.size 1 _ 50 (.bool false) s1
          have s3 := heap_setCell_same _ w.heap.size 2 _ 50 (.bool true) s2
          have hg := gb_trans (gb_trans (gb_set w2 w.heap.size 0 (.slice ao ops.length cp)) (gb_set _ w.heap.size 1 (.bool false))) (gb_set _ w.heap.size 2 (.bool true))
          refine bodyPost_ret (results_cell_row (P := Tryd.prog) (p := 2) (ty := 50) rfl _ _ w.heap.size 50 #[.slice ao ops.length cp, .bool false, .bool true] (0, 0) _ rfl (by simpa using s3) Tryd.underlying50 (by kernel_rfl) (by kernel_rfl)) rfl ?_
          refine ⟨gb_own (gb_trans HGX.out G2.out) hg (fun k hk => by cases hk; exact Nat.le_refl _), _, rfl, ⟨ao, ops.length, cp, (by first | rfl | simp [tbv]), hl1, hl2, by omega, ?_⟩, rd_set RR2.out (by have := HRX.out.2.1; omega) (by omega) hg⟩
          exact Sub.ints (hidP_sub hg.size (fun b hb hp => ⟨by simp at hp ⊢; omega, hg.block b hb (fun e => by cases e; simp at hp; omega)⟩)) AT2.out
        · go_enter Tryd.func59, Tryd.ntmps59
          go_wp2_with (first
            | (go_at_call 79; rw [← HX.out]; refine Calls.mono (HS1.out) ?_; rintro e w1 ⟨g1, v1, rfl, ⟨ao, cp, hve, hl1, hl2, hl3, hat⟩, R1⟩; obtain rfl := hve; have G1 : Hid (x.grownBy w1 (some rb)) := g1; have RR1 : Hid (Rd W0 w1 rb (3 :: t)) := R1; have AT : Hid (IntsAt (hidP (bel x.heap.size) w1) ao ops.length ops) := hat; clear g1 R1 hat)
            | (go_at_call 80; refine Calls.mono (HN.out _ RR1.out) ?_; rintro e w2 ⟨g2, v2, rfl, hv2, R2⟩; obtain rfl := hv2; have G2 : Hid (x.grownBy w2 (some rb)) := gb_trans G1.out g2; have RR2 : Hid (Rd W0 w2 rb t) := R2; have AT2 : Hid (IntsAt (hidP (bel x.heap.size) w2) ao ops.length ops) := Sub.ints (bel_gb g2 hrx) AT.out; obtain ⟨kc, kf, kz⟩ := keep_at G2.out hz (by omega); have d0 := (kc 0).trans (hc 0); have d1 := (kc 1).trans (hc 1); have d2 := (kc 2).trans (hc 2); have f0 := (kf 0).trans (hf 0); have f1 := (kf 1).trans (hf 1); have f2 := (kf 2).trans (hf 2); simp at d0 d1 d2; clear g2 R2 kc kf))
          have hh := keep_heap G2.out HH.out (by omega)
          have s1 := heap_setCell_same w2 w.heap.size 0 _ 50 (.slice ao ops.length cp) hh
          have s2 := heap_setCell_same _ w.heap.size 1 _ 50 (.bool true) s1
          have s3 := heap_setCell_same _ w.heap.size 2 _ 50 (.bool true) s2
          have hg := gb_trans (gb_trans (gb_set w2 w.heap.size 0 (.slice ao ops.length cp)) (gb_set _ w.heap.size 1 (.bool true))) (gb_set _ w.heap.size 2 (.bool true))
          refine bodyPost_ret (results_cell_row (P := Tryd.prog) (p := 2) (ty := 50) rfl _ _ w.heap.size 50 #[.slice ao ops.length cp, .bool true, .bool true] (0, 0) _ rfl (by simpa using s3) Tryd.underlying50 (by kernel_rfl) (by kernel_rfl)) rfl ?_
          refine ⟨gb_own (gb_trans HGX.out G2.out) hg (fun k hk => by cases hk; exact Nat.le_refl _), _, rfl, ⟨ao, ops.length, cp, (by first | rfl | simp [tbv]), hl1, hl2, by omega, ?_⟩, rd_set RR2.out (by have := HRX.out.2.1; omega) (by omega) hg⟩
          exact Sub.ints (hidP_sub hg.size (fun b hb hp => ⟨by simp at hp ⊢; omega, hg.block b hb (fun e => by cases e; simp at hp; omega)⟩)) AT2.out

end Go.Proofs.YtndhhmgbekcfoaaDoor
