import Derived.Test.YtndhhmgbekcfoaaDoorQ12
import Derived.Defers
import Derived.Recover
namespace Go.Proofs.YtndhhmgbekcfoaaDoor
open Go.RowKit
set_option linter.unusedVariables false
set_option linter.unusedSimpArgs false

theorem Sub.pros {w w' : World} (k : Sub w w') {ao : Option Addr} {ln : Nat} {l : List Pro} (h : ProsAt w ao ln l) : ProsAt w' ao ln l :=
  k.row h (fun b o x ⟨ca, cl, cc, ⟨a1, a2, a3, a4⟩, h2⟩ => ⟨ca, cl, cc, ⟨k.2 _ _ _ a1, k.2 _ _ _ a2, k.2 _ _ _ a3, k.2 _ _ _ a4⟩, k.prv h2⟩)
theorem Sub.tabs {w w' : World} (k : Sub w w') {ao : Option Addr} {ln : Nat} {l : List Tbl} (h : TbsAt w ao ln l) : TbsAt w' ao ln l :=
  k.row h (fun b o x ⟨oa, ol, oc, ⟨a1, a2, a3⟩, h2⟩ => ⟨oa, ol, oc, ⟨k.2 _ _ _ a1, k.2 _ _ _ a2, k.2 _ _ _ a3⟩, k.tbv h2⟩)
theorem World.alloc_heap_old (w : World) (o : Obj) (i : Nat) (h : i < w.heap.size) : (w.alloc o).heap[i]? = w.heap[i]? := heap_alloc_old w _ h
set_option maxRecDepth 100000 in
set_option maxHeartbeats 4000000 in
theorem rdModule_any (W0 w : World) (rb : Nat) (l : List Nat) (h : Rd W0 w rb l) : Calls Tryd.prog 21 #[.pointer (some ⟨rb, 0, none⟩)] w fun e w' => w.grownBy w' (some rb) ∧ (match dMod l with | some m => ∃ r : Mw, e = .returned r.v ∧ ModAt (hidP (bel w.heap.size) w') r m | none => e = .panicked [{ v := .iface 55 (.agg #[]), recovered := false }]) := by
  have hrb := h.lt
  obtain ⟨x, hx⟩ : ∃ x, x = w.alloc (.cells #[.slice none 0 0, .slice none 0 0, .slice none 0 0, .slice none 0 0] 27) := ⟨_, rfl⟩
  have hbx : BW w x := by rw [hx]; exact BW.alloc (BW.refl _) _
  have HRX : Hid (Rd W0 x rb l) := h.bw hbx
  have HGX : Hid (w.grownBy x (some rb)) := gb_bw hbx
  have hz : w.heap.size < x.heap.size := by rw [hx]; simp
  have hrx : rb < x.heap.size := by omega
  have hc : ∀ j, x.cell? ⟨w.heap.size, j, none⟩ = (#[.slice none 0 0, .slice none 0 0, .slice none 0 0, .slice none 0 0] : Array Value)[j]? := fun j => by rw [hx]; exact cell_new _ _ _ j
  have hf : ∀ j, x.frozen? ⟨w.heap.size, j, none⟩ = false := fun j => by rw [hx]; exact frozen_of_row _ _ j _ _ (heap_alloc_new w _)
  have HH : Hid (x.heap[w.heap.size]? = some (.cells #[.slice none 0 0, .slice none 0 0, .slice none 0 0, .slice none 0 0] 27 (0, 0))) := by rw [hx]; exact heap_alloc_new w _
  have HX : Hid (x = w.alloc (.cells #[.slice none 0 0, .slice none 0 0, .slice none 0 0, .slice none 0 0] 27)) := hx
  have HBg0 : Hid (Calls Tryd.prog 51 #[.pointer (some ⟨rb, 0, none⟩)] x fun e w' => x.grownBy w' (some rb) ∧ (match dHead l with | some r => e = .returned (.tuple #[]) ∧ Rd W0 w' rb r | none => e = .panicked [{ v := .iface 55 (.agg #[]), recovered := false }])) := begin_any W0 x rb l HRX.out
  have HQ0 : Hid (∀ w1 r, Rd W0 w1 rb r → Calls Tryd.prog 52 #[.pointer (some ⟨rb, 0, none⟩), .func (.func 53) #[.pointer (some ⟨rb, 0, none⟩)] #[]] w1 (PQ W0 rb w1 (VL IntsAt w1.heap.size) (dList dSign r))) := fun w1 r k => listInts_any W0 w1 rb r k (fun w2 q k2 => signed_any W0 w2 rb q k2)
  have HQ1 : Hid (∀ w1 r, Rd W0 w1 rb r → Calls Tryd.prog 54 #[.pointer (some ⟨rb, 0, none⟩), .func (.func 55) #[.pointer (some ⟨rb, 0, none⟩)] #[]] w1 (PQ W0 rb w1 (VL StrsAt w1.heap.size) (dList dText r))) := fun w1 r k => listTexts_any W0 w1 rb r k (fun w2 q k2 => text_any W0 w2 rb q k2)
  have HQ2 : Hid (∀ w1 r, Rd W0 w1 rb r → Calls Tryd.prog 56 #[.pointer (some ⟨rb, 0, none⟩), .func (.func 57) #[.pointer (some ⟨rb, 0, none⟩)] #[]] w1 (PQ W0 rb w1 (VL ProsAt w1.heap.size) (dList dPro r))) := fun w1 r k => listPros_any W0 w1 rb r k (fun w2 q k2 => rdProto_any W0 w2 rb q k2)
  have HQ3 : Hid (∀ w1 r, Rd W0 w1 rb r → Calls Tryd.prog 58 #[.pointer (some ⟨rb, 0, none⟩), .func (.func 59) #[.pointer (some ⟨rb, 0, none⟩)] #[]] w1 (PQ W0 rb w1 (VL TbsAt w1.heap.size) (dList dTbl r))) := fun w1 r k => listTabs_any W0 w1 rb r k (fun w2 q k2 => rdTable_any W0 w2 rb q k2)
  clear hx h hbx
  unfold dMod
  cases h0 : dHead l with
  | none =>
    have HBg : Hid (Calls Tryd.prog 51 #[.pointer (some ⟨rb, 0, none⟩)] x fun e w' => x.grownBy w' (some rb) ∧ e = .panicked [{ v := .iface 55 (.agg #[]), recovered := false }]) := by have := HBg0.out; rw [h0] at this; exact this
    clear h0 HBg0 HQ0 HQ1 HQ2 HQ3
    go_enter Tryd.func21, Tryd.ntmps21
    go_wp2_with (first
      | (go_at_call 51; rw [← HX.out]; refine Calls.mono HBg.out ?_; rintro e w1 ⟨g1, hp⟩; obtain rfl := hp; have G1 : Hid (x.grownBy w1 (some rb)) := g1; clear g1))
    exact ⟨rfl, gb_trans HGX.out G1.out, rfl⟩
  | some q0 =>
  simp only [Option.bind_some]
  have HBg : Hid (Calls Tryd.prog 51 #[.pointer (some ⟨rb, 0, none⟩)] x fun e w' => x.grownBy w' (some rb) ∧ e = .returned (.tuple #[]) ∧ Rd W0 w' rb q0) := by have := HBg0.out; rw [h0] at this; exact this
  clear h0 HBg0
  cases h1 : dList dSign q0 with
  | none =>
    have HS0 : Hid (∀ w1, Rd W0 w1 rb q0 → Calls Tryd.prog 52 #[.pointer (some ⟨rb, 0, none⟩), .func (.func 53) #[.pointer (some ⟨rb, 0, none⟩)] #[]] w1 (PQ W0 rb w1 (VL IntsAt w1.heap.size) none)) := fun w1 k => by rw [← h1]; exact HQ0.out w1 q0 k
    clear h1 HQ0 HQ1 HQ2 HQ3
    go_enter Tryd.func21, Tryd.ntmps21
    go_wp2_with (first
      | (go_at_call 51; rw [← HX.out]; refine Calls.mono HBg.out ?_; rintro e w1 ⟨g1, rfl, R1⟩; have G1 : Hid (x.grownBy w1 (some rb)) := g1; have RR1 : Hid (Rd W0 w1 rb q0) := R1; clear g1 R1)
      | (go_at_call 52; refine Calls.mono (HS0.out _ RR1.out) ?_; rintro e w2 ⟨g2, hp⟩; obtain rfl := hp; have G2 : Hid (x.grownBy w2 (some rb)) := gb_trans G1.out g2; clear g2))
    exact ⟨rfl, gb_trans HGX.out G2.out, rfl⟩
  | some a =>
  obtain ⟨is, q1⟩ := a
  simp only [Option.bind_some]
  have HS0 : Hid (∀ w1, Rd W0 w1 rb q0 → Calls Tryd.prog 52 #[.pointer (some ⟨rb, 0, none⟩), .func (.func 53) #[.pointer (some ⟨rb, 0, none⟩)] #[]] w1 (PQ W0 rb w1 (VL IntsAt w1.heap.size) (some (is, q1)))) := fun w1 k => by rw [← h1]; exact HQ0.out w1 q0 k
  clear h1 HQ0
  cases h2 : dList dText q1 with
  | none =>
    have HS1 : Hid (∀ w1, Rd W0 w1 rb q1 → Calls Tryd.prog 54 #[.pointer (some ⟨rb, 0, none⟩), .func (.func 55) #[.pointer (some ⟨rb, 0, none⟩)] #[]] w1 (PQ W0 rb w1 (VL StrsAt w1.heap.size) none)) := fun w1 k => by rw [← h2]; exact HQ1.out w1 q1 k
    clear h2 HQ1 HQ2 HQ3
    go_enter Tryd.func21, Tryd.ntmps21
    go_wp2_with (first
      | (go_at_call 51; rw [← HX.out]; refine Calls.mono HBg.out ?_; rintro e w1 ⟨g1, rfl, R1⟩; have G1 : Hid (x.grownBy w1 (some rb)) := g1; have RR1 : Hid (Rd W0 w1 rb q0) := R1; clear g1 R1)
      | (go_at_call 52; refine Calls.mono (HS0.out _ RR1.out) ?_; rintro e w2 ⟨g2, v2, rfl, ⟨ao0, cp0, hve, hl0, hm0, hn0, hat⟩, R2⟩; obtain rfl := hve; have G2 : Hid (x.grownBy w2 (some rb)) := gb_trans G1.out g2; have RR2 : Hid (Rd W0 w2 rb q1) := R2; have AT0 : Hid (IntsAt (hidP (bel w1.heap.size) w2) ao0 is.length is) := hat; have gg2 : Hid (w1.grownBy w2 (some rb)) := g2; clear g2 R2 hat)
      | (go_at_call 54; refine Calls.mono (HS1.out _ RR2.out) ?_; rintro e w3 ⟨g3, hp⟩; obtain rfl := hp; have G3 : Hid (x.grownBy w3 (some rb)) := gb_trans G2.out g3; clear g3))
    exact ⟨rfl, gb_trans HGX.out G3.out, rfl⟩
  | some a =>
  obtain ⟨ts, q2⟩ := a
  simp only [Option.bind_some]
  have HS1 : Hid (∀ w1, Rd W0 w1 rb q1 → Calls Tryd.prog 54 #[.pointer (some ⟨rb, 0, none⟩), .func (.func 55) #[.pointer (some ⟨rb, 0, none⟩)] #[]] w1 (PQ W0 rb w1 (VL StrsAt w1.heap.size) (some (ts, q2)))) := fun w1 k => by rw [← h2]; exact HQ1.out w1 q1 k
  clear h2 HQ1
  cases h3 : dList dPro q2 with
  | none =>
    have HS2 : Hid (∀ w1, Rd W0 w1 rb q2 → Calls Tryd.prog 56 #[.pointer (some ⟨rb, 0, none⟩), .func (.func 57) #[.pointer (some ⟨rb, 0, none⟩)] #[]] w1 (PQ W0 rb w1 (VL ProsAt w1.heap.size) none)) := fun w1 k => by rw [← h3]; exact HQ2.out w1 q2 k
    clear h3 HQ2 HQ3
    go_enter Tryd.func21, Tryd.ntmps21
    go_wp2_with (first
      | (go_at_call 51; rw [← HX.out]; refine Calls.mono HBg.out ?_; rintro e w1 ⟨g1, rfl, R1⟩; have G1 : Hid (x.grownBy w1 (some rb)) := g1; have RR1 : Hid (Rd W0 w1 rb q0) := R1; clear g1 R1)
      | (go_at_call 52; refine Calls.mono (HS0.out _ RR1.out) ?_; rintro e w2 ⟨g2, v2, rfl, ⟨ao0, cp0, hve, hl0, hm0, hn0, hat⟩, R2⟩; obtain rfl := hve; have G2 : Hid (x.grownBy w2 (some rb)) := gb_trans G1.out g2; have RR2 : Hid (Rd W0 w2 rb q1) := R2; have AT0 : Hid (IntsAt (hidP (bel w1.heap.size) w2) ao0 is.length is) := hat; have gg2 : Hid (w1.grownBy w2 (some rb)) := g2; clear g2 R2 hat)
      | (go_at_call 54; refine Calls.mono (HS1.out _ RR2.out) ?_; rintro e w3 ⟨g3, v3, rfl, ⟨ao1, cp1, hve, hl1, hm1, hn1, hat⟩, R3⟩; obtain rfl := hve; have G3 : Hid (x.grownBy w3 (some rb)) := gb_trans G2.out g3; have RR3 : Hid (Rd W0 w3 rb q2) := R3; have AT1 : Hid (StrsAt (hidP (bel w2.heap.size) w3) ao1 ts.length ts) := hat; have gg3 : Hid (w2.grownBy w3 (some rb)) := g3; clear g3 R3 hat)
      | (go_at_call 56; refine Calls.mono (HS2.out _ RR3.out) ?_; rintro e w4 ⟨g4, hp⟩; obtain rfl := hp; have G4 : Hid (x.grownBy w4 (some rb)) := gb_trans G3.out g4; clear g4))
    exact ⟨rfl, gb_trans HGX.out G4.out, rfl⟩
  | some a =>
  obtain ⟨ps, q3⟩ := a
  simp only [Option.bind_some]
  have HS2 : Hid (∀ w1, Rd W0 w1 rb q2 → Calls Tryd.prog 56 #[.pointer (some ⟨rb, 0, none⟩), .func (.func 57) #[.pointer (some ⟨rb, 0, none⟩)] #[]] w1 (PQ W0 rb w1 (VL ProsAt w1.heap.size) (some (ps, q3)))) := fun w1 k => by rw [← h3]; exact HQ2.out w1 q2 k
  clear h3 HQ2
  cases h4 : dList dTbl q3 with
  | none =>
    have HS3 : Hid (∀ w1, Rd W0 w1 rb q3 → Calls Tryd.prog 58 #[.pointer (some ⟨rb, 0, none⟩), .func (.func 59) #[.pointer (some ⟨rb, 0, none⟩)] #[]] w1 (PQ W0 rb w1 (VL TbsAt w1.heap.size) none)) := fun w1 k => by rw [← h4]; exact HQ3.out w1 q3 k
    clear h4 HQ3
    go_enter Tryd.func21, Tryd.ntmps21
    go_wp2_with (first
      | (go_at_call 51; rw [← HX.out]; refine Calls.mono HBg.out ?_; rintro e w1 ⟨g1, rfl, R1⟩; have G1 : Hid (x.grownBy w1 (some rb)) := g1; have RR1 : Hid (Rd W0 w1 rb q0) := R1; clear g1 R1)
      | (go_at_call 52; refine Calls.mono (HS0.out _ RR1.out) ?_; rintro e w2 ⟨g2, v2, rfl, ⟨ao0, cp0, hve, hl0, hm0, hn0, hat⟩, R2⟩; obtain rfl := hve; have G2 : Hid (x.grownBy w2 (some rb)) := gb_trans G1.out g2; have RR2 : Hid (Rd W0 w2 rb q1) := R2; have AT0 : Hid (IntsAt (hidP (bel w1.heap.size) w2) ao0 is.length is) := hat; have gg2 : Hid (w1.grownBy w2 (some rb)) := g2; clear g2 R2 hat)
      | (go_at_call 54; refine Calls.mono (HS1.out _ RR2.out) ?_; rintro e w3 ⟨g3, v3, rfl, ⟨ao1, cp1, hve, hl1, hm1, hn1, hat⟩, R3⟩; obtain rfl := hve; have G3 : Hid (x.grownBy w3 (some rb)) := gb_trans G2.out g3; have RR3 : Hid (Rd W0 w3 rb q2) := R3; have AT1 : Hid (StrsAt (hidP (bel w2.heap.size) w3) ao1 ts.length ts) := hat; have gg3 : Hid (w2.grownBy w3 (some rb)) := g3; clear g3 R3 hat)
      | (go_at_call 56; refine Calls.mono (HS2.out _ RR3.out) ?_; rintro e w4 ⟨g4, v4, rfl, ⟨ao2, cp2, hve, hl2, hm2, hn2, hat⟩, R4⟩; obtain rfl := hve; have G4 : Hid (x.grownBy w4 (some rb)) := gb_trans G3.out g4; have RR4 : Hid (Rd W0 w4 rb q3) := R4; have AT2 : Hid (ProsAt (hidP (bel w3.heap.size) w4) ao2 ps.length ps) := hat; have gg4 : Hid (w3.grownBy w4 (some rb)) := g4; clear g4 R4 hat)
      | (go_at_call 58; refine Calls.mono (HS3.out _ RR4.out) ?_; rintro e w5 ⟨g5, hp⟩; obtain rfl := hp; have G5 : Hid (x.grownBy w5 (some rb)) := gb_trans G4.out g5; clear g5))
    exact ⟨rfl, gb_trans HGX.out G5.out, rfl⟩
  | some a =>
  obtain ⟨hs, q4⟩ := a
  simp only [Option.bind_some]
  have HS3 : Hid (∀ w1, Rd W0 w1 rb q3 → Calls Tryd.prog 58 #[.pointer (some ⟨rb, 0, none⟩), .func (.func 59) #[.pointer (some ⟨rb, 0, none⟩)] #[]] w1 (PQ W0 rb w1 (VL TbsAt w1.heap.size) (some (hs, q4)))) := fun w1 k => by rw [← h4]; exact HQ3.out w1 q3 k
  clear h4 HQ3
  by_cases hq : q4 = []
  · simp only [if_pos hq]
    have hq0 : q4.length = 0 := by rw [hq]; rfl
    go_enter Tryd.func21, Tryd.ntmps21
    go_wp2_with (first
      | (go_at_call 51; rw [← HX.out]; refine Calls.mono HBg.out ?_; rintro e w1 ⟨g1, rfl, R1⟩; have G1 : Hid (x.grownBy w1 (some rb)) := g1; have RR1 : Hid (Rd W0 w1 rb q0) := R1; clear g1 R1)
      | (go_at_call 52; refine Calls.mono (HS0.out _ RR1.out) ?_; rintro e w2 ⟨g2, v2, rfl, ⟨ao0, cp0, hve, hl0, hm0, hn0, hat⟩, R2⟩; obtain rfl := hve; have G2 : Hid (x.grownBy w2 (some rb)) := gb_trans G1.out g2; have RR2 : Hid (Rd W0 w2 rb q1) := R2; have AT0 : Hid (IntsAt (hidP (bel w1.heap.size) w2) ao0 is.length is) := hat; have gg2 : Hid (w1.grownBy w2 (some rb)) := g2; clear g2 R2 hat)
      | (go_at_call 54; refine Calls.mono (HS1.out _ RR2.out) ?_; rintro e w3 ⟨g3, v3, rfl, ⟨ao1, cp1, hve, hl1, hm1, hn1, hat⟩, R3⟩; obtain rfl := hve; have G3 : Hid (x.grownBy w3 (some rb)) := gb_trans G2.out g3; have RR3 : Hid (Rd W0 w3 rb q2) := R3; have AT1 : Hid (StrsAt (hidP (bel w2.heap.size) w3) ao1 ts.length ts) := hat; have gg3 : Hid (w2.grownBy w3 (some rb)) := g3; clear g3 R3 hat)
      | (go_at_call 56; refine Calls.mono (HS2.out _ RR3.out) ?_; rintro e w4 ⟨g4, v4, rfl, ⟨ao2, cp2, hve, hl2, hm2, hn2, hat⟩, R4⟩; obtain rfl := hve; have G4 : Hid (x.grownBy w4 (some rb)) := gb_trans G3.out g4; have RR4 : Hid (Rd W0 w4 rb q3) := R4; have AT2 : Hid (ProsAt (hidP (bel w3.heap.size) w4) ao2 ps.length ps) := hat; have gg4 : Hid (w3.grownBy w4 (some rb)) := g4; clear g4 R4 hat)
      | (go_at_call 58; refine Calls.mono (HS3.out _ RR4.out) ?_; rintro e w5 ⟨g5, v5, rfl, ⟨ao3, cp3, hve, hl3, hm3, hn3, hat⟩, R5⟩; obtain rfl := hve; have G5 : Hid (x.grownBy w5 (some rb)) := gb_trans G4.out g5; have RR5 : Hid (Rd W0 w5 rb q4) := R5; have AT3 : Hid (TbsAt (hidP (bel w4.heap.size) w5) ao3 hs.length hs) := hat; have gg5 : Hid (w4.grownBy w5 (some rb)) := g5; clear g5 R5 hat; have RL := RR5.out; obtain ⟨_, _, _, _, aor, cr, p5, _⟩ := RL; have dr : w5.cell? ⟨rb, 0, none⟩ = some (.slice aor q4.length cr) := (by rw [Lib.cell_of_heap p5]; rfl); have dzr := RR5.out.lt; obtain ⟨kc, kf, kz⟩ := keep_at G5.out hz (by omega); have d0 := (kc 0).trans (hc 0); have d1 := (kc 1).trans (hc 1); have d2 := (kc 2).trans (hc 2); have d3 := (kc 3).trans (hc 3); have f0 := (kf 0).trans (hf 0); have f1 := (kf 1).trans (hf 1); have f2 := (kf 2).trans (hf 2); have f3 := (kf 3).trans (hf 3); simp at d0 d1 d2 d3; clear p5 kc kf))
    have hh := keep_heap G5.out HH.out (by omega)
    have s1 := heap_setCell_same w5 w.heap.size 0 _ 27 (.slice ao0 is.length cp0) hh
    have s2 := heap_setCell_same _ w.heap.size 1 _ 27 (.slice ao1 ts.length cp1) s1
    have s3 := heap_setCell_same _ w.heap.size 2 _ 27 (.slice ao2 ps.length cp2) s2
    have s4 := heap_setCell_same _ w.heap.size 3 _ 27 (.slice ao3 hs.length cp3) s3
    have hgs := gb_trans (gb_trans (gb_trans (gb_set w5 w.heap.size 0 (.slice ao0 is.length cp0)) (gb_set _ w.heap.size 1 (.slice ao1 ts.length cp1))) (gb_set _ w.heap.size 2 (.slice ao2 ps.length cp2))) (gb_set _ w.heap.size 3 (.slice ao3 hs.length cp3))
    have hg := gb_trans hgs (gb_bw (r := some w.heap.size) (BW.alloc (BW.refl _) (.cells #[.slice ao0 is.length cp0, .slice ao1 ts.length cp1, .slice ao2 ps.length cp2, .slice ao3 hs.length cp3] 27)))
    have hsz : ∀ w', x.grownBy w' (some rb) → w.heap.size < w'.heap.size := fun w' g => by have := g.size; omega
    have k1 := hsz w1 G1.out
    have k2 := hsz w2 G2.out
    have k3 := hsz w3 G3.out
    have k4 := hsz w4 G4.out
    refine bodyPost_ret (results_cell_row (P := Tryd.prog) (p := 2) (ty := 27) rfl _ _ w.heap.size 27 #[.slice ao0 is.length cp0, .slice ao1 ts.length cp1, .slice ao2 ps.length cp2, .slice ao3 hs.length cp3] (0, 0) _ rfl (by rw [World.alloc_heap_old _ _ _ (by simp; omega)]; simpa using s4) Tryd.underlying27 (by kernel_rfl) (by kernel_rfl)) rfl ?_
    refine ⟨gb_own (gb_trans HGX.out G5.out) hg (fun k hk => by cases hk; exact Nat.le_refl _), ⟨ao0, is.length, cp0, ao1, ts.length, cp1, ao2, ps.length, cp2, ao3, hs.length, cp3⟩, rfl, ?_⟩
    have hfin := fun (B2 : Nat) (h : w.heap.size < B2) => hidP_sub (p := bel B2) (q := bel w.heap.size) hg.size (fun b hb hp => ⟨by simp at hp ⊢; omega, hg.block b hb (fun e => by cases e; simp at hp; omega)⟩)
    have e0 := Sub.ints (hfin _ k1) (Sub.ints (bel_gb (gb_trans gg3.out (gb_trans gg4.out gg5.out)) (by omega)) AT0.out)
    have e1 := Sub.strs (hfin _ k2) (Sub.strs (bel_gb (gb_trans gg4.out gg5.out) (by omega)) AT1.out)
    have e2 := Sub.pros (hfin _ k3) (Sub.pros (bel_gb gg5.out (by omega)) AT2.out)
    have e3 := Sub.tabs (hfin _ k4) AT3.out
    exact ⟨e0, e1, e2, e3, hl0, hm0, hl1, hm1, hl2, hm2, hl3, hm3⟩
  · simp only [if_neg hq]
    have hq0 : 0 < q4.length := List.length_pos_iff.2 hq
    go_enter Tryd.func21, Tryd.ntmps21
    go_wp2_with (first
      | (go_at_call 51; rw [← HX.out]; refine Calls.mono HBg.out ?_; rintro e w1 ⟨g1, rfl, R1⟩; have G1 : Hid (x.grownBy w1 (some rb)) := g1; have RR1 : Hid (Rd W0 w1 rb q0) := R1; clear g1 R1)
      | (go_at_call 52; refine Calls.mono (HS0.out _ RR1.out) ?_; rintro e w2 ⟨g2, v2, rfl, ⟨ao0, cp0, hve, hl0, hm0, hn0, hat⟩, R2⟩; obtain rfl := hve; have G2 : Hid (x.grownBy w2 (some rb)) := gb_trans G1.out g2; have RR2 : Hid (Rd W0 w2 rb q1) := R2; have AT0 : Hid (IntsAt (hidP (bel w1.heap.size) w2) ao0 is.length is) := hat; have gg2 : Hid (w1.grownBy w2 (some rb)) := g2; clear g2 R2 hat)
      | (go_at_call 54; refine Calls.mono (HS1.out _ RR2.out) ?_; rintro e w3 ⟨g3, v3, rfl, ⟨ao1, cp1, hve, hl1, hm1, hn1, hat⟩, R3⟩; obtain rfl := hve; have G3 : Hid (x.grownBy w3 (some rb)) := gb_trans G2.out g3; have RR3 : Hid (Rd W0 w3 rb q2) := R3; have AT1 : Hid (StrsAt (hidP (bel w2.heap.size) w3) ao1 ts.length ts) := hat; have gg3 : Hid (w2.grownBy w3 (some rb)) := g3; clear g3 R3 hat)
      | (go_at_call 56; refine Calls.mono (HS2.out _ RR3.out) ?_; rintro e w4 ⟨g4, v4, rfl, ⟨ao2, cp2, hve, hl2, hm2, hn2, hat⟩, R4⟩; obtain rfl := hve; have G4 : Hid (x.grownBy w4 (some rb)) := gb_trans G3.out g4; have RR4 : Hid (Rd W0 w4 rb q3) := R4; have AT2 : Hid (ProsAt (hidP (bel w3.heap.size) w4) ao2 ps.length ps) := hat; have gg4 : Hid (w3.grownBy w4 (some rb)) := g4; clear g4 R4 hat)
      | (go_at_call 58; refine Calls.mono (HS3.out _ RR4.out) ?_; rintro e w5 ⟨g5, v5, rfl, ⟨ao3, cp3, hve, hl3, hm3, hn3, hat⟩, R5⟩; obtain rfl := hve; have G5 : Hid (x.grownBy w5 (some rb)) := gb_trans G4.out g5; have RR5 : Hid (Rd W0 w5 rb q4) := R5; have AT3 : Hid (TbsAt (hidP (bel w4.heap.size) w5) ao3 hs.length hs) := hat; have gg5 : Hid (w4.grownBy w5 (some rb)) := g5; clear g5 R5 hat; have RL := RR5.out; obtain ⟨_, _, _, _, aor, cr, p5, _⟩ := RL; have dr : w5.cell? ⟨rb, 0, none⟩ = some (.slice aor q4.length cr) := (by rw [Lib.cell_of_heap p5]; rfl); have dzr := RR5.out.lt; obtain ⟨kc, kf, kz⟩ := keep_at G5.out hz (by omega); have d0 := (kc 0).trans (hc 0); have d1 := (kc 1).trans (hc 1); have d2 := (kc 2).trans (hc 2); have d3 := (kc 3).trans (hc 3); have f0 := (kf 0).trans (hf 0); have f1 := (kf 1).trans (hf 1); have f2 := (kf 2).trans (hf 2); have f3 := (kf 3).trans (hf 3); simp at d0 d1 d2 d3; clear p5 kc kf))
    exact ⟨rfl, gb_trans HGX.out (gb_trans G5.out (gb_bw (BW.alloc (BW.refl _) _))), rfl⟩

theorem sco {w : World} {g o j : Nat} (u : Value) (h : ¬ j = g) : (w.setCell ⟨g, o, none⟩ u).heap[j]? = w.heap[j]? := heap_setCell_other w ⟨g, o, none⟩ j u (by show ¬ j = g; exact h)
/-- The four cells of a module's variable, and an error's. -/
theorem set27 {w : World} {a2 a3 : Nat} (h23 : a2 < a3) {v0 v1 v2 v3 y : Value} (B2 : w.heap[a2]? = some (.cells #[v0, v1, v2, v3] 27 (0, 0))) (B3 : w.heap[a3]? = some (.cells #[y] 31 (0, 0))) (u0 u1 u2 u3 x : Value) :
    (((((w.setCell ⟨a2, 0, none⟩ u0).setCell ⟨a2, 1, none⟩ u1).setCell ⟨a2, 2, none⟩ u2).setCell ⟨a2, 3, none⟩ u3).setCell ⟨a3, 0, none⟩ x).heap[a2]? = some (.cells #[u0, u1, u2, u3] 27 (0, 0)) ∧ (((((w.setCell ⟨a2, 0, none⟩ u0).setCell ⟨a2, 1, none⟩ u1).setCell ⟨a2, 2, none⟩ u2).setCell ⟨a2, 3, none⟩ u3).setCell ⟨a3, 0, none⟩ x).heap[a3]? = some (.cells #[x] 31 (0, 0)) ∧ Below a2 w (((((w.setCell ⟨a2, 0, none⟩ u0).setCell ⟨a2, 1, none⟩ u1).setCell ⟨a2, 2, none⟩ u2).setCell ⟨a2, 3, none⟩ u3).setCell ⟨a3, 0, none⟩ x) ∧ (∀ b, ¬ b = a2 → ¬ b = a3 → (((((w.setCell ⟨a2, 0, none⟩ u0).setCell ⟨a2, 1, none⟩ u1).setCell ⟨a2, 2, none⟩ u2).setCell ⟨a2, 3, none⟩ u3).setCell ⟨a3, 0, none⟩ x).heap[b]? = w.heap[b]?) := by
  have s1 := heap_setCell_same w a2 0 _ 27 u0 B2
  have s2 := heap_setCell_same _ a2 1 _ 27 u1 s1
  have s3 := heap_setCell_same _ a2 2 _ 27 u2 s2
  have s4 := heap_setCell_same _ a2 3 _ 27 u3 s3
  have o4 : ∀ b, ¬ b = a2 → ((((w.setCell ⟨a2, 0, none⟩ u0).setCell ⟨a2, 1, none⟩ u1).setCell ⟨a2, 2, none⟩ u2).setCell ⟨a2, 3, none⟩ u3).heap[b]? = w.heap[b]? := fun b hb => (sco _ hb).trans ((sco _ hb).trans ((sco _ hb).trans (sco _ hb)))
  have b4 : Below a2 w ((((w.setCell ⟨a2, 0, none⟩ u0).setCell ⟨a2, 1, none⟩ u1).setCell ⟨a2, 2, none⟩ u2).setCell ⟨a2, 3, none⟩ u3) := Below.setCell (p := ⟨a2, 3, none⟩) (Below.setCell (p := ⟨a2, 2, none⟩) (Below.setCell (p := ⟨a2, 1, none⟩) (Below.setCell (p := ⟨a2, 0, none⟩) (Below.refl a2 w) (Nat.le_refl _) _) (Nat.le_refl _) _) (Nat.le_refl _) _) (Nat.le_refl _) _
  simp at s4
  generalize ((((w.setCell ⟨a2, 0, none⟩ u0).setCell ⟨a2, 1, none⟩ u1).setCell ⟨a2, 2, none⟩ u2).setCell ⟨a2, 3, none⟩ u3) = W at s4 o4 b4 ⊢
  have t3 := heap_setCell_same W a3 0 _ 31 x ((o4 a3 (by omega)).trans B3)
  refine ⟨(sco _ (by omega)).trans s4, by simpa using t3, Below.setCell (p := ⟨a3, 0, none⟩) b4 (Nat.le_of_lt h23) _, fun b h2 h3 => (sco _ h3).trans (o4 b h2)⟩
set_option maxRecDepth 100000 in
theorem catch_idle (a2 a3 : Nat) (w : World) : CallsD Tryd.prog 20 #[.pointer (some ⟨a2, 0, none⟩), .pointer (some ⟨a3, 0, none⟩)] .returning w fun e u' w' => e = .returned (.tuple #[]) ∧ u' = .returning ∧ BW w w' := by
  have k1 : ∀ w : World, (Instr.typeAssert .nilIface 20 55 true).run Tryd.prog w = .ok (.tuple #[.agg #[], .bool false]) w := fun _ => by kernel_rfl
  refine callsD_of_wpS Tryd.func20 rfl fun c₀ cs hu => ?_
  apply wpS_seq
  apply wpS_region
  simp [wpOpsS, go_sem, recoverD, hu, Tryd.ntmps20, Exit.thenS, bodyPostS, results, Tryd.results20]
  have et : #[Value.pointer (some ⟨a2, 0, none⟩), Value.pointer (some ⟨a3, 0, none⟩)] ++ (Array.replicate 9 undef).setIfInBounds 3 (.nilIface) = #[.pointer (some ⟨a2, 0, none⟩), .pointer (some ⟨a3, 0, none⟩), undef, undef, undef, .nilIface, undef, undef, undef, undef, undef] := rfl
  rw [et]
  clear et
  refine wpS_of_wp ?_
  go_wp2_with fail
  simp [bodyPostS, results, Tryd.results20]
  cases c₀
  simp only at hu
  subst hu
  exact ⟨_, rfl, rfl, BW.alloc (BW.refl _) _⟩
set_option maxRecDepth 100000 in
set_option maxHeartbeats 1000000 in
theorem catch_miss (a2 a3 : Nat) (v0 v1 v2 v3 y : Value) (w : World) (h23 : a2 < a3) (B2 : w.heap[a2]? = some (.cells #[v0, v1, v2, v3] 27 (0, 0))) (B3 : w.heap[a3]? = some (.cells #[y] 31 (0, 0))) :
    CallsD Tryd.prog 20 #[.pointer (some ⟨a2, 0, none⟩), .pointer (some ⟨a3, 0, none⟩)] (.panicking [{ v := .iface 55 (.agg #[]), recovered := false }]) w fun e u' w' => e = .returned (.tuple #[]) ∧ u' = .panicking [{ v := .iface 55 (.agg #[]), recovered := true }] ∧ w'.heap[a2]? = some (.cells #[.slice none 0 0, .slice none 0 0, .slice none 0 0, .slice none 0 0] 27 (0, 0)) ∧ w'.heap[a3]? = some (.cells #[.int .i64 18] 31 (0, 0)) ∧ Below a2 w w' := by
  have k1 : ∀ w : World, (Instr.typeAssert (.iface 55 (.agg #[])) 20 55 true).run Tryd.prog w = .ok (.tuple #[.agg #[], .bool true]) w := fun _ => by kernel_rfl
  have c0 : w.cell? ⟨a2, 0, none⟩ = some v0 := by rw [Lib.cell_of_heap B2]; rfl
  have c1 : w.cell? ⟨a2, 1, none⟩ = some v1 := by rw [Lib.cell_of_heap B2]; rfl
  have c2 : w.cell? ⟨a2, 2, none⟩ = some v2 := by rw [Lib.cell_of_heap B2]; rfl
  have c3 : w.cell? ⟨a2, 3, none⟩ = some v3 := by rw [Lib.cell_of_heap B2]; rfl
  have d0 : w.cell? ⟨a3, 0, none⟩ = some y := by rw [Lib.cell_of_heap B3]; rfl
  have z2 := Lib.frozen_of_heap B2
  have z3 := Lib.frozen_of_heap B3
  have l2 : a2 < w.heap.size := (Array.getElem?_eq_some_iff.1 B2).1
  have l3 : a3 < w.heap.size := (Array.getElem?_eq_some_iff.1 B3).1
  have n2 : ¬ a2 = w.heap.size := by omega
  have n3 : ¬ a3 = w.heap.size := by omega
  have m1 : ¬ a2 = a3 := by omega
  have m4 : ¬ a3 = a2 := by omega
  have HB2 : Hid _ := B2
  have HB3 : Hid _ := B3
  clear B2 B3
  refine callsD_of_wpS Tryd.func20 rfl fun c₀ cs hu => ?_
  apply wpS_seq
  apply wpS_region
  simp [wpOpsS, go_sem, recoverD, hu, Tryd.ntmps20, Exit.thenS, bodyPostS, results, Tryd.results20]
  have et : #[Value.pointer (some ⟨a2, 0, none⟩), Value.pointer (some ⟨a3, 0, none⟩)] ++ (Array.replicate 9 undef).setIfInBounds 3 (.iface 55 (.agg #[])) = #[.pointer (some ⟨a2, 0, none⟩), .pointer (some ⟨a3, 0, none⟩), undef, undef, undef, .iface 55 (.agg #[]), undef, undef, undef, undef, undef] := rfl
  rw [et]
  clear et
  refine wpS_of_wp ?_
  go_wp2_with fail
  simp [bodyPostS, results, Tryd.results20]
  obtain ⟨q1, q2, q3, q4⟩ := set27 h23 HB2.out HB3.out (.slice none 0 0) (.slice none 0 0) (.slice none 0 0) (.slice none 0 0) (.int .i64 18)
  generalize hS : (((((w.setCell ⟨a2, 0, none⟩ (.slice none 0 0)).setCell ⟨a2, 1, none⟩ (.slice none 0 0)).setCell ⟨a2, 2, none⟩ (.slice none 0 0)).setCell ⟨a2, 3, none⟩ (.slice none 0 0)).setCell ⟨a3, 0, none⟩ (.int .i64 18)) = S at q1 q2 q3 ⊢
  have hsz : S.heap.size = w.heap.size := by rw [← hS]; simp
  have qb := BW.alloc (BW.refl S) (.cells #[] 55)
  exact ⟨(qb.block a2 (by omega)).trans q1, (qb.block a3 (by omega)).trans q2, q3.trans (Below.mono qb (by omega))⟩
set_option maxRecDepth 100000 in
theorem doorI (tm : Array Value) (w : World) (R : Ending → World → Prop) (a2 a3 : Nat) (v0 v1 v2 v3 x : Value) (h2 : tm.getD 2 undef = .pointer (some ⟨a2, 0, none⟩)) (h3 : tm.getD 3 undef = .pointer (some ⟨a3, 0, none⟩))
    (B2 : w.heap[a2]? = some (.cells #[v0, v1, v2, v3] 27 (0, 0))) (B3 : w.heap[a3]? = some (.cells #[x] 31 (0, 0))) (h : ∀ w', BW w w' → R (.returned (.tuple #[.agg #[v0, v1, v2, v3], x])) w') :
    bodyPostD Tryd.prog Tryd.f12 R .ret { tmps := tm, defers := [{ target := .fn (.func 20) #[.pointer (some ⟨a2, 0, none⟩), .pointer (some ⟨a3, 0, none⟩)], args := #[] }] } w := by
  refine leaves_cons (f := 20) (args := #[.pointer (some ⟨a2, 0, none⟩), .pointer (some ⟨a3, 0, none⟩)]) (by simp) (by simp [go_sem]) ?_
  refine (catch_idle a2 a3 _).mono ?_
  rintro e u' w'' ⟨rfl, rfl, hb⟩
  refine ⟨_, ?_, h w'' hb⟩
  have l2 : a2 < w.heap.size := (Array.getElem?_eq_some_iff.1 B2).1
  have l3 : a3 < w.heap.size := (Array.getElem?_eq_some_iff.1 B3).1
  have C2 := (hb.block a2 l2).trans B2
  have C3 := (hb.block a3 l3).trans B3
  have c0 : w''.cell? ⟨a2, 0, none⟩ = some v0 := by rw [Lib.cell_of_heap C2]; rfl
  have c1 : w''.cell? ⟨a2, 1, none⟩ = some v1 := by rw [Lib.cell_of_heap C2]; rfl
  have c2 : w''.cell? ⟨a2, 2, none⟩ = some v2 := by rw [Lib.cell_of_heap C2]; rfl
  have c3 : w''.cell? ⟨a2, 3, none⟩ = some v3 := by rw [Lib.cell_of_heap C2]; rfl
  have d0 : w''.cell? ⟨a3, 0, none⟩ = some x := by rw [Lib.cell_of_heap C3]; rfl
  simp only [Array.getD_eq_getD_getElem?] at h2 h3
  simp [results, Tryd.results12, go_sem, h2, h3, c0, c1, c2, c3, d0]
set_option maxRecDepth 100000 in
theorem doorE (tm : Array Value) (w : World) (R : Ending → World → Prop) (a2 a3 : Nat) (v0 v1 v2 v3 x : Value) (h2 : tm.getD 2 undef = .pointer (some ⟨a2, 0, none⟩)) (h3 : tm.getD 3 undef = .pointer (some ⟨a3, 0, none⟩))
    (h23 : a2 < a3) (B2 : w.heap[a2]? = some (.cells #[v0, v1, v2, v3] 27 (0, 0))) (B3 : w.heap[a3]? = some (.cells #[x] 31 (0, 0)))
    (h : ∀ w', Below a2 w w' → R (.returned (.tuple #[.agg #[.slice none 0 0, .slice none 0 0, .slice none 0 0, .slice none 0 0], .int .i64 18])) w') :
    bodyPostD Tryd.prog Tryd.f12 R (.panic [{ v := .iface 55 (.agg #[]), recovered := false }]) { tmps := tm, defers := [{ target := .fn (.func 20) #[.pointer (some ⟨a2, 0, none⟩), .pointer (some ⟨a3, 0, none⟩)], args := #[] }] } w := by
  simp only [Array.getD_eq_getD_getElem?] at h2 h3
  refine leaves_cons (f := 20) (args := #[.pointer (some ⟨a2, 0, none⟩), .pointer (some ⟨a3, 0, none⟩)]) (by simp) (by simp [go_sem]) ?_
  refine (catch_miss a2 a3 v0 v1 v2 v3 x w h23 B2 B3).mono ?_
  rintro e u' w'' ⟨rfl, rfl, C2, C3, hb⟩
  have hh := h w'' hb
  have c0 : w''.cell? ⟨a2, 0, none⟩ = some (.slice none 0 0) := by rw [Lib.cell_of_heap C2]; rfl
  have c1 : w''.cell? ⟨a2, 1, none⟩ = some (.slice none 0 0) := by rw [Lib.cell_of_heap C2]; rfl
  have c2 : w''.cell? ⟨a2, 2, none⟩ = some (.slice none 0 0) := by rw [Lib.cell_of_heap C2]; rfl
  have c3 : w''.cell? ⟨a2, 3, none⟩ = some (.slice none 0 0) := by rw [Lib.cell_of_heap C2]; rfl
  have d0 : w''.cell? ⟨a3, 0, none⟩ = some (.int .i64 18) := by rw [Lib.cell_of_heap C3]; rfl
  simp [Leaves, settle, results, Tryd.results12, go_sem, h2, h3, c0, c1, c2, c3, d0]
  exact hh

end Go.Proofs.YtndhhmgbekcfoaaDoor
