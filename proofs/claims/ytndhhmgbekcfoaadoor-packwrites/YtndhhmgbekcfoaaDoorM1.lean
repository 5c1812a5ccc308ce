import Derived.Test.YtndhhmgbekcfoaaDoorE4
namespace Go.Proofs.YtndhhmgbekcfoaaDoor
open Go.RowKit
set_option linter.unusedVariables false
set_option linter.unusedSimpArgs false

/-- How many things of its function A may be a place of. -/
def wi (x : Pro) (op : Int) : Int := if op = 6 ∨ op = 7 then x.s else if op = 8 then x.u else if op = 13 ∨ op = 14 then x.code.length else 1
/-- May an instruction be, of a function? -/
def insB (m : Mdl) (x : Pro) (i : Ins) : Bool := (ef m i.op i.a).2.2 && ((plc m i.op).2 || inR i.a (wi x i.op))
set_option maxRecDepth 100000 in
set_option maxHeartbeats 4000000 in
theorem within_any (x : Pro) (ca : Option Addr) (cl cc : Nat) (op : Int) (w : World) (h : PrV w x ca cl cc) : Calls Tryd.prog 83 #[prv x.p x.s x.u ca cl cc, .int .u8 op] w fun e w' => e = .returned (.int .i64 (wi x op)) ∧ BW w w' := by
  have hl : Hid (x.code.length = cl) := h.2.2.2.2.2.1
  clear h
  unfold wi
  rw [hl.out]
  by_cases h6 : op = 6
  · subst h6
    go_enter Tryd.func83, Tryd.ntmps83
    go_wp2_with (fail)
    go_ret
    exact ⟨rfl, (by repeat (first | exact BW.refl _ | assumption | apply BW.alloc | apply BW.drewN | apply BW.drew | (refine BW.setCell ?_ (by first | omega | (simp; done) | (simp; omega)) _) | (refine BW.trans ?_ (by assumption))))⟩
  have e6 : (op == 6) = false := by simpa using h6
  by_cases h7 : op = 7
  · subst h7
    go_enter Tryd.func83, Tryd.ntmps83
    go_wp2_with (fail)
    go_ret
    exact ⟨rfl, (by repeat (first | exact BW.refl _ | assumption | apply BW.alloc | apply BW.drewN | apply BW.drew | (refine BW.setCell ?_ (by first | omega | (simp; done) | (simp; omega)) _) | (refine BW.trans ?_ (by assumption))))⟩
  have e7 : (op == 7) = false := by simpa using h7
  by_cases h8 : op = 8
  · subst h8
    go_enter Tryd.func83, Tryd.ntmps83
    go_wp2_with (fail)
    go_ret
    exact ⟨rfl, (by repeat (first | exact BW.refl _ | assumption | apply BW.alloc | apply BW.drewN | apply BW.drew | (refine BW.setCell ?_ (by first | omega | (simp; done) | (simp; omega)) _) | (refine BW.trans ?_ (by assumption))))⟩
  have e8 : (op == 8) = false := by simpa using h8
  by_cases h13 : op = 13
  · subst h13
    go_enter Tryd.func83, Tryd.ntmps83
    go_wp2_with (fail)
    go_ret
    exact ⟨rfl, (by repeat (first | exact BW.refl _ | assumption | apply BW.alloc | apply BW.drewN | apply BW.drew | (refine BW.setCell ?_ (by first | omega | (simp; done) | (simp; omega)) _) | (refine BW.trans ?_ (by assumption))))⟩
  have e13 : (op == 13) = false := by simpa using h13
  by_cases h14 : op = 14
  · subst h14
    go_enter Tryd.func83, Tryd.ntmps83
    go_wp2_with (fail)
    go_ret
    exact ⟨rfl, (by repeat (first | exact BW.refl _ | assumption | apply BW.alloc | apply BW.drewN | apply BW.drew | (refine BW.setCell ?_ (by first | omega | (simp; done) | (simp; omega)) _) | (refine BW.trans ?_ (by assumption))))⟩
  have e14 : (op == 14) = false := by simpa using h14
  simp only [h6, h7, h8, h13, h14, or_self, if_false]
  go_enter Tryd.func83, Tryd.ntmps83
  go_wp2_with (fail)
  go_ret
  exact ⟨rfl, (by repeat (first | exact BW.refl _ | assumption | apply BW.alloc | apply BW.drewN | apply BW.drew | (refine BW.setCell ?_ (by first | omega | (simp; done) | (simp; omega)) _) | (refine BW.trans ?_ (by assumption))))⟩
theorem bxMPI_at {w w' : World} {r : Mw} {x : Pro} {ca : Option Addr} {cl cc : Nat} {i : Ins} (h : BW (bxI (bxP (bxM w r) x ca cl cc) i) w') : MdK w' w.heap.size r ∧ PrK w' (w.heap.size + 1) 0 x ca cl cc ∧ (w'.cell? ⟨w.heap.size + 2, 0, none⟩ = some (.int .u8 i.op) ∧ w'.cell? ⟨w.heap.size + 2, 1, none⟩ = some (.int .i64 i.a)) ∧ w.heap.size + 2 < w'.heap.size ∧ BW w w' := by
  obtain ⟨h1, h2, h3⟩ := bxI_at h
  obtain ⟨h4, h5, h6⟩ := bxP_at h3
  obtain ⟨h7, h8, h9⟩ := bxM_at h6
  have e : (bxM w r).heap.size = w.heap.size + 1 := by simp
  have e2 : (bxP (bxM w r) x ca cl cc).heap.size = w.heap.size + 2 := by simp
  rw [e2] at h1 h2
  rw [e] at h4
  exact ⟨h7, h4, h1, h2, h9⟩
set_option maxRecDepth 100000 in
set_option maxHeartbeats 4000000 in
theorem instruction_any (r : Mw) (m : Mdl) (x : Pro) (ca : Option Addr) (cl cc : Nat) (i : Ins) (w : World) (h : ModAt w r m) (hv : Vs w) (hx : PrV w x ca cl cc) (hi : I64 i.a) : Calls Tryd.prog 62 #[r.v, prv x.p x.s x.u ca cl cc, .agg #[.int .u8 i.op, .int .i64 i.a]] w fun e w' => e = .returned (.bool (insB m x i)) ∧ BW w w' := by
  have HE : Hid (∀ w', BW w w' → Calls Tryd.prog 81 #[r.v, .agg #[.int .u8 i.op, .int .i64 i.a]] w' fun e w'' => e = .returned (.tuple #[.int .i64 (ef m i.op i.a).1, .int .i64 (ef m i.op i.a).2.1, .bool (ef m i.op i.a).2.2]) ∧ BW w' w'') := fun w' k => effect_any r m i.op i.a w' (h.bw k) (hv.bw k) hi
  have HP : Hid (∀ w', BW w w' → Calls Tryd.prog 82 #[r.v, .int .u8 i.op] w' fun e w'' => e = .returned (.tuple #[.int .i64 (plc m i.op).1, .bool (plc m i.op).2]) ∧ BW w' w'') := fun w' k => places_any r m i.op w' (h.bw k)
  have HW : Hid (∀ w', BW w w' → Calls Tryd.prog 83 #[prv x.p x.s x.u ca cl cc, .int .u8 i.op] w' fun e w'' => e = .returned (.int .i64 (wi x i.op)) ∧ BW w' w'') := fun w' k => within_any x ca cl cc i.op w' (hx.bw k)
  have HB : Hid (∀ w', Calls Tryd.prog 60 #[.int .i64 i.a, .int .i64 (wi x i.op)] w' fun e w'' => e = .returned (.bool (inR i.a (wi x i.op))) ∧ w'' = w') := fun w' => below_any _ _ w'
  unfold insB
  clear h hv hx hi
  generalize ef m i.op i.a = q1 at *
  generalize plc m i.op = q2 at *
  generalize wi x i.op = q3 at *
  generalize inR i.a q3 = q4 at *
  obtain ⟨a1, a2, a3⟩ := q1
  obtain ⟨b1, b2⟩ := q2
  dsimp only at HE HP ⊢
  cases a3
  all_goals try cases b2
  all_goals (
    go_enter Tryd.func62, Tryd.ntmps62
    go_wp2_with (first
      | (go_at_call 81; refine (HE.out _ (by repeat (first | exact BW.refl _ | assumption | apply BW.alloc | apply BW.drewN | apply BW.drew | (refine BW.setCell ?_ (by first | omega | (simp; done) | (simp; omega)) _) | (refine BW.trans ?_ (by assumption))))).mono ?_; rintro e w1 ⟨rfl, c1⟩; obtain ⟨⟨g0, g1, g2, g3⟩, ⟨f0, f1, f2, f3⟩, ⟨k0, k1⟩, kz, gb⟩ := bxMPI_at (r := r) (x := x) (ca := ca) (cl := cl) (cc := cc) (i := i) c1; clear c1)
      | (go_at_call 82; refine (HP.out _ (by repeat (first | exact BW.refl _ | assumption | apply BW.alloc | apply BW.drewN | apply BW.drew | (refine BW.setCell ?_ (by first | omega | (simp; done) | (simp; omega)) _) | (refine BW.trans ?_ (by assumption))))).mono ?_; rintro e w2 ⟨rfl, c2⟩; have f4 := (c2.cells (w.heap.size + 1) 0 (by omega)).trans f0; have f5 := (c2.cells (w.heap.size + 1) 1 (by omega)).trans f1; have f6 := (c2.cells (w.heap.size + 1) 2 (by omega)).trans f2; have f7 := (c2.cells (w.heap.size + 1) 3 (by omega)).trans f3; have k2 := (c2.cells (w.heap.size + 2) 0 (by omega)).trans k0; have k3 := (c2.cells (w.heap.size + 2) 1 (by omega)).trans k1; have gc := gb.trans c2; have kz2 : w.heap.size + 2 < w2.heap.size := by have := c2.size; omega
         clear c2))
    first
      | (go_ret; exact ⟨rfl, (by repeat (first | exact BW.refl _ | assumption | apply BW.alloc | apply BW.drewN | apply BW.drew | (refine BW.setCell ?_ (by first | omega | (simp; done) | (simp; omega)) _) | (refine BW.trans ?_ (by assumption))))⟩)
      | (go_region_with (first
          | (go_at_call 83; refine (HW.out _ (by repeat (first | exact BW.refl _ | assumption | apply BW.alloc | apply BW.drewN | apply BW.drew | (refine BW.setCell ?_ (by first | omega | (simp; done) | (simp; omega)) _) | (refine BW.trans ?_ (by assumption))))).mono ?_; rintro e w3 ⟨rfl, c3⟩; have k4 := (c3.cells (w.heap.size + 2) 1 (by show w.heap.size + 2 < w2.heap.size; exact kz2)).trans k3)
          | (go_at_call 60; refine (HB.out _).mono ?_; rintro e w4 ⟨rfl, rfl⟩))
         all_goals (go_wp2_with (fail))
         all_goals (go_ret; exact ⟨rfl, (by repeat (first | exact BW.refl _ | assumption | apply BW.alloc | apply BW.drewN | apply BW.drew | (refine BW.setCell ?_ (by first | omega | (simp; done) | (simp; omega)) _) | (refine BW.trans ?_ (by assumption))))⟩)))

end Go.Proofs.YtndhhmgbekcfoaaDoor
