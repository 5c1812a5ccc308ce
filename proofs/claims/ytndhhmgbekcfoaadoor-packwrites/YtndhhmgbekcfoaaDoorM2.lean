import Derived.Test.YtndhhmgbekcfoaaDoorM1
import Derived.Test.YtndhhmgbekcfoaaDoorR1
namespace Go.Proofs.YtndhhmgbekcfoaaDoor
open Go.RowKit
set_option linter.unusedVariables false
set_option linter.unusedSimpArgs false

set_option maxRecDepth 100000 in
set_option maxHeartbeats 4000000 in
theorem ri_6 (r : Mw) (m : Mdl) (x : Pro) (ca : Option Addr) (cl cc : Nat) (a : Int) (w : World) (h : ModAt w r m) (hl : x.code.length = cl) (hi : I64 a) : Calls Tryd.prog 19 #[r.v, prv x.p x.s x.u ca cl cc, .agg #[.int .u8 6, .int .i64 a]] w fun e w' => e = .returned (.bool ((ef m 6 a).2.2 && inR a x.s)) ∧ BW w w' := by
  have HE : Hid (∀ w', BW w w' → Calls Tryd.prog 50 #[r.v, .agg #[.int .u8 6, .int .i64 a]] w' fun e w'' => e = .returned (.tuple #[.int .i64 (ef m 6 a).1, .int .i64 (ef m 6 a).2.1, .bool (ef m 6 a).2.2]) ∧ BW w' w'') := fun w' k => refEffect_any r m 6 a w' (h.bw k) hi
  clear h hl
  generalize ef m 6 a = q1 at *
  obtain ⟨a1, a2, a3⟩ := q1
  dsimp only at HE ⊢
  cases a3
  all_goals (
    go_enter Tryd.func19, Tryd.ntmps19
    go_wp2_with (first
      | (go_at_call 50; refine (HE.out _ (by repeat (first | exact BW.refl _ | assumption | apply BW.alloc | apply BW.drewN | apply BW.drew | (refine BW.setCell ?_ (by first | omega | (simp; done) | (simp; omega)) _) | (refine BW.trans ?_ (by assumption))))).mono ?_; rintro e w1 ⟨rfl, c1⟩; obtain ⟨⟨g0, g1, g2, g3⟩, ⟨f0, f1, f2, f3⟩, ⟨k0, k1⟩, kz, gb⟩ := bxMPI_at (r := r) (x := x) (ca := ca) (cl := cl) (cc := cc) (i := ⟨6, a⟩) c1; clear c1)
      | (go_at_call 49; refine (place_any _ _ _).mono ?_; rintro e w2 ⟨rfl, rfl⟩))
    go_ret
    exact ⟨by simp, (by repeat (first | exact BW.refl _ | assumption | apply BW.alloc | apply BW.drewN | apply BW.drew | (refine BW.setCell ?_ (by first | omega | (simp; done) | (simp; omega)) _) | (refine BW.trans ?_ (by assumption))))⟩)
set_option maxRecDepth 100000 in
set_option maxHeartbeats 4000000 in
theorem ri_7 (r : Mw) (m : Mdl) (x : Pro) (ca : Option Addr) (cl cc : Nat) (a : Int) (w : World) (h : ModAt w r m) (hl : x.code.length = cl) (hi : I64 a) : Calls Tryd.prog 19 #[r.v, prv x.p x.s x.u ca cl cc, .agg #[.int .u8 7, .int .i64 a]] w fun e w' => e = .returned (.bool ((ef m 7 a).2.2 && inR a x.s)) ∧ BW w w' := by
  have HE : Hid (∀ w', BW w w' → Calls Tryd.prog 50 #[r.v, .agg #[.int .u8 7, .int .i64 a]] w' fun e w'' => e = .returned (.tuple #[.int .i64 (ef m 7 a).1, .int .i64 (ef m 7 a).2.1, .bool (ef m 7 a).2.2]) ∧ BW w' w'') := fun w' k => refEffect_any r m 7 a w' (h.bw k) hi
  clear h hl
  generalize ef m 7 a = q1 at *
  obtain ⟨a1, a2, a3⟩ := q1
  dsimp only at HE ⊢
  cases a3
  all_goals (
    go_enter Tryd.func19, Tryd.ntmps19
    go_wp2_with (first
      | (go_at_call 50; refine (HE.out _ (by repeat (first | exact BW.refl _ | assumption | apply BW.alloc | apply BW.drewN | apply BW.drew | (refine BW.setCell ?_ (by first | omega | (simp; done) | (simp; omega)) _) | (refine BW.trans ?_ (by assumption))))).mono ?_; rintro e w1 ⟨rfl, c1⟩; obtain ⟨⟨g0, g1, g2, g3⟩, ⟨f0, f1, f2, f3⟩, ⟨k0, k1⟩, kz, gb⟩ := bxMPI_at (r := r) (x := x) (ca := ca) (cl := cl) (cc := cc) (i := ⟨7, a⟩) c1; clear c1)
      | (go_at_call 49; refine (place_any _ _ _).mono ?_; rintro e w2 ⟨rfl, rfl⟩))
    go_ret
    exact ⟨by simp, (by repeat (first | exact BW.refl _ | assumption | apply BW.alloc | apply BW.drewN | apply BW.drew | (refine BW.setCell ?_ (by first | omega | (simp; done) | (simp; omega)) _) | (refine BW.trans ?_ (by assumption))))⟩)
set_option maxRecDepth 100000 in
set_option maxHeartbeats 4000000 in
theorem ri_8 (r : Mw) (m : Mdl) (x : Pro) (ca : Option Addr) (cl cc : Nat) (a : Int) (w : World) (h : ModAt w r m) (hl : x.code.length = cl) (hi : I64 a) : Calls Tryd.prog 19 #[r.v, prv x.p x.s x.u ca cl cc, .agg #[.int .u8 8, .int .i64 a]] w fun e w' => e = .returned (.bool ((ef m 8 a).2.2 && inR a x.u)) ∧ BW w w' := by
  have HE : Hid (∀ w', BW w w' → Calls Tryd.prog 50 #[r.v, .agg #[.int .u8 8, .int .i64 a]] w' fun e w'' => e = .returned (.tuple #[.int .i64 (ef m 8 a).1, .int .i64 (ef m 8 a).2.1, .bool (ef m 8 a).2.2]) ∧ BW w' w'') := fun w' k => refEffect_any r m 8 a w' (h.bw k) hi
  clear h hl
  generalize ef m 8 a = q1 at *
  obtain ⟨a1, a2, a3⟩ := q1
  dsimp only at HE ⊢
  cases a3
  all_goals (
    go_enter Tryd.func19, Tryd.ntmps19
    go_wp2_with (first
      | (go_at_call 50; refine (HE.out _ (by repeat (first | exact BW.refl _ | assumption | apply BW.alloc | apply BW.drewN | apply BW.drew | (refine BW.setCell ?_ (by first | omega | (simp; done) | (simp; omega)) _) | (refine BW.trans ?_ (by assumption))))).mono ?_; rintro e w1 ⟨rfl, c1⟩; obtain ⟨⟨g0, g1, g2, g3⟩, ⟨f0, f1, f2, f3⟩, ⟨k0, k1⟩, kz, gb⟩ := bxMPI_at (r := r) (x := x) (ca := ca) (cl := cl) (cc := cc) (i := ⟨8, a⟩) c1; clear c1)
      | (go_at_call 49; refine (place_any _ _ _).mono ?_; rintro e w2 ⟨rfl, rfl⟩))
    go_ret
    exact ⟨by simp, (by repeat (first | exact BW.refl _ | assumption | apply BW.alloc | apply BW.drewN | apply BW.drew | (refine BW.setCell ?_ (by first | omega | (simp; done) | (simp; omega)) _) | (refine BW.trans ?_ (by assumption))))⟩)
set_option maxRecDepth 100000 in
set_option maxHeartbeats 4000000 in
theorem ri_13 (r : Mw) (m : Mdl) (x : Pro) (ca : Option Addr) (cl cc : Nat) (a : Int) (w : World) (h : ModAt w r m) (hl : x.code.length = cl) (hi : I64 a) : Calls Tryd.prog 19 #[r.v, prv x.p x.s x.u ca cl cc, .agg #[.int .u8 13, .int .i64 a]] w fun e w' => e = .returned (.bool ((ef m 13 a).2.2 && inR a (x.code.length : Int))) ∧ BW w w' := by
  have HE : Hid (∀ w', BW w w' → Calls Tryd.prog 50 #[r.v, .agg #[.int .u8 13, .int .i64 a]] w' fun e w'' => e = .returned (.tuple #[.int .i64 (ef m 13 a).1, .int .i64 (ef m 13 a).2.1, .bool (ef m 13 a).2.2]) ∧ BW w' w'') := fun w' k => refEffect_any r m 13 a w' (h.bw k) hi
  rw [show inR a (x.code.length : Int) = inR a (cl : Int) by rw [hl]]
  clear h hl
  generalize ef m 13 a = q1 at *
  obtain ⟨a1, a2, a3⟩ := q1
  dsimp only at HE ⊢
  cases a3
  all_goals (
    go_enter Tryd.func19, Tryd.ntmps19
    go_wp2_with (first
      | (go_at_call 50; refine (HE.out _ (by repeat (first | exact BW.refl _ | assumption | apply BW.alloc | apply BW.drewN | apply BW.drew | (refine BW.setCell ?_ (by first | omega | (simp; done) | (simp; omega)) _) | (refine BW.trans ?_ (by assumption))))).mono ?_; rintro e w1 ⟨rfl, c1⟩; obtain ⟨⟨g0, g1, g2, g3⟩, ⟨f0, f1, f2, f3⟩, ⟨k0, k1⟩, kz, gb⟩ := bxMPI_at (r := r) (x := x) (ca := ca) (cl := cl) (cc := cc) (i := ⟨13, a⟩) c1; clear c1)
      | (go_at_call 49; refine (place_any _ _ _).mono ?_; rintro e w2 ⟨rfl, rfl⟩))
    go_ret
    exact ⟨by simp, (by repeat (first | exact BW.refl _ | assumption | apply BW.alloc | apply BW.drewN | apply BW.drew | (refine BW.setCell ?_ (by first | omega | (simp; done) | (simp; omega)) _) | (refine BW.trans ?_ (by assumption))))⟩)
set_option maxRecDepth 100000 in
set_option maxHeartbeats 4000000 in
theorem ri_14 (r : Mw) (m : Mdl) (x : Pro) (ca : Option Addr) (cl cc : Nat) (a : Int) (w : World) (h : ModAt w r m) (hl : x.code.length = cl) (hi : I64 a) : Calls Tryd.prog 19 #[r.v, prv x.p x.s x.u ca cl cc, .agg #[.int .u8 14, .int .i64 a]] w fun e w' => e = .returned (.bool ((ef m 14 a).2.2 && inR a (x.code.length : Int))) ∧ BW w w' := by
  have HE : Hid (∀ w', BW w w' → Calls Tryd.prog 50 #[r.v, .agg #[.int .u8 14, .int .i64 a]] w' fun e w'' => e = .returned (.tuple #[.int .i64 (ef m 14 a).1, .int .i64 (ef m 14 a).2.1, .bool (ef m 14 a).2.2]) ∧ BW w' w'') := fun w' k => refEffect_any r m 14 a w' (h.bw k) hi
  rw [show inR a (x.code.length : Int) = inR a (cl : Int) by rw [hl]]
  clear h hl
  generalize ef m 14 a = q1 at *
  obtain ⟨a1, a2, a3⟩ := q1
  dsimp only at HE ⊢
  cases a3
  all_goals (
    go_enter Tryd.func19, Tryd.ntmps19
    go_wp2_with (first
      | (go_at_call 50; refine (HE.out _ (by repeat (first | exact BW.refl _ | assumption | apply BW.alloc | apply BW.drewN | apply BW.drew | (refine BW.setCell ?_ (by first | omega | (simp; done) | (simp; omega)) _) | (refine BW.trans ?_ (by assumption))))).mono ?_; rintro e w1 ⟨rfl, c1⟩; obtain ⟨⟨g0, g1, g2, g3⟩, ⟨f0, f1, f2, f3⟩, ⟨k0, k1⟩, kz, gb⟩ := bxMPI_at (r := r) (x := x) (ca := ca) (cl := cl) (cc := cc) (i := ⟨14, a⟩) c1; clear c1)
      | (go_at_call 49; refine (place_any _ _ _).mono ?_; rintro e w2 ⟨rfl, rfl⟩))
    go_ret
    exact ⟨by simp, (by repeat (first | exact BW.refl _ | assumption | apply BW.alloc | apply BW.drewN | apply BW.drew | (refine BW.setCell ?_ (by first | omega | (simp; done) | (simp; omega)) _) | (refine BW.trans ?_ (by assumption))))⟩)
set_option maxRecDepth 100000 in
set_option maxHeartbeats 4000000 in
theorem ri_1 (r : Mw) (m : Mdl) (x : Pro) (ca : Option Addr) (cl cc : Nat) (a : Int) (w : World) (h : ModAt w r m) (hl : x.code.length = cl) (hi : I64 a) : Calls Tryd.prog 19 #[r.v, prv x.p x.s x.u ca cl cc, .agg #[.int .u8 1, .int .i64 a]] w fun e w' => e = .returned (.bool ((ef m 1 a).2.2 && true)) ∧ BW w w' := by
  have HE : Hid (∀ w', BW w w' → Calls Tryd.prog 50 #[r.v, .agg #[.int .u8 1, .int .i64 a]] w' fun e w'' => e = .returned (.tuple #[.int .i64 (ef m 1 a).1, .int .i64 (ef m 1 a).2.1, .bool (ef m 1 a).2.2]) ∧ BW w' w'') := fun w' k => refEffect_any r m 1 a w' (h.bw k) hi
  clear h hl
  generalize ef m 1 a = q1 at *
  obtain ⟨a1, a2, a3⟩ := q1
  dsimp only at HE ⊢
  cases a3
  all_goals (
    go_enter Tryd.func19, Tryd.ntmps19
    go_wp2_with (first
      | (go_at_call 50; refine (HE.out _ (by repeat (first | exact BW.refl _ | assumption | apply BW.alloc | apply BW.drewN | apply BW.drew | (refine BW.setCell ?_ (by first | omega | (simp; done) | (simp; omega)) _) | (refine BW.trans ?_ (by assumption))))).mono ?_; rintro e w1 ⟨rfl, c1⟩; obtain ⟨⟨g0, g1, g2, g3⟩, ⟨f0, f1, f2, f3⟩, ⟨k0, k1⟩, kz, gb⟩ := bxMPI_at (r := r) (x := x) (ca := ca) (cl := cl) (cc := cc) (i := ⟨1, a⟩) c1; clear c1))
    go_ret
    exact ⟨by simp, (by repeat (first | exact BW.refl _ | assumption | apply BW.alloc | apply BW.drewN | apply BW.drew | (refine BW.setCell ?_ (by first | omega | (simp; done) | (simp; omega)) _) | (refine BW.trans ?_ (by assumption))))⟩)
set_option maxRecDepth 100000 in
set_option maxHeartbeats 4000000 in
theorem ri_2 (r : Mw) (m : Mdl) (x : Pro) (ca : Option Addr) (cl cc : Nat) (a : Int) (w : World) (h : ModAt w r m) (hl : x.code.length = cl) (hi : I64 a) : Calls Tryd.prog 19 #[r.v, prv x.p x.s x.u ca cl cc, .agg #[.int .u8 2, .int .i64 a]] w fun e w' => e = .returned (.bool ((ef m 2 a).2.2 && true)) ∧ BW w w' := by
  have HE : Hid (∀ w', BW w w' → Calls Tryd.prog 50 #[r.v, .agg #[.int .u8 2, .int .i64 a]] w' fun e w'' => e = .returned (.tuple #[.int .i64 (ef m 2 a).1, .int .i64 (ef m 2 a).2.1, .bool (ef m 2 a).2.2]) ∧ BW w' w'') := fun w' k => refEffect_any r m 2 a w' (h.bw k) hi
  clear h hl
  generalize ef m 2 a = q1 at *
  obtain ⟨a1, a2, a3⟩ := q1
  dsimp only at HE ⊢
  cases a3
  all_goals (
    go_enter Tryd.func19, Tryd.ntmps19
    go_wp2_with (first
      | (go_at_call 50; refine (HE.out _ (by repeat (first | exact BW.refl _ | assumption | apply BW.alloc | apply BW.drewN | apply BW.drew | (refine BW.setCell ?_ (by first | omega | (simp; done) | (simp; omega)) _) | (refine BW.trans ?_ (by assumption))))).mono ?_; rintro e w1 ⟨rfl, c1⟩; obtain ⟨⟨g0, g1, g2, g3⟩, ⟨f0, f1, f2, f3⟩, ⟨k0, k1⟩, kz, gb⟩ := bxMPI_at (r := r) (x := x) (ca := ca) (cl := cl) (cc := cc) (i := ⟨2, a⟩) c1; clear c1))
    go_ret
    exact ⟨by simp, (by repeat (first | exact BW.refl _ | assumption | apply BW.alloc | apply BW.drewN | apply BW.drew | (refine BW.setCell ?_ (by first | omega | (simp; done) | (simp; omega)) _) | (refine BW.trans ?_ (by assumption))))⟩)
set_option maxRecDepth 100000 in
set_option maxHeartbeats 4000000 in
theorem ri_9 (r : Mw) (m : Mdl) (x : Pro) (ca : Option Addr) (cl cc : Nat) (a : Int) (w : World) (h : ModAt w r m) (hl : x.code.length = cl) (hi : I64 a) : Calls Tryd.prog 19 #[r.v, prv x.p x.s x.u ca cl cc, .agg #[.int .u8 9, .int .i64 a]] w fun e w' => e = .returned (.bool ((ef m 9 a).2.2 && true)) ∧ BW w w' := by
  have HE : Hid (∀ w', BW w w' → Calls Tryd.prog 50 #[r.v, .agg #[.int .u8 9, .int .i64 a]] w' fun e w'' => e = .returned (.tuple #[.int .i64 (ef m 9 a).1, .int .i64 (ef m 9 a).2.1, .bool (ef m 9 a).2.2]) ∧ BW w' w'') := fun w' k => refEffect_any r m 9 a w' (h.bw k) hi
  clear h hl
  generalize ef m 9 a = q1 at *
  obtain ⟨a1, a2, a3⟩ := q1
  dsimp only at HE ⊢
  cases a3
  all_goals (
    go_enter Tryd.func19, Tryd.ntmps19
    go_wp2_with (first
      | (go_at_call 50; refine (HE.out _ (by repeat (first | exact BW.refl _ | assumption | apply BW.alloc | apply BW.drewN | apply BW.drew | (refine BW.setCell ?_ (by first | omega | (simp; done) | (simp; omega)) _) | (refine BW.trans ?_ (by assumption))))).mono ?_; rintro e w1 ⟨rfl, c1⟩; obtain ⟨⟨g0, g1, g2, g3⟩, ⟨f0, f1, f2, f3⟩, ⟨k0, k1⟩, kz, gb⟩ := bxMPI_at (r := r) (x := x) (ca := ca) (cl := cl) (cc := cc) (i := ⟨9, a⟩) c1; clear c1))
    go_ret
    exact ⟨by simp, (by repeat (first | exact BW.refl _ | assumption | apply BW.alloc | apply BW.drewN | apply BW.drew | (refine BW.setCell ?_ (by first | omega | (simp; done) | (simp; omega)) _) | (refine BW.trans ?_ (by assumption))))⟩)
set_option maxRecDepth 100000 in
set_option maxHeartbeats 4000000 in
theorem ri_10 (r : Mw) (m : Mdl) (x : Pro) (ca : Option Addr) (cl cc : Nat) (a : Int) (w : World) (h : ModAt w r m) (hl : x.code.length = cl) (hi : I64 a) : Calls Tryd.prog 19 #[r.v, prv x.p x.s x.u ca cl cc, .agg #[.int .u8 10, .int .i64 a]] w fun e w' => e = .returned (.bool ((ef m 10 a).2.2 && true)) ∧ BW w w' := by
  have HE : Hid (∀ w', BW w w' → Calls Tryd.prog 50 #[r.v, .agg #[.int .u8 10, .int .i64 a]] w' fun e w'' => e = .returned (.tuple #[.int .i64 (ef m 10 a).1, .int .i64 (ef m 10 a).2.1, .bool (ef m 10 a).2.2]) ∧ BW w' w'') := fun w' k => refEffect_any r m 10 a w' (h.bw k) hi
  clear h hl
  generalize ef m 10 a = q1 at *
  obtain ⟨a1, a2, a3⟩ := q1
  dsimp only at HE ⊢
  cases a3
  all_goals (
    go_enter Tryd.func19, Tryd.ntmps19
    go_wp2_with (first
      | (go_at_call 50; refine (HE.out _ (by repeat (first | exact BW.refl _ | assumption | apply BW.alloc | apply BW.drewN | apply BW.drew | (refine BW.setCell ?_ (by first | omega | (simp; done) | (simp; omega)) _) | (refine BW.trans ?_ (by assumption))))).mono ?_; rintro e w1 ⟨rfl, c1⟩; obtain ⟨⟨g0, g1, g2, g3⟩, ⟨f0, f1, f2, f3⟩, ⟨k0, k1⟩, kz, gb⟩ := bxMPI_at (r := r) (x := x) (ca := ca) (cl := cl) (cc := cc) (i := ⟨10, a⟩) c1; clear c1))
    go_ret
    exact ⟨by simp, (by repeat (first | exact BW.refl _ | assumption | apply BW.alloc | apply BW.drewN | apply BW.drew | (refine BW.setCell ?_ (by first | omega | (simp; done) | (simp; omega)) _) | (refine BW.trans ?_ (by assumption))))⟩)
set_option maxRecDepth 100000 in
set_option maxHeartbeats 4000000 in
theorem ri_11 (r : Mw) (m : Mdl) (x : Pro) (ca : Option Addr) (cl cc : Nat) (a : Int) (w : World) (h : ModAt w r m) (hl : x.code.length = cl) (hi : I64 a) : Calls Tryd.prog 19 #[r.v, prv x.p x.s x.u ca cl cc, .agg #[.int .u8 11, .int .i64 a]] w fun e w' => e = .returned (.bool ((ef m 11 a).2.2 && true)) ∧ BW w w' := by
  have HE : Hid (∀ w', BW w w' → Calls Tryd.prog 50 #[r.v, .agg #[.int .u8 11, .int .i64 a]] w' fun e w'' => e = .returned (.tuple #[.int .i64 (ef m 11 a).1, .int .i64 (ef m 11 a).2.1, .bool (ef m 11 a).2.2]) ∧ BW w' w'') := fun w' k => refEffect_any r m 11 a w' (h.bw k) hi
  clear h hl
  generalize ef m 11 a = q1 at *
  obtain ⟨a1, a2, a3⟩ := q1
  dsimp only at HE ⊢
  cases a3
  all_goals (
    go_enter Tryd.func19, Tryd.ntmps19
    go_wp2_with (first
      | (go_at_call 50; refine (HE.out _ (by repeat (first | exact BW.refl _ | assumption | apply BW.alloc | apply BW.drewN | apply BW.drew | (refine BW.setCell ?_ (by first | omega | (simp; done) | (simp; omega)) _) | (refine BW.trans ?_ (by assumption))))).mono ?_; rintro e w1 ⟨rfl, c1⟩; obtain ⟨⟨g0, g1, g2, g3⟩, ⟨f0, f1, f2, f3⟩, ⟨k0, k1⟩, kz, gb⟩ := bxMPI_at (r := r) (x := x) (ca := ca) (cl := cl) (cc := cc) (i := ⟨11, a⟩) c1; clear c1))
    go_ret
    exact ⟨by simp, (by repeat (first | exact BW.refl _ | assumption | apply BW.alloc | apply BW.drewN | apply BW.drew | (refine BW.setCell ?_ (by first | omega | (simp; done) | (simp; omega)) _) | (refine BW.trans ?_ (by assumption))))⟩)
set_option maxRecDepth 100000 in
set_option maxHeartbeats 4000000 in
theorem ri_16 (r : Mw) (m : Mdl) (x : Pro) (ca : Option Addr) (cl cc : Nat) (a : Int) (w : World) (h : ModAt w r m) (hl : x.code.length = cl) (hi : I64 a) : Calls Tryd.prog 19 #[r.v, prv x.p x.s x.u ca cl cc, .agg #[.int .u8 16, .int .i64 a]] w fun e w' => e = .returned (.bool ((ef m 16 a).2.2 && true)) ∧ BW w w' := by
  have HE : Hid (∀ w', BW w w' → Calls Tryd.prog 50 #[r.v, .agg #[.int .u8 16, .int .i64 a]] w' fun e w'' => e = .returned (.tuple #[.int .i64 (ef m 16 a).1, .int .i64 (ef m 16 a).2.1, .bool (ef m 16 a).2.2]) ∧ BW w' w'') := fun w' k => refEffect_any r m 16 a w' (h.bw k) hi
  clear h hl
  generalize ef m 16 a = q1 at *
  obtain ⟨a1, a2, a3⟩ := q1
  dsimp only at HE ⊢
  cases a3
  all_goals (
    go_enter Tryd.func19, Tryd.ntmps19
    go_wp2_with (first
      | (go_at_call 50; refine (HE.out _ (by repeat (first | exact BW.refl _ | assumption | apply BW.alloc | apply BW.drewN | apply BW.drew | (refine BW.setCell ?_ (by first | omega | (simp; done) | (simp; omega)) _) | (refine BW.trans ?_ (by assumption))))).mono ?_; rintro e w1 ⟨rfl, c1⟩; obtain ⟨⟨g0, g1, g2, g3⟩, ⟨f0, f1, f2, f3⟩, ⟨k0, k1⟩, kz, gb⟩ := bxMPI_at (r := r) (x := x) (ca := ca) (cl := cl) (cc := cc) (i := ⟨16, a⟩) c1; clear c1))
    go_ret
    exact ⟨by simp, (by repeat (first | exact BW.refl _ | assumption | apply BW.alloc | apply BW.drewN | apply BW.drew | (refine BW.setCell ?_ (by first | omega | (simp; done) | (simp; omega)) _) | (refine BW.trans ?_ (by assumption))))⟩)
set_option maxRecDepth 100000 in
set_option maxHeartbeats 4000000 in
theorem ri_17 (r : Mw) (m : Mdl) (x : Pro) (ca : Option Addr) (cl cc : Nat) (a : Int) (w : World) (h : ModAt w r m) (hl : x.code.length = cl) (hi : I64 a) : Calls Tryd.prog 19 #[r.v, prv x.p x.s x.u ca cl cc, .agg #[.int .u8 17, .int .i64 a]] w fun e w' => e = .returned (.bool ((ef m 17 a).2.2 && true)) ∧ BW w w' := by
  have HE : Hid (∀ w', BW w w' → Calls Tryd.prog 50 #[r.v, .agg #[.int .u8 17, .int .i64 a]] w' fun e w'' => e = .returned (.tuple #[.int .i64 (ef m 17 a).1, .int .i64 (ef m 17 a).2.1, .bool (ef m 17 a).2.2]) ∧ BW w' w'') := fun w' k => refEffect_any r m 17 a w' (h.bw k) hi
  clear h hl
  generalize ef m 17 a = q1 at *
  obtain ⟨a1, a2, a3⟩ := q1
  dsimp only at HE ⊢
  cases a3
  all_goals (
    go_enter Tryd.func19, Tryd.ntmps19
    go_wp2_with (first
      | (go_at_call 50; refine (HE.out _ (by repeat (first | exact BW.refl _ | assumption | apply BW.alloc | apply BW.drewN | apply BW.drew | (refine BW.setCell ?_ (by first | omega | (simp; done) | (simp; omega)) _) | (refine BW.trans ?_ (by assumption))))).mono ?_; rintro e w1 ⟨rfl, c1⟩; obtain ⟨⟨g0, g1, g2, g3⟩, ⟨f0, f1, f2, f3⟩, ⟨k0, k1⟩, kz, gb⟩ := bxMPI_at (r := r) (x := x) (ca := ca) (cl := cl) (cc := cc) (i := ⟨17, a⟩) c1; clear c1))
    go_ret
    exact ⟨by simp, (by repeat (first | exact BW.refl _ | assumption | apply BW.alloc | apply BW.drewN | apply BW.drew | (refine BW.setCell ?_ (by first | omega | (simp; done) | (simp; omega)) _) | (refine BW.trans ?_ (by assumption))))⟩)
set_option maxRecDepth 100000 in
set_option maxHeartbeats 4000000 in
theorem ri_18 (r : Mw) (m : Mdl) (x : Pro) (ca : Option Addr) (cl cc : Nat) (a : Int) (w : World) (h : ModAt w r m) (hl : x.code.length = cl) (hi : I64 a) : Calls Tryd.prog 19 #[r.v, prv x.p x.s x.u ca cl cc, .agg #[.int .u8 18, .int .i64 a]] w fun e w' => e = .returned (.bool ((ef m 18 a).2.2 && true)) ∧ BW w w' := by
  have HE : Hid (∀ w', BW w w' → Calls Tryd.prog 50 #[r.v, .agg #[.int .u8 18, .int .i64 a]] w' fun e w'' => e = .returned (.tuple #[.int .i64 (ef m 18 a).1, .int .i64 (ef m 18 a).2.1, .bool (ef m 18 a).2.2]) ∧ BW w' w'') := fun w' k => refEffect_any r m 18 a w' (h.bw k) hi
  clear h hl
  generalize ef m 18 a = q1 at *
  obtain ⟨a1, a2, a3⟩ := q1
  dsimp only at HE ⊢
  cases a3
  all_goals (
    go_enter Tryd.func19, Tryd.ntmps19
    go_wp2_with (first
      | (go_at_call 50; refine (HE.out _ (by repeat (first | exact BW.refl _ | assumption | apply BW.alloc | apply BW.drewN | apply BW.drew | (refine BW.setCell ?_ (by first | omega | (simp; done) | (simp; omega)) _) | (refine BW.trans ?_ (by assumption))))).mono ?_; rintro e w1 ⟨rfl, c1⟩; obtain ⟨⟨g0, g1, g2, g3⟩, ⟨f0, f1, f2, f3⟩, ⟨k0, k1⟩, kz, gb⟩ := bxMPI_at (r := r) (x := x) (ca := ca) (cl := cl) (cc := cc) (i := ⟨18, a⟩) c1; clear c1))
    go_ret
    exact ⟨by simp, (by repeat (first | exact BW.refl _ | assumption | apply BW.alloc | apply BW.drewN | apply BW.drew | (refine BW.setCell ?_ (by first | omega | (simp; done) | (simp; omega)) _) | (refine BW.trans ?_ (by assumption))))⟩)
set_option maxRecDepth 100000 in
set_option maxHeartbeats 4000000 in
theorem ri_no (r : Mw) (m : Mdl) (x : Pro) (ca : Option Addr) (cl cc : Nat) (op a : Int) (w : World) (h : ModAt w r m) (hl : x.code.length = cl) (hi : I64 a) (h6 : ¬ op = 6) (h7 : ¬ op = 7) (h8 : ¬ op = 8) (h13 : ¬ op = 13) (h14 : ¬ op = 14) (h1 : ¬ op = 1) (h2 : ¬ op = 2) (h9 : ¬ op = 9) (h10 : ¬ op = 10) (h11 : ¬ op = 11) (h16 : ¬ op = 16) (h17 : ¬ op = 17) (h18 : ¬ op = 18) : Calls Tryd.prog 19 #[r.v, prv x.p x.s x.u ca cl cc, .agg #[.int .u8 op, .int .i64 a]] w fun e w' => e = .returned (.bool ((ef m op a).2.2 && inR a 1)) ∧ BW w w' := by
  have HE : Hid (∀ w', BW w w' → Calls Tryd.prog 50 #[r.v, .agg #[.int .u8 op, .int .i64 a]] w' fun e w'' => e = .returned (.tuple #[.int .i64 (ef m op a).1, .int .i64 (ef m op a).2.1, .bool (ef m op a).2.2]) ∧ BW w' w'') := fun w' k => refEffect_any r m op a w' (h.bw k) hi
  have e6 : (op == 6) = false := by simpa using h6
  have e7 : (op == 7) = false := by simpa using h7
  have e8 : (op == 8) = false := by simpa using h8
  have e13 : (op == 13) = false := by simpa using h13
  have e14 : (op == 14) = false := by simpa using h14
  have e1 : (op == 1) = false := by simpa using h1
  have e2 : (op == 2) = false := by simpa using h2
  have e9 : (op == 9) = false := by simpa using h9
  have e10 : (op == 10) = false := by simpa using h10
  have e11 : (op == 11) = false := by simpa using h11
  have e16 : (op == 16) = false := by simpa using h16
  have e17 : (op == 17) = false := by simpa using h17
  have e18 : (op == 18) = false := by simpa using h18
  rw [show inR a 1 = (a == 0) by simp only [inR]; apply Bool.eq_iff_iff.2; simp; omega]
  clear h hl
  generalize ef m op a = q1 at *
  obtain ⟨a1, a2, a3⟩ := q1
  dsimp only at HE ⊢
  cases a3
  all_goals (
    go_enter Tryd.func19, Tryd.ntmps19
    go_wp2_with (first
      | (go_at_call 50; refine (HE.out _ (by repeat (first | exact BW.refl _ | assumption | apply BW.alloc | apply BW.drewN | apply BW.drew | (refine BW.setCell ?_ (by first | omega | (simp; done) | (simp; omega)) _) | (refine BW.trans ?_ (by assumption))))).mono ?_; rintro e w1 ⟨rfl, c1⟩; obtain ⟨⟨g0, g1, g2, g3⟩, ⟨f0, f1, f2, f3⟩, ⟨k0, k1⟩, kz, gb⟩ := bxMPI_at (r := r) (x := x) (ca := ca) (cl := cl) (cc := cc) (i := ⟨op, a⟩) c1; clear c1))
    go_ret
    exact ⟨by simp, (by repeat (first | exact BW.refl _ | assumption | apply BW.alloc | apply BW.drewN | apply BW.drew | (refine BW.setCell ?_ (by first | omega | (simp; done) | (simp; omega)) _) | (refine BW.trans ?_ (by assumption))))⟩)
theorem instr_any (r : Mw) (m : Mdl) (x : Pro) (ca : Option Addr) (cl cc : Nat) (i : Ins) (w : World) (h : ModAt w r m) (hx : PrV w x ca cl cc) (hi : I64 i.a) : Calls Tryd.prog 19 #[r.v, prv x.p x.s x.u ca cl cc, .agg #[.int .u8 i.op, .int .i64 i.a]] w fun e w' => e = .returned (.bool (insB m x i)) ∧ BW w w' := by
  have hl : x.code.length = cl := hx.2.2.2.2.2.1
  obtain ⟨op, a⟩ := i
  dsimp only at hi ⊢
  by_cases h6 : op = 6
  · subst h6
    have := ri_6 r m x ca cl cc a w h hl hi
    simpa [insB, plc, wi] using this
  by_cases h7 : op = 7
  · subst h7
    have := ri_7 r m x ca cl cc a w h hl hi
    simpa [insB, plc, wi] using this
  by_cases h8 : op = 8
  · subst h8
    have := ri_8 r m x ca cl cc a w h hl hi
    simpa [insB, plc, wi] using this
  by_cases h13 : op = 13
  · subst h13
    have := ri_13 r m x ca cl cc a w h hl hi
    simpa [insB, plc, wi] using this
  by_cases h14 : op = 14
  · subst h14
    have := ri_14 r m x ca cl cc a w h hl hi
    simpa [insB, plc, wi] using this
  by_cases h1 : op = 1
  · subst h1
    have := ri_1 r m x ca cl cc a w h hl hi
    simpa [insB, plc, wi] using this
  by_cases h2 : op = 2
  · subst h2
    have := ri_2 r m x ca cl cc a w h hl hi
    simpa [insB, plc, wi] using this
  by_cases h9 : op = 9
  · subst h9
    have := ri_9 r m x ca cl cc a w h hl hi
    simpa [insB, plc, wi] using this
  by_cases h10 : op = 10
  · subst h10
    have := ri_10 r m x ca cl cc a w h hl hi
    simpa [insB, plc, wi] using this
  by_cases h11 : op = 11
  · subst h11
    have := ri_11 r m x ca cl cc a w h hl hi
    simpa [insB, plc, wi] using this
  by_cases h16 : op = 16
  · subst h16
    have := ri_16 r m x ca cl cc a w h hl hi
    simpa [insB, plc, wi] using this
  by_cases h17 : op = 17
  · subst h17
    have := ri_17 r m x ca cl cc a w h hl hi
    simpa [insB, plc, wi] using this
  by_cases h18 : op = 18
  · subst h18
    have := ri_18 r m x ca cl cc a w h hl hi
    simpa [insB, plc, wi] using this
  have := ri_no r m x ca cl cc op a w h hl hi h6 h7 h8 h13 h14 h1 h2 h9 h10 h11 h16 h17 h18
  have e1 : insB m x ⟨op, a⟩ = ((ef m op a).2.2 && inR a 1) := by simp [insB, plc, wi, h6, h7, h8, h13, h14, h1, h2, h9, h10, h11, h16, h17, h18]
  rw [e1]; exact this

end Go.Proofs.YtndhhmgbekcfoaaDoor
