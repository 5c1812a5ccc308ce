import Derived.Test.YtndhhmgbekcfoaaDoorE1
namespace Go.Proofs.YtndhhmgbekcfoaaDoor
open Go.RowKit
set_option linter.unusedVariables false
set_option linter.unusedSimpArgs false

/-- The words' variable is as the program's text lays it. -/
def Cw (W : World) : Prop := 0 < W.heap.size ∧ ∀ k, k < 32 → W.cell? ⟨0, k, none⟩ = some (.string (wk k))
theorem Cw.bw {W W' : World} (h : Cw W) (k : BW W W') : Cw W' := ⟨Nat.lt_of_lt_of_le h.1 k.size, fun j hj => (k.cells 0 _ h.1).trans (h.2 j hj)⟩
/-- Both variables. -/
def Vs (W : World) : Prop := Tw W ∧ Cw W
theorem Vs.bw {W W' : World} (h : Vs W) (k : BW W W') : Vs W' := ⟨h.1.bw k, h.2.bw k⟩
theorem tk_wk : ∀ k, k < 32 → tk (wk k).data.toList = wn k := by decide +kernel
theorem wn_pos : ∀ k, k < 32 → 0 ≤ wn k ∧ wn k ≤ 2 := by decide +kernel
/-- What an instruction takes and leaves. -/
def ef (m : Mdl) (op a : Int) : Int × Int × Bool :=
  if (plc m op).2 && !(inR a (plc m op).1) then (0, 0, false)
  else if op = 1 ∨ op = 2 ∨ op = 3 ∨ op = 4 ∨ op = 5 ∨ op = 6 ∨ op = 8 then (0, 1, true)
  else if op = 7 ∨ op = 12 ∨ op = 14 ∨ op = 15 then (1, 0, true)
  else if op = 9 then (match m.pros[a.toNat]? with | some x => if x.u < 0 then (0, 0, false) else (x.u, 1, true) | none => (0, 0, false))
  else if op = 10 then (a + 1, 1, true)
  else if op = 11 then (a + 1, 0, true)
  else if op = 13 then (0, 0, true)
  else if op = 16 then (wn a.toNat, 1, true)
  else if op = 17 then (1, 1, true)
  else if op = 18 then (match m.tabs[a.toNat]? with | some x => ((cls x : Nat) + 1, 1, true) | none => (0, 0, false))
  else if op = 19 ∨ op = 20 then (2, 1, true)
  else if op = 22 then (2, 0, true)
  else if op = 21 then (3, 1, true)
  else (0, 0, false)
theorem bxMI_at {w w' : World} {r : Mw} {x : Ins} (h : BW (bxI (bxM w r) x) w') : MdK w' w.heap.size r ∧ (w'.cell? ⟨w.heap.size + 1, 0, none⟩ = some (.int .u8 x.op) ∧ w'.cell? ⟨w.heap.size + 1, 1, none⟩ = some (.int .i64 x.a)) ∧ w.heap.size + 1 < w'.heap.size ∧ BW w w' := by
  obtain ⟨h1, h2, h3⟩ := bxI_at h
  obtain ⟨h4, h5, h6⟩ := bxM_at h3
  have e : (bxM w r).heap.size = w.heap.size + 1 := by simp
  rw [e] at h1 h2
  exact ⟨h4, h1, h2, h6⟩
set_option maxRecDepth 100000 in
set_option maxHeartbeats 4000000 in
theorem ef_1 (r : Mw) (m : Mdl) (a : Int) (w : World) (h : ModAt w r m) (hv : Vs w) (ha : I64 a) (hr : inR a (m.ints.length : Int) = true) : Calls Tryd.prog 81 #[r.v, .agg #[.int .u8 1, .int .i64 a]] w fun e w' => e = .returned (.tuple #[.int .i64 (0), .int .i64 (1), .bool true]) ∧ BW w w' := by
  have hp : plc m 1 = ((m.ints.length : Int), true) := rfl
  have H : Hid (ModAt w _ m) := h
  have HV : Hid (Vs w) := hv
  clear h hv
  go_enter Tryd.func81, Tryd.ntmps81
  go_wp2_with (first
    | (go_at_call 82; refine (places_any _ m 1 _ (H.out.bw (by repeat (first | exact BW.refl _ | assumption | apply BW.alloc | apply BW.drewN | apply BW.drew | (refine BW.setCell ?_ (by first | omega | (simp; done) | (simp; omega)) _) | (refine BW.trans ?_ (by assumption)))))).mono ?_; rw [hp]; rintro e w1 ⟨rfl, b1⟩; obtain ⟨⟨g0, g1, g2, g3⟩, ⟨g4, g5⟩, gz, gb⟩ := bxMI_at (x := ⟨1, a⟩) b1)
    | (go_at_call 60; refine (below_any a _ _).mono ?_; rw [hr]; rintro e w2 ⟨rfl, rfl⟩))
  go_ret3
  exact ⟨rfl, (by repeat (first | exact BW.refl _ | assumption | apply BW.alloc | apply BW.drewN | apply BW.drew | (refine BW.setCell ?_ (by first | omega | (simp; done) | (simp; omega)) _) | (refine BW.trans ?_ (by assumption))))⟩
set_option maxRecDepth 100000 in
set_option maxHeartbeats 4000000 in
theorem ef_2 (r : Mw) (m : Mdl) (a : Int) (w : World) (h : ModAt w r m) (hv : Vs w) (ha : I64 a) (hr : inR a (m.texts.length : Int) = true) : Calls Tryd.prog 81 #[r.v, .agg #[.int .u8 2, .int .i64 a]] w fun e w' => e = .returned (.tuple #[.int .i64 (0), .int .i64 (1), .bool true]) ∧ BW w w' := by
  have hp : plc m 2 = ((m.texts.length : Int), true) := rfl
  have H : Hid (ModAt w _ m) := h
  have HV : Hid (Vs w) := hv
  clear h hv
  go_enter Tryd.func81, Tryd.ntmps81
  go_wp2_with (first
    | (go_at_call 82; refine (places_any _ m 2 _ (H.out.bw (by repeat (first | exact BW.refl _ | assumption | apply BW.alloc | apply BW.drewN | apply BW.drew | (refine BW.setCell ?_ (by first | omega | (simp; done) | (simp; omega)) _) | (refine BW.trans ?_ (by assumption)))))).mono ?_; rw [hp]; rintro e w1 ⟨rfl, b1⟩; obtain ⟨⟨g0, g1, g2, g3⟩, ⟨g4, g5⟩, gz, gb⟩ := bxMI_at (x := ⟨2, a⟩) b1)
    | (go_at_call 60; refine (below_any a _ _).mono ?_; rw [hr]; rintro e w2 ⟨rfl, rfl⟩))
  go_ret3
  exact ⟨rfl, (by repeat (first | exact BW.refl _ | assumption | apply BW.alloc | apply BW.drewN | apply BW.drew | (refine BW.setCell ?_ (by first | omega | (simp; done) | (simp; omega)) _) | (refine BW.trans ?_ (by assumption))))⟩
set_option maxRecDepth 100000 in
set_option maxHeartbeats 4000000 in
theorem ef_3 (r : Mw) (m : Mdl) (a : Int) (w : World) (h : ModAt w r m) (hv : Vs w) (ha : I64 a) : Calls Tryd.prog 81 #[r.v, .agg #[.int .u8 3, .int .i64 a]] w fun e w' => e = .returned (.tuple #[.int .i64 (0), .int .i64 (1), .bool true]) ∧ BW w w' := by
  have hp : plc m 3 = (0, false) := rfl
  have H : Hid (ModAt w _ m) := h
  have HV : Hid (Vs w) := hv
  clear h hv
  go_enter Tryd.func81, Tryd.ntmps81
  go_wp2_with (first
    | (go_at_call 82; refine (places_any _ m 3 _ (H.out.bw (by repeat (first | exact BW.refl _ | assumption | apply BW.alloc | apply BW.drewN | apply BW.drew | (refine BW.setCell ?_ (by first | omega | (simp; done) | (simp; omega)) _) | (refine BW.trans ?_ (by assumption)))))).mono ?_; rw [hp]; rintro e w1 ⟨rfl, b1⟩; obtain ⟨⟨g0, g1, g2, g3⟩, ⟨g4, g5⟩, gz, gb⟩ := bxMI_at (x := ⟨3, a⟩) b1))
  go_ret3
  exact ⟨rfl, (by repeat (first | exact BW.refl _ | assumption | apply BW.alloc | apply BW.drewN | apply BW.drew | (refine BW.setCell ?_ (by first | omega | (simp; done) | (simp; omega)) _) | (refine BW.trans ?_ (by assumption))))⟩
set_option maxRecDepth 100000 in
set_option maxHeartbeats 4000000 in
theorem ef_4 (r : Mw) (m : Mdl) (a : Int) (w : World) (h : ModAt w r m) (hv : Vs w) (ha : I64 a) : Calls Tryd.prog 81 #[r.v, .agg #[.int .u8 4, .int .i64 a]] w fun e w' => e = .returned (.tuple #[.int .i64 (0), .int .i64 (1), .bool true]) ∧ BW w w' := by
  have hp : plc m 4 = (0, false) := rfl
  have H : Hid (ModAt w _ m) := h
  have HV : Hid (Vs w) := hv
  clear h hv
  go_enter Tryd.func81, Tryd.ntmps81
  go_wp2_with (first
    | (go_at_call 82; refine (places_any _ m 4 _ (H.out.bw (by repeat (first | exact BW.refl _ | assumption | apply BW.alloc | apply BW.drewN | apply BW.drew | (refine BW.setCell ?_ (by first | omega | (simp; done) | (simp; omega)) _) | (refine BW.trans ?_ (by assumption)))))).mono ?_; rw [hp]; rintro e w1 ⟨rfl, b1⟩; obtain ⟨⟨g0, g1, g2, g3⟩, ⟨g4, g5⟩, gz, gb⟩ := bxMI_at (x := ⟨4, a⟩) b1))
  go_ret3
  exact ⟨rfl, (by repeat (first | exact BW.refl _ | assumption | apply BW.alloc | apply BW.drewN | apply BW.drew | (refine BW.setCell ?_ (by first | omega | (simp; done) | (simp; omega)) _) | (refine BW.trans ?_ (by assumption))))⟩
set_option maxRecDepth 100000 in
set_option maxHeartbeats 4000000 in
theorem ef_5 (r : Mw) (m : Mdl) (a : Int) (w : World) (h : ModAt w r m) (hv : Vs w) (ha : I64 a) : Calls Tryd.prog 81 #[r.v, .agg #[.int .u8 5, .int .i64 a]] w fun e w' => e = .returned (.tuple #[.int .i64 (0), .int .i64 (1), .bool true]) ∧ BW w w' := by
  have hp : plc m 5 = (0, false) := rfl
  have H : Hid (ModAt w _ m) := h
  have HV : Hid (Vs w) := hv
  clear h hv
  go_enter Tryd.func81, Tryd.ntmps81
  go_wp2_with (first
    | (go_at_call 82; refine (places_any _ m 5 _ (H.out.bw (by repeat (first | exact BW.refl _ | assumption | apply BW.alloc | apply BW.drewN | apply BW.drew | (refine BW.setCell ?_ (by first | omega | (simp; done) | (simp; omega)) _) | (refine BW.trans ?_ (by assumption)))))).mono ?_; rw [hp]; rintro e w1 ⟨rfl, b1⟩; obtain ⟨⟨g0, g1, g2, g3⟩, ⟨g4, g5⟩, gz, gb⟩ := bxMI_at (x := ⟨5, a⟩) b1))
  go_ret3
  exact ⟨rfl, (by repeat (first | exact BW.refl _ | assumption | apply BW.alloc | apply BW.drewN | apply BW.drew | (refine BW.setCell ?_ (by first | omega | (simp; done) | (simp; omega)) _) | (refine BW.trans ?_ (by assumption))))⟩
set_option maxRecDepth 100000 in
set_option maxHeartbeats 4000000 in
theorem ef_6 (r : Mw) (m : Mdl) (a : Int) (w : World) (h : ModAt w r m) (hv : Vs w) (ha : I64 a) : Calls Tryd.prog 81 #[r.v, .agg #[.int .u8 6, .int .i64 a]] w fun e w' => e = .returned (.tuple #[.int .i64 (0), .int .i64 (1), .bool true]) ∧ BW w w' := by
  have hp : plc m 6 = (0, false) := rfl
  have H : Hid (ModAt w _ m) := h
  have HV : Hid (Vs w) := hv
  clear h hv
  go_enter Tryd.func81, Tryd.ntmps81
  go_wp2_with (first
    | (go_at_call 82; refine (places_any _ m 6 _ (H.out.bw (by repeat (first | exact BW.refl _ | assumption | apply BW.alloc | apply BW.drewN | apply BW.drew | (refine BW.setCell ?_ (by first | omega | (simp; done) | (simp; omega)) _) | (refine BW.trans ?_ (by assumption)))))).mono ?_; rw [hp]; rintro e w1 ⟨rfl, b1⟩; obtain ⟨⟨g0, g1, g2, g3⟩, ⟨g4, g5⟩, gz, gb⟩ := bxMI_at (x := ⟨6, a⟩) b1))
  go_ret3
  exact ⟨rfl, (by repeat (first | exact BW.refl _ | assumption | apply BW.alloc | apply BW.drewN | apply BW.drew | (refine BW.setCell ?_ (by first | omega | (simp; done) | (simp; omega)) _) | (refine BW.trans ?_ (by assumption))))⟩
set_option maxRecDepth 100000 in
set_option maxHeartbeats 4000000 in
theorem ef_7 (r : Mw) (m : Mdl) (a : Int) (w : World) (h : ModAt w r m) (hv : Vs w) (ha : I64 a) : Calls Tryd.prog 81 #[r.v, .agg #[.int .u8 7, .int .i64 a]] w fun e w' => e = .returned (.tuple #[.int .i64 (1), .int .i64 (0), .bool true]) ∧ BW w w' := by
  have hp : plc m 7 = (0, false) := rfl
  have H : Hid (ModAt w _ m) := h
  have HV : Hid (Vs w) := hv
  clear h hv
  go_enter Tryd.func81, Tryd.ntmps81
  go_wp2_with (first
    | (go_at_call 82; refine (places_any _ m 7 _ (H.out.bw (by repeat (first | exact BW.refl _ | assumption | apply BW.alloc | apply BW.drewN | apply BW.drew | (refine BW.setCell ?_ (by first | omega | (simp; done) | (simp; omega)) _) | (refine BW.trans ?_ (by assumption)))))).mono ?_; rw [hp]; rintro e w1 ⟨rfl, b1⟩; obtain ⟨⟨g0, g1, g2, g3⟩, ⟨g4, g5⟩, gz, gb⟩ := bxMI_at (x := ⟨7, a⟩) b1))
  go_ret3
  exact ⟨rfl, (by repeat (first | exact BW.refl _ | assumption | apply BW.alloc | apply BW.drewN | apply BW.drew | (refine BW.setCell ?_ (by first | omega | (simp; done) | (simp; omega)) _) | (refine BW.trans ?_ (by assumption))))⟩
set_option maxRecDepth 100000 in
set_option maxHeartbeats 4000000 in
theorem ef_8 (r : Mw) (m : Mdl) (a : Int) (w : World) (h : ModAt w r m) (hv : Vs w) (ha : I64 a) : Calls Tryd.prog 81 #[r.v, .agg #[.int .u8 8, .int .i64 a]] w fun e w' => e = .returned (.tuple #[.int .i64 (0), .int .i64 (1), .bool true]) ∧ BW w w' := by
  have hp : plc m 8 = (0, false) := rfl
  have H : Hid (ModAt w _ m) := h
  have HV : Hid (Vs w) := hv
  clear h hv
  go_enter Tryd.func81, Tryd.ntmps81
  go_wp2_with (first
    | (go_at_call 82; refine (places_any _ m 8 _ (H.out.bw (by repeat (first | exact BW.refl _ | assumption | apply BW.alloc | apply BW.drewN | apply BW.drew | (refine BW.setCell ?_ (by first | omega | (simp; done) | (simp; omega)) _) | (refine BW.trans ?_ (by assumption)))))).mono ?_; rw [hp]; rintro e w1 ⟨rfl, b1⟩; obtain ⟨⟨g0, g1, g2, g3⟩, ⟨g4, g5⟩, gz, gb⟩ := bxMI_at (x := ⟨8, a⟩) b1))
  go_ret3
  exact ⟨rfl, (by repeat (first | exact BW.refl _ | assumption | apply BW.alloc | apply BW.drewN | apply BW.drew | (refine BW.setCell ?_ (by first | omega | (simp; done) | (simp; omega)) _) | (refine BW.trans ?_ (by assumption))))⟩
set_option maxRecDepth 100000 in
set_option maxHeartbeats 4000000 in
theorem ef_10 (r : Mw) (m : Mdl) (a : Int) (w : World) (h : ModAt w r m) (hv : Vs w) (ha : I64 a) (hr : inR a 201 = true) : Calls Tryd.prog 81 #[r.v, .agg #[.int .u8 10, .int .i64 a]] w fun e w' => e = .returned (.tuple #[.int .i64 (a + 1), .int .i64 (1), .bool true]) ∧ BW w w' := by
  have w1 := i64w (a + 1) (by have := ha; unfold I64 at this; unfold inR at hr; simp at hr; omega) (by unfold inR at hr; simp at hr; omega)
  have hp : plc m 10 = (201, true) := rfl
  have H : Hid (ModAt w _ m) := h
  have HV : Hid (Vs w) := hv
  clear h hv
  go_enter Tryd.func81, Tryd.ntmps81
  go_wp2_with (first
    | (go_at_call 82; refine (places_any _ m 10 _ (H.out.bw (by repeat (first | exact BW.refl _ | assumption | apply BW.alloc | apply BW.drewN | apply BW.drew | (refine BW.setCell ?_ (by first | omega | (simp; done) | (simp; omega)) _) | (refine BW.trans ?_ (by assumption)))))).mono ?_; rw [hp]; rintro e w1 ⟨rfl, b1⟩; obtain ⟨⟨g0, g1, g2, g3⟩, ⟨g4, g5⟩, gz, gb⟩ := bxMI_at (x := ⟨10, a⟩) b1)
    | (go_at_call 60; refine (below_any a _ _).mono ?_; rw [hr]; rintro e w2 ⟨rfl, rfl⟩))
  go_ret3
  exact ⟨rfl, (by repeat (first | exact BW.refl _ | assumption | apply BW.alloc | apply BW.drewN | apply BW.drew | (refine BW.setCell ?_ (by first | omega | (simp; done) | (simp; omega)) _) | (refine BW.trans ?_ (by assumption))))⟩
set_option maxRecDepth 100000 in
set_option maxHeartbeats 4000000 in
theorem ef_11 (r : Mw) (m : Mdl) (a : Int) (w : World) (h : ModAt w r m) (hv : Vs w) (ha : I64 a) (hr : inR a 201 = true) : Calls Tryd.prog 81 #[r.v, .agg #[.int .u8 11, .int .i64 a]] w fun e w' => e = .returned (.tuple #[.int .i64 (a + 1), .int .i64 (0), .bool true]) ∧ BW w w' := by
  have w1 := i64w (a + 1) (by have := ha; unfold I64 at this; unfold inR at hr; simp at hr; omega) (by unfold inR at hr; simp at hr; omega)
  have hp : plc m 11 = (201, true) := rfl
  have H : Hid (ModAt w _ m) := h
  have HV : Hid (Vs w) := hv
  clear h hv
  go_enter Tryd.func81, Tryd.ntmps81
  go_wp2_with (first
    | (go_at_call 82; refine (places_any _ m 11 _ (H.out.bw (by repeat (first | exact BW.refl _ | assumption | apply BW.alloc | apply BW.drewN | apply BW.drew | (refine BW.setCell ?_ (by first | omega | (simp; done) | (simp; omega)) _) | (refine BW.trans ?_ (by assumption)))))).mono ?_; rw [hp]; rintro e w1 ⟨rfl, b1⟩; obtain ⟨⟨g0, g1, g2, g3⟩, ⟨g4, g5⟩, gz, gb⟩ := bxMI_at (x := ⟨11, a⟩) b1)
    | (go_at_call 60; refine (below_any a _ _).mono ?_; rw [hr]; rintro e w2 ⟨rfl, rfl⟩))
  go_ret3
  exact ⟨rfl, (by repeat (first | exact BW.refl _ | assumption | apply BW.alloc | apply BW.drewN | apply BW.drew | (refine BW.setCell ?_ (by first | omega | (simp; done) | (simp; omega)) _) | (refine BW.trans ?_ (by assumption))))⟩
set_option maxRecDepth 100000 in
set_option maxHeartbeats 4000000 in
theorem ef_12 (r : Mw) (m : Mdl) (a : Int) (w : World) (h : ModAt w r m) (hv : Vs w) (ha : I64 a) : Calls Tryd.prog 81 #[r.v, .agg #[.int .u8 12, .int .i64 a]] w fun e w' => e = .returned (.tuple #[.int .i64 (1), .int .i64 (0), .bool true]) ∧ BW w w' := by
  have hp : plc m 12 = (0, false) := rfl
  have H : Hid (ModAt w _ m) := h
  have HV : Hid (Vs w) := hv
  clear h hv
  go_enter Tryd.func81, Tryd.ntmps81
  go_wp2_with (first
    | (go_at_call 82; refine (places_any _ m 12 _ (H.out.bw (by repeat (first | exact BW.refl _ | assumption | apply BW.alloc | apply BW.drewN | apply BW.drew | (refine BW.setCell ?_ (by first | omega | (simp; done) | (simp; omega)) _) | (refine BW.trans ?_ (by assumption)))))).mono ?_; rw [hp]; rintro e w1 ⟨rfl, b1⟩; obtain ⟨⟨g0, g1, g2, g3⟩, ⟨g4, g5⟩, gz, gb⟩ := bxMI_at (x := ⟨12, a⟩) b1))
  go_ret3
  exact ⟨rfl, (by repeat (first | exact BW.refl _ | assumption | apply BW.alloc | apply BW.drewN | apply BW.drew | (refine BW.setCell ?_ (by first | omega | (simp; done) | (simp; omega)) _) | (refine BW.trans ?_ (by assumption))))⟩
set_option maxRecDepth 100000 in
set_option maxHeartbeats 4000000 in
theorem ef_13 (r : Mw) (m : Mdl) (a : Int) (w : World) (h : ModAt w r m) (hv : Vs w) (ha : I64 a) : Calls Tryd.prog 81 #[r.v, .agg #[.int .u8 13, .int .i64 a]] w fun e w' => e = .returned (.tuple #[.int .i64 (0), .int .i64 (0), .bool true]) ∧ BW w w' := by
  have hp : plc m 13 = (0, false) := rfl
  have H : Hid (ModAt w _ m) := h
  have HV : Hid (Vs w) := hv
  clear h hv
  go_enter Tryd.func81, Tryd.ntmps81
  go_wp2_with (first
    | (go_at_call 82; refine (places_any _ m 13 _ (H.out.bw (by repeat (first | exact BW.refl _ | assumption | apply BW.alloc | apply BW.drewN | apply BW.drew | (refine BW.setCell ?_ (by first | omega | (simp; done) | (simp; omega)) _) | (refine BW.trans ?_ (by assumption)))))).mono ?_; rw [hp]; rintro e w1 ⟨rfl, b1⟩; obtain ⟨⟨g0, g1, g2, g3⟩, ⟨g4, g5⟩, gz, gb⟩ := bxMI_at (x := ⟨13, a⟩) b1))
  go_ret3
  exact ⟨rfl, (by repeat (first | exact BW.refl _ | assumption | apply BW.alloc | apply BW.drewN | apply BW.drew | (refine BW.setCell ?_ (by first | omega | (simp; done) | (simp; omega)) _) | (refine BW.trans ?_ (by assumption))))⟩
set_option maxRecDepth 100000 in
set_option maxHeartbeats 4000000 in
theorem ef_14 (r : Mw) (m : Mdl) (a : Int) (w : World) (h : ModAt w r m) (hv : Vs w) (ha : I64 a) : Calls Tryd.prog 81 #[r.v, .agg #[.int .u8 14, .int .i64 a]] w fun e w' => e = .returned (.tuple #[.int .i64 (1), .int .i64 (0), .bool true]) ∧ BW w w' := by
  have hp : plc m 14 = (0, false) := rfl
  have H : Hid (ModAt w _ m) := h
  have HV : Hid (Vs w) := hv
  clear h hv
  go_enter Tryd.func81, Tryd.ntmps81
  go_wp2_with (first
    | (go_at_call 82; refine (places_any _ m 14 _ (H.out.bw (by repeat (first | exact BW.refl _ | assumption | apply BW.alloc | apply BW.drewN | apply BW.drew | (refine BW.setCell ?_ (by first | omega | (simp; done) | (simp; omega)) _) | (refine BW.trans ?_ (by assumption)))))).mono ?_; rw [hp]; rintro e w1 ⟨rfl, b1⟩; obtain ⟨⟨g0, g1, g2, g3⟩, ⟨g4, g5⟩, gz, gb⟩ := bxMI_at (x := ⟨14, a⟩) b1))
  go_ret3
  exact ⟨rfl, (by repeat (first | exact BW.refl _ | assumption | apply BW.alloc | apply BW.drewN | apply BW.drew | (refine BW.setCell ?_ (by first | omega | (simp; done) | (simp; omega)) _) | (refine BW.trans ?_ (by assumption))))⟩
set_option maxRecDepth 100000 in
set_option maxHeartbeats 4000000 in
theorem ef_15 (r : Mw) (m : Mdl) (a : Int) (w : World) (h : ModAt w r m) (hv : Vs w) (ha : I64 a) : Calls Tryd.prog 81 #[r.v, .agg #[.int .u8 15, .int .i64 a]] w fun e w' => e = .returned (.tuple #[.int .i64 (1), .int .i64 (0), .bool true]) ∧ BW w w' := by
  have hp : plc m 15 = (0, false) := rfl
  have H : Hid (ModAt w _ m) := h
  have HV : Hid (Vs w) := hv
  clear h hv
  go_enter Tryd.func81, Tryd.ntmps81
  go_wp2_with (first
    | (go_at_call 82; refine (places_any _ m 15 _ (H.out.bw (by repeat (first | exact BW.refl _ | assumption | apply BW.alloc | apply BW.drewN | apply BW.drew | (refine BW.setCell ?_ (by first | omega | (simp; done) | (simp; omega)) _) | (refine BW.trans ?_ (by assumption)))))).mono ?_; rw [hp]; rintro e w1 ⟨rfl, b1⟩; obtain ⟨⟨g0, g1, g2, g3⟩, ⟨g4, g5⟩, gz, gb⟩ := bxMI_at (x := ⟨15, a⟩) b1))
  go_ret3
  exact ⟨rfl, (by repeat (first | exact BW.refl _ | assumption | apply BW.alloc | apply BW.drewN | apply BW.drew | (refine BW.setCell ?_ (by first | omega | (simp; done) | (simp; omega)) _) | (refine BW.trans ?_ (by assumption))))⟩
set_option maxRecDepth 100000 in
set_option maxHeartbeats 4000000 in
theorem ef_17 (r : Mw) (m : Mdl) (a : Int) (w : World) (h : ModAt w r m) (hv : Vs w) (ha : I64 a) (hr : inR a (m.texts.length : Int) = true) : Calls Tryd.prog 81 #[r.v, .agg #[.int .u8 17, .int .i64 a]] w fun e w' => e = .returned (.tuple #[.int .i64 (1), .int .i64 (1), .bool true]) ∧ BW w w' := by
  have hp : plc m 17 = ((m.texts.length : Int), true) := rfl
  have H : Hid (ModAt w _ m) := h
  have HV : Hid (Vs w) := hv
  clear h hv
  go_enter Tryd.func81, Tryd.ntmps81
  go_wp2_with (first
    | (go_at_call 82; refine (places_any _ m 17 _ (H.out.bw (by repeat (first | exact BW.refl _ | assumption | apply BW.alloc | apply BW.drewN | apply BW.drew | (refine BW.setCell ?_ (by first | omega | (simp; done) | (simp; omega)) _) | (refine BW.trans ?_ (by assumption)))))).mono ?_; rw [hp]; rintro e w1 ⟨rfl, b1⟩; obtain ⟨⟨g0, g1, g2, g3⟩, ⟨g4, g5⟩, gz, gb⟩ := bxMI_at (x := ⟨17, a⟩) b1)
    | (go_at_call 60; refine (below_any a _ _).mono ?_; rw [hr]; rintro e w2 ⟨rfl, rfl⟩))
  go_ret3
  exact ⟨rfl, (by repeat (first | exact BW.refl _ | assumption | apply BW.alloc | apply BW.drewN | apply BW.drew | (refine BW.setCell ?_ (by first | omega | (simp; done) | (simp; omega)) _) | (refine BW.trans ?_ (by assumption))))⟩
set_option maxRecDepth 100000 in
set_option maxHeartbeats 4000000 in
theorem ef_19 (r : Mw) (m : Mdl) (a : Int) (w : World) (h : ModAt w r m) (hv : Vs w) (ha : I64 a) : Calls Tryd.prog 81 #[r.v, .agg #[.int .u8 19, .int .i64 a]] w fun e w' => e = .returned (.tuple #[.int .i64 (2), .int .i64 (1), .bool true]) ∧ BW w w' := by
  have hp : plc m 19 = (0, false) := rfl
  have H : Hid (ModAt w _ m) := h
  have HV : Hid (Vs w) := hv
  clear h hv
  go_enter Tryd.func81, Tryd.ntmps81
  go_wp2_with (first
    | (go_at_call 82; refine (places_any _ m 19 _ (H.out.bw (by repeat (first | exact BW.refl _ | assumption | apply BW.alloc | apply BW.drewN | apply BW.drew | (refine BW.setCell ?_ (by first | omega | (simp; done) | (simp; omega)) _) | (refine BW.trans ?_ (by assumption)))))).mono ?_; rw [hp]; rintro e w1 ⟨rfl, b1⟩; obtain ⟨⟨g0, g1, g2, g3⟩, ⟨g4, g5⟩, gz, gb⟩ := bxMI_at (x := ⟨19, a⟩) b1))
  go_ret3
  exact ⟨rfl, (by repeat (first | exact BW.refl _ | assumption | apply BW.alloc | apply BW.drewN | apply BW.drew | (refine BW.setCell ?_ (by first | omega | (simp; done) | (simp; omega)) _) | (refine BW.trans ?_ (by assumption))))⟩
set_option maxRecDepth 100000 in
set_option maxHeartbeats 4000000 in
theorem ef_20 (r : Mw) (m : Mdl) (a : Int) (w : World) (h : ModAt w r m) (hv : Vs w) (ha : I64 a) : Calls Tryd.prog 81 #[r.v, .agg #[.int .u8 20, .int .i64 a]] w fun e w' => e = .returned (.tuple #[.int .i64 (2), .int .i64 (1), .bool true]) ∧ BW w w' := by
  have hp : plc m 20 = (0, false) := rfl
  have H : Hid (ModAt w _ m) := h
  have HV : Hid (Vs w) := hv
  clear h hv
  go_enter Tryd.func81, Tryd.ntmps81
  go_wp2_with (first
    | (go_at_call 82; refine (places_any _ m 20 _ (H.out.bw (by repeat (first | exact BW.refl _ | assumption | apply BW.alloc | apply BW.drewN | apply BW.drew | (refine BW.setCell ?_ (by first | omega | (simp; done) | (simp; omega)) _) | (refine BW.trans ?_ (by assumption)))))).mono ?_; rw [hp]; rintro e w1 ⟨rfl, b1⟩; obtain ⟨⟨g0, g1, g2, g3⟩, ⟨g4, g5⟩, gz, gb⟩ := bxMI_at (x := ⟨20, a⟩) b1))
  go_ret3
  exact ⟨rfl, (by repeat (first | exact BW.refl _ | assumption | apply BW.alloc | apply BW.drewN | apply BW.drew | (refine BW.setCell ?_ (by first | omega | (simp; done) | (simp; omega)) _) | (refine BW.trans ?_ (by assumption))))⟩
set_option maxRecDepth 100000 in
set_option maxHeartbeats 4000000 in
theorem ef_21 (r : Mw) (m : Mdl) (a : Int) (w : World) (h : ModAt w r m) (hv : Vs w) (ha : I64 a) : Calls Tryd.prog 81 #[r.v, .agg #[.int .u8 21, .int .i64 a]] w fun e w' => e = .returned (.tuple #[.int .i64 (3), .int .i64 (1), .bool true]) ∧ BW w w' := by
  have hp : plc m 21 = (0, false) := rfl
  have H : Hid (ModAt w _ m) := h
  have HV : Hid (Vs w) := hv
  clear h hv
  go_enter Tryd.func81, Tryd.ntmps81
  go_wp2_with (first
    | (go_at_call 82; refine (places_any _ m 21 _ (H.out.bw (by repeat (first | exact BW.refl _ | assumption | apply BW.alloc | apply BW.drewN | apply BW.drew | (refine BW.setCell ?_ (by first | omega | (simp; done) | (simp; omega)) _) | (refine BW.trans ?_ (by assumption)))))).mono ?_; rw [hp]; rintro e w1 ⟨rfl, b1⟩; obtain ⟨⟨g0, g1, g2, g3⟩, ⟨g4, g5⟩, gz, gb⟩ := bxMI_at (x := ⟨21, a⟩) b1))
  go_ret3
  exact ⟨rfl, (by repeat (first | exact BW.refl _ | assumption | apply BW.alloc | apply BW.drewN | apply BW.drew | (refine BW.setCell ?_ (by first | omega | (simp; done) | (simp; omega)) _) | (refine BW.trans ?_ (by assumption))))⟩
set_option maxRecDepth 100000 in
set_option maxHeartbeats 4000000 in
theorem ef_22 (r : Mw) (m : Mdl) (a : Int) (w : World) (h : ModAt w r m) (hv : Vs w) (ha : I64 a) : Calls Tryd.prog 81 #[r.v, .agg #[.int .u8 22, .int .i64 a]] w fun e w' => e = .returned (.tuple #[.int .i64 (2), .int .i64 (0), .bool true]) ∧ BW w w' := by
  have hp : plc m 22 = (0, false) := rfl
  have H : Hid (ModAt w _ m) := h
  have HV : Hid (Vs w) := hv
  clear h hv
  go_enter Tryd.func81, Tryd.ntmps81
  go_wp2_with (first
    | (go_at_call 82; refine (places_any _ m 22 _ (H.out.bw (by repeat (first | exact BW.refl _ | assumption | apply BW.alloc | apply BW.drewN | apply BW.drew | (refine BW.setCell ?_ (by first | omega | (simp; done) | (simp; omega)) _) | (refine BW.trans ?_ (by assumption)))))).mono ?_; rw [hp]; rintro e w1 ⟨rfl, b1⟩; obtain ⟨⟨g0, g1, g2, g3⟩, ⟨g4, g5⟩, gz, gb⟩ := bxMI_at (x := ⟨22, a⟩) b1))
  go_ret3
  exact ⟨rfl, (by repeat (first | exact BW.refl _ | assumption | apply BW.alloc | apply BW.drewN | apply BW.drew | (refine BW.setCell ?_ (by first | omega | (simp; done) | (simp; omega)) _) | (refine BW.trans ?_ (by assumption))))⟩

end Go.Proofs.YtndhhmgbekcfoaaDoor
