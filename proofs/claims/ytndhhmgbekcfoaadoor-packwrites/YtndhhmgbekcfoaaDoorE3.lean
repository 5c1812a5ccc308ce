import Derived.Test.YtndhhmgbekcfoaaDoorE2
namespace Go.Proofs.YtndhhmgbekcfoaaDoor
open Go.RowKit
set_option linter.unusedVariables false
set_option linter.unusedSimpArgs false

theorem cls_le {w : World} {x : Tbl} {oa : Option Addr} {ol oc : Nat} (h : TbV w x oa ol oc) : cls x ≤ 140737488355330 := by
  have h1 := h.2.2.2.1
  have h2 := h.2.2.1
  unfold cls
  cases x.ret <;> cases x.fin <;> simp <;> omega
set_option maxRecDepth 100000 in
set_option maxHeartbeats 4000000 in
theorem ef_1b (r : Mw) (m : Mdl) (a : Int) (w : World) (h : ModAt w r m) (hv : Vs w) (ha : I64 a) (hr : inR a (m.ints.length : Int) = false) : Calls Tryd.prog 81 #[r.v, .agg #[.int .u8 1, .int .i64 a]] w fun e w' => e = .returned (.tuple #[.int .i64 (0), .int .i64 (0), .bool false]) ∧ BW w w' := by
  have hp : plc m 1 = ((m.ints.length : Int), true) := rfl
  have H : Hid (ModAt w _ m) := h
  have HV : Hid (Vs w) := hv
  clear h hv
  go_enter Tryd.func81, Tryd.ntmps81
  go_wp2_with (first
    | (go_at_call 82; refine (places_any _ m 1 _ (H.out.bw (by repeat (first | exact BW.refl _ | assumption | apply BW.alloc | apply BW.drewN | apply BW.drew | (refine BW.setCell ?_ (by first | omega | (simp; done) | (simp; omega)) _) | (refine BW.trans ?_ (by assumption)))))).mono ?_; rw [hp]; rintro e w1 ⟨rfl, b1⟩; obtain ⟨⟨g0, g1, g2, g3⟩, ⟨g4, g5⟩, gz, gb⟩ := bxMI_at (x := ⟨1, a⟩) b1)
    | (go_at_call 60; refine (below_any a _ _).mono ?_; rw [hr]; rintro e w2 ⟨rfl, rfl⟩))
  go_ret3
  exact ⟨rfl, (by repeat (first | exact BW.refl _ | assumption | apply BW.alloc | apply BW.drewN | apply BW.drew | (refine BW.setCell ?_ (by first | omega | (simp; done) | (simp; omega)) _) | (refine BW.trans ?_ (by assumption))))⟩
set_option maxRecDepth 100000 in
set_option maxHeartbeats 4000000 in
theorem ef_2b (r : Mw) (m : Mdl) (a : Int) (w : World) (h : ModAt w r m) (hv : Vs w) (ha : I64 a) (hr : inR a (m.texts.length : Int) = false) : Calls Tryd.prog 81 #[r.v, .agg #[.int .u8 2, .int .i64 a]] w fun e w' => e = .returned (.tuple #[.int .i64 (0), .int .i64 (0), .bool false]) ∧ BW w w' := by
  have hp : plc m 2 = ((m.texts.length : Int), true) := rfl
  have H : Hid (ModAt w _ m) := h
  have HV : Hid (Vs w) := hv
  clear h hv
  go_enter Tryd.func81, Tryd.ntmps81
  go_wp2_with (first
    | (go_at_call 82; refine (places_any _ m 2 _ (H.out.bw (by repeat (first | exact BW.refl _ | assumption | apply BW.alloc | apply BW.drewN | apply BW.drew | (refine BW.setCell ?_ (by first | omega | (simp; done) | (simp; omega)) _) | (refine BW.trans ?_ (by assumption)))))).mono ?_; rw [hp]; rintro e w1 ⟨rfl, b1⟩; obtain ⟨⟨g0, g1, g2, g3⟩, ⟨g4, g5⟩, gz, gb⟩ := bxMI_at (x := ⟨2, a⟩) b1)
    | (go_at_call 60; refine (below_any a _ _).mono ?_; rw [hr]; rintro e w2 ⟨rfl, rfl⟩))
  go_ret3
  exact ⟨rfl, (by repeat (first | exact BW.refl _ | assumption | apply BW.alloc | apply BW.drewN | apply BW.drew | (refine BW.setCell ?_ (by first | omega | (simp; done) | (simp; omega)) _) | (refine BW.trans ?_ (by assumption))))⟩
set_option maxRecDepth 100000 in
set_option maxHeartbeats 4000000 in
theorem ef_17b (r : Mw) (m : Mdl) (a : Int) (w : World) (h : ModAt w r m) (hv : Vs w) (ha : I64 a) (hr : inR a (m.texts.length : Int) = false) : Calls Tryd.prog 81 #[r.v, .agg #[.int .u8 17, .int .i64 a]] w fun e w' => e = .returned (.tuple #[.int .i64 (0), .int .i64 (0), .bool false]) ∧ BW w w' := by
  have hp : plc m 17 = ((m.texts.length : Int), true) := rfl
  have H : Hid (ModAt w _ m) := h
  have HV : Hid (Vs w) := hv
  clear h hv
  go_enter Tryd.func81, Tryd.ntmps81
  go_wp2_with (first
    | (go_at_call 82; refine (places_any _ m 17 _ (H.out.bw (by repeat (first | exact BW.refl _ | assumption | apply BW.alloc | apply BW.drewN | apply BW.drew | (refine BW.setCell ?_ (by first | omega | (simp; done) | (simp; omega)) _) | (refine BW.trans ?_ (by assumption)))))).mono ?_; rw [hp]; rintro e w1 ⟨rfl, b1⟩; obtain ⟨⟨g0, g1, g2, g3⟩, ⟨g4, g5⟩, gz, gb⟩ := bxMI_at (x := ⟨17, a⟩) b1)
    | (go_at_call 60; refine (below_any a _ _).mono ?_; rw [hr]; rintro e w2 ⟨rfl, rfl⟩))
  go_ret3
  exact ⟨rfl, (by repeat (first | exact BW.refl _ | assumption | apply BW.alloc | apply BW.drewN | apply BW.drew | (refine BW.setCell ?_ (by first | omega | (simp; done) | (simp; omega)) _) | (refine BW.trans ?_ (by assumption))))⟩
set_option maxRecDepth 100000 in
set_option maxHeartbeats 4000000 in
theorem ef_9b (r : Mw) (m : Mdl) (a : Int) (w : World) (h : ModAt w r m) (hv : Vs w) (ha : I64 a) (hr : inR a (m.pros.length : Int) = false) : Calls Tryd.prog 81 #[r.v, .agg #[.int .u8 9, .int .i64 a]] w fun e w' => e = .returned (.tuple #[.int .i64 (0), .int .i64 (0), .bool false]) ∧ BW w w' := by
  have hp : plc m 9 = ((m.pros.length : Int), true) := rfl
  have H : Hid (ModAt w _ m) := h
  have HV : Hid (Vs w) := hv
  clear h hv
  go_enter Tryd.func81, Tryd.ntmps81
  go_wp2_with (first
    | (go_at_call 82; refine (places_any _ m 9 _ (H.out.bw (by repeat (first | exact BW.refl _ | assumption | apply BW.alloc | apply BW.drewN | apply BW.drew | (refine BW.setCell ?_ (by first | omega | (simp; done) | (simp; omega)) _) | (refine BW.trans ?_ (by assumption)))))).mono ?_; rw [hp]; rintro e w1 ⟨rfl, b1⟩; obtain ⟨⟨g0, g1, g2, g3⟩, ⟨g4, g5⟩, gz, gb⟩ := bxMI_at (x := ⟨9, a⟩) b1)
    | (go_at_call 60; refine (below_any a _ _).mono ?_; rw [hr]; rintro e w2 ⟨rfl, rfl⟩))
  go_ret3
  exact ⟨rfl, (by repeat (first | exact BW.refl _ | assumption | apply BW.alloc | apply BW.drewN | apply BW.drew | (refine BW.setCell ?_ (by first | omega | (simp; done) | (simp; omega)) _) | (refine BW.trans ?_ (by assumption))))⟩
set_option maxRecDepth 100000 in
set_option maxHeartbeats 4000000 in
theorem ef_10b (r : Mw) (m : Mdl) (a : Int) (w : World) (h : ModAt w r m) (hv : Vs w) (ha : I64 a) (hr : inR a 201 = false) : Calls Tryd.prog 81 #[r.v, .agg #[.int .u8 10, .int .i64 a]] w fun e w' => e = .returned (.tuple #[.int .i64 (0), .int .i64 (0), .bool false]) ∧ BW w w' := by
  have hp : plc m 10 = (201, true) := rfl
  have H : Hid (ModAt w _ m) := h
  have HV : Hid (Vs w) := hv
  clear h hv
  go_enter Tryd.func81, Tryd.ntmps81
  go_wp2_with (first
    | (go_at_call 82; refine (places_any _ m 10 _ (H.out.bw (by repeat (first | exact BW.refl _ | assumption | apply BW.alloc | apply BW.drewN | apply BW.drew | (refine BW.setCell ?_ (by first | omega | (simp; done) | (simp; omega)) _) | (refine BW.trans ?_ (by assumption)))))).mono ?_; rw [hp]; rintro e w1 ⟨rfl, b1⟩; obtain ⟨⟨g0, g1, g2, g3⟩, ⟨g4, g5⟩, gz, gb⟩ := bxMI_at (x := ⟨10, a⟩) b1)
    | (go_at_call 60; refine (below_any a _ _).mono ?_; rw [hr]; rintro e w2 ⟨rfl, rfl⟩))
  go_ret3
  exact ⟨rfl, (by repeat (first | exact BW.refl _ | assumption | apply BW.alloc | apply BW.drewN | apply BW.drew | (refine BW.setCell ?_ (by first | omega | (simp; done) | (simp; omega)) _) | (refine BW.trans ?_ (by assumption))))⟩
set_option maxRecDepth 100000 in
set_option maxHeartbeats 4000000 in
theorem ef_11b (r : Mw) (m : Mdl) (a : Int) (w : World) (h : ModAt w r m) (hv : Vs w) (ha : I64 a) (hr : inR a 201 = false) : Calls Tryd.prog 81 #[r.v, .agg #[.int .u8 11, .int .i64 a]] w fun e w' => e = .returned (.tuple #[.int .i64 (0), .int .i64 (0), .bool false]) ∧ BW w w' := by
  have hp : plc m 11 = (201, true) := rfl
  have H : Hid (ModAt w _ m) := h
  have HV : Hid (Vs w) := hv
  clear h hv
  go_enter Tryd.func81, Tryd.ntmps81
  go_wp2_with (first
    | (go_at_call 82; refine (places_any _ m 11 _ (H.out.bw (by repeat (first | exact BW.refl _ | assumption | apply BW.alloc | apply BW.drewN | apply BW.drew | (refine BW.setCell ?_ (by first | omega | (simp; done) | (simp; omega)) _) | (refine BW.trans ?_ (by assumption)))))).mono ?_; rw [hp]; rintro e w1 ⟨rfl, b1⟩; obtain ⟨⟨g0, g1, g2, g3⟩, ⟨g4, g5⟩, gz, gb⟩ := bxMI_at (x := ⟨11, a⟩) b1)
    | (go_at_call 60; refine (below_any a _ _).mono ?_; rw [hr]; rintro e w2 ⟨rfl, rfl⟩))
  go_ret3
  exact ⟨rfl, (by repeat (first | exact BW.refl _ | assumption | apply BW.alloc | apply BW.drewN | apply BW.drew | (refine BW.setCell ?_ (by first | omega | (simp; done) | (simp; omega)) _) | (refine BW.trans ?_ (by assumption))))⟩
set_option maxRecDepth 100000 in
set_option maxHeartbeats 4000000 in
theorem ef_16b (r : Mw) (m : Mdl) (a : Int) (w : World) (h : ModAt w r m) (hv : Vs w) (ha : I64 a) (hr : inR a 32 = false) : Calls Tryd.prog 81 #[r.v, .agg #[.int .u8 16, .int .i64 a]] w fun e w' => e = .returned (.tuple #[.int .i64 (0), .int .i64 (0), .bool false]) ∧ BW w w' := by
  have hp : plc m 16 = (32, true) := rfl
  have H : Hid (ModAt w _ m) := h
  have HV : Hid (Vs w) := hv
  clear h hv
  go_enter Tryd.func81, Tryd.ntmps81
  go_wp2_with (first
    | (go_at_call 82; refine (places_any _ m 16 _ (H.out.bw (by repeat (first | exact BW.refl _ | assumption | apply BW.alloc | apply BW.drewN | apply BW.drew | (refine BW.setCell ?_ (by first | omega | (simp; done) | (simp; omega)) _) | (refine BW.trans ?_ (by assumption)))))).mono ?_; rw [hp]; rintro e w1 ⟨rfl, b1⟩; obtain ⟨⟨g0, g1, g2, g3⟩, ⟨g4, g5⟩, gz, gb⟩ := bxMI_at (x := ⟨16, a⟩) b1)
    | (go_at_call 60; refine (below_any a _ _).mono ?_; rw [hr]; rintro e w2 ⟨rfl, rfl⟩))
  go_ret3
  exact ⟨rfl, (by repeat (first | exact BW.refl _ | assumption | apply BW.alloc | apply BW.drewN | apply BW.drew | (refine BW.setCell ?_ (by first | omega | (simp; done) | (simp; omega)) _) | (refine BW.trans ?_ (by assumption))))⟩
set_option maxRecDepth 100000 in
set_option maxHeartbeats 4000000 in
theorem ef_18b (r : Mw) (m : Mdl) (a : Int) (w : World) (h : ModAt w r m) (hv : Vs w) (ha : I64 a) (hr : inR a (m.tabs.length : Int) = false) : Calls Tryd.prog 81 #[r.v, .agg #[.int .u8 18, .int .i64 a]] w fun e w' => e = .returned (.tuple #[.int .i64 (0), .int .i64 (0), .bool false]) ∧ BW w w' := by
  have hp : plc m 18 = ((m.tabs.length : Int), true) := rfl
  have H : Hid (ModAt w _ m) := h
  have HV : Hid (Vs w) := hv
  clear h hv
  go_enter Tryd.func81, Tryd.ntmps81
  go_wp2_with (first
    | (go_at_call 82; refine (places_any _ m 18 _ (H.out.bw (by repeat (first | exact BW.refl _ | assumption | apply BW.alloc | apply BW.drewN | apply BW.drew | (refine BW.setCell ?_ (by first | omega | (simp; done) | (simp; omega)) _) | (refine BW.trans ?_ (by assumption)))))).mono ?_; rw [hp]; rintro e w1 ⟨rfl, b1⟩; obtain ⟨⟨g0, g1, g2, g3⟩, ⟨g4, g5⟩, gz, gb⟩ := bxMI_at (x := ⟨18, a⟩) b1)
    | (go_at_call 60; refine (below_any a _ _).mono ?_; rw [hr]; rintro e w2 ⟨rfl, rfl⟩))
  go_ret3
  exact ⟨rfl, (by repeat (first | exact BW.refl _ | assumption | apply BW.alloc | apply BW.drewN | apply BW.drew | (refine BW.setCell ?_ (by first | omega | (simp; done) | (simp; omega)) _) | (refine BW.trans ?_ (by assumption))))⟩
set_option maxRecDepth 100000 in
set_option maxHeartbeats 4000000 in
theorem ef_no (r : Mw) (m : Mdl) (op a : Int) (w : World) (h : ModAt w r m) (hv : Vs w) (ha : I64 a) (h1 : ¬ op = 1) (h2 : ¬ op = 2) (h3 : ¬ op = 3) (h4 : ¬ op = 4) (h5 : ¬ op = 5) (h6 : ¬ op = 6) (h7 : ¬ op = 7) (h8 : ¬ op = 8) (h9 : ¬ op = 9) (h10 : ¬ op = 10) (h11 : ¬ op = 11) (h12 : ¬ op = 12) (h13 : ¬ op = 13) (h14 : ¬ op = 14) (h15 : ¬ op = 15) (h16 : ¬ op = 16) (h17 : ¬ op = 17) (h18 : ¬ op = 18) (h19 : ¬ op = 19) (h20 : ¬ op = 20) (h21 : ¬ op = 21) (h22 : ¬ op = 22) : Calls Tryd.prog 81 #[r.v, .agg #[.int .u8 op, .int .i64 a]] w fun e w' => e = .returned (.tuple #[.int .i64 (0), .int .i64 (0), .bool false]) ∧ BW w w' := by
  have hp : plc m op = (0, false) := by simp [plc, h1, h2, h17, h9, h10, h11, h16, h18]
  have e1 : (op == 1) = false := by simpa using h1
  have e2 : (op == 2) = false := by simpa using h2
  have e3 : (op == 3) = false := by simpa using h3
  have e4 : (op == 4) = false := by simpa using h4
  have e5 : (op == 5) = false := by simpa using h5
  have e6 : (op == 6) = false := by simpa using h6
  have e7 : (op == 7) = false := by simpa using h7
  have e8 : (op == 8) = false := by simpa using h8
  have e9 : (op == 9) = false := by simpa using h9
  have e10 : (op == 10) = false := by simpa using h10
  have e11 : (op == 11) = false := by simpa using h11
  have e12 : (op == 12) = false := by simpa using h12
  have e13 : (op == 13) = false := by simpa using h13
  have e14 : (op == 14) = false := by simpa using h14
  have e15 : (op == 15) = false := by simpa using h15
  have e16 : (op == 16) = false := by simpa using h16
  have e17 : (op == 17) = false := by simpa using h17
  have e18 : (op == 18) = false := by simpa using h18
  have e19 : (op == 19) = false := by simpa using h19
  have e20 : (op == 20) = false := by simpa using h20
  have e21 : (op == 21) = false := by simpa using h21
  have e22 : (op == 22) = false := by simpa using h22
  have H : Hid (ModAt w _ m) := h
  have HV : Hid (Vs w) := hv
  clear h hv
  go_enter Tryd.func81, Tryd.ntmps81
  go_wp2_with (first
    | (go_at_call 82; refine (places_any _ m op _ (H.out.bw (by repeat (first | exact BW.refl _ | assumption | apply BW.alloc | apply BW.drewN | apply BW.drew | (refine BW.setCell ?_ (by first | omega | (simp; done) | (simp; omega)) _) | (refine BW.trans ?_ (by assumption)))))).mono ?_; rw [hp]; rintro e w1 ⟨rfl, b1⟩; obtain ⟨⟨g0, g1, g2, g3⟩, ⟨g4, g5⟩, gz, gb⟩ := bxMI_at (x := ⟨op, a⟩) b1))
  go_ret3
  exact ⟨rfl, (by repeat (first | exact BW.refl _ | assumption | apply BW.alloc | apply BW.drewN | apply BW.drew | (refine BW.setCell ?_ (by first | omega | (simp; done) | (simp; omega)) _) | (refine BW.trans ?_ (by assumption))))⟩
set_option maxRecDepth 100000 in
set_option maxHeartbeats 4000000 in
theorem ef_9 (r : Mw) (m : Mdl) (k : Nat) (w : World) (h : ModAt w r m) (hv : Vs w)  (x : Pro) (hx : m.pros[k]? = some x) (hu : ¬ x.u < 0) : Calls Tryd.prog 81 #[r.v, .agg #[.int .u8 9, .int .i64 (k : Nat)]] w fun e w' => e = .returned (.tuple #[.int .i64 (x.u), .int .i64 (1), .bool true]) ∧ BW w w' := by
  have hr : inR (k : Int) (m.pros.length : Int) = true := by have := (List.getElem?_eq_some_iff.1 hx).1; simp [inR]; omega
  have hp : plc m 9 = ((m.pros.length : Int), true) := rfl
  obtain ⟨_, _, l3, _, _, _, b3, _⟩ := h.lens
  have hlt : k < r.pl := by have := (List.getElem?_eq_some_iff.1 hx).1; omega
  clear l3
  obtain ⟨ia, il, ic, ta, tl, tc, pa, pl, pc, ha', hl, hc⟩ := r
  dsimp only at hlt b3
  obtain ⟨b, off, x', rfl, hbl, hx', ca, cl, cc, hK, hV⟩ := RowAt.get h.pros hlt
  obtain rfl : x = x' := Option.some.inj (hx.symm.trans hx')
  have HK : Hid _ := hK
  have HU : Hid _ := hu
  clear hK hV hx hx' hu
  have H : Hid (ModAt w _ m) := h
  have HV : Hid (Vs w) := hv
  clear h hv
  go_enter Tryd.func81, Tryd.ntmps81
  go_wp2_with (first
    | (go_at_call 82; refine (places_any ⟨ia, il, ic, ta, tl, tc, some ⟨b, off, none⟩, pl, pc, ha', hl, hc⟩ m 9 _ (H.out.bw (by repeat (first | exact BW.refl _ | assumption | apply BW.alloc | apply BW.drewN | apply BW.drew | (refine BW.setCell ?_ (by first | omega | (simp; done) | (simp; omega)) _) | (refine BW.trans ?_ (by assumption)))))).mono ?_; rw [hp]; rintro e w1 ⟨rfl, b1⟩; obtain ⟨⟨g0, g1, g2, g3⟩, ⟨g4, g5⟩, gz, gb⟩ := bxMI_at (r := ⟨ia, il, ic, ta, tl, tc, some ⟨b, off, none⟩, pl, pc, ha', hl, hc⟩) (x := ⟨9, (k : Int)⟩) b1)
    | (go_at_call 60; refine (below_any _ _ _).mono ?_; rw [hr]; rintro e w2 ⟨rfl, rfl⟩; obtain ⟨d0, d1, d2, d3⟩ := PrK.bw HK.out gb hbl)
    | (go_at_call 89; refine (captures_any x ca cl cc _).mono ?_; rw [if_neg HU.out]; rintro e w3 ⟨rfl, b3⟩))
  go_ret3
  exact ⟨rfl, (by repeat (first | exact BW.refl _ | assumption | apply BW.alloc | apply BW.drewN | apply BW.drew | (refine BW.setCell ?_ (by first | omega | (simp; done) | (simp; omega)) _) | (refine BW.trans ?_ (by assumption))))⟩
set_option maxRecDepth 100000 in
set_option maxHeartbeats 4000000 in
theorem ef_9n (r : Mw) (m : Mdl) (k : Nat) (w : World) (h : ModAt w r m) (hv : Vs w)  (x : Pro) (hx : m.pros[k]? = some x) (hu : x.u < 0) : Calls Tryd.prog 81 #[r.v, .agg #[.int .u8 9, .int .i64 (k : Nat)]] w fun e w' => e = .returned (.tuple #[.int .i64 (0), .int .i64 (0), .bool false]) ∧ BW w w' := by
  have hr : inR (k : Int) (m.pros.length : Int) = true := by have := (List.getElem?_eq_some_iff.1 hx).1; simp [inR]; omega
  have hp : plc m 9 = ((m.pros.length : Int), true) := rfl
  obtain ⟨_, _, l3, _, _, _, b3, _⟩ := h.lens
  have hlt : k < r.pl := by have := (List.getElem?_eq_some_iff.1 hx).1; omega
  clear l3
  obtain ⟨ia, il, ic, ta, tl, tc, pa, pl, pc, ha', hl, hc⟩ := r
  dsimp only at hlt b3
  obtain ⟨b, off, x', rfl, hbl, hx', ca, cl, cc, hK, hV⟩ := RowAt.get h.pros hlt
  obtain rfl : x = x' := Option.some.inj (hx.symm.trans hx')
  have HK : Hid _ := hK
  have HU : Hid _ := hu
  clear hK hV hx hx' hu
  have H : Hid (ModAt w _ m) := h
  have HV : Hid (Vs w) := hv
  clear h hv
  go_enter Tryd.func81, Tryd.ntmps81
  go_wp2_with (first
    | (go_at_call 82; refine (places_any ⟨ia, il, ic, ta, tl, tc, some ⟨b, off, none⟩, pl, pc, ha', hl, hc⟩ m 9 _ (H.out.bw (by repeat (first | exact BW.refl _ | assumption | apply BW.alloc | apply BW.drewN | apply BW.drew | (refine BW.setCell ?_ (by first | omega | (simp; done) | (simp; omega)) _) | (refine BW.trans ?_ (by assumption)))))).mono ?_; rw [hp]; rintro e w1 ⟨rfl, b1⟩; obtain ⟨⟨g0, g1, g2, g3⟩, ⟨g4, g5⟩, gz, gb⟩ := bxMI_at (r := ⟨ia, il, ic, ta, tl, tc, some ⟨b, off, none⟩, pl, pc, ha', hl, hc⟩) (x := ⟨9, (k : Int)⟩) b1)
    | (go_at_call 60; refine (below_any _ _ _).mono ?_; rw [hr]; rintro e w2 ⟨rfl, rfl⟩; obtain ⟨d0, d1, d2, d3⟩ := PrK.bw HK.out gb hbl)
    | (go_at_call 89; refine (captures_any x ca cl cc _).mono ?_; rw [if_pos HU.out]; rintro e w3 ⟨rfl, b3⟩))
  go_ret3
  exact ⟨rfl, (by repeat (first | exact BW.refl _ | assumption | apply BW.alloc | apply BW.drewN | apply BW.drew | (refine BW.setCell ?_ (by first | omega | (simp; done) | (simp; omega)) _) | (refine BW.trans ?_ (by assumption))))⟩
set_option maxRecDepth 100000 in
set_option maxHeartbeats 4000000 in
theorem ef_16 (r : Mw) (m : Mdl) (k : Nat) (w : World) (h : ModAt w r m) (hv : Vs w)  (hk : k < 32) : Calls Tryd.prog 81 #[r.v, .agg #[.int .u8 16, .int .i64 (k : Nat)]] w fun e w' => e = .returned (.tuple #[.int .i64 (wn k), .int .i64 (1), .bool true]) ∧ BW w w' := by
  have hr : inR (k : Int) 32 = true := by simp [inR]; omega
  have hp : plc m 16 = (32, true) := rfl
  have H : Hid (ModAt w _ m) := h
  have HV : Hid (Vs w) := hv
  clear h hv
  go_enter Tryd.func81, Tryd.ntmps81
  go_wp2_with (first
    | (go_at_call 82; refine (places_any _ m 16 _ (H.out.bw (by repeat (first | exact BW.refl _ | assumption | apply BW.alloc | apply BW.drewN | apply BW.drew | (refine BW.setCell ?_ (by first | omega | (simp; done) | (simp; omega)) _) | (refine BW.trans ?_ (by assumption)))))).mono ?_; rw [hp]; rintro e w1 ⟨rfl, b1⟩; obtain ⟨⟨g0, g1, g2, g3⟩, ⟨g4, g5⟩, gz, gb⟩ := bxMI_at (x := ⟨16, (k : Int)⟩) b1)
    | (go_at_call 60; refine (below_any _ _ _).mono ?_; rw [hr]; rintro e w2 ⟨rfl, rfl⟩; have hcw := (HV.out.bw gb).2.2 k hk)
    | (go_at_call 90; refine (takes_any (wk k) _ (HV.out.bw (by repeat (first | exact BW.refl _ | assumption | apply BW.alloc | apply BW.drewN | apply BW.drew | (refine BW.setCell ?_ (by first | omega | (simp; done) | (simp; omega)) _) | (refine BW.trans ?_ (by assumption))))).1).mono ?_; rw [tk_wk k hk]; rintro e w3 ⟨rfl, b3⟩))
  go_ret3
  exact ⟨rfl, (by repeat (first | exact BW.refl _ | assumption | apply BW.alloc | apply BW.drewN | apply BW.drew | (refine BW.setCell ?_ (by first | omega | (simp; done) | (simp; omega)) _) | (refine BW.trans ?_ (by assumption))))⟩
set_option maxRecDepth 100000 in
set_option maxHeartbeats 4000000 in
theorem ef_18 (r : Mw) (m : Mdl) (k : Nat) (w : World) (h : ModAt w r m) (hv : Vs w)  (x : Tbl) (hx : m.tabs[k]? = some x) : Calls Tryd.prog 81 #[r.v, .agg #[.int .u8 18, .int .i64 (k : Nat)]] w fun e w' => e = .returned (.tuple #[.int .i64 ((cls x : Nat) + 1), .int .i64 (1), .bool true]) ∧ BW w w' := by
  have hr : inR (k : Int) (m.tabs.length : Int) = true := by have := (List.getElem?_eq_some_iff.1 hx).1; simp [inR]; omega
  have hp : plc m 18 = ((m.tabs.length : Int), true) := rfl
  obtain ⟨_, _, _, l3, _, _, _, b3⟩ := h.lens
  have hlt : k < r.hl := by have := (List.getElem?_eq_some_iff.1 hx).1; omega
  clear l3
  obtain ⟨ia, il, ic, ta, tl, tc, pa, pl, pc, ha', hl, hc⟩ := r
  dsimp only at hlt b3
  obtain ⟨b, off, x', rfl, hbl, hx', oa, ol, oc, hK, hT⟩ := RowAt.get h.tabs hlt
  obtain rfl : x = x' := Option.some.inj (hx.symm.trans hx')
  have hcl := cls_le hT
  have w1 := i64w ((cls x : Nat) + 1) (by omega) (by omega)
  have HK : Hid _ := hK
  have HT : Hid _ := hT
  clear hK hT hx hx' hcl
  have H : Hid (ModAt w _ m) := h
  have HV : Hid (Vs w) := hv
  clear h hv
  go_enter Tryd.func81, Tryd.ntmps81
  go_wp2_with (first
    | (go_at_call 82; refine (places_any ⟨ia, il, ic, ta, tl, tc, pa, pl, pc, some ⟨b, off, none⟩, hl, hc⟩ m 18 _ (H.out.bw (by repeat (first | exact BW.refl _ | assumption | apply BW.alloc | apply BW.drewN | apply BW.drew | (refine BW.setCell ?_ (by first | omega | (simp; done) | (simp; omega)) _) | (refine BW.trans ?_ (by assumption)))))).mono ?_; rw [hp]; rintro e w1 ⟨rfl, b1⟩; obtain ⟨⟨g0, g1, g2, g3⟩, ⟨g4, g5⟩, gz, gb⟩ := bxMI_at (r := ⟨ia, il, ic, ta, tl, tc, pa, pl, pc, some ⟨b, off, none⟩, hl, hc⟩) (x := ⟨18, (k : Int)⟩) b1)
    | (go_at_call 60; refine (below_any _ _ _).mono ?_; rw [hr]; rintro e w2 ⟨rfl, rfl⟩; obtain ⟨d0, d1, d2⟩ := TbK.bw HK.out gb hbl)
    | (go_at_call 91; refine (clauses_any x oa ol oc _ (TbV.bw HT.out gb)).mono ?_; rintro e w3 ⟨rfl, b3⟩))
  go_ret3
  exact ⟨rfl, (by repeat (first | exact BW.refl _ | assumption | apply BW.alloc | apply BW.drewN | apply BW.drew | (refine BW.setCell ?_ (by first | omega | (simp; done) | (simp; omega)) _) | (refine BW.trans ?_ (by assumption))))⟩

end Go.Proofs.YtndhhmgbekcfoaaDoor
