import Derived.Test.YtndhhmgbekcfoaaDoorM7
namespace Go.Proofs.YtndhhmgbekcfoaaDoor
open Go.RowKit
set_option linter.unusedVariables false
set_option linter.unusedSimpArgs false

set_option maxRecDepth 100000 in
set_option maxHeartbeats 4000000 in
theorem bad21 (s : ByteArray) (w : World) (h : s.size ≤ maxLen) : Calls Tryd.prog 33 #[.string s] w fun e w' => e = .returned (.bool (decide (65536 < s.size))) ∧ BW w w' := by
  have h2 : s.size ≤ 9223372036854775807 := by unfold maxLen at h; omega
  have e1 : decide ((65536 : Int) < (s.size : Int)) = decide (65536 < s.size) := by apply Bool.eq_iff_iff.2; simp; omega
  clear h
  go_enter Tryd.func33, Tryd.ntmps33
  go_wp2_with (fail)
  go_ret
  exact ⟨by rw [← e1]; rfl, (by repeat (first | exact BW.refl _ | assumption | apply BW.alloc | apply BW.drewN | apply BW.drew | (refine BW.setCell ?_ (by first | omega | (simp; done) | (simp; omega)) _) | (refine BW.trans ?_ (by assumption))))⟩
set_option maxRecDepth 100000 in
set_option maxHeartbeats 4000000 in
theorem bad22 (r : Mw) (m : Mdl) (t : Tbl) (oa : Option Addr) (ol oc mb : Nat) (w : World) (h : ModAt w r m) (ht : TbV w t oa ol oc) (hm : MdK w mb r) (hmb : mb < w.heap.size) : Calls Tryd.prog 34 #[tbv oa ol oc t.ret t.fin, .pointer (some ⟨mb, 0, none⟩)] w fun e w' => e = .returned (.bool (!tbB m t)) ∧ BW w w' := by
  have HI : Hid (∀ w', BW w w' → Calls Tryd.prog 35 #[r.v, tbv oa ol oc t.ret t.fin] w' fun e w'' => e = .returned (.bool (tbB m t)) ∧ BW w' w'') := fun w' k => table_any r m t oa ol oc w' (h.bw k) (ht.bw k)
  obtain ⟨g0, g1, g2, g3⟩ := hm
  clear h ht
  generalize tbB m t = q at *
  go_enter Tryd.func34, Tryd.ntmps34
  go_wp2_with (first | (go_at_call 35; refine (HI.out _ (by repeat (first | exact BW.refl _ | assumption | apply BW.alloc | apply BW.drewN | apply BW.drew | (refine BW.setCell ?_ (by first | omega | (simp; done) | (simp; omega)) _) | (refine BW.trans ?_ (by assumption))))).mono ?_; rintro e w1 ⟨rfl, b1⟩))
  go_ret
  exact ⟨rfl, (by repeat (first | exact BW.refl _ | assumption | apply BW.alloc | apply BW.drewN | apply BW.drew | (refine BW.setCell ?_ (by first | omega | (simp; done) | (simp; omega)) _) | (refine BW.trans ?_ (by assumption))))⟩
set_option maxRecDepth 100000 in
set_option maxHeartbeats 4000000 in
theorem bad24 (r : Mw) (m : Mdl) (x : Pro) (ca : Option Addr) (cl cc mb : Nat) (w : World) (h : ModAt w r m) (hv : Vs w) (hx : PrV w x ca cl cc) (hm : MdK w mb r) (hmb : mb < w.heap.size) : Calls Tryd.prog 36 #[prv x.p x.s x.u ca cl cc, .pointer (some ⟨mb, 0, none⟩)] w fun e w' => e = .returned (.bool (!prB m x)) ∧ BW w w' := by
  have HI : Hid (∀ w', BW w w' → Calls Tryd.prog 37 #[r.v, prv x.p x.s x.u ca cl cc] w' fun e w'' => e = .returned (.bool (prB m x)) ∧ BW w' w'') := fun w' k => proto_any r m x ca cl cc w' (h.bw k) (hv.bw k) (hx.bw k)
  obtain ⟨g0, g1, g2, g3⟩ := hm
  clear h hv hx
  generalize prB m x = q at *
  go_enter Tryd.func36, Tryd.ntmps36
  go_wp2_with (first | (go_at_call 37; refine (HI.out _ (by repeat (first | exact BW.refl _ | assumption | apply BW.alloc | apply BW.drewN | apply BW.drew | (refine BW.setCell ?_ (by first | omega | (simp; done) | (simp; omega)) _) | (refine BW.trans ?_ (by assumption))))).mono ?_; rintro e w1 ⟨rfl, b1⟩))
  go_ret
  exact ⟨rfl, (by repeat (first | exact BW.refl _ | assumption | apply BW.alloc | apply BW.drewN | apply BW.drew | (refine BW.setCell ?_ (by first | omega | (simp; done) | (simp; omega)) _) | (refine BW.trans ?_ (by assumption))))⟩
/-- Is no list too long? -/
def fitB (m : Mdl) : Bool := decide (m.ints.length ≤ 4096) && decide (m.texts.length ≤ 4096) && decide (m.pros.length ≤ 4096) && decide (m.tabs.length ≤ 4096)
/-- Can the first function be called without anything? -/
def begB (m : Mdl) : Bool := match m.pros with
  | [] => false
  | x :: _ => decide (x.p = 0) && decide (x.u = 0)
set_option maxRecDepth 100000 in
set_option maxHeartbeats 4000000 in
theorem fits_any (r : Mw) (m : Mdl) (w : World) (h : ModAt w r m) : Calls Tryd.prog 31 #[r.v] w fun e w' => e = .returned (.bool (fitB m)) ∧ BW w w' := by
  obtain ⟨l1, l2, l3, l4, b1, b2, b3, b4⟩ := h.lens
  have HR : Hid (fitB m = (decide (r.il ≤ 4096) && decide (r.tl ≤ 4096) && decide (r.pl ≤ 4096) && decide (r.hl ≤ 4096))) := by show _ = _; rw [fitB, l1, l2, l3, l4]
  have hmax : ∀ W : World, (Builtin.max_ #[3, 3, 3, 3] 3 #[.int .i64 (r.il : Int), .int .i64 (r.tl : Int), .int .i64 (r.pl : Int), .int .i64 (r.hl : Int)]).run Tryd.prog W = .ok (.int .i64 ((max (max (max r.il r.tl) r.pl) r.hl : Nat) : Int)) W := fun W => by
    have e : ((max (max (max r.il r.tl) r.pl) r.hl : Nat) : Int) = (if (r.hl : Int) > (if (r.pl : Int) > (if (r.tl : Int) > (r.il : Int) then (r.tl : Int) else (r.il : Int)) then (r.pl : Int) else (if (r.tl : Int) > (r.il : Int) then (r.tl : Int) else (r.il : Int))) then (r.hl : Int) else (if (r.pl : Int) > (if (r.tl : Int) > (r.il : Int) then (r.tl : Int) else (r.il : Int)) then (r.pl : Int) else (if (r.tl : Int) > (r.il : Int) then (r.tl : Int) else (r.il : Int)))) := by omega
    rw [e]
    simp [Builtin.max_, Builtin.max2]
  generalize hq : max (max (max r.il r.tl) r.pl) r.hl = q at hmax
  have HR2 : Hid (decide ((q : Int) ≤ 4096) = (decide (r.il ≤ 4096) && decide (r.tl ≤ 4096) && decide (r.pl ≤ 4096) && decide (r.hl ≤ 4096))) := by
    show _ = _
    apply Bool.eq_iff_iff.2
    simp only [decide_eq_true_eq, Bool.and_eq_true]
    omega
  clear h l1 l2 l3 l4 hq
  go_enter Tryd.func31, Tryd.ntmps31
  go_wp2_with (fail)
  go_ret
  exact ⟨by rw [HR.out, ← HR2.out]; rfl, (by repeat (first | exact BW.refl _ | assumption | apply BW.alloc | apply BW.drewN | apply BW.drew | (refine BW.setCell ?_ (by first | omega | (simp; done) | (simp; omega)) _) | (refine BW.trans ?_ (by assumption))))⟩
set_option maxRecDepth 100000 in
set_option maxHeartbeats 4000000 in
theorem begins_any (r : Mw) (m : Mdl) (w : World) (h : ModAt w r m) : Calls Tryd.prog 32 #[r.v] w fun e w' => e = .returned (.bool (begB m)) ∧ BW w w' := by
  obtain ⟨l1, l2, l3, l4, b1, b2, b3, b4⟩ := h.lens
  obtain ⟨ia, il, ic, ta, tl, tc, pa, pl, pc, ha, hl, hc⟩ := r
  dsimp only at l1 l2 l3 l4 b1 b2 b3 b4
  by_cases h0 : pl = 0
  · subst h0
    have HR : Hid (begB m = false) := by
      show _ = _
      have : m.pros = [] := List.length_eq_zero_iff.1 l3
      simp [begB, this]
    clear h l1 l2 l3 l4
    go_enter Tryd.func32, Tryd.ntmps32
    go_wp2_with (fail)
    go_ret
    exact ⟨by rw [HR.out]; rfl, (by repeat (first | exact BW.refl _ | assumption | apply BW.alloc | apply BW.drewN | apply BW.drew | (refine BW.setCell ?_ (by first | omega | (simp; done) | (simp; omega)) _) | (refine BW.trans ?_ (by assumption))))⟩
  · obtain ⟨b, off, x, rfl, hbl, hx, ca, cl, cc, hK, _⟩ := RowAt.get h.pros (show 0 < pl by omega)
    obtain ⟨d0, d1, d2, d3⟩ := hK
    simp only [Nat.zero_mul, Nat.add_zero] at d0 d1 d2 d3
    have HR : Hid (begB m = (decide (x.p = 0) && decide (x.u = 0))) := by
      show _ = _
      cases hm : m.pros with
      | nil => rw [hm] at hx; simp at hx
      | cons y q => rw [hm] at hx; simp at hx; subst hx; simp [begB, hm]
    have e1 : decide ((0 : Int) < (pl : Int)) = true := by simp; omega
    have hp0 : 0 < pl := by omega
    rw [HR.out]
    clear h l1 l2 l3 l4 hx HR h0
    by_cases hp : x.p = 0
    · have q1 : (x.p == 0) = true := by simpa using hp
      by_cases hu : x.u = 0
      · have q2 : (x.u == 0) = true := by simpa using hu
        go_enter Tryd.func32, Tryd.ntmps32
        go_wp2_with (fail)
        go_ret
        exact ⟨by simp [hp, hu], (by repeat (first | exact BW.refl _ | assumption | apply BW.alloc | apply BW.drewN | apply BW.drew | (refine BW.setCell ?_ (by first | omega | (simp; done) | (simp; omega)) _) | (refine BW.trans ?_ (by assumption))))⟩
      · have q2 : (x.u == 0) = false := by simpa using hu
        go_enter Tryd.func32, Tryd.ntmps32
        go_wp2_with (fail)
        go_ret
        exact ⟨by simp [hp, hu], (by repeat (first | exact BW.refl _ | assumption | apply BW.alloc | apply BW.drewN | apply BW.drew | (refine BW.setCell ?_ (by first | omega | (simp; done) | (simp; omega)) _) | (refine BW.trans ?_ (by assumption))))⟩
    · have q1 : (x.p == 0) = false := by simpa using hp
      go_enter Tryd.func32, Tryd.ntmps32
      go_wp2_with (fail)
      go_ret
      exact ⟨by simp [hp], (by repeat (first | exact BW.refl _ | assumption | apply BW.alloc | apply BW.drewN | apply BW.drew | (refine BW.setCell ?_ (by first | omega | (simp; done) | (simp; omega)) _) | (refine BW.trans ?_ (by assumption))))⟩

end Go.Proofs.YtndhhmgbekcfoaaDoor
