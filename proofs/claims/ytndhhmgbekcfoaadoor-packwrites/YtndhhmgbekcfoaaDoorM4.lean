import Derived.Test.YtndhhmgbekcfoaaDoorM3
import Derived.Test.YtndhhmgbekcfoaaDoorS5
namespace Go.Proofs.YtndhhmgbekcfoaaDoor
open Go.RowKit
set_option linter.unusedVariables false
set_option linter.unusedSimpArgs false

/-- May a function be? -/
def prB (m : Mdl) (x : Pro) : Bool := inR x.p 201 && inR x.u 201 && !decide (x.s ≤ x.p) && !decide (256 < x.s) && !decide (x.code.length = 0) && !decide (16384 < x.code.length) && x.code.all (insB m x)
theorem any_not {α : Type} (f : α → Bool) (l : List α) : (!l.any (fun x => !f x)) = l.all f := by
  induction l with
  | nil => rfl
  | cons a r ih => simp only [List.any_cons, List.all_cons, Bool.not_or, Bool.not_not, ih]
theorem bxMP_at {w w' : World} {r : Mw} {x : Pro} {ca : Option Addr} {cl cc : Nat} (h : BW (bxP (bxM w r) x ca cl cc) w') : MdK w' w.heap.size r ∧ PrK w' (w.heap.size + 1) 0 x ca cl cc ∧ w.heap.size + 1 < w'.heap.size ∧ BW w w' := by
  obtain ⟨h4, h5, h6⟩ := bxP_at h
  obtain ⟨h7, h8, h9⟩ := bxM_at h6
  have e : (bxM w r).heap.size = w.heap.size + 1 := by simp
  rw [e] at h4 h5
  exact ⟨h7, h4, h5, h9⟩
set_option maxRecDepth 100000 in
set_option maxHeartbeats 4000000 in
theorem proto_any (r : Mw) (m : Mdl) (x : Pro) (ca : Option Addr) (cl cc : Nat) (w : World) (h : ModAt w r m) (hv : Vs w) (hx : PrV w x ca cl cc) : Calls Tryd.prog 37 #[r.v, prv x.p x.s x.u ca cl cc] w fun e w' => e = .returned (.bool (prB m x)) ∧ BW w w' := by
  have hl : x.code.length = cl := hx.2.2.2.2.2.1
  have hlen := hx.len
  have HC : Hid (∀ w', BW (bxP (bxM w r) x ca cl cc) w' → Calls Tryd.prog 63 #[.slice ca cl cc, .func (.func 61) #[] #[.pointer (some ⟨w.heap.size, 0, none⟩), .pointer (some ⟨w.heap.size + 1, 0, none⟩)]] w' fun e w'' => e = .returned (.bool (x.code.any (fun i => !insB m x i))) ∧ BW w' w'') := fun w' k => by
    obtain ⟨k1, k2, kz, kb⟩ := bxMP_at k
    exact conIns_any (fun i => !insB m x i) _ _ ca cl cc x.code w' ((hx.bw kb).2.2.2.2.2) hlen (fun y w'' k3 _ hy => bad47 r m x ca cl cc _ _ y w'' (h.bw (BW.trans kb k3)) (hv.bw (BW.trans kb k3)) (hx.bw (BW.trans kb k3)) hy (k1.bw k3 (by omega)) (k2.bw k3 kz) (by have := k3.size; omega) (by have := k3.size; omega))
  have HP : Hid (prB m x = (inR x.p 201 && inR x.u 201 && !decide (x.s ≤ x.p) && !decide (256 < x.s) && !decide (cl = 0) && !decide (16384 < cl) && !x.code.any (fun i => !insB m x i))) := by
    show _ = _
    rw [any_not, ← hl]
    rfl
  rw [HP.out]
  clear h hv hx HP
  generalize x.code.any (fun i => !insB m x i) = q at *
  cases hr1 : inR x.p 201 with
  | false =>
    clear hl
    go_enter Tryd.func37, Tryd.ntmps37
    go_wp2_with (first | (go_at_call 60; refine (below_any _ _ _).mono ?_; rw [hr1]; rintro e w2 ⟨rfl, rfl⟩))
    go_ret
    exact ⟨rfl, (by repeat (first | exact BW.refl _ | assumption | apply BW.alloc | apply BW.drewN | apply BW.drew | (refine BW.setCell ?_ (by first | omega | (simp; done) | (simp; omega)) _) | (refine BW.trans ?_ (by assumption))))⟩
  | true =>
  cases hr2 : inR x.u 201 with
  | false =>
    clear hl
    go_enter Tryd.func37, Tryd.ntmps37
    go_wp2_with (first | (go_at_call 60; refine (below_any _ _ _).mono ?_; (first | rw [hr1] | rw [hr2]); rintro e w2 ⟨rfl, rfl⟩))
    go_ret
    exact ⟨rfl, (by repeat (first | exact BW.refl _ | assumption | apply BW.alloc | apply BW.drewN | apply BW.drew | (refine BW.setCell ?_ (by first | omega | (simp; done) | (simp; omega)) _) | (refine BW.trans ?_ (by assumption))))⟩
  | true =>
  cases c1 : decide (x.s ≤ x.p) with
  | true =>
    clear hl
    go_enter Tryd.func37, Tryd.ntmps37
    go_wp2_with (first | (go_at_call 60; refine (below_any _ _ _).mono ?_; (first | rw [hr1] | rw [hr2]); rintro e w2 ⟨rfl, rfl⟩))
    go_ret
    exact ⟨rfl, (by repeat (first | exact BW.refl _ | assumption | apply BW.alloc | apply BW.drewN | apply BW.drew | (refine BW.setCell ?_ (by first | omega | (simp; done) | (simp; omega)) _) | (refine BW.trans ?_ (by assumption))))⟩
  | false =>
  cases c2 : decide (256 < x.s) with
  | true =>
    clear hl
    go_enter Tryd.func37, Tryd.ntmps37
    go_wp2_with (first | (go_at_call 60; refine (below_any _ _ _).mono ?_; (first | rw [hr1] | rw [hr2]); rintro e w2 ⟨rfl, rfl⟩))
    go_ret
    exact ⟨rfl, (by repeat (first | exact BW.refl _ | assumption | apply BW.alloc | apply BW.drewN | apply BW.drew | (refine BW.setCell ?_ (by first | omega | (simp; done) | (simp; omega)) _) | (refine BW.trans ?_ (by assumption))))⟩
  | false =>
  by_cases c3 : cl = 0
  · have e3 : ((cl : Int) == 0) = true := by simp [c3]
    have HR : Hid (decide (cl = 0) = true) := by show _ = _; simpa using c3
    rw [HR.out]
    clear hl c3
    go_enter Tryd.func37, Tryd.ntmps37
    go_wp2_with (first | (go_at_call 60; refine (below_any _ _ _).mono ?_; (first | rw [hr1] | rw [hr2]); rintro e w2 ⟨rfl, rfl⟩))
    go_ret
    exact ⟨by simp, (by repeat (first | exact BW.refl _ | assumption | apply BW.alloc | apply BW.drewN | apply BW.drew | (refine BW.setCell ?_ (by first | omega | (simp; done) | (simp; omega)) _) | (refine BW.trans ?_ (by assumption))))⟩
  · have e3 : ((cl : Int) == 0) = false := by simp; omega
    have HR : Hid (decide (cl = 0) = false) := by show _ = _; simpa using c3
    rw [HR.out]
    by_cases c4 : 16384 < cl
    · have e4 : decide ((16384 : Int) < (cl : Int)) = true := by simp; omega
      have HR2 : Hid (decide (16384 < cl) = true) := by show _ = _; simpa using c4
      rw [HR2.out]
      clear hl c3 c4
      go_enter Tryd.func37, Tryd.ntmps37
      go_wp2_with (first | (go_at_call 60; refine (below_any _ _ _).mono ?_; (first | rw [hr1] | rw [hr2]); rintro e w2 ⟨rfl, rfl⟩))
      go_ret
      exact ⟨by simp, (by repeat (first | exact BW.refl _ | assumption | apply BW.alloc | apply BW.drewN | apply BW.drew | (refine BW.setCell ?_ (by first | omega | (simp; done) | (simp; omega)) _) | (refine BW.trans ?_ (by assumption))))⟩
    · have e4 : decide ((16384 : Int) < (cl : Int)) = false := by simp; omega
      have HR2 : Hid (decide (16384 < cl) = false) := by show _ = _; simpa using c4
      rw [HR2.out]
      clear hl c3 c4
      go_enter Tryd.func37, Tryd.ntmps37
      go_wp2_with (first | (go_at_call 60; refine (below_any _ _ _).mono ?_; (first | rw [hr1] | rw [hr2]); rintro e w2 ⟨rfl, rfl⟩) | (go_at_call 63; refine (HC.out _ (by repeat (first | exact BW.refl _ | assumption | apply BW.alloc | apply BW.drewN | apply BW.drew | (refine BW.setCell ?_ (by first | omega | (simp; done) | (simp; omega)) _) | (refine BW.trans ?_ (by assumption))))).mono ?_; rintro e w3 ⟨rfl, b3⟩))
      go_ret
      exact ⟨by simp, (by repeat (first | exact BW.refl _ | assumption | apply BW.alloc | apply BW.drewN | apply BW.drew | (refine BW.setCell ?_ (by first | omega | (simp; done) | (simp; omega)) _) | (refine BW.trans ?_ (by assumption))))⟩

end Go.Proofs.YtndhhmgbekcfoaaDoor
