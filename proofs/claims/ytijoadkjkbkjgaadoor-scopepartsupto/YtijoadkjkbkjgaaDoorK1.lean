import Derived.Test.YtijoadkjkbkjgaaDoorR11
import Derived.Test.YtijoadkjkbkjgaaDoorV2
namespace Go.Proofs.YtijoadkjkbkjgaaDoor
open Go.RowKit
set_option linter.unusedVariables false
set_option linter.unusedSimpArgs false

set_option maxRecDepth 100000 in
set_option maxHeartbeats 1000000 in
theorem refMay_any (n : Nat) (v : Value) (t : Tr n) (w : World) (h : NodeAt w n v t) (hz : sz n t ≤ 2000000) : Calls Tryd.prog 11 #[v] w fun e w' => e = .returned (.bool (mayB n t)) ∧ BW w w' := by
  have RR : Hid (∀ w', BW w w' → Calls Tryd.prog 16 #[v, .int .i64 1] w' fun e w'' => e = .returned (.bool (decide (dep n t + 1 ≤ 61) && vl n t)) ∧ BW w' w'') := fun w' hb => refRight_any n v t 1 w' (h.bw hb) (by omega) hz
  have SS : Hid (∀ w', BW w w' → Calls Tryd.prog 13 #[v] w' fun e w'' => e = .returned (.int .i64 (sz n t)) ∧ BW w' w'') := fun w' hb => by
    have := refSize_any n v t w' (h.bw hb)
    rw [show wrap64 (sz n t) = (sz n t : Int) by simp [wrap64]; omega] at this
    exact this
  have HE : Hid (mayB n t = ((decide (dep n t + 1 ≤ 61) && vl n t) && decide (sz n t ≤ 4000))) := by
    show _ = _
    rw [mayB_eq, show decide (dep n t ≤ 60) = decide (dep n t + 1 ≤ 61) from beq_iff (by simp only [decide_eq_true_eq]; omega)]
    cases decide (dep n t + 1 ≤ 61) <;> cases decide (sz n t ≤ 4000) <;> cases vl n t <;> rfl
  generalize mayB n t = R at *
  generalize (decide (dep n t + 1 ≤ 61) && vl n t) = q at *
  generalize sz n t = z at *
  cases n with
  | zero => exact t.elim
  | succ n =>
    obtain ⟨na, nl, nc, ka, kl, kc, rfl, _⟩ := h
    generalize Nd.k (K := Tr n) t = tk at *
    generalize Nd.n (K := Tr n) t = tn at *
    generalize Nd.s (K := Tr n) t = ts at *
    cases q with
    | false =>
      have HF : Hid (R = false) := by show R = _; rw [HE.out]; rfl
      clear HE SS
      go_enter Tryd.func11, Tryd.ntmps11
      go_wp2_with (go_at_call 16; refine (RR.out _ (by repeat (first | exact BW.refl _ | assumption | apply BW.alloc | apply BW.drewN | apply BW.drew | (refine BW.setCell ?_ (by first | omega | (simp; done) | (simp; omega)) _) | (refine BW.trans ?_ (by assumption))))).mono ?_; rintro e w1 ⟨rfl, b1⟩)
      go_ret
      exact ⟨by rw [HF.out]; rfl, (by repeat (first | exact BW.refl _ | assumption | apply BW.alloc | apply BW.drewN | apply BW.drew | (refine BW.setCell ?_ (by first | omega | (simp; done) | (simp; omega)) _) | (refine BW.trans ?_ (by assumption))))⟩
    | true =>
      by_cases h4 : z ≤ 4000
      · have e4 : decide ((z : Int) ≤ 4000) = true := decide_eq_true (by omega)
        have HF : Hid (R = true) := by show R = _; rw [HE.out]; simp [h4]
        clear HE h4
        go_enter Tryd.func11, Tryd.ntmps11
        go_wp2_with (first
          | (go_at_call 16; refine (RR.out _ (by repeat (first | exact BW.refl _ | assumption | apply BW.alloc | apply BW.drewN | apply BW.drew | (refine BW.setCell ?_ (by first | omega | (simp; done) | (simp; omega)) _) | (refine BW.trans ?_ (by assumption))))).mono ?_; rintro e w1 ⟨rfl, b1⟩; obtain ⟨⟨g0, g1, g2, g3, g4⟩, hz1, hb⟩ := bx_at b1)
          | (go_at_call 13; refine (SS.out _ hb).mono ?_; rintro e w2 ⟨rfl, b2⟩))
        go_ret
        exact ⟨by rw [HF.out]; rfl, BW.trans hb b2⟩
      · have e4 : decide ((z : Int) ≤ 4000) = false := decide_eq_false (by omega)
        have HF : Hid (R = false) := by show R = _; rw [HE.out]; simp [h4]
        clear HE h4
        go_enter Tryd.func11, Tryd.ntmps11
        go_wp2_with (first
          | (go_at_call 16; refine (RR.out _ (by repeat (first | exact BW.refl _ | assumption | apply BW.alloc | apply BW.drewN | apply BW.drew | (refine BW.setCell ?_ (by first | omega | (simp; done) | (simp; omega)) _) | (refine BW.trans ?_ (by assumption))))).mono ?_; rintro e w1 ⟨rfl, b1⟩; obtain ⟨⟨g0, g1, g2, g3, g4⟩, hz1, hb⟩ := bx_at b1)
          | (go_at_call 13; refine (SS.out _ hb).mono ?_; rintro e w2 ⟨rfl, b2⟩))
        go_ret
        exact ⟨by rw [HF.out]; rfl, BW.trans hb b2⟩
/-- A part of a node that may be, that isn't a clause, may be. -/
theorem kid_may {n : Nat} {t : Tr (n + 1)} (h : mayB (n + 1) t = true) {x : Tr n} (hx : x ∈ Nd.ks (K := Tr n) t) : mayB n x = decide (knd n x ≤ 16) := by
  rw [mayB_eq] at h
  simp only [Bool.and_eq_true, decide_eq_true_eq] at h
  obtain ⟨⟨h1, h2⟩, h3⟩ := h
  have hr : rt (n + 1) t = true := by simp only [vl, Bool.and_eq_true] at h3; exact h3.2
  have hrx := (rt_kids hr).2 x hx
  have hsx := sz_kid hx
  have hd := dep_split t 1 (by omega)
  rw [decide_eq_true (show dep (n + 1) t + 1 ≤ 61 by omega)] at hd
  have hdx := List.all_eq_true.1 hd.symm x hx
  simp only [decide_eq_true_eq] at hdx
  rw [mayB_eq, decide_eq_true (show dep n x ≤ 60 by omega), decide_eq_true (show sz n x ≤ 4000 by omega)]
  have hk := rt_shp hrx
  unfold vl isCl
  rw [hrx]
  by_cases h16 : knd n x ≤ 16
  · have e1 : (knd n x == 17) = false := by simp; omega
    have e2 : (knd n x == 18) = false := by simp; omega
    have e3 : (knd n x == 19) = false := by simp; omega
    rw [e1, e2, e3, decide_eq_true h16]; rfl
  · rw [decide_eq_false h16]
    have : knd n x = 17 ∨ knd n x = 18 ∨ knd n x = 19 := by omega
    rcases this with e | e | e <;> rw [e] <;> rfl
/-- The node in a do, a unit behind it. -/
def doT (n : Nat) (t : Tr (n + 1)) : Tr (n + 2) := (⟨10, 0, ⟨#[]⟩, [], [t, leaf n 4 0 ⟨#[]⟩]⟩ : Nd (Tr (n + 1)))
theorem doT_sz (n : Nat) (t : Tr (n + 1)) : sz (n + 2) (doT n t) = sz (n + 1) t + 2 := by
  have e : sz (n + 2) (doT n t) = 1 + (sz (n + 1) t + ((1 + 0) + 0)) := rfl
  omega

end Go.Proofs.YtijoadkjkbkjgaaDoor
