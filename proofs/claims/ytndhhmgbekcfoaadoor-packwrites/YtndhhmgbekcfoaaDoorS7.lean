import Derived.Test.YtndhhmgbekcfoaaDoorS5
import Derived.Test.YtndhhmgbekcfoaaDoorS6
namespace Go.Proofs.YtndhhmgbekcfoaaDoor
open Go.RowKit
set_option linter.unusedVariables false
set_option linter.unusedSimpArgs false

theorem bxMM_at {w w' : World} {r s : Mw} (k : BW (bxM (bxM w r) s) w') : MdK w' w.heap.size r ∧ MdK w' (w.heap.size + 1) s ∧ w.heap.size + 1 < w'.heap.size ∧ BW w w' := by
  obtain ⟨g1, g2, g3⟩ := bxM_at k
  obtain ⟨g4, g5, g6⟩ := bxM_at g3
  have e : (bxM w r).heap.size = w.heap.size + 1 := by simp
  rw [e] at g1 g2
  exact ⟨g4, g1, g2, g6⟩
theorem bxTT_at {w w' : World} {x y : Tbl} {ca cb : Option Addr} {cl cc dl dc : Nat} (h : BW (bxT (bxT w x ca cl cc) y cb dl dc) w') : TbK w' w.heap.size 0 x ca cl cc ∧ TbK w' (w.heap.size + 1) 0 y cb dl dc ∧ w.heap.size + 1 < w'.heap.size ∧ BW w w' := by
  obtain ⟨h1, h2, h3⟩ := bxT_at h
  obtain ⟨h4, h5, h6⟩ := bxT_at h3
  have e : (bxT w x ca cl cc).heap.size = w.heap.size + 1 := by simp
  rw [e] at h1 h2
  exact ⟨h4, h1, h2, h6⟩
set_option maxRecDepth 100000 in
set_option maxHeartbeats 4000000 in
theorem refSame_len0 (r s : Mw) (w : World) (hn : ¬ r.il = s.il) : Calls Tryd.prog 14 #[r.v, s.v] w fun e w' => e = .returned (.bool false) ∧ BW w w' := by
  have p0 : ((r.il : Int) == (s.il : Int)) = false := by simp; omega
  have q0 : ((r.il : Int) != (s.il : Int)) = true := by simp; omega
  have z0 : ¬ (r.il : Int) = (s.il : Int) := by omega
  clear hn
  go_enter Tryd.func14, Tryd.ntmps14
  go_wp2_with (fail)
  go_ret
  exact ⟨rfl, (by repeat (first | exact BW.refl _ | assumption | apply BW.alloc | apply BW.drewN | apply BW.drew | (refine BW.setCell ?_ (by first | omega | (simp; done) | (simp; omega)) _) | (refine BW.trans ?_ (by assumption))))⟩
set_option maxRecDepth 100000 in
set_option maxHeartbeats 4000000 in
theorem refSame_len1 (r s : Mw) (w : World) (e0 : r.il = s.il) (hn : ¬ r.tl = s.tl) : Calls Tryd.prog 14 #[r.v, s.v] w fun e w' => e = .returned (.bool false) ∧ BW w w' := by
  have p0 : ((r.il : Int) == (s.il : Int)) = true := by simp [e0]
  have q0 : ((r.il : Int) != (s.il : Int)) = false := by simp [e0]
  have p1 : ((r.tl : Int) == (s.tl : Int)) = false := by simp; omega
  have q1 : ((r.tl : Int) != (s.tl : Int)) = true := by simp; omega
  have z1 : ¬ (r.tl : Int) = (s.tl : Int) := by omega
  clear hn e0
  go_enter Tryd.func14, Tryd.ntmps14
  go_wp2_with (fail)
  go_ret
  exact ⟨rfl, (by repeat (first | exact BW.refl _ | assumption | apply BW.alloc | apply BW.drewN | apply BW.drew | (refine BW.setCell ?_ (by first | omega | (simp; done) | (simp; omega)) _) | (refine BW.trans ?_ (by assumption))))⟩
set_option maxRecDepth 100000 in
set_option maxHeartbeats 4000000 in
theorem refSame_len2 (r s : Mw) (w : World) (e0 : r.il = s.il) (e1 : r.tl = s.tl) (hn : ¬ r.pl = s.pl) : Calls Tryd.prog 14 #[r.v, s.v] w fun e w' => e = .returned (.bool false) ∧ BW w w' := by
  have p0 : ((r.il : Int) == (s.il : Int)) = true := by simp [e0]
  have q0 : ((r.il : Int) != (s.il : Int)) = false := by simp [e0]
  have p1 : ((r.tl : Int) == (s.tl : Int)) = true := by simp [e1]
  have q1 : ((r.tl : Int) != (s.tl : Int)) = false := by simp [e1]
  have p2 : ((r.pl : Int) == (s.pl : Int)) = false := by simp; omega
  have q2 : ((r.pl : Int) != (s.pl : Int)) = true := by simp; omega
  have z2 : ¬ (r.pl : Int) = (s.pl : Int) := by omega
  clear hn e0 e1
  go_enter Tryd.func14, Tryd.ntmps14
  go_wp2_with (fail)
  go_ret
  exact ⟨rfl, (by repeat (first | exact BW.refl _ | assumption | apply BW.alloc | apply BW.drewN | apply BW.drew | (refine BW.setCell ?_ (by first | omega | (simp; done) | (simp; omega)) _) | (refine BW.trans ?_ (by assumption))))⟩
set_option maxRecDepth 100000 in
set_option maxHeartbeats 4000000 in
theorem refSame_len3 (r s : Mw) (w : World) (e0 : r.il = s.il) (e1 : r.tl = s.tl) (e2 : r.pl = s.pl) (hn : ¬ r.hl = s.hl) : Calls Tryd.prog 14 #[r.v, s.v] w fun e w' => e = .returned (.bool false) ∧ BW w w' := by
  have p0 : ((r.il : Int) == (s.il : Int)) = true := by simp [e0]
  have q0 : ((r.il : Int) != (s.il : Int)) = false := by simp [e0]
  have p1 : ((r.tl : Int) == (s.tl : Int)) = true := by simp [e1]
  have q1 : ((r.tl : Int) != (s.tl : Int)) = false := by simp [e1]
  have p2 : ((r.pl : Int) == (s.pl : Int)) = true := by simp [e2]
  have q2 : ((r.pl : Int) != (s.pl : Int)) = false := by simp [e2]
  have p3 : ((r.hl : Int) == (s.hl : Int)) = false := by simp; omega
  have q3 : ((r.hl : Int) != (s.hl : Int)) = true := by simp; omega
  have z3 : ¬ (r.hl : Int) = (s.hl : Int) := by omega
  clear hn e0 e1 e2
  go_enter Tryd.func14, Tryd.ntmps14
  go_wp2_with (fail)
  go_ret
  exact ⟨rfl, (by repeat (first | exact BW.refl _ | assumption | apply BW.alloc | apply BW.drewN | apply BW.drew | (refine BW.setCell ?_ (by first | omega | (simp; done) | (simp; omega)) _) | (refine BW.trans ?_ (by assumption))))⟩

end Go.Proofs.YtndhhmgbekcfoaaDoor
