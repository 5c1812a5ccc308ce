import Derived.Test.YtogeoaanlkeciaaDoorS2
namespace Go.Proofs.YtogeoaanlkeciaaDoor
open Go.RowKit
set_option linter.unusedVariables false
set_option linter.unusedSimpArgs false

def smP (a b : Pro) : Bool := decide (a.p = b.p) && decide (a.s = b.s) && decide (a.u = b.u) && eqL eqN a.code b.code
def smT (a b : Tbl) : Bool := decide (a.ret = b.ret) && decide (a.fin = b.fin) && eqL eqI a.ops b.ops
theorem eqI_refl (x : Int) : eqI x x = true := by simp [eqI]
theorem eqS_refl (x : ByteArray) : eqS x x = true := by simp [eqS]
theorem eqN_refl (x : Ins) : eqN x x = true := by simp [eqN]
theorem smP_refl (x : Pro) : smP x x = true := by simp [smP, eqL_refl eqN eqN_refl]
theorem smT_refl (x : Tbl) : smT x x = true := by simp [smT, eqL_refl eqI eqI_refl]
theorem PrV.len {W : World} {x : Pro} {ca : Option Addr} {cl cc : Nat} (h : PrV W x ca cl cc) : cl ≤ 9223372036854775807 := by
  have := h.2.2.2.1; have := h.2.2.2.2.1; unfold maxLen at *; omega
set_option maxRecDepth 100000 in
set_option maxHeartbeats 4000000 in
theorem sameProto_any (x y : Pro) (ca cb : Option Addr) (cl cc dl dc : Nat) (w : World) (h1 : PrV w x ca cl cc) (h2 : PrV w y cb dl dc) : Calls Tryd.prog 34 #[prv x.p x.s x.u ca cl cc, prv y.p y.s y.u cb dl dc] w fun e w' => e = .returned (.bool (smP x y)) ∧ BW w w' := by
  have HC : Hid (∀ w', BW w w' → Calls Tryd.prog 53 #[.slice ca cl cc, .slice cb dl dc] w' fun e w'' => e = .returned (.bool (eqL eqN x.code y.code)) ∧ BW w' w'') := fun w' k => eqCode_any ca cb cl cc dl dc x.code y.code w' (h1.2.2.2.2.2.bw k) (h2.2.2.2.2.2.bw k) h1.len h2.len
  unfold smP
  obtain ⟨p, s, u, c⟩ := x
  obtain ⟨p', s', u', c'⟩ := y
  clear h1 h2
  dsimp only at HC ⊢
  generalize eqL eqN c c' = q at *
  by_cases hp : p = p'
  · subst hp
    have q1 : (p == p) = true := by simp
    by_cases hs : s = s'
    · subst hs
      have q2 : (s == s) = true := by simp
      by_cases hu : u = u'
      · subst hu
        have q3 : (u == u) = true := by simp
        go_enter Tryd.func34, Tryd.ntmps34
        go_wp2_with (go_at_call 53; refine (HC.out _ (by repeat (first | exact BW.refl _ | assumption | apply BW.alloc | apply BW.drewN | apply BW.drew | (refine BW.setCell ?_ (by first | omega | (simp; done) | (simp; omega)) _) | (refine BW.trans ?_ (by assumption))))).mono ?_; rintro e w1 ⟨rfl, b1⟩)
        go_ret
        exact ⟨by simp, (by repeat (first | exact BW.refl _ | assumption | apply BW.alloc | apply BW.drewN | apply BW.drew | (refine BW.setCell ?_ (by first | omega | (simp; done) | (simp; omega)) _) | (refine BW.trans ?_ (by assumption))))⟩
      · have q3 : (u == u') = false := by simpa using hu
        go_enter Tryd.func34, Tryd.ntmps34
        go_wp2_with (fail)
        go_ret
        exact ⟨by simp [hu], (by repeat (first | exact BW.refl _ | assumption | apply BW.alloc | apply BW.drewN | apply BW.drew | (refine BW.setCell ?_ (by first | omega | (simp; done) | (simp; omega)) _) | (refine BW.trans ?_ (by assumption))))⟩
    · have q2 : (s == s') = false := by simpa using hs
      go_enter Tryd.func34, Tryd.ntmps34
      go_wp2_with (fail)
      go_ret
      exact ⟨by simp [hs], (by repeat (first | exact BW.refl _ | assumption | apply BW.alloc | apply BW.drewN | apply BW.drew | (refine BW.setCell ?_ (by first | omega | (simp; done) | (simp; omega)) _) | (refine BW.trans ?_ (by assumption))))⟩
  · have q1 : (p == p') = false := by simpa using hp
    go_enter Tryd.func34, Tryd.ntmps34
    go_wp2_with (fail)
    go_ret
    exact ⟨by simp [hp], (by repeat (first | exact BW.refl _ | assumption | apply BW.alloc | apply BW.drewN | apply BW.drew | (refine BW.setCell ?_ (by first | omega | (simp; done) | (simp; omega)) _) | (refine BW.trans ?_ (by assumption))))⟩
set_option maxRecDepth 100000 in
set_option maxHeartbeats 4000000 in
theorem sameTable_any (x y : Tbl) (ca cb : Option Addr) (cl cc dl dc : Nat) (w : World) (h1 : TbV w x ca cl cc) (h2 : TbV w y cb dl dc) : Calls Tryd.prog 36 #[tbv ca cl cc x.ret x.fin, tbv cb dl dc y.ret y.fin] w fun e w' => e = .returned (.bool (smT x y)) ∧ BW w w' := by
  have HC : Hid (∀ w', BW w w' → Calls Tryd.prog 54 #[.slice ca cl cc, .slice cb dl dc] w' fun e w'' => e = .returned (.bool (eqL eqI x.ops y.ops)) ∧ BW w' w'') := fun w' k => eqOps_any ca cb cl cc dl dc x.ops y.ops w' (h1.2.2.2.bw k) (h2.2.2.2.bw k) (by have := h1.2.2.1; omega) (by have := h2.2.2.1; omega)
  unfold smT
  obtain ⟨ops, r, f⟩ := x
  obtain ⟨ops', r', f'⟩ := y
  clear h1 h2
  dsimp only at HC ⊢
  generalize eqL eqI ops ops' = q at *
  cases r <;> cases r' <;> cases f <;> cases f'
  all_goals (go_enter Tryd.func36, Tryd.ntmps36; go_wp2_with (go_at_call 54; refine (HC.out _ (by repeat (first | exact BW.refl _ | assumption | apply BW.alloc | apply BW.drewN | apply BW.drew | (refine BW.setCell ?_ (by first | omega | (simp; done) | (simp; omega)) _) | (refine BW.trans ?_ (by assumption))))).mono ?_; rintro e w1 ⟨rfl, b1⟩); go_ret; exact ⟨by simp, (by repeat (first | exact BW.refl _ | assumption | apply BW.alloc | apply BW.drewN | apply BW.drew | (refine BW.setCell ?_ (by first | omega | (simp; done) | (simp; omega)) _) | (refine BW.trans ?_ (by assumption))))⟩)

end Go.Proofs.YtogeoaanlkeciaaDoor
