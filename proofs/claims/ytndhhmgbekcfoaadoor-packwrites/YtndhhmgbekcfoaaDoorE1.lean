import Derived.Test.YtndhhmgbekcfoaaDoorV0
import Derived.Test.YtndhhmgbekcfoaaDoorT1
import Derived.OwnWalk
namespace Go.Proofs.YtndhhmgbekcfoaaDoor
open Go.RowKit
set_option linter.unusedVariables false
set_option linter.unusedSimpArgs false

/-- One of so many? -/
def inR (a : Int) (n : Int) : Bool := decide (0 ≤ a) && decide (a < n)
set_option maxRecDepth 100000 in
set_option maxHeartbeats 4000000 in
theorem below_any (a n : Int) (w : World) : Calls Tryd.prog 60 #[.int .i64 a, .int .i64 n] w fun e w' => e = .returned (.bool (inR a n)) ∧ w' = w := by
  unfold inR
  by_cases h : 0 ≤ a
  · have e1 : decide (0 ≤ a) = true := by simpa using h
    go_enter Tryd.func60, Tryd.ntmps60
    go_wp2_with (fail)
    go_ret
    simp [h]
  · have e1 : decide (0 ≤ a) = false := by simpa using h
    go_enter Tryd.func60, Tryd.ntmps60
    go_wp2_with (fail)
    go_ret
    simp [h]
set_option maxRecDepth 100000 in
set_option maxHeartbeats 4000000 in
theorem place_any (a n : Int) (w : World) : Calls Tryd.prog 49 #[.int .i64 a, .int .i64 n] w fun e w' => e = .returned (.bool (inR a n)) ∧ w' = w := by
  unfold inR
  by_cases h : 0 ≤ a
  · have e1 : decide (0 ≤ a) = true := by simpa using h
    go_enter Tryd.func49, Tryd.ntmps49
    go_wp2_with (fail)
    go_ret
    simp [h]
  · have e1 : decide (0 ≤ a) = false := by simpa using h
    go_enter Tryd.func49, Tryd.ntmps49
    go_wp2_with (fail)
    go_ret
    simp [h]
set_option maxRecDepth 100000 in
set_option maxHeartbeats 4000000 in
theorem captures_any (x : Pro) (ca : Option Addr) (cl cc : Nat) (w : World) : Calls Tryd.prog 89 #[prv x.p x.s x.u ca cl cc] w fun e w' => e = .returned (if x.u < 0 then .tuple #[.int .i64 0, .int .i64 0, .bool false] else .tuple #[.int .i64 x.u, .int .i64 1, .bool true]) ∧ BW w w' := by
  by_cases h : x.u < 0
  · have e1 : decide (x.u < 0) = true := by simpa using h
    rw [if_pos h]
    go_enter Tryd.func89, Tryd.ntmps89
    go_wp2_with (fail)
    go_ret3
    exact ⟨rfl, (by repeat (first | exact BW.refl _ | assumption | apply BW.alloc | apply BW.drewN | apply BW.drew | (refine BW.setCell ?_ (by first | omega | (simp; done) | (simp; omega)) _) | (refine BW.trans ?_ (by assumption))))⟩
  · have e1 : decide (x.u < 0) = false := by simpa using h
    rw [if_neg h]
    go_enter Tryd.func89, Tryd.ntmps89
    go_wp2_with (fail)
    go_ret3
    exact ⟨rfl, (by repeat (first | exact BW.refl _ | assumption | apply BW.alloc | apply BW.drewN | apply BW.drew | (refine BW.setCell ?_ (by first | omega | (simp; done) | (simp; omega)) _) | (refine BW.trans ?_ (by assumption))))⟩
/-- How many Funs a handle takes beside the one. -/
def cls (x : Tbl) : Nat := x.ops.length + (if x.ret then 1 else 0) + (if x.fin then 1 else 0)
set_option maxRecDepth 100000 in
set_option maxHeartbeats 4000000 in
theorem clauses_any (x : Tbl) (oa : Option Addr) (ol oc : Nat) (w : World) (h : TbV w x oa ol oc) : Calls Tryd.prog 91 #[tbv oa ol oc x.ret x.fin] w fun e w' => e = .returned (.int .i64 (cls x)) ∧ BW w w' := by
  have hl := h.2.2.2.1
  have hm := h.2.2.1
  unfold cls
  rw [hl]
  have w1 := i64w ((ol : Int) + 1) (by omega) (by omega)
  have w2 := i64w ((ol : Int) + 1 + 1) (by omega) (by omega)
  clear h hl
  obtain ⟨ops, r, f⟩ := x
  cases r <;> cases f
  all_goals (go_enter Tryd.func91, Tryd.ntmps91; go_wp2_with (fail); go_ret; exact ⟨rfl, (by repeat (first | exact BW.refl _ | assumption | apply BW.alloc | apply BW.drewN | apply BW.drew | (refine BW.setCell ?_ (by first | omega | (simp; done) | (simp; omega)) _) | (refine BW.trans ?_ (by assumption))))⟩)
/-- How many things there are that A is a place of. -/
def plc (m : Mdl) (op : Int) : Int × Bool :=
  if op = 1 then (m.ints.length, true) else if op = 2 then (m.texts.length, true) else if op = 17 then (m.texts.length, true) else if op = 9 then (m.pros.length, true)
  else if op = 10 then (201, true) else if op = 11 then (201, true) else if op = 16 then (32, true) else if op = 18 then (m.tabs.length, true) else (0, false)
theorem ModAt.lens {W : World} {r : Mw} {m : Mdl} (h : ModAt W r m) : m.ints.length = r.il ∧ m.texts.length = r.tl ∧ m.pros.length = r.pl ∧ m.tabs.length = r.hl ∧ r.il ≤ 9223372036854775807 ∧ r.tl ≤ 9223372036854775807 ∧ r.pl ≤ 9223372036854775807 ∧ r.hl ≤ 9223372036854775807 := by
  have := h.i1; have := h.i2; have := h.t1; have := h.t2; have := h.p1; have := h.p2; have := h.h1; have := h.h2
  unfold maxLen at *
  exact ⟨h.ints.1, h.texts.1, h.pros.1, h.tabs.1, by omega, by omega, by omega, by omega⟩
set_option maxRecDepth 100000 in
set_option maxHeartbeats 4000000 in
theorem places_any (r : Mw) (m : Mdl) (op : Int) (w : World) (h : ModAt w r m) : Calls Tryd.prog 82 #[r.v, .int .u8 op] w fun e w' => e = .returned (.tuple #[.int .i64 (plc m op).1, .bool (plc m op).2]) ∧ BW w w' := by
  obtain ⟨l1, l2, l3, l4, b1, b2, b3, b4⟩ := h.lens
  unfold plc
  rw [l1, l2, l3, l4]
  clear h l1 l2 l3 l4
  by_cases h1 : op = 1
  · subst h1
    go_enter Tryd.func82, Tryd.ntmps82
    go_wp2_with (fail)
    go_ret2
    exact ⟨rfl, (by repeat (first | exact BW.refl _ | assumption | apply BW.alloc | apply BW.drewN | apply BW.drew | (refine BW.setCell ?_ (by first | omega | (simp; done) | (simp; omega)) _) | (refine BW.trans ?_ (by assumption))))⟩
  by_cases h2 : op = 2
  · subst h2
    go_enter Tryd.func82, Tryd.ntmps82
    go_wp2_with (fail)
    go_ret2
    exact ⟨rfl, (by repeat (first | exact BW.refl _ | assumption | apply BW.alloc | apply BW.drewN | apply BW.drew | (refine BW.setCell ?_ (by first | omega | (simp; done) | (simp; omega)) _) | (refine BW.trans ?_ (by assumption))))⟩
  by_cases h17 : op = 17
  · subst h17
    go_enter Tryd.func82, Tryd.ntmps82
    go_wp2_with (fail)
    go_ret2
    exact ⟨rfl, (by repeat (first | exact BW.refl _ | assumption | apply BW.alloc | apply BW.drewN | apply BW.drew | (refine BW.setCell ?_ (by first | omega | (simp; done) | (simp; omega)) _) | (refine BW.trans ?_ (by assumption))))⟩
  by_cases h9 : op = 9
  · subst h9
    go_enter Tryd.func82, Tryd.ntmps82
    go_wp2_with (fail)
    go_ret2
    exact ⟨rfl, (by repeat (first | exact BW.refl _ | assumption | apply BW.alloc | apply BW.drewN | apply BW.drew | (refine BW.setCell ?_ (by first | omega | (simp; done) | (simp; omega)) _) | (refine BW.trans ?_ (by assumption))))⟩
  by_cases h10 : op = 10
  · subst h10
    go_enter Tryd.func82, Tryd.ntmps82
    go_wp2_with (fail)
    go_ret2
    exact ⟨rfl, (by repeat (first | exact BW.refl _ | assumption | apply BW.alloc | apply BW.drewN | apply BW.drew | (refine BW.setCell ?_ (by first | omega | (simp; done) | (simp; omega)) _) | (refine BW.trans ?_ (by assumption))))⟩
  by_cases h11 : op = 11
  · subst h11
    go_enter Tryd.func82, Tryd.ntmps82
    go_wp2_with (fail)
    go_ret2
    exact ⟨rfl, (by repeat (first | exact BW.refl _ | assumption | apply BW.alloc | apply BW.drewN | apply BW.drew | (refine BW.setCell ?_ (by first | omega | (simp; done) | (simp; omega)) _) | (refine BW.trans ?_ (by assumption))))⟩
  by_cases h16 : op = 16
  · subst h16
    go_enter Tryd.func82, Tryd.ntmps82
    go_wp2_with (fail)
    go_ret2
    exact ⟨rfl, (by repeat (first | exact BW.refl _ | assumption | apply BW.alloc | apply BW.drewN | apply BW.drew | (refine BW.setCell ?_ (by first | omega | (simp; done) | (simp; omega)) _) | (refine BW.trans ?_ (by assumption))))⟩
  by_cases h18 : op = 18
  · subst h18
    go_enter Tryd.func82, Tryd.ntmps82
    go_wp2_with (fail)
    go_ret2
    exact ⟨rfl, (by repeat (first | exact BW.refl _ | assumption | apply BW.alloc | apply BW.drewN | apply BW.drew | (refine BW.setCell ?_ (by first | omega | (simp; done) | (simp; omega)) _) | (refine BW.trans ?_ (by assumption))))⟩
  have e1 : (op == 1) = false := by simpa using h1
  have e2 : (op == 2) = false := by simpa using h2
  have e17 : (op == 17) = false := by simpa using h17
  have e9 : (op == 9) = false := by simpa using h9
  have e10 : (op == 10) = false := by simpa using h10
  have e11 : (op == 11) = false := by simpa using h11
  have e16 : (op == 16) = false := by simpa using h16
  have e18 : (op == 18) = false := by simpa using h18
  simp only [h1, h2, h17, h9, h10, h11, h16, h18, if_false]
  go_enter Tryd.func82, Tryd.ntmps82
  go_wp2_with (fail)
  go_ret2
  exact ⟨rfl, (by repeat (first | exact BW.refl _ | assumption | apply BW.alloc | apply BW.drewN | apply BW.drew | (refine BW.setCell ?_ (by first | omega | (simp; done) | (simp; omega)) _) | (refine BW.trans ?_ (by assumption))))⟩

end Go.Proofs.YtndhhmgbekcfoaaDoor
