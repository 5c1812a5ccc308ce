import Derived.Test.YtndhhmgbekcfoaaDoorQ14
import Derived.RegionTactic
namespace Go.Proofs.YtndhhmgbekcfoaaDoor
open Go.RowKit
set_option linter.unusedVariables false
set_option linter.unusedSimpArgs false

/-- Bytes as an argument. -/
def BysAt (w : World) (ao : Option Addr) (c : Nat) (l : List Nat) : Prop := l.length ≤ c ∧ c ≤ maxLen ∧ Byt l ∧ (l.length = 0 ∨ ∃ b off, ao = some ⟨b, off, none⟩ ∧ b < w.heap.size ∧ ByAt w b off l)
/-- How Get ends. -/
def GetPost (l : List Nat) (w : World) (e : Ending) (w' : World) : Prop := BW w w' ∧ (match dGet l with
  | some m => ∃ r : Mw, e = .returned (.tuple #[r.v, .int .i64 0]) ∧ ModAt w' r m
  | none => e = .returned (.tuple #[.agg #[.slice none 0 0, .slice none 0 0, .slice none 0 0, .slice none 0 0], .int .i64 18]))
theorem new_at (w : World) (o : Obj) (k : Nat) (h : k = w.heap.size) : (w.alloc o).heap[k]? = some o := by subst h; exact heap_alloc_new w o
theorem getNo (l : List Nat) (h : dGet l = none) (w w' : World) (k : BW w w') : GetPost l w (.returned (.tuple #[.agg #[.slice none 0 0, .slice none 0 0, .slice none 0 0, .slice none 0 0], .int .i64 18])) w' := ⟨k, by rw [h]⟩
theorem getYes (l : List Nat) (m : Mdl) (h : dGet l = some m) (w w' : World) (r : Mw) (k : BW w w') (hm : ModAt w' r m) : GetPost l w (.returned (.tuple #[r.v, .int .i64 0])) w' := ⟨k, by rw [h]; exact ⟨r, rfl, hm⟩⟩
set_option maxRecDepth 100000 in
set_option maxHeartbeats 4000000 in
theorem get_any (w : World) (ao : Option Addr) (c : Nat) (l : List Nat) (h : BysAt w ao c l) (hv : Vs w) : Calls Tryd.prog 12 #[.slice ao l.length c] w (GetPost l w) := by
  have hmf : ∀ (fn : Fn) (first cap : Array Value) (w : World), (Instr.makeFunc fn first cap).run Tryd.prog w = .ok (.func fn first cap) w := fun _ _ _ _ => rfl
  have HM : Hid (∀ w' r m, BW w w' → ModAt w' r m → Calls Tryd.prog 16 #[r.v] w' fun e w'' => e = .returned (.bool (mayB m)) ∧ BW w' w'') := fun w' r m k hm => may_any r m w' hm (hv.bw k)
  have HV : Hid (Vs w) := hv
  have H : Hid (BysAt w ao c l) := h
  have hlc : l.length ≤ 9223372036854775807 := by have := h.1; have := h.2.1; unfold maxLen at this; omega
  clear h hv
  by_cases hl : 1048576 < l.length
  · have HN : Hid (dGet l = none) := by show _ = _; unfold dGet; rw [if_pos hl]
    have e1 : decide ((1048576 : Int) < (l.length : Int)) = true := by simp; omega
    go_enter_defers Tryd.func12, Tryd.ntmps12
    go_wp2_with (fail)
    obtain ⟨X, hX⟩ : ∃ X, X = (w.alloc (.cells #[.slice none 0 0, .slice none 0 0, .slice none 0 0, .slice none 0 0] 27)).alloc (.cells #[.int .i64 18] 31) := ⟨_, rfl⟩
    rw [← hX]
    have hbw : BW w X := by rw [hX]; exact (by repeat (first | exact BW.refl _ | apply BW.alloc | apply BW.drewN | apply BW.drew))
    have C2 : X.heap[w.heap.size]? = some (.cells #[.slice none 0 0, .slice none 0 0, .slice none 0 0, .slice none 0 0] 27 (0, 0)) := by rw [hX, World.alloc_heap_old _ _ _ (by simp)]; exact heap_alloc_new w _
    have C3 : X.heap[w.heap.size + 1]? = some (.cells #[.int .i64 18] 31 (0, 0)) := by rw [hX]; exact new_at _ _ _ (by simp)
    clear hX
    have c0 : X.cell? ⟨w.heap.size, 0, none⟩ = some (.slice none 0 0) := by rw [Lib.cell_of_heap C2]; rfl
    have c1 : X.cell? ⟨w.heap.size, 1, none⟩ = some (.slice none 0 0) := by rw [Lib.cell_of_heap C2]; rfl
    have c2 : X.cell? ⟨w.heap.size, 2, none⟩ = some (.slice none 0 0) := by rw [Lib.cell_of_heap C2]; rfl
    have c3 : X.cell? ⟨w.heap.size, 3, none⟩ = some (.slice none 0 0) := by rw [Lib.cell_of_heap C2]; rfl
    have d0 : X.cell? ⟨w.heap.size + 1, 0, none⟩ = some (.int .i64 18) := by rw [Lib.cell_of_heap C3]; rfl
    simp [bodyPostD, Leaves, settle, results, Tryd.results12, go_sem, c0, c1, c2, c3, d0]
    exact getNo l HN.out w _ hbw
  · have HG : Hid (dGet l = (dMod l).bind fun m => if mayB m then some m else none) := by show _ = _; unfold dGet; rw [if_neg hl]
    have e1 : decide ((1048576 : Int) < (l.length : Int)) = false := by simp; omega
    go_enter_defers Tryd.func12, Tryd.ntmps12
    go_wp2_with (fail)
    obtain ⟨X, hX⟩ : ∃ X, X = ((w.alloc (.cells #[.slice none 0 0, .slice none 0 0, .slice none 0 0, .slice none 0 0] 27)).alloc (.cells #[.int .i64 0] 31)).alloc (.cells #[.slice ao l.length c] 58) := ⟨_, rfl⟩
    rw [← hX]
    have hbw : BW w X := by rw [hX]; exact (by repeat (first | exact BW.refl _ | apply BW.alloc | apply BW.drewN | apply BW.drew))
    have hXs : X.heap.size = w.heap.size + 1 + 1 + 1 := by rw [hX]; simp
    have X2 : Hid (X.heap[w.heap.size]? = some (.cells #[.slice none 0 0, .slice none 0 0, .slice none 0 0, .slice none 0 0] 27 (0, 0))) := by show _ = _; rw [hX, World.alloc_heap_old _ _ _ (by simp; omega), World.alloc_heap_old _ _ _ (by simp)]; exact heap_alloc_new w _
    have X3 : Hid (X.heap[w.heap.size + 1]? = some (.cells #[.int .i64 0] 31 (0, 0))) := by show _ = _; rw [hX, World.alloc_heap_old _ _ _ (by simp)]; exact new_at _ _ _ (by simp)
    have X4 : X.heap[w.heap.size + 1 + 1]? = some (.cells #[.slice ao l.length c] 58 (0, 0)) := by rw [hX]; exact new_at _ _ _ (by simp)
    clear hX
    have HR : Hid (Rd w X (w.heap.size + 1 + 1) l) := ⟨hbw, by omega, by omega, H.out.2.2.1, ao, c, X4, H.out.1, H.out.2.1, H.out.2.2.2⟩
    have HC0 : Hid _ := rdModule_any w X (w.heap.size + 1 + 1) l HR.out
    cases hd : dMod l with
    | none =>
      have HC : Hid (Calls Tryd.prog 21 #[.pointer (some ⟨w.heap.size + 1 + 1, 0, none⟩)] X fun e w' => X.grownBy w' (some (w.heap.size + 1 + 1)) ∧ e = .panicked [{ v := .iface 55 (.agg #[]), recovered := false }]) := by have := HC0.out; rw [hd] at this; exact this
      have HD : Hid (dMod l = none) := hd
      clear HC0 hd X4
      refine Calls.mono HC.out ?_
      rintro e w1 ⟨g1, rfl⟩
      have C2 := keep_heap g1 X2.out (by omega)
      have C3 := keep_heap g1 X3.out (by omega)
      have HBW : BW w w1 := Below.grown hbw g1 hbw.size (fun k hk => by cases hk; omega)
      refine doorE _ _ _ w.heap.size (w.heap.size + 1) _ _ _ _ _ rfl rfl (by omega) C2 C3 (fun w' hb => ?_)
      exact getNo l (by rw [HG.out, HD.out]; rfl) w _ (Below.trans HBW hb)
    | some m =>
      have HC : Hid (Calls Tryd.prog 21 #[.pointer (some ⟨w.heap.size + 1 + 1, 0, none⟩)] X fun e w' => X.grownBy w' (some (w.heap.size + 1 + 1)) ∧ ∃ r : Mw, e = .returned r.v ∧ ModAt (hidP (bel X.heap.size) w') r m) := by have := HC0.out; rw [hd] at this; exact this
      have HD : Hid (dMod l = some m) := hd
      clear HC0 hd X4
      refine Calls.mono HC.out ?_
      rintro e w1 ⟨g1, r, rfl, hm⟩
      obtain ⟨ia, il, ic, ta, tl, tc, pa, pl, pc, ha, hl, hc⟩ := r
      have HMD : Hid _ := hm
      have B2 : Hid _ := keep_heap g1 X2.out (by omega)
      have B3 : Hid _ := keep_heap g1 X3.out (by omega)
      have HBW : Hid (BW w w1) := Below.grown hbw g1 hbw.size (fun k hk => by cases hk; omega)
      have b0 : w1.cell? ⟨w.heap.size, 0, none⟩ = some (.slice none 0 0) := by rw [Lib.cell_of_heap B2.out]; rfl
      have b1 : w1.cell? ⟨w.heap.size, 1, none⟩ = some (.slice none 0 0) := by rw [Lib.cell_of_heap B2.out]; rfl
      have b2 : w1.cell? ⟨w.heap.size, 2, none⟩ = some (.slice none 0 0) := by rw [Lib.cell_of_heap B2.out]; rfl
      have b3 : w1.cell? ⟨w.heap.size, 3, none⟩ = some (.slice none 0 0) := by rw [Lib.cell_of_heap B2.out]; rfl
      have d0 : w1.cell? ⟨w.heap.size + 1, 0, none⟩ = some (.int .i64 0) := by rw [Lib.cell_of_heap B3.out]; rfl
      have z2 := Lib.frozen_of_heap B2.out
      have z3 := Lib.frozen_of_heap B3.out
      have hz1 := g1.size
      clear HC hm g1 hbw
      obtain ⟨S, hS⟩ : ∃ S, S = ((((w1.setCell ⟨w.heap.size, 0, none⟩ (.slice ia il ic)).setCell ⟨w.heap.size, 1, none⟩ (.slice ta tl tc)).setCell ⟨w.heap.size, 2, none⟩ (.slice pa pl pc)).setCell ⟨w.heap.size, 3, none⟩ (.slice ha hl hc)) := ⟨_, rfl⟩
      have s1 := heap_setCell_same w1 w.heap.size 0 _ 27 (.slice ia il ic) B2.out
      have s2 := heap_setCell_same _ w.heap.size 1 _ 27 (.slice ta tl tc) s1
      have s3 := heap_setCell_same _ w.heap.size 2 _ 27 (.slice pa pl pc) s2
      have s4 := heap_setCell_same _ w.heap.size 3 _ 27 (.slice ha hl hc) s3
      have gS : w1.grownBy S (some w.heap.size) := by rw [hS]; exact gb_trans (gb_trans (gb_trans (gb_set w1 w.heap.size 0 _) (gb_set _ w.heap.size 1 _)) (gb_set _ w.heap.size 2 _)) (gb_set _ w.heap.size 3 _)
      rw [← hS] at s4
      simp at s4
      have C2 : Hid (S.heap[w.heap.size]? = some (.cells #[.slice ia il ic, .slice ta tl tc, .slice pa pl pc, .slice ha hl hc] 27 (0, 0))) := s4
      have C3 : Hid (S.heap[w.heap.size + 1]? = some (.cells #[.int .i64 0] 31 (0, 0))) := keep_heap gS B3.out (by omega)
      have HBS : Hid (BW w S) := Below.grown HBW.out gS HBW.out.size (fun k hk => by cases hk; exact Nat.le_refl _)
      have hzS : w.heap.size + 1 + 1 + 1 ≤ S.heap.size := by have := gS.size; omega
      have HMH : Hid (ModAt (hidP (bel X.heap.size) S) ⟨ia, il, ic, ta, tl, tc, pa, pl, pc, ha, hl, hc⟩ m) := (Sub.mod (hidP_sub gS.size (fun b hb hp => ⟨hp, gS.block b hb (fun e => by cases e; simp at hp; omega)⟩)) HMD.out)
      have HS : Hid (S = ((((w1.setCell ⟨w.heap.size, 0, none⟩ (.slice ia il ic)).setCell ⟨w.heap.size, 1, none⟩ (.slice ta tl tc)).setCell ⟨w.heap.size, 2, none⟩ (.slice pa pl pc)).setCell ⟨w.heap.size, 3, none⟩ (.slice ha hl hc))) := hS
      have HMC : Hid (Calls Tryd.prog 16 #[.agg #[.slice ia il ic, .slice ta tl tc, .slice pa pl pc, .slice ha hl hc]] S fun e w'' => e = .returned (.bool (mayB m)) ∧ BW S w'') := HM.out S ⟨ia, il, ic, ta, tl, tc, pa, pl, pc, ha, hl, hc⟩ m HBS.out (Sub.mod (hidP_w (bel X.heap.size) S) HMH.out)
      clear s1 s2 s3 s4 gS hS HM HMD B2 B3 HBW
      have facts : Hid (∀ w2, BW S w2 → w2.heap[w.heap.size]? = some (.cells #[.slice ia il ic, .slice ta tl tc, .slice pa pl pc, .slice ha hl hc] 27 (0, 0)) ∧ w2.heap[w.heap.size + 1]? = some (.cells #[.int .i64 0] 31 (0, 0))) := fun w2 hb => ⟨(hb.block _ (by omega)).trans C2.out, (hb.block _ (by omega)).trans C3.out⟩
      cases hm : mayB m with
      | true =>
        rw [hm] at HMC
        have HDM : Hid (dGet l = some m) := by show _ = _; rw [HG.out, HD.out]; simp [hm]
        clear hm
        go_wp2_with (first | (go_at_call 16; go_loud (rw [← HS.out]; refine Calls.mono HMC.out ?_; rintro e w2 ⟨rfl, hb2⟩; have HB2 : Hid (BW S w2) := hb2; obtain ⟨k2, k3⟩ := facts.out w2 hb2; have K2 : Hid _ := k2; have K3 : Hid _ := k3; have c0 : w2.cell? ⟨w.heap.size, 0, none⟩ = some (.slice ia il ic) := (by rw [Lib.cell_of_heap k2]; rfl); have c1 : w2.cell? ⟨w.heap.size, 1, none⟩ = some (.slice ta tl tc) := (by rw [Lib.cell_of_heap k2]; rfl); have c2 : w2.cell? ⟨w.heap.size, 2, none⟩ = some (.slice pa pl pc) := (by rw [Lib.cell_of_heap k2]; rfl); have c3 : w2.cell? ⟨w.heap.size, 3, none⟩ = some (.slice ha hl hc) := (by rw [Lib.cell_of_heap k2]; rfl); have e0 : w2.cell? ⟨w.heap.size + 1, 0, none⟩ = some (.int .i64 0) := (by rw [Lib.cell_of_heap k3]; rfl); have y2 := Lib.frozen_of_heap k2; have y3 := Lib.frozen_of_heap k3; have hz2 := hb2.size; clear hb2 k2 k3)))
        obtain ⟨q2, q3, q4, q5⟩ := set27 (a2 := w.heap.size) (a3 := w.heap.size + 1) (by omega) K2.out K3.out (.slice ia il ic) (.slice ta tl tc) (.slice pa pl pc) (.slice ha hl hc) (.int .i64 0)
        refine doorI _ _ _ w.heap.size (w.heap.size + 1) _ _ _ _ _ rfl rfl q2 q3 (fun w' hb => ?_)
        refine getYes l m HDM.out w w' ⟨ia, il, ic, ta, tl, tc, pa, pl, pc, ha, hl, hc⟩ ?_ ?_
        · exact BW.trans (show BW w _ from Below.trans (HBS.out.trans HB2.out) q4) hb
        · refine Sub.mod (hidP_w (bel X.heap.size) w') (Sub.mod (hidP_sub ?_ (fun b hb2 hp => ⟨hp, ?_⟩)) HMH.out)
          · have := hb.size; have := q4.size; omega
          · simp at hp
            have k1 := HB2.out.block b hb2
            have k2 := q5 b (by omega) (by omega)
            have k3 := hb.block b (by have := q4.size; omega)
            exact k3.trans (k2.trans k1)
      | false =>
        rw [hm] at HMC
        have HDM : Hid (dGet l = none) := by show _ = _; rw [HG.out, HD.out]; simp [hm]
        clear hm
        go_wp2_with (first | (go_at_call 16; go_loud (rw [← HS.out]; refine Calls.mono HMC.out ?_; rintro e w2 ⟨rfl, hb2⟩; have HB2 : Hid (BW S w2) := hb2; obtain ⟨k2, k3⟩ := facts.out w2 hb2; have K2 : Hid _ := k2; have K3 : Hid _ := k3; have c0 : w2.cell? ⟨w.heap.size, 0, none⟩ = some (.slice ia il ic) := (by rw [Lib.cell_of_heap k2]; rfl); have c1 : w2.cell? ⟨w.heap.size, 1, none⟩ = some (.slice ta tl tc) := (by rw [Lib.cell_of_heap k2]; rfl); have c2 : w2.cell? ⟨w.heap.size, 2, none⟩ = some (.slice pa pl pc) := (by rw [Lib.cell_of_heap k2]; rfl); have c3 : w2.cell? ⟨w.heap.size, 3, none⟩ = some (.slice ha hl hc) := (by rw [Lib.cell_of_heap k2]; rfl); have e0 : w2.cell? ⟨w.heap.size + 1, 0, none⟩ = some (.int .i64 0) := (by rw [Lib.cell_of_heap k3]; rfl); have y2 := Lib.frozen_of_heap k2; have y3 := Lib.frozen_of_heap k3; have hz2 := hb2.size; clear hb2 k2 k3)))
        obtain ⟨q2, q3, q4, q5⟩ := set27 (a2 := w.heap.size) (a3 := w.heap.size + 1) (by omega) K2.out K3.out (.slice none 0 0) (.slice none 0 0) (.slice none 0 0) (.slice none 0 0) (.int .i64 18)
        refine doorI _ _ _ w.heap.size (w.heap.size + 1) _ _ _ _ _ rfl rfl q2 q3 (fun w' hb => ?_)
        exact getNo l HDM.out w w' (BW.trans (show BW w _ from Below.trans (HBS.out.trans HB2.out) q4) hb)

end Go.Proofs.YtndhhmgbekcfoaaDoor
