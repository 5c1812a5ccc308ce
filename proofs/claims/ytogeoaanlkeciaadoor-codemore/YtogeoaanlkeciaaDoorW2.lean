import Derived.Test.YtogeoaanlkeciaaDoorW1
import Derived.Deep.WholeRow
namespace Go.Proofs.YtogeoaanlkeciaaDoor
open Go.RowKit
set_option linter.unusedVariables false
set_option linter.unusedSimpArgs false

theorem Cw.range {W : World} (h : Cw W) : W.rangeAt 0 0 (wl.map Value.string) := fun j x hx => by
  simp only [List.getElem?_map, Option.map_eq_some_iff] at hx
  obtain ⟨s, hs, rfl⟩ := hx
  have hj : j < 32 := (List.getElem?_eq_some_iff.1 hs).1
  rw [wl_get j hj] at hs
  cases hs
  simpa using h.2 j hj
theorem StrsAt.ofCells (w : World) (ty : TypeId) : StrsAt (w.alloc (.cells (wl.map Value.string).toArray ty)) (some ⟨w.heap.size, 0, none⟩) 32 wl := by
  refine ⟨rfl, by decide, wl_small, .inr ⟨_, _, rfl, by simp, fun i s hi => ?_⟩⟩
  rw [cell_new]
  simp [hi]
theorem wp_slice66 {o : Oper} {a : Act} {w : World} {K : Act → World → Prop} {Q : Exit → Act → World → Prop} (x : Operand) (ho : o.op = .slice 66 x none none none) (b : Nat) (hx : a.eval x = .pointer (some ⟨b, 0, none⟩))
    (h : K (a.put o.dst (.slice (some ⟨b, 0, none⟩) 32 32)) w) : o.wp Tryd.prog a w K Q := by
  have hS : (Instr.sliceAt 66 (.pointer (some ⟨b, 0, none⟩)) none none none).run Tryd.prog w = .ok (.slice (some ⟨b, 0, none⟩) 32 32) w := by kernel_rfl
  unfold Oper.wp execOp
  simp only [ho, hx, Option.map_none, Sem.run_bind, Sem.run_pure, Result.andThen_ok, hS]
  exact h
theorem wpList_slice66 {ops : Array Oper} {rest : List Oper} {o : Oper} {a : Act} {w : World} {Q : Exit → Act → World → Prop} (hgd : o.guard = none) (x : Operand) (ho : o.op = .slice 66 x none none none) (b : Nat) (hx : a.eval x = .pointer (some ⟨b, 0, none⟩))
    (h : wpList Tryd.prog ops Q rest (a.put o.dst (.slice (some ⟨b, 0, none⟩) 32 32)) w) : wpList Tryd.prog ops Q (o :: rest) a w := by
  refine wpList_plain hgd fun K hK => ?_
  have hS : (Instr.sliceAt 66 (.pointer (some ⟨b, 0, none⟩)) none none none).run Tryd.prog w = .ok (.slice (some ⟨b, 0, none⟩) 32 32) w := by kernel_rfl
  unfold Oper.wp execOp
  simp only [ho, hx, Option.map_none, Sem.run_bind, Sem.run_pure, Result.andThen_ok, hS]
  exact hK _ _ h
set_option maxRecDepth 100000 in
set_option maxHeartbeats 4000000 in
theorem words_gen (l : List Value) (hl : l.length = 32) (h1 : l.toArray.all (·.oneCell') = true) (w : World) (h : w.rangeAt 0 0 l) : Calls Tryd.prog 17 #[] w fun e w' => e = .returned (.slice (some ⟨w.heap.size, 0, none⟩) 32 32) ∧ w' = w.alloc (.cells l.toArray 66) := by
  have HW : Hid _ := h
  have hi : (Tryd.prog.info? 66).map (·.size) = some l.length := by rw [hl]; kernel_rfl
  have hi2 : (Tryd.prog.info? 66).map (·.size) = some l.toArray.size := by rw [List.size_toArray]; exact hi
  have hs : (32 : Nat) = l.toArray.size := by rw [List.size_toArray, hl]
  clear h
  go_enter Tryd.func17, Tryd.ntmps17
  go_wp2_with (first
    | (refine wpList_load_mid rfl 66 (.global 0) rfl 0 0 rfl l _ HW.out Tryd.underlying66 rfl hi (?_ : wpList _ _ _ _ (Act.put _ (some 2) (.agg l.toArray)) _))
    | (refine wpList_store_row rfl 66 (.tmp 1) (.tmp 2) rfl w.heap.size l.toArray rfl rfl 66 _ (heap_alloc_last w _) hi2 hs h1 ?_; rw [World.setRow_alloc_new]; generalize hW2 : w.alloc (.cells l.toArray 66) = W2; have HW2 : Hid _ := hW2; clear hW2 hi hi2 hs h1 hl)
    | (refine wpList_slice66 rfl (.tmp 1) rfl w.heap.size rfl ?_))
  go_ret
  exact ⟨rfl, HW2.out.symm⟩
theorem words_any (w : World) (hv : Cw w) : Calls Tryd.prog 17 #[] w fun e w' => e = .returned (.slice (some ⟨w.heap.size, 0, none⟩) 32 32) ∧ w' = w.alloc (.cells (wl.map Value.string).toArray 66) :=
  words_gen _ rfl (by kernel_rfl) w hv.range
set_option maxRecDepth 100000 in
set_option maxHeartbeats 4000000 in
theorem awake_any (w : World) (hv : Vs w) : Calls Tryd.prog 8 #[] w fun e w' => e = .returned (.bool true) ∧ BW w w' := by
  have HE : Hid (∀ w', BW w w' → Calls Tryd.prog 13 #[Mw.v ⟨none, 0, 0, none, 0, 0, none, 0, 0, none, 0, 0⟩, .agg #[.int .u8 10, .int .i64 2]] w' fun e w'' => e = .returned (.tuple #[.int .i64 3, .int .i64 1, .bool true]) ∧ BW w' w'') := fun w' h =>
    effect_any ⟨none, 0, 0, none, 0, 0, none, 0, 0, none, 0, 0⟩ ⟨[], [], [], []⟩ 10 2 w' ⟨⟨rfl, Nat.zero_le _, by simp, .inl rfl⟩, ⟨rfl, Nat.zero_le _, by simp, .inl rfl⟩, ⟨rfl, Nat.zero_le _, .inl rfl⟩, ⟨rfl, Nat.zero_le _, .inl rfl⟩, Nat.le_refl _, Nat.zero_le _, Nat.le_refl _, Nat.zero_le _, Nat.le_refl _, Nat.zero_le _, Nat.le_refl _, Nat.zero_le _⟩ (hv.bw h) (by unfold I64; omega)
  go_enter Tryd.func8, Tryd.ntmps8
  go_wp2_with (first | (go_at_call 13; refine (HE.out _ (by repeat (first | exact BW.refl _ | assumption | apply BW.alloc | apply BW.drewN | apply BW.drew | (refine BW.setCell ?_ (by first | omega | (simp; done) | (simp; omega)) _) | (refine BW.trans ?_ (by assumption))))).mono ?_; rintro e w1 ⟨rfl, b1⟩))
  go_ret
  exact ⟨rfl, (by repeat (first | exact BW.refl _ | assumption | apply BW.alloc | apply BW.drewN | apply BW.drew | (refine BW.setCell ?_ (by first | omega | (simp; done) | (simp; omega)) _) | (refine BW.trans ?_ (by assumption))))⟩

end Go.Proofs.YtogeoaanlkeciaaDoor
