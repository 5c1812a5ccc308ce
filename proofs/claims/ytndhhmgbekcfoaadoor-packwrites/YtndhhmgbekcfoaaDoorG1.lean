import Derived.Test.YtndhhmgbekcfoaaDoorW1
namespace Go.Proofs.YtndhhmgbekcfoaaDoor
open Go.RowKit
set_option linter.unusedVariables false
set_option linter.unusedSimpArgs false

/-- How much there is. -/
def txs (m : Mdl) : List Nat := m.texts.map (fun s => min s.size 70000)
def cds (m : Mdl) : List Nat := m.pros.map (fun x => min x.code.length 70000)
def tbs (m : Mdl) : List Nat := m.tabs.map (fun x => min x.ops.length 70000)
theorem txs_le (m : Mdl) (k : Nat) (h : k ≤ 300) : ((txs m).take k).sum ≤ 21000000 := by
  have := sum_le 70000 ((txs m).take k) (fun x hx => by obtain ⟨y, _, rfl⟩ := List.mem_map.1 (List.mem_of_mem_take hx); omega)
  have h2 : ((txs m).take k).length ≤ 300 := by simp; omega
  omega
theorem cds_le (m : Mdl) (k : Nat) (h : k ≤ 300) : ((cds m).take k).sum ≤ 21000000 := by
  have := sum_le 70000 ((cds m).take k) (fun x hx => by obtain ⟨y, _, rfl⟩ := List.mem_map.1 (List.mem_of_mem_take hx); omega)
  have h2 : ((cds m).take k).length ≤ 300 := by simp; omega
  omega
theorem tbs_le (m : Mdl) (k : Nat) (h : k ≤ 300) : ((tbs m).take k).sum ≤ 21000000 := by
  have := sum_le 70000 ((tbs m).take k) (fun x hx => by obtain ⟨y, _, rfl⟩ := List.mem_map.1 (List.mem_of_mem_take hx); omega)
  have h2 : ((tbs m).take k).length ≤ 300 := by simp; omega
  omega
/-- More than is gone through. -/
def gr (m : Mdl) : Bool := decide (300 < m.ints.length) || decide (300 < m.texts.length) || decide (300 < m.pros.length) || decide (300 < m.tabs.length) || decide (70000 < (txs m).sum + (cds m).sum + (tbs m).sum)
set_option maxRecDepth 100000 in
set_option maxHeartbeats 4000000 in
theorem great_any (r : Mw) (m : Mdl) (w : World) (h : ModAt w r m) : Calls Tryd.prog 8 #[r.v] w fun e w' => e = .returned (.bool (gr m)) ∧ BW w w' := by
  have H : Hid (ModAt w r m) := h
  obtain ⟨l1, l2, l3, l4, b1, b2, b3, b4⟩ := h.lens
  obtain ⟨ia, il, ic, ta, tl, tc, pa, pl, pc, ha, hl, hc⟩ := r
  dsimp only at l1 l2 l3 l4 b1 b2 b3 b4
  by_cases hi : 300 < il
  · have q1 : decide ((300 : Int) < (il : Int)) = true := by simp; omega
    have HR : Hid (gr m = true) := by show _ = _; simp [gr, l1, hi]
    clear h l1 l2 l3 l4
    go_enter Tryd.func8, Tryd.ntmps8
    go_wp2_with (fail)
    go_ret
    exact ⟨by rw [HR.out]; rfl, (by repeat (first | exact BW.refl _ | assumption | apply BW.alloc | apply BW.drewN | apply BW.drew | (refine BW.setCell ?_ (by first | omega | (simp; done) | (simp; omega)) _) | (refine BW.trans ?_ (by assumption))))⟩
  have p1 : decide ((300 : Int) < (il : Int)) = false := by simp; omega
  by_cases hi2 : 300 < tl
  · have q1 : decide ((300 : Int) < (tl : Int)) = true := by simp; omega
    have HR : Hid (gr m = true) := by show _ = _; simp [gr, l2, hi2]
    clear h l1 l2 l3 l4
    go_enter Tryd.func8, Tryd.ntmps8
    go_wp2_with (fail)
    go_ret
    exact ⟨by rw [HR.out]; rfl, (by repeat (first | exact BW.refl _ | assumption | apply BW.alloc | apply BW.drewN | apply BW.drew | (refine BW.setCell ?_ (by first | omega | (simp; done) | (simp; omega)) _) | (refine BW.trans ?_ (by assumption))))⟩
  have p2 : decide ((300 : Int) < (tl : Int)) = false := by simp; omega
  by_cases hi3 : 300 < pl
  · have q1 : decide ((300 : Int) < (pl : Int)) = true := by simp; omega
    have HR : Hid (gr m = true) := by show _ = _; simp [gr, l3, hi3]
    clear h l1 l2 l3 l4
    go_enter Tryd.func8, Tryd.ntmps8
    go_wp2_with (fail)
    go_ret
    exact ⟨by rw [HR.out]; rfl, (by repeat (first | exact BW.refl _ | assumption | apply BW.alloc | apply BW.drewN | apply BW.drew | (refine BW.setCell ?_ (by first | omega | (simp; done) | (simp; omega)) _) | (refine BW.trans ?_ (by assumption))))⟩
  have p3 : decide ((300 : Int) < (pl : Int)) = false := by simp; omega
  by_cases hi4 : 300 < hl
  · have q1 : decide ((300 : Int) < (hl : Int)) = true := by simp; omega
    have HR : Hid (gr m = true) := by show _ = _; simp [gr, l4, hi4]
    clear h l1 l2 l3 l4
    go_enter Tryd.func8, Tryd.ntmps8
    go_wp2_with (fail)
    go_ret
    exact ⟨by rw [HR.out]; rfl, (by repeat (first | exact BW.refl _ | assumption | apply BW.alloc | apply BW.drewN | apply BW.drew | (refine BW.setCell ?_ (by first | omega | (simp; done) | (simp; omega)) _) | (refine BW.trans ?_ (by assumption))))⟩
  have p4 : decide ((300 : Int) < (hl : Int)) = false := by simp; omega
  have L : Hid (m.ints.length = il ∧ m.texts.length = tl ∧ m.pros.length = pl ∧ m.tabs.length = hl) := ⟨l1, l2, l3, l4⟩
  have HT : Hid (∀ k, k ≤ 300 → ((txs m).take k).sum ≤ 21000000) := txs_le m
  have HC : Hid (∀ k, k ≤ 300 → ((cds m).take k).sum ≤ 21000000) := cds_le m
  have HB : Hid (∀ k, k ≤ 300 → ((tbs m).take k).sum ≤ 21000000) := tbs_le m
  have hi2 : tl ≤ 300 := by omega
  have hi3 : pl ≤ 300 := by omega
  have hi4 : hl ≤ 300 := by omega
  have hi : il ≤ 300 := by omega
  clear h l1 l2 l3 l4
  go_enter Tryd.func8, Tryd.ntmps8
  go_wp2_with (fail)
  go_loopw [3, 32] (fun a i w' => ∃ k : Nat, k ≤ tl ∧ a = .int .i64 ((0 + ((txs m).take k).sum : Nat) : Int) ∧ i = .int .i64 k ∧ BW (bxM w ⟨ia, il, ic, ta, tl, tc, pa, pl, pc, ha, hl, hc⟩) w') (fun _ i _ => tl - (intOf i).toNat)
  case atStart => exact ⟨0, Nat.zero_le _, by simp, rfl, by first | assumption | exact (by repeat (first | exact BW.refl _ | apply BW.alloc | apply BW.drewN | apply BW.drew))⟩
  case round =>
    obtain ⟨k, hk, rfl, rfl, hb1⟩ := hrel
    obtain ⟨⟨g0, g1, g2, g3⟩, gz, hb⟩ := bxM_at hb1
    dsimp only at g0 g1 g2 g3
    by_cases hlt : k < tl
    · obtain ⟨b, off, x, rfl, hbl, hx, hxs, hc0⟩ := StrsAt.get H.out.texts hlt
      have hcx := (hb.cells b (off + k) hbl).trans hc0
      have hxm : x.size ≤ 9223372036854775807 := by unfold maxLen at hxs; omega
      have HX : Hid _ := sum_snoc (map_get (fun y => min y.size 70000) hx)
      have hA := HT.out k (by omega)
      have hwr : IntKind.i64.wrap (((0 + ((txs m).take k).sum : Nat) : Int) + (if (70000 : Int) < (x.size : Int) then 70000 else (x.size : Int))) = ((0 + ((txs m).take k).sum : Nat) : Int) + (if (70000 : Int) < (x.size : Int) then 70000 else (x.size : Int)) := i64w _ (by split <;> omega) (by split <;> omega)
      push_cast at hwr
      clear hx
      go_wp2_with (fail)
      go_roundw
      case rel => exact ⟨k + 1, by omega, by simp only [Value.int.injEq, true_and]; show _ = (((0) + (((txs m).take (k + 1)).sum) : Nat) : Int); unfold txs at *; rw [HX.out]; split <;> omega, by go_num, hb1⟩
      case measure => simp [intOf]; omega
    · obtain rfl : tl = k := by omega
      have HS32 : Hid ((txs m).take tl = txs m) := List.take_of_length_le (by have := L.out; simp [txs]; omega)
      have hT2 := HT.out tl (by omega)
      rw [HS32.out] at hT2
      go_wp2_with (fail)
      go_loopw [3, 48] (fun a i w' => ∃ k : Nat, k ≤ pl ∧ a = .int .i64 (((txs m).sum + ((cds m).take k).sum : Nat) : Int) ∧ i = .int .i64 k ∧ BW (bxM w ⟨ia, il, ic, ta, tl, tc, pa, pl, pc, ha, hl, hc⟩) w') (fun _ i _ => pl - (intOf i).toNat)
      case atStart => exact ⟨0, Nat.zero_le _, by have := HS32.out; simp [this], rfl, by first | assumption | exact (by repeat (first | exact BW.refl _ | apply BW.alloc | apply BW.drewN | apply BW.drew))⟩
      case round =>
        obtain ⟨k, hk, rfl, rfl, hb1⟩ := hrel
        obtain ⟨⟨g0, g1, g2, g3⟩, gz, hb⟩ := bxM_at hb1
        dsimp only at g0 g1 g2 g3
        by_cases hlt : k < pl
        · obtain ⟨b, off, x, rfl, hbl, hx, ca, cl, cc, hK, hV⟩ := RowAt.get H.out.pros hlt
          obtain ⟨d0, d1, d2, d3⟩ := PrK.bw hK hb hbl
          have hol := hV.2.2.2.2.2.1
          have hob : cl ≤ 9223372036854775807 := by have := hV.2.2.2.1; have := hV.2.2.2.2.1; unfold maxLen at *; omega
          have HX : Hid _ := sum_snoc (map_get (fun y => min y.code.length 70000) hx)
          have hA := HC.out k (by omega)
          have hwr : IntKind.i64.wrap ((((txs m).sum + ((cds m).take k).sum : Nat) : Int) + (if (70000 : Int) < (cl : Int) then 70000 else (cl : Int))) = (((txs m).sum + ((cds m).take k).sum : Nat) : Int) + (if (70000 : Int) < (cl : Int) then 70000 else (cl : Int)) := i64w _ (by split <;> omega) (by split <;> omega)
          push_cast at hwr
          clear hx
          go_wp2_with (fail)
          go_roundw
          case rel => exact ⟨k + 1, by omega, by simp only [Value.int.injEq, true_and]; show _ = ((((txs m).sum) + (((cds m).take (k + 1)).sum) : Nat) : Int); unfold cds at *; rw [HX.out, hol]; split <;> omega, by go_num, hb1⟩
          case measure => simp [intOf]; omega
        · obtain rfl : pl = k := by omega
          have HS48 : Hid ((cds m).take pl = cds m) := List.take_of_length_le (by have := L.out; simp [cds]; omega)
          have hT2 := HT.out tl (by omega)
          have hC2 := HC.out pl (by omega)
          rw [HS32.out] at hT2
          rw [HS48.out] at hC2
          go_wp2_with (fail)
          go_loopw [3, 65] (fun a i w' => ∃ k : Nat, k ≤ hl ∧ a = .int .i64 (((txs m).sum + (cds m).sum + ((tbs m).take k).sum : Nat) : Int) ∧ i = .int .i64 k ∧ BW (bxM w ⟨ia, il, ic, ta, tl, tc, pa, pl, pc, ha, hl, hc⟩) w') (fun _ i _ => hl - (intOf i).toNat)
          case atStart => exact ⟨0, Nat.zero_le _, by have := HS48.out; simp [this], rfl, by first | assumption | exact (by repeat (first | exact BW.refl _ | apply BW.alloc | apply BW.drewN | apply BW.drew))⟩
          case round =>
            obtain ⟨k, hk, rfl, rfl, hb1⟩ := hrel
            obtain ⟨⟨g0, g1, g2, g3⟩, gz, hb⟩ := bxM_at hb1
            dsimp only at g0 g1 g2 g3
            by_cases hlt : k < hl
            · obtain ⟨b, off, x, rfl, hbl, hx, oa, ol, oc, hK, hT⟩ := RowAt.get H.out.tabs hlt
              obtain ⟨d0, d1, d2⟩ := TbK.bw hK hb hbl
              have hol := hT.2.2.2.1
              have hob := hT.2.2.1
              have HX : Hid _ := sum_snoc (map_get (fun y => min y.ops.length 70000) hx)
              have hA := HB.out k (by omega)
              have hwr : IntKind.i64.wrap ((((txs m).sum + (cds m).sum + ((tbs m).take k).sum : Nat) : Int) + (if (70000 : Int) < (ol : Int) then 70000 else (ol : Int))) = (((txs m).sum + (cds m).sum + ((tbs m).take k).sum : Nat) : Int) + (if (70000 : Int) < (ol : Int) then 70000 else (ol : Int)) := i64w _ (by split <;> omega) (by split <;> omega)
              push_cast at hwr
              clear hx
              go_wp2_with (fail)
              go_roundw
              case rel => exact ⟨k + 1, by omega, by simp only [Value.int.injEq, true_and]; show _ = ((((txs m).sum + (cds m).sum) + (((tbs m).take (k + 1)).sum) : Nat) : Int); unfold tbs at *; rw [HX.out, hol]; split <;> omega, by go_num, hb1⟩
              case measure => simp [intOf]; omega
            · obtain rfl : hl = k := by omega
              have HS65 : Hid ((tbs m).take hl = tbs m) := List.take_of_length_le (by have := L.out; simp [tbs]; omega)
              have hA := HB.out hl (by omega)
              go_wp2_with (fail)
              go_ret
              refine ⟨?_, (by repeat (first | exact BW.refl _ | assumption | apply BW.alloc | apply BW.drewN | apply BW.drew | (refine BW.setCell ?_ (by first | omega | (simp; done) | (simp; omega)) _) | (refine BW.trans ?_ (by assumption))))⟩
              have hL := L.out
              rw [HS65.out]
              unfold gr
              have e1 : ¬ 300 < m.ints.length := by omega
              have e2 : ¬ 300 < m.texts.length := by omega
              have e3 : ¬ 300 < m.pros.length := by omega
              have e4 : ¬ 300 < m.tabs.length := by omega
              simp only [e1, e2, e3, e4, decide_false, Bool.false_or]
              show Ending.returned (.bool _) = _
              congr 2
              apply Bool.eq_iff_iff.2
              simp only [decide_eq_true_eq]
              omega

end Go.Proofs.YtndhhmgbekcfoaaDoor
