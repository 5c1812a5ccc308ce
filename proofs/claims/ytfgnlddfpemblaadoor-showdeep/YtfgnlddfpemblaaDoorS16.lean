import Derived.Test.YtfgnlddfpemblaaDoorS8
import Derived.Test.YtfgnlddfpemblaaDoorS9
namespace Go.Proofs.YtfgnlddfpemblaaDoor
open Go.RowKit
set_option linter.unusedVariables false
set_option linter.unusedSimpArgs false

/-- The pairs within pairs of ShowDeep: the k-th has the one before, and 1. -/
def deepV : Nat → Va
  | 0 => ⟨0, 0, ⟨#[]⟩⟩
  | k + 1 => ⟨4, k, ⟨#[]⟩⟩
def deepPs (k : Nat) : List (Va × Va) := (List.range k).map fun i => (deepV i, ⟨1, 1, ⟨#[]⟩⟩)
theorem deepPs_len (k : Nat) : (deepPs k).length = k := by simp [deepPs]
theorem deepPs_succ (k : Nat) : deepPs (k + 1) = deepPs k ++ [(deepV k, ⟨1, 1, ⟨#[]⟩⟩)] := by simp [deepPs, List.range_succ]
theorem deepV_fine (k : Nat) (h : k ≤ 1000) : Fine (deepV k) := by
  cases k with
  | zero => exact ⟨by decide, by decide, by decide, by decide, by decide⟩
  | succ k => exact fine4 k (by omega)
theorem deepPs_fine (k : Nat) (h : k ≤ 1000) : ∀ p ∈ deepPs k, Fine p.1 ∧ Fine p.2 := by
  intro p hp
  simp only [deepPs, List.mem_map, List.mem_range] at hp
  obtain ⟨i, hi, rfl⟩ := hp
  exact ⟨deepV_fine i (by omega), fine1⟩
/-- The text that ShowDeep wants, put together from the inside. -/
def wraps (l : List UInt8) : Nat → List UInt8
  | 0 => l
  | n + 1 => 40 :: (wraps l n ++ [32, 46, 32, 49, 41])
theorem itoa1 : Lib.itoa 1 = [49] := by
  show (if (1 : Int) < 0 then _ else Lib.decDigits 1) = _
  rw [if_neg (by omega), Lib.decDigits]; simp
theorem deep_at (K i : Nat) (h : i < K) : look (deepPs K) (deepV (i + 1)) = some (deepV i, ⟨1, 1, ⟨#[]⟩⟩) := by
  simp [look, deepV, deepPs, h]
theorem deep_sho (K : Nat) : ∀ (d i : Nat), i ≤ K → sho (look (deepPs K)) d (deepV i) = wraps (if i ≤ d then [40, 41] else [46, 46]) (min i d) := by
  intro d
  induction d with
  | zero =>
    intro i hi
    cases i with
    | zero => simp [sho, deepV, flat, wraps]
    | succ i => simp [sho, deepV, flat, wraps]
  | succ d ih =>
    intro i hi
    cases i with
    | zero => simp [sho, deepV, flat, wraps]
    | succ i =>
      rw [sho, if_pos (show (deepV (i + 1)).t = 4 from rfl), deep_at K i (by omega)]
      simp only
      rw [ih i (by omega)]
      have e1 : sho (look (deepPs K)) d ⟨1, 1, ⟨#[]⟩⟩ = [49] := by
        cases d with
        | zero => simp [sho, flat, itoa1]
        | succ d => simp [sho, flat, itoa1]
      rw [e1]
      have e2 : min (i + 1) (d + 1) = min i d + 1 := by omega
      rw [e2, wraps]
      by_cases h : i ≤ d
      · rw [if_pos h, if_pos (by omega)]; simp
      · rw [if_neg h, if_neg (by omega)]; simp
theorem wraps_len (l : List UInt8) (n : Nat) : (wraps l n).length = l.length + 6 * n := by
  induction n with
  | zero => simp [wraps]
  | succ n ih => simp [wraps, ih]; omega

theorem deepV_v (k : Nat) : (deepV (k + 1)).v = V 4 k ⟨#[]⟩ := rfl
def D1 (w : World) (k : Nat) (i : Value) (w' : World) : Prop := ∃ j : Nat, j ≤ k ∧ i = .int .i64 j ∧ HeapIs w' w.heap.size w.heap.size 200 j (cellsOf (deepPs j)) ∧ w'.heap[w.heap.size + 1]? = some (.cells #[.int .u8 (deepV j).t, .int .i64 (deepV j).n, .string (deepV j).s] 24 (0, 0)) ∧ BW w w'
set_option maxRecDepth 100000 in
set_option maxHeartbeats 2000000 in
theorem showDeep_low (n : Int) (h0 : 0 ≤ n) (h1 : n ≤ 255) (k : Nat) (hn : n % 100 = k) (hk : k < 100) (h6 : k < 6) (w : World) (ht : Tab w) : Calls Tryd.prog 7 #[.int .u8 n] w fun e w' => e = .returned (.bool true) ∧ BW w w' := by
  have t1 : IntKind.i64.wrap n = n := i64w _ (by omega) (by omega)
  have t2 : n.tmod 100 = k := by rw [Int.tmod_eq_emod_of_nonneg (by omega), hn]
  have t3 : decide ((6 : Int) < (k : Int)) = false := by simp; omega
  have t4 : (k : Int) < 6 := by omega
  clear hn
  go_enter Tryd.func7, Tryd.ntmps7
  go_wp2_with (fail)
  refine (new_any 200 200 (by decide) _).mono ?_
  rintro e w0 ⟨rfl, rfl⟩
  go_wp2_with (fail)
  go_loopw [7] (fun i w' => D1 w k i w') (fun i _ => k - (intOf i).toNat)
  case atStart =>
    refine ⟨0, Nat.zero_le _, rfl, ?_, ?_, (by repeat (first | exact BW.refl _ | apply BW.alloc | apply BW.drewN | apply BW.drew))⟩
    · exact (HeapIs.new w 200).bw (by repeat (first | exact BW.refl _ | apply BW.alloc | apply BW.drewN | apply BW.drew))
    · exact new_at _ _ _ (by simp)
  case round =>
    obtain ⟨j, hj, rfl, HJ, BJ, hbj⟩ := hrel
    have c0 : wr.cell? ⟨w.heap.size + 1, 0, none⟩ = some (.int .u8 (deepV j).t) := (by simp only [World.cell?, BJ]; rfl)
    have c1 : wr.cell? ⟨w.heap.size + 1, 1, none⟩ = some (.int .i64 (deepV j).n) := (by simp only [World.cell?, BJ]; rfl)
    have c2 : wr.cell? ⟨w.heap.size + 1, 2, none⟩ = some (.string (deepV j).s) := (by simp only [World.cell?, BJ]; rfl)
    by_cases hlt : j < k
    · have hP : Hid (Calls Tryd.prog 11 #[.pointer (some ⟨w.heap.size, 0, none⟩), (deepV j).v, V 1 1 ⟨#[]⟩] wr fun e w' => e = .returned (.tuple #[V 4 j ⟨#[]⟩, .int .i64 0]) ∧ HeapIs w' w.heap.size w.heap.size 200 (j + 1) (cellsOf (deepPs (j + 1))) ∧ Fr w.heap.size w.heap.size wr w') := by
        show Calls _ _ _ _ _
        rw [deepPs_succ, cellsOf_snoc]
        exact pair_room w.heap.size w.heap.size 200 j (cellsOf (deepPs j)) (by omega) (by omega) _ _ _ 1 1 ⟨#[]⟩ wr HJ
      go_wp2_with (fail)
      refine hP.out.mono ?_
      rintro e w1 ⟨rfl, H1, F1⟩
      have B1 := F1.at24 BJ (by omega)
      have q0 : w1.cell? ⟨w.heap.size + 1, 0, none⟩ = some (.int .u8 (deepV j).t) := (by simp only [World.cell?, B1]; rfl)
      have q1 : w1.cell? ⟨w.heap.size + 1, 1, none⟩ = some (.int .i64 (deepV j).n) := (by simp only [World.cell?, B1]; rfl)
      have q2 : w1.cell? ⟨w.heap.size + 1, 2, none⟩ = some (.string (deepV j).s) := (by simp only [World.cell?, B1]; rfl)
      have z0 : w1.frozen? ⟨w.heap.size + 1, 0, none⟩ = false := (by simp [World.frozen?, B1])
      have z1 : w1.frozen? ⟨w.heap.size + 1, 1, none⟩ = false := (by simp [World.frozen?, B1])
      have z2 : w1.frozen? ⟨w.heap.size + 1, 2, none⟩ = false := (by simp [World.frozen?, B1])
      have hT : Ty w1 (w.heap.size + 1) 24 := ⟨_, B1⟩
      have hN : Hid (D1 w k (.int .i64 ((j : Int) + 1)) (((w1.setCell ⟨w.heap.size + 1, 0, none⟩ (.int .u8 4)).setCell ⟨w.heap.size + 1, 1, none⟩ (.int .i64 j)).setCell ⟨w.heap.size + 1, 2, none⟩ (.string ⟨#[]⟩))) := by
        refine ⟨j + 1, by omega, by simp, ?_, set3 B1, ?_⟩
        · exact HeapIs.put (by decide) (by decide) ((hT.setCell _ _ _).setCell _ _ _) (HeapIs.put (by decide) (by decide) (hT.setCell _ _ _) (HeapIs.put (by decide) (by decide) hT H1 _ _) _ _) _ _
        · exact (((Below.trans (B := w.heap.size) hbj F1.bel).setCell (p := ⟨w.heap.size + 1, 0, none⟩) (Nat.le_succ _) _).setCell (p := ⟨w.heap.size + 1, 1, none⟩) (Nat.le_succ _) _).setCell (p := ⟨w.heap.size + 1, 2, none⟩) (Nat.le_succ _) _
      clear B1 H1 F1 hT BJ HJ hbj c0 c1 c2
      go_wp2_with (fail)
      go_roundw
      case rel => exact hN.out
      case measure => simp [intOf]; omega
    · obtain rfl : j = k := by omega
      have hX : Hid (∀ v, BW wr v → Calls Tryd.prog 12 #[.iface 26 (.pointer (some ⟨w.heap.size, 0, none⟩)), (deepV j).v] v fun e w' => e = .returned (.string ⟨(wraps [40, 41] j).toArray⟩) ∧ BW v w') := by
        intro v hv
        have hl : Look wr.heap.size (.iface 26 (.pointer (some ⟨w.heap.size, 0, none⟩))) (look (deepPs j)) wr := Look.heap (ps := deepPs j) (by rw [deepPs_len]; exact HJ) (by rw [deepPs_len]; omega)
        have := show_any _ _ (look_fine (deepPs_fine j (by omega))) (deepV j) (deepV_fine j (by omega)) v (hl.up hv.size hv) (ht.bw (hbj.trans hv))
        rw [deep_sho j 6 j (Nat.le_refl _)] at this
        have e1 : (if j ≤ 6 then [40, 41] else [46, 46]) = ([40, 41] : List UInt8) := by rw [if_pos (by omega)]
        have e2 : min j 6 = j := by omega
        rw [e1, e2] at this
        exact this
      have hAw : Hid (∀ v, BW wr v → Calls Tryd.prog 8 #[] v fun e w' => e = .returned (.bool true) ∧ BW v w') := fun v hv => awake_any v (ht.bw (hbj.trans hv))
      clear HJ BJ
      obtain ⟨W, hW⟩ : ∃ W, W = wr := ⟨_, rfl⟩
      go_wp2_with (fail)
      go_loopw [6, 8] (fun s i w' => ∃ m : Nat, m ≤ j ∧ s = .string ⟨(wraps [40, 41] m).toArray⟩ ∧ i = .int .i64 m ∧ w' = W) (fun _ i _ => j - (intOf i).toNat)
      case atStart => exact ⟨0, Nat.zero_le _, rfl, rfl, hW.symm⟩
      case round =>
        obtain ⟨m, hm, rfl, rfl, rfl⟩ := hrel
        subst hW
        have hwl : Hid ((⟨(wraps [40, 41] m).toArray⟩ : ByteArray).size ≤ 1000) := by
          show (wraps [40, 41] m).toArray.size ≤ _
          rw [List.size_toArray, wraps_len]
          show 2 + 6 * m ≤ 1000
          omega
        by_cases hmt : m < j
        · have hS : Hid ((⟨#[40]⟩ ++ ⟨(wraps [40, 41] m).toArray⟩ ++ ⟨#[32, 46, 32, 49, 41]⟩ : ByteArray) = ⟨(wraps [40, 41] (m + 1)).toArray⟩) := by
            show _ = _
            apply ByteArray.ext
            simp [ByteArray.data_append, wraps]
          generalize (⟨(wraps [40, 41] m).toArray⟩ : ByteArray) = x at *
          have hx := hwl.out
          go_wp2_with (fail)
          go_roundw
          case rel => exact ⟨m + 1, by omega, by rw [← hS.out], by simp, by simp⟩
          case measure => simp [intOf]; omega
        · obtain rfl : j = m := by omega
          generalize (⟨(wraps [40, 41] j).toArray⟩ : ByteArray) = x at *
          go_wp2_with (fail)
          refine (hX.out _ (BW.refl _)).mono ?_
          rintro e v1 ⟨rfl, hb1⟩
          go_wp2_with (fail)
          refine (hAw.out _ hb1).mono ?_
          rintro e v2 ⟨rfl, hb2⟩
          go_wp2_with (fail)
          go_ret
          exact ⟨rfl, hbj.trans (hb1.trans hb2)⟩
set_option maxRecDepth 100000 in
set_option maxHeartbeats 2000000 in
theorem showDeep_six (n : Int) (h0 : 0 ≤ n) (h1 : n ≤ 255) (hn : n % 100 = 6) (w : World) (ht : Tab w) : Calls Tryd.prog 7 #[.int .u8 n] w fun e w' => e = .returned (.bool true) ∧ BW w w' := by
  have t1 : IntKind.i64.wrap n = n := i64w _ (by omega) (by omega)
  have t2 : n.tmod 100 = 6 := by rw [Int.tmod_eq_emod_of_nonneg (by omega), hn]
  clear hn
  go_enter Tryd.func7, Tryd.ntmps7
  go_wp2_with (fail)
  refine (new_any 200 200 (by decide) _).mono ?_
  rintro e w0 ⟨rfl, rfl⟩
  go_wp2_with (fail)
  go_loopw [7] (fun i w' => D1 w 6 i w') (fun i _ => 6 - (intOf i).toNat)
  case atStart =>
    refine ⟨0, Nat.zero_le _, rfl, ?_, ?_, (by repeat (first | exact BW.refl _ | apply BW.alloc | apply BW.drewN | apply BW.drew))⟩
    · exact (HeapIs.new w 200).bw (by repeat (first | exact BW.refl _ | apply BW.alloc | apply BW.drewN | apply BW.drew))
    · exact new_at _ _ _ (by simp)
  case round =>
    obtain ⟨j, hj, rfl, HJ, BJ, hbj⟩ := hrel
    have c0 : wr.cell? ⟨w.heap.size + 1, 0, none⟩ = some (.int .u8 (deepV j).t) := (by simp only [World.cell?, BJ]; rfl)
    have c1 : wr.cell? ⟨w.heap.size + 1, 1, none⟩ = some (.int .i64 (deepV j).n) := (by simp only [World.cell?, BJ]; rfl)
    have c2 : wr.cell? ⟨w.heap.size + 1, 2, none⟩ = some (.string (deepV j).s) := (by simp only [World.cell?, BJ]; rfl)
    by_cases hlt : j < 6
    · have hP : Hid (Calls Tryd.prog 11 #[.pointer (some ⟨w.heap.size, 0, none⟩), (deepV j).v, V 1 1 ⟨#[]⟩] wr fun e w' => e = .returned (.tuple #[V 4 j ⟨#[]⟩, .int .i64 0]) ∧ HeapIs w' w.heap.size w.heap.size 200 (j + 1) (cellsOf (deepPs (j + 1))) ∧ Fr w.heap.size w.heap.size wr w') := by
        show Calls _ _ _ _ _
        rw [deepPs_succ, cellsOf_snoc]
        exact pair_room w.heap.size w.heap.size 200 j (cellsOf (deepPs j)) (by omega) (by omega) _ _ _ 1 1 ⟨#[]⟩ wr HJ
      go_wp2_with (fail)
      refine hP.out.mono ?_
      rintro e w1 ⟨rfl, H1, F1⟩
      have B1 := F1.at24 BJ (by omega)
      have q0 : w1.cell? ⟨w.heap.size + 1, 0, none⟩ = some (.int .u8 (deepV j).t) := (by simp only [World.cell?, B1]; rfl)
      have q1 : w1.cell? ⟨w.heap.size + 1, 1, none⟩ = some (.int .i64 (deepV j).n) := (by simp only [World.cell?, B1]; rfl)
      have q2 : w1.cell? ⟨w.heap.size + 1, 2, none⟩ = some (.string (deepV j).s) := (by simp only [World.cell?, B1]; rfl)
      have z0 : w1.frozen? ⟨w.heap.size + 1, 0, none⟩ = false := (by simp [World.frozen?, B1])
      have z1 : w1.frozen? ⟨w.heap.size + 1, 1, none⟩ = false := (by simp [World.frozen?, B1])
      have z2 : w1.frozen? ⟨w.heap.size + 1, 2, none⟩ = false := (by simp [World.frozen?, B1])
      have hT : Ty w1 (w.heap.size + 1) 24 := ⟨_, B1⟩
      have hN : Hid (D1 w 6 (.int .i64 ((j : Int) + 1)) (((w1.setCell ⟨w.heap.size + 1, 0, none⟩ (.int .u8 4)).setCell ⟨w.heap.size + 1, 1, none⟩ (.int .i64 j)).setCell ⟨w.heap.size + 1, 2, none⟩ (.string ⟨#[]⟩))) := by
        refine ⟨j + 1, by omega, by simp, ?_, set3 B1, ?_⟩
        · exact HeapIs.put (by decide) (by decide) ((hT.setCell _ _ _).setCell _ _ _) (HeapIs.put (by decide) (by decide) (hT.setCell _ _ _) (HeapIs.put (by decide) (by decide) hT H1 _ _) _ _) _ _
        · exact (((Below.trans (B := w.heap.size) hbj F1.bel).setCell (p := ⟨w.heap.size + 1, 0, none⟩) (Nat.le_succ _) _).setCell (p := ⟨w.heap.size + 1, 1, none⟩) (Nat.le_succ _) _).setCell (p := ⟨w.heap.size + 1, 2, none⟩) (Nat.le_succ _) _
      clear B1 H1 F1 hT BJ HJ hbj c0 c1 c2
      go_wp2_with (fail)
      go_roundw
      case rel => exact hN.out
      case measure => simp [intOf]; omega
    · obtain rfl : j = 6 := by omega
      have hX : Hid (∀ v, BW wr v → Calls Tryd.prog 12 #[.iface 26 (.pointer (some ⟨w.heap.size, 0, none⟩)), (deepV 6).v] v fun e w' => e = .returned (.string ⟨(wraps [40, 41] 6).toArray⟩) ∧ BW v w') := by
        intro v hv
        have hl : Look wr.heap.size (.iface 26 (.pointer (some ⟨w.heap.size, 0, none⟩))) (look (deepPs 6)) wr := Look.heap (ps := deepPs 6) (by rw [deepPs_len]; exact HJ) (by rw [deepPs_len]; omega)
        have := show_any _ _ (look_fine (deepPs_fine 6 (by omega))) (deepV 6) (deepV_fine 6 (by omega)) v (hl.up hv.size hv) (ht.bw (hbj.trans hv))
        rw [deep_sho 6 6 6 (Nat.le_refl _)] at this
        have e1 : (if 6 ≤ 6 then [40, 41] else [46, 46]) = ([40, 41] : List UInt8) := by rw [if_pos (by omega)]
        have e2 : min 6 6 = 6 := by omega
        rw [e1, e2] at this
        exact this
      have hAw : Hid (∀ v, BW wr v → Calls Tryd.prog 8 #[] v fun e w' => e = .returned (.bool true) ∧ BW v w') := fun v hv => awake_any v (ht.bw (hbj.trans hv))
      clear HJ BJ
      obtain ⟨W, hW⟩ : ∃ W, W = wr := ⟨_, rfl⟩
      go_wp2_with (fail)
      go_loopw [6, 8] (fun s i w' => ∃ m : Nat, m ≤ 6 ∧ s = .string ⟨(wraps [40, 41] m).toArray⟩ ∧ i = .int .i64 m ∧ w' = W) (fun _ i _ => 6 - (intOf i).toNat)
      case atStart => exact ⟨0, Nat.zero_le _, rfl, rfl, hW.symm⟩
      case round =>
        obtain ⟨m, hm, rfl, rfl, rfl⟩ := hrel
        subst hW
        have hwl : Hid ((⟨(wraps [40, 41] m).toArray⟩ : ByteArray).size ≤ 1000) := by
          show (wraps [40, 41] m).toArray.size ≤ _
          rw [List.size_toArray, wraps_len]
          show 2 + 6 * m ≤ 1000
          omega
        by_cases hmt : m < 6
        · have hS : Hid ((⟨#[40]⟩ ++ ⟨(wraps [40, 41] m).toArray⟩ ++ ⟨#[32, 46, 32, 49, 41]⟩ : ByteArray) = ⟨(wraps [40, 41] (m + 1)).toArray⟩) := by
            show _ = _
            apply ByteArray.ext
            simp [ByteArray.data_append, wraps]
          generalize (⟨(wraps [40, 41] m).toArray⟩ : ByteArray) = x at *
          have hx := hwl.out
          go_wp2_with (fail)
          go_roundw
          case rel => exact ⟨m + 1, by omega, by rw [← hS.out], by simp, by simp⟩
          case measure => simp [intOf]; omega
        · obtain rfl : m = 6 := by omega
          generalize (⟨(wraps [40, 41] 6).toArray⟩ : ByteArray) = x at *
          go_wp2_with (fail)
          refine (hX.out _ (BW.refl _)).mono ?_
          rintro e v1 ⟨rfl, hb1⟩
          go_wp2_with (fail)
          refine (hAw.out _ hb1).mono ?_
          rintro e v2 ⟨rfl, hb2⟩
          go_wp2_with (fail)
          go_ret
          exact ⟨rfl, hbj.trans (hb1.trans hb2)⟩
set_option maxRecDepth 100000 in
set_option maxHeartbeats 2000000 in
theorem showDeep_high (n : Int) (h0 : 0 ≤ n) (h1 : n ≤ 255) (k : Nat) (hn : n % 100 = k) (hk : k < 100) (h6 : 6 < k) (w : World) (ht : Tab w) : Calls Tryd.prog 7 #[.int .u8 n] w fun e w' => e = .returned (.bool true) ∧ BW w w' := by
  have t1 : IntKind.i64.wrap n = n := i64w _ (by omega) (by omega)
  have t2 : n.tmod 100 = k := by rw [Int.tmod_eq_emod_of_nonneg (by omega), hn]
  have t3 : decide ((6 : Int) < (k : Int)) = true := by simp; omega
  have t4 : ¬ (k : Int) < 6 := by omega
  have t5 : (6 : Int) < (k : Int) := by omega
  clear hn
  go_enter Tryd.func7, Tryd.ntmps7
  go_wp2_with (fail)
  refine (new_any 200 200 (by decide) _).mono ?_
  rintro e w0 ⟨rfl, rfl⟩
  go_wp2_with (fail)
  go_loopw [7] (fun i w' => D1 w k i w') (fun i _ => k - (intOf i).toNat)
  case atStart =>
    refine ⟨0, Nat.zero_le _, rfl, ?_, ?_, (by repeat (first | exact BW.refl _ | apply BW.alloc | apply BW.drewN | apply BW.drew))⟩
    · exact (HeapIs.new w 200).bw (by repeat (first | exact BW.refl _ | apply BW.alloc | apply BW.drewN | apply BW.drew))
    · exact new_at _ _ _ (by simp)
  case round =>
    obtain ⟨j, hj, rfl, HJ, BJ, hbj⟩ := hrel
    have c0 : wr.cell? ⟨w.heap.size + 1, 0, none⟩ = some (.int .u8 (deepV j).t) := (by simp only [World.cell?, BJ]; rfl)
    have c1 : wr.cell? ⟨w.heap.size + 1, 1, none⟩ = some (.int .i64 (deepV j).n) := (by simp only [World.cell?, BJ]; rfl)
    have c2 : wr.cell? ⟨w.heap.size + 1, 2, none⟩ = some (.string (deepV j).s) := (by simp only [World.cell?, BJ]; rfl)
    by_cases hlt : j < k
    · have hP : Hid (Calls Tryd.prog 11 #[.pointer (some ⟨w.heap.size, 0, none⟩), (deepV j).v, V 1 1 ⟨#[]⟩] wr fun e w' => e = .returned (.tuple #[V 4 j ⟨#[]⟩, .int .i64 0]) ∧ HeapIs w' w.heap.size w.heap.size 200 (j + 1) (cellsOf (deepPs (j + 1))) ∧ Fr w.heap.size w.heap.size wr w') := by
        show Calls _ _ _ _ _
        rw [deepPs_succ, cellsOf_snoc]
        exact pair_room w.heap.size w.heap.size 200 j (cellsOf (deepPs j)) (by omega) (by omega) _ _ _ 1 1 ⟨#[]⟩ wr HJ
      go_wp2_with (fail)
      refine hP.out.mono ?_
      rintro e w1 ⟨rfl, H1, F1⟩
      have B1 := F1.at24 BJ (by omega)
      have q0 : w1.cell? ⟨w.heap.size + 1, 0, none⟩ = some (.int .u8 (deepV j).t) := (by simp only [World.cell?, B1]; rfl)
      have q1 : w1.cell? ⟨w.heap.size + 1, 1, none⟩ = some (.int .i64 (deepV j).n) := (by simp only [World.cell?, B1]; rfl)
      have q2 : w1.cell? ⟨w.heap.size + 1, 2, none⟩ = some (.string (deepV j).s) := (by simp only [World.cell?, B1]; rfl)
      have z0 : w1.frozen? ⟨w.heap.size + 1, 0, none⟩ = false := (by simp [World.frozen?, B1])
      have z1 : w1.frozen? ⟨w.heap.size + 1, 1, none⟩ = false := (by simp [World.frozen?, B1])
      have z2 : w1.frozen? ⟨w.heap.size + 1, 2, none⟩ = false := (by simp [World.frozen?, B1])
      have hT : Ty w1 (w.heap.size + 1) 24 := ⟨_, B1⟩
      have hN : Hid (D1 w k (.int .i64 ((j : Int) + 1)) (((w1.setCell ⟨w.heap.size + 1, 0, none⟩ (.int .u8 4)).setCell ⟨w.heap.size + 1, 1, none⟩ (.int .i64 j)).setCell ⟨w.heap.size + 1, 2, none⟩ (.string ⟨#[]⟩))) := by
        refine ⟨j + 1, by omega, by simp, ?_, set3 B1, ?_⟩
        · exact HeapIs.put (by decide) (by decide) ((hT.setCell _ _ _).setCell _ _ _) (HeapIs.put (by decide) (by decide) (hT.setCell _ _ _) (HeapIs.put (by decide) (by decide) hT H1 _ _) _ _) _ _
        · exact (((Below.trans (B := w.heap.size) hbj F1.bel).setCell (p := ⟨w.heap.size + 1, 0, none⟩) (Nat.le_succ _) _).setCell (p := ⟨w.heap.size + 1, 1, none⟩) (Nat.le_succ _) _).setCell (p := ⟨w.heap.size + 1, 2, none⟩) (Nat.le_succ _) _
      clear B1 H1 F1 hT BJ HJ hbj c0 c1 c2
      go_wp2_with (fail)
      go_roundw
      case rel => exact hN.out
      case measure => simp [intOf]; omega
    · obtain rfl : j = k := by omega
      have hX : Hid (∀ v, BW wr v → Calls Tryd.prog 12 #[.iface 26 (.pointer (some ⟨w.heap.size, 0, none⟩)), (deepV j).v] v fun e w' => e = .returned (.string ⟨(wraps [46, 46] 6).toArray⟩) ∧ BW v w') := by
        intro v hv
        have hl : Look wr.heap.size (.iface 26 (.pointer (some ⟨w.heap.size, 0, none⟩))) (look (deepPs j)) wr := Look.heap (ps := deepPs j) (by rw [deepPs_len]; exact HJ) (by rw [deepPs_len]; omega)
        have := show_any _ _ (look_fine (deepPs_fine j (by omega))) (deepV j) (deepV_fine j (by omega)) v (hl.up hv.size hv) (ht.bw (hbj.trans hv))
        rw [deep_sho j 6 j (Nat.le_refl _)] at this
        have e1 : (if j ≤ 6 then [40, 41] else [46, 46]) = ([46, 46] : List UInt8) := by rw [if_neg (by omega)]
        have e2 : min j 6 = 6 := by omega
        rw [e1, e2] at this
        exact this
      have hAw : Hid (∀ v, BW wr v → Calls Tryd.prog 8 #[] v fun e w' => e = .returned (.bool true) ∧ BW v w') := fun v hv => awake_any v (ht.bw (hbj.trans hv))
      clear HJ BJ
      obtain ⟨W, hW⟩ : ∃ W, W = wr := ⟨_, rfl⟩
      go_wp2_with (fail)
      go_loopw [6, 8] (fun s i w' => ∃ m : Nat, m ≤ 6 ∧ s = .string ⟨(wraps [46, 46] m).toArray⟩ ∧ i = .int .i64 m ∧ w' = W) (fun _ i _ => 6 - (intOf i).toNat)
      case atStart => exact ⟨0, Nat.zero_le _, rfl, rfl, hW.symm⟩
      case round =>
        obtain ⟨m, hm, rfl, rfl, rfl⟩ := hrel
        subst hW
        have hwl : Hid ((⟨(wraps [46, 46] m).toArray⟩ : ByteArray).size ≤ 1000) := by
          show (wraps [46, 46] m).toArray.size ≤ _
          rw [List.size_toArray, wraps_len]
          show 2 + 6 * m ≤ 1000
          omega
        by_cases hmt : m < 6
        · have hS : Hid ((⟨#[40]⟩ ++ ⟨(wraps [46, 46] m).toArray⟩ ++ ⟨#[32, 46, 32, 49, 41]⟩ : ByteArray) = ⟨(wraps [46, 46] (m + 1)).toArray⟩) := by
            show _ = _
            apply ByteArray.ext
            simp [ByteArray.data_append, wraps]
          generalize (⟨(wraps [46, 46] m).toArray⟩ : ByteArray) = x at *
          have hx := hwl.out
          go_wp2_with (fail)
          go_roundw
          case rel => exact ⟨m + 1, by omega, by rw [← hS.out], by simp, by simp⟩
          case measure => simp [intOf]; omega
        · obtain rfl : m = 6 := by omega
          generalize (⟨(wraps [46, 46] 6).toArray⟩ : ByteArray) = x at *
          go_wp2_with (fail)
          refine (hX.out _ (BW.refl _)).mono ?_
          rintro e v1 ⟨rfl, hb1⟩
          go_wp2_with (fail)
          refine (hAw.out _ hb1).mono ?_
          rintro e v2 ⟨rfl, hb2⟩
          go_wp2_with (fail)
          go_ret
          exact ⟨rfl, hbj.trans (hb1.trans hb2)⟩

theorem showDeep_any (n : Int) (h0 : 0 ≤ n) (h1 : n ≤ 255) (w : World) (ht : Tab w) : Calls Tryd.prog 7 #[.int .u8 n] w fun e w' => e = .returned (.bool true) ∧ BW w w' := by
  obtain ⟨k, hk⟩ : ∃ k : Nat, n % 100 = k := ⟨(n % 100).toNat, by omega⟩
  rcases (by omega : k < 6 ∨ k = 6 ∨ 6 < k) with h | h | h
  · exact showDeep_low n h0 h1 k hk (by omega) h w ht
  · subst h; exact showDeep_six n h0 h1 hk w ht
  · exact showDeep_high n h0 h1 k hk (by omega) h w ht

end Go.Proofs.YtfgnlddfpemblaaDoor
