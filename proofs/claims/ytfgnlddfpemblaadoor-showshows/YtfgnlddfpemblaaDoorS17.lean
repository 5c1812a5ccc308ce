import Derived.Test.YtfgnlddfpemblaaDoorS15
import Derived.Deep.RegionHeld3
namespace Go.Proofs.YtfgnlddfpemblaaDoor
open Go.RowKit
set_option linter.unusedVariables false
set_option linter.unusedSimpArgs false

/-- The reference's row of pairs. -/
def RowIs (w : World) (v : Value) (ps : List (Va × Va)) : Prop := ∃ base g cap, base ≤ g ∧ v = .slice (some ⟨g, 0, none⟩) ps.length cap ∧ w.ownsRow base 34 8 v ps.length (cellsOf ps)
theorem own_any {w w' : World} {base e size : Nat} {v : Value} {n : Nat} {xs : List Value} (h : w.ownsRow base e size v n xs) (k : BW w w') : w'.ownsRow base e size v n xs := own_bw h k
theorem RowIs.bw {w w' : World} {v : Value} {ps : List (Va × Va)} (h : RowIs w v ps) (k : BW w w') : RowIs w' v ps := by
  obtain ⟨base, g, cap, hb, hv, ho⟩ := h
  exact ⟨base, g, cap, hb, hv, own_bw ho k⟩
theorem own_cell34 {w : World} {base g n cap : Nat} {xs : List Value} (h : w.ownsRow base 34 8 (.slice (some ⟨g, 0, none⟩) n cap) n xs) {j : Nat} {u : Value} (hj : xs[j]? = some u) : w.cell? ⟨g, j, none⟩ = some u := by
  have := h.cells (g := g) rfl j u hj
  have hadd : (⟨g, 0, none⟩ : Addr).add j = ⟨g, j, none⟩ := by unfold Addr.add; split <;> simp_all
  rwa [hadd] at this

set_option maxRecDepth 100000 in
theorem end20 (tm : Array Value) (w0 w : World) (k : Nat) (t a0 a1 : Int) (a2 : ByteArray) (b0 b1 : Int) (b2 : ByteArray) (c : Int) (x : Bool) (b : w.heap[k]? = some (.cells #[.int .u8 t, .int .u8 a0, .int .i64 a1, .string a2, .int .u8 b0, .int .i64 b1, .string b2, .int .i64 c] 34 (0, 0))) (hbw : BW w0 w) (h4 : tm.getD 4 undef = .pointer (some ⟨k, 0, none⟩)) (h5 : tm.getD 5 undef = .bool x) :
    bodyPost Tryd.prog Tryd.f20 (fun e w' => e = .returned (.tuple #[.agg #[.int .u8 t, .int .u8 a0, .int .i64 a1, .string a2, .int .u8 b0, .int .i64 b1, .string b2, .int .i64 c], .bool x]) ∧ BW w0 w') .ret { tmps := tm, defers := [] } w := by
  have c0 : w.cell? ⟨k, 0, none⟩ = some (.int .u8 t) := by simp only [World.cell?, b]; rfl
  have c1 : w.cell? ⟨k, 1, none⟩ = some (.int .u8 a0) := by simp only [World.cell?, b]; rfl
  have c2 : w.cell? ⟨k, 2, none⟩ = some (.int .i64 a1) := by simp only [World.cell?, b]; rfl
  have c3 : w.cell? ⟨k, 3, none⟩ = some (.string a2) := by simp only [World.cell?, b]; rfl
  have c4 : w.cell? ⟨k, 4, none⟩ = some (.int .u8 b0) := by simp only [World.cell?, b]; rfl
  have c5 : w.cell? ⟨k, 5, none⟩ = some (.int .i64 b1) := by simp only [World.cell?, b]; rfl
  have c6 : w.cell? ⟨k, 6, none⟩ = some (.string b2) := by simp only [World.cell?, b]; rfl
  have c7 : w.cell? ⟨k, 7, none⟩ = some (.int .i64 c) := by simp only [World.cell?, b]; rfl
  simp only [Array.getD_eq_getD_getElem?] at h4 h5
  refine bodyPost_ret (v := .tuple #[.agg #[.int .u8 t, .int .u8 a0, .int .i64 a1, .string a2, .int .u8 b0, .int .i64 b1, .string b2, .int .i64 c], .bool x]) ?_ rfl ⟨rfl, hbw⟩
  simp [results, Tryd.results20, go_sem, h4, h5, c0, c1, c2, c3, c4, c5, c6, c7]
theorem drew_heap (w : World) : w.drew.heap = w.heap := rfl
theorem end20d (tm : Array Value) (w0 W : World) (k : Nat) (x0 x1 x2 x3 x4 x5 x6 x7 : Value) (t a0 a1 : Int) (a2 : ByteArray) (b0 b1 : Int) (b2 : ByteArray) (c : Int) (x : Bool) (A2 : W.heap[k]? = some (.cells #[x0, x1, x2, x3, x4, x5, x6, x7] 34 (0, 0))) (hbw : BW w0 W) (hk : w0.heap.size ≤ k) (h4 : tm.getD 4 undef = .pointer (some ⟨k, 0, none⟩)) (h5 : tm.getD 5 undef = .bool x) :
    bodyPost Tryd.prog Tryd.f20 (fun e w' => e = .returned (.tuple #[.agg #[.int .u8 t, .int .u8 a0, .int .i64 a1, .string a2, .int .u8 b0, .int .i64 b1, .string b2, .int .i64 c], .bool x]) ∧ BW w0 w') .ret { tmps := tm, defers := [] } (((((((((W.setCell ⟨k, 0, none⟩ (.int .u8 t)).setCell ⟨k, 1, none⟩ (.int .u8 a0)).setCell ⟨k, 2, none⟩ (.int .i64 a1)).setCell ⟨k, 3, none⟩ (.string a2)).setCell ⟨k, 4, none⟩ (.int .u8 b0)).setCell ⟨k, 5, none⟩ (.int .i64 b1)).setCell ⟨k, 6, none⟩ (.string b2)).setCell ⟨k, 7, none⟩ (.int .i64 c)).drew) := by
  have s0 : (W.setCell ⟨k, 0, none⟩ (.int .u8 t)).heap[k]? = some (.cells #[.int .u8 t, x1, x2, x3, x4, x5, x6, x7] 34 (0, 0)) := heap_setCell_same _ k 0 _ 34 _ A2
  have s1 : ((W.setCell ⟨k, 0, none⟩ (.int .u8 t)).setCell ⟨k, 1, none⟩ (.int .u8 a0)).heap[k]? = some (.cells #[.int .u8 t, .int .u8 a0, x2, x3, x4, x5, x6, x7] 34 (0, 0)) := heap_setCell_same _ k 1 _ 34 _ s0
  have s2 : (((W.setCell ⟨k, 0, none⟩ (.int .u8 t)).setCell ⟨k, 1, none⟩ (.int .u8 a0)).setCell ⟨k, 2, none⟩ (.int .i64 a1)).heap[k]? = some (.cells #[.int .u8 t, .int .u8 a0, .int .i64 a1, x3, x4, x5, x6, x7] 34 (0, 0)) := heap_setCell_same _ k 2 _ 34 _ s1
  have s3 : ((((W.setCell ⟨k, 0, none⟩ (.int .u8 t)).setCell ⟨k, 1, none⟩ (.int .u8 a0)).setCell ⟨k, 2, none⟩ (.int .i64 a1)).setCell ⟨k, 3, none⟩ (.string a2)).heap[k]? = some (.cells #[.int .u8 t, .int .u8 a0, .int .i64 a1, .string a2, x4, x5, x6, x7] 34 (0, 0)) := heap_setCell_same _ k 3 _ 34 _ s2
  have s4 : (((((W.setCell ⟨k, 0, none⟩ (.int .u8 t)).setCell ⟨k, 1, none⟩ (.int .u8 a0)).setCell ⟨k, 2, none⟩ (.int .i64 a1)).setCell ⟨k, 3, none⟩ (.string a2)).setCell ⟨k, 4, none⟩ (.int .u8 b0)).heap[k]? = some (.cells #[.int .u8 t, .int .u8 a0, .int .i64 a1, .string a2, .int .u8 b0, x5, x6, x7] 34 (0, 0)) := heap_setCell_same _ k 4 _ 34 _ s3
  have s5 : ((((((W.setCell ⟨k, 0, none⟩ (.int .u8 t)).setCell ⟨k, 1, none⟩ (.int .u8 a0)).setCell ⟨k, 2, none⟩ (.int .i64 a1)).setCell ⟨k, 3, none⟩ (.string a2)).setCell ⟨k, 4, none⟩ (.int .u8 b0)).setCell ⟨k, 5, none⟩ (.int .i64 b1)).heap[k]? = some (.cells #[.int .u8 t, .int .u8 a0, .int .i64 a1, .string a2, .int .u8 b0, .int .i64 b1, x6, x7] 34 (0, 0)) := heap_setCell_same _ k 5 _ 34 _ s4
  have s6 : (((((((W.setCell ⟨k, 0, none⟩ (.int .u8 t)).setCell ⟨k, 1, none⟩ (.int .u8 a0)).setCell ⟨k, 2, none⟩ (.int .i64 a1)).setCell ⟨k, 3, none⟩ (.string a2)).setCell ⟨k, 4, none⟩ (.int .u8 b0)).setCell ⟨k, 5, none⟩ (.int .i64 b1)).setCell ⟨k, 6, none⟩ (.string b2)).heap[k]? = some (.cells #[.int .u8 t, .int .u8 a0, .int .i64 a1, .string a2, .int .u8 b0, .int .i64 b1, .string b2, x7] 34 (0, 0)) := heap_setCell_same _ k 6 _ 34 _ s5
  have s7 : ((((((((W.setCell ⟨k, 0, none⟩ (.int .u8 t)).setCell ⟨k, 1, none⟩ (.int .u8 a0)).setCell ⟨k, 2, none⟩ (.int .i64 a1)).setCell ⟨k, 3, none⟩ (.string a2)).setCell ⟨k, 4, none⟩ (.int .u8 b0)).setCell ⟨k, 5, none⟩ (.int .i64 b1)).setCell ⟨k, 6, none⟩ (.string b2)).setCell ⟨k, 7, none⟩ (.int .i64 c)).heap[k]? = some (.cells #[.int .u8 t, .int .u8 a0, .int .i64 a1, .string a2, .int .u8 b0, .int .i64 b1, .string b2, .int .i64 c] 34 (0, 0)) := heap_setCell_same _ k 7 _ 34 _ s6
  have s8 : (((((((((W.setCell ⟨k, 0, none⟩ (.int .u8 t)).setCell ⟨k, 1, none⟩ (.int .u8 a0)).setCell ⟨k, 2, none⟩ (.int .i64 a1)).setCell ⟨k, 3, none⟩ (.string a2)).setCell ⟨k, 4, none⟩ (.int .u8 b0)).setCell ⟨k, 5, none⟩ (.int .i64 b1)).setCell ⟨k, 6, none⟩ (.string b2)).setCell ⟨k, 7, none⟩ (.int .i64 c)).drew).heap[k]? = some (.cells #[.int .u8 t, .int .u8 a0, .int .i64 a1, .string a2, .int .u8 b0, .int .i64 b1, .string b2, .int .i64 c] 34 (0, 0)) := by rw [drew_heap]; exact s7
  exact end20 tm w0 _ k t a0 a1 a2 b0 b1 b2 c x s8 (BW.drew ((((((((hbw.setCell hk _).setCell hk _).setCell hk _).setCell hk _).setCell hk _).setCell hk _).setCell hk _).setCell hk _)) h4 h5
set_option maxRecDepth 100000 in
set_option maxHeartbeats 1000000 in
theorem at_neg (g len cap : Nat) (n : Int) (s : ByteArray) (h : n < 0) (w : World) :
    Calls Tryd.prog 20 #[.slice (some ⟨g, 0, none⟩) len cap, V 4 n s] w fun e w' => e = .returned (.tuple #[.agg #[.int .u8 0, .int .u8 0, .int .i64 0, .string ⟨#[]⟩, .int .u8 0, .int .i64 0, .string ⟨#[]⟩, .int .i64 0], .bool false]) ∧ BW w w' := by
  have e1 : decide (n < 0) = true := by simpa using h
  go_enter Tryd.func20, Tryd.ntmps20
  go_wp2_with (fail)
  refine bodyPost_ret (v := .tuple #[.agg #[.int .u8 0, .int .u8 0, .int .i64 0, .string ⟨#[]⟩, .int .u8 0, .int .i64 0, .string ⟨#[]⟩, .int .i64 0], .bool false]) (by simp [results, Tryd.results20, go_sem]) rfl ⟨rfl, (by repeat (first | exact BW.refl _ | assumption | apply BW.alloc | apply BW.drewN | apply BW.drew | (refine BW.setCell ?_ (by first | omega | (simp; done) | (simp; omega)) _) | (refine BW.trans ?_ (by assumption))))⟩
set_option maxRecDepth 100000 in
set_option maxHeartbeats 1000000 in
theorem at_out (g len cap : Nat) (n : Int) (s : ByteArray) (h0 : 0 ≤ n) (h : (len : Int) ≤ n) (w : World) :
    Calls Tryd.prog 20 #[.slice (some ⟨g, 0, none⟩) len cap, V 4 n s] w fun e w' => e = .returned (.tuple #[.agg #[.int .u8 0, .int .u8 0, .int .i64 0, .string ⟨#[]⟩, .int .u8 0, .int .i64 0, .string ⟨#[]⟩, .int .i64 0], .bool false]) ∧ BW w w' := by
  have e1 : decide (n < 0) = false := by simpa using h0
  have e2 : decide ((len : Int) ≤ n) = true := by simpa using h
  go_enter Tryd.func20, Tryd.ntmps20
  go_wp2_with (fail)
  refine bodyPost_ret (v := .tuple #[.agg #[.int .u8 0, .int .u8 0, .int .i64 0, .string ⟨#[]⟩, .int .u8 0, .int .i64 0, .string ⟨#[]⟩, .int .i64 0], .bool false]) (by simp [results, Tryd.results20, go_sem]) rfl ⟨rfl, (by repeat (first | exact BW.refl _ | assumption | apply BW.alloc | apply BW.drewN | apply BW.drew | (refine BW.setCell ?_ (by first | omega | (simp; done) | (simp; omega)) _) | (refine BW.trans ?_ (by assumption))))⟩
set_option maxRecDepth 100000 in
set_option maxHeartbeats 1000000 in
theorem at_str (g len cap : Nat) (n : Int) (s : ByteArray) (h0 : 0 ≤ n) (h : n < (len : Int)) (hs : ¬ s.toList = []) (w : World) :
    Calls Tryd.prog 20 #[.slice (some ⟨g, 0, none⟩) len cap, V 4 n s] w fun e w' => e = .returned (.tuple #[.agg #[.int .u8 0, .int .u8 0, .int .i64 0, .string ⟨#[]⟩, .int .u8 0, .int .i64 0, .string ⟨#[]⟩, .int .i64 0], .bool false]) ∧ BW w w' := by
  have e1 : decide (n < 0) = false := by simpa using h0
  have e2 : decide ((len : Int) ≤ n) = false := by simpa using h
  have e3 : s.toList.isEmpty = false := by simpa using hs
  go_enter Tryd.func20, Tryd.ntmps20
  go_wp2_with (fail)
  refine bodyPost_ret (v := .tuple #[.agg #[.int .u8 0, .int .u8 0, .int .i64 0, .string ⟨#[]⟩, .int .u8 0, .int .i64 0, .string ⟨#[]⟩, .int .i64 0], .bool false]) (by simp [results, Tryd.results20, go_sem]) rfl ⟨rfl, (by repeat (first | exact BW.refl _ | assumption | apply BW.alloc | apply BW.drewN | apply BW.drew | (refine BW.setCell ?_ (by first | omega | (simp; done) | (simp; omega)) _) | (refine BW.trans ?_ (by assumption))))⟩
set_option maxRecDepth 100000 in
set_option maxHeartbeats 1000000 in
theorem at_ok (base g cap : Nat) (ps : List (Va × Va)) (hN : ps.length ≤ 1000) (m : Nat) (y z : Va) (hm : ps[m]? = some (y, z)) (w : World) (ho : w.ownsRow base 34 8 (.slice (some ⟨g, 0, none⟩) ps.length cap) ps.length (cellsOf ps)) :
    Calls Tryd.prog 20 #[.slice (some ⟨g, 0, none⟩) ps.length cap, V 4 m ⟨#[]⟩] w fun e w' => e = .returned (.tuple #[.agg #[.int .u8 4, .int .u8 y.t, .int .i64 y.n, .string y.s, .int .u8 z.t, .int .i64 z.n, .string z.s, .int .i64 0], .bool true]) ∧ BW w w' := by
  have hlt := (List.getElem?_eq_some_iff.1 hm).1
  have hc := cellsOf_at ps m y z hm
  have c0 := own_cell34 ho (hc 0 _ rfl)
  have c1 := own_cell34 ho (hc 1 _ rfl)
  have c2 := own_cell34 ho (hc 2 _ rfl)
  have c3 := own_cell34 ho (hc 3 _ rfl)
  have c4 := own_cell34 ho (hc 4 _ rfl)
  have c5 := own_cell34 ho (hc 5 _ rfl)
  have c6 := own_cell34 ho (hc 6 _ rfl)
  have c7 := own_cell34 ho (hc 7 _ rfl)
  have hgl : g < w.heap.size := World.block_lt_of_cell? w _ c0
  have hg1 : ¬ g = w.heap.size := by omega
  have hg2 : ¬ g = w.heap.size + 1 := by omega
  clear hc ho
  obtain ⟨y0, y1, y2⟩ := y
  obtain ⟨z0, z1, z2⟩ := z
  have e1 : decide ((m : Int) < 0) = false := by simp
  have e2 : decide ((ps.length : Int) ≤ (m : Int)) = false := by simpa using hlt
  have e4 : 0 ≤ (m : Int) ∧ (m : Int) < (ps.length : Int) := by omega
  clear hm
  generalize ps.length = L at *
  go_enter Tryd.func20, Tryd.ntmps20
  go_wp2_with (fail)
  obtain ⟨W, hW⟩ : ∃ W, W = (w.alloc (.cells #[.int .u8 4, .int .i64 m, .string ⟨#[]⟩] 24)).alloc (.cells #[.int .u8 0, .int .u8 0, .int .i64 0, .string ⟨#[]⟩, .int .u8 0, .int .i64 0, .string ⟨#[]⟩, .int .i64 0] 34) := ⟨_, rfl⟩
  rw [← hW]
  have hbw : BW w W := by rw [hW]; exact (by repeat (first | exact BW.refl _ | apply BW.alloc | apply BW.drewN | apply BW.drew))
  have A1 : W.heap[w.heap.size]? = some (.cells #[.int .u8 4, .int .i64 m, .string ⟨#[]⟩] 24 (0, 0)) := by rw [hW]; exact new2_a _ _ _
  have A2 : W.heap[w.heap.size + 1]? = some (.cells #[.int .u8 0, .int .u8 0, .int .i64 0, .string ⟨#[]⟩, .int .u8 0, .int .i64 0, .string ⟨#[]⟩, .int .i64 0] 34 (0, 0)) := by rw [hW]; exact new2_b _ _ _
  clear hW
  have d0 : W.cell? ⟨g, m * 8, none⟩ = some (.int .u8 4) := (hbw.cells g _ hgl).trans c0
  have d1 : W.cell? ⟨g, m * 8 + 1, none⟩ = some (.int .u8 y0) := (hbw.cells g _ hgl).trans c1
  have d2 : W.cell? ⟨g, m * 8 + 2, none⟩ = some (.int .i64 y1) := (hbw.cells g _ hgl).trans c2
  have d3 : W.cell? ⟨g, m * 8 + 3, none⟩ = some (.string y2) := (hbw.cells g _ hgl).trans c3
  have d4 : W.cell? ⟨g, m * 8 + 4, none⟩ = some (.int .u8 z0) := (hbw.cells g _ hgl).trans c4
  have d5 : W.cell? ⟨g, m * 8 + 5, none⟩ = some (.int .i64 z1) := (hbw.cells g _ hgl).trans c5
  have d6 : W.cell? ⟨g, m * 8 + 6, none⟩ = some (.string z2) := (hbw.cells g _ hgl).trans c6
  have d7 : W.cell? ⟨g, m * 8 + 7, none⟩ = some (.int .i64 0) := (hbw.cells g _ hgl).trans c7
  have b0 : W.cell? ⟨w.heap.size, 0, none⟩ = some (.int .u8 4) := (by simp only [World.cell?, A1]; rfl)
  have b1 : W.cell? ⟨w.heap.size, 1, none⟩ = some (.int .i64 m) := (by simp only [World.cell?, A1]; rfl)
  have b2 : W.cell? ⟨w.heap.size, 2, none⟩ = some (.string ⟨#[]⟩) := (by simp only [World.cell?, A1]; rfl)
  have x0 : W.cell? ⟨w.heap.size + 1, 0, none⟩ = some (.int .u8 0) := (by simp only [World.cell?, A2]; rfl)
  have f0 : W.frozen? ⟨w.heap.size + 1, 0, none⟩ = false := (by simp [World.frozen?, A2])
  have x1 : W.cell? ⟨w.heap.size + 1, 1, none⟩ = some (.int .u8 0) := (by simp only [World.cell?, A2]; rfl)
  have f1 : W.frozen? ⟨w.heap.size + 1, 1, none⟩ = false := (by simp [World.frozen?, A2])
  have x2 : W.cell? ⟨w.heap.size + 1, 2, none⟩ = some (.int .i64 0) := (by simp only [World.cell?, A2]; rfl)
  have f2 : W.frozen? ⟨w.heap.size + 1, 2, none⟩ = false := (by simp [World.frozen?, A2])
  have x3 : W.cell? ⟨w.heap.size + 1, 3, none⟩ = some (.string ⟨#[]⟩) := (by simp only [World.cell?, A2]; rfl)
  have f3 : W.frozen? ⟨w.heap.size + 1, 3, none⟩ = false := (by simp [World.frozen?, A2])
  have x4 : W.cell? ⟨w.heap.size + 1, 4, none⟩ = some (.int .u8 0) := (by simp only [World.cell?, A2]; rfl)
  have f4 : W.frozen? ⟨w.heap.size + 1, 4, none⟩ = false := (by simp [World.frozen?, A2])
  have x5 : W.cell? ⟨w.heap.size + 1, 5, none⟩ = some (.int .i64 0) := (by simp only [World.cell?, A2]; rfl)
  have f5 : W.frozen? ⟨w.heap.size + 1, 5, none⟩ = false := (by simp [World.frozen?, A2])
  have x6 : W.cell? ⟨w.heap.size + 1, 6, none⟩ = some (.string ⟨#[]⟩) := (by simp only [World.cell?, A2]; rfl)
  have f6 : W.frozen? ⟨w.heap.size + 1, 6, none⟩ = false := (by simp [World.frozen?, A2])
  have x7 : W.cell? ⟨w.heap.size + 1, 7, none⟩ = some (.int .i64 0) := (by simp only [World.cell?, A2]; rfl)
  have f7 : W.frozen? ⟨w.heap.size + 1, 7, none⟩ = false := (by simp [World.frozen?, A2])
  have n0 : ¬ w.heap.size + 1 = g := by omega
  have n1 : ¬ w.heap.size = g := by omega
  clear c0 c1 c2 c3 c4 c5 c6 c7
  go_region_held3 (fun w' => w'.cell? ⟨g, m * 8, none⟩ = some (.int .u8 4) ∧ w'.cell? ⟨g, m * 8 + 1, none⟩ = some (.int .u8 y0) ∧ w'.cell? ⟨g, m * 8 + 2, none⟩ = some (.int .i64 y1) ∧ w'.cell? ⟨g, m * 8 + 3, none⟩ = some (.string y2) ∧ w'.cell? ⟨g, m * 8 + 4, none⟩ = some (.int .u8 z0) ∧ w'.cell? ⟨g, m * 8 + 5, none⟩ = some (.int .i64 z1) ∧ w'.cell? ⟨g, m * 8 + 6, none⟩ = some (.string z2) ∧ w'.cell? ⟨g, m * 8 + 7, none⟩ = some (.int .i64 0) ∧ w'.cell? ⟨w.heap.size, 0, none⟩ = some (.int .u8 4) ∧ w'.cell? ⟨w.heap.size, 1, none⟩ = some (.int .i64 m) ∧ w'.cell? ⟨w.heap.size, 2, none⟩ = some (.string ⟨#[]⟩)) (go_keep) (fail)
  all_goals
    go_wp2_with (fail)
    exact end20d _ w W (w.heap.size + 1) _ _ _ _ _ _ _ _ _ _ _ _ _ _ _ _ _ A2 hbw (Nat.le_succ _) rfl rfl

theorem at_any (v : Value) (ps : List (Va × Va)) (hN : ps.length ≤ 1000) (x : Va) (hx : x.t = 4) (w : World) (hr : RowIs w v ps) :
    Calls Tryd.prog 20 #[v, x.v] w fun e w' => e = .returned (match look ps x with | none => .tuple #[.agg #[.int .u8 0, .int .u8 0, .int .i64 0, .string ⟨#[]⟩, .int .u8 0, .int .i64 0, .string ⟨#[]⟩, .int .i64 0], .bool false] | some (y, z) => .tuple #[.agg #[.int .u8 4, .int .u8 y.t, .int .i64 y.n, .string y.s, .int .u8 z.t, .int .i64 z.n, .string z.s, .int .i64 0], .bool true]) ∧ BW w w' := by
  obtain ⟨base, g, cap, hb, rfl, ho⟩ := hr
  obtain ⟨t, n, s⟩ := x
  simp only at hx
  subst hx
  by_cases h0 : n < 0
  · have e : look ps ⟨4, n, s⟩ = none := by unfold look; rw [if_neg]; simp only; omega
    rw [e]; exact at_neg g _ cap n s h0 w
  · by_cases h1 : (ps.length : Int) ≤ n
    · have e : look ps ⟨4, n, s⟩ = none := by
        unfold look; split
        · exact List.getElem?_eq_none (by simp only; omega)
        · rfl
      rw [e]; exact at_out g _ cap n s (by omega) h1 w
    · by_cases hs : s = ⟨#[]⟩
      · subst hs
        obtain ⟨m, rfl⟩ : ∃ m : Nat, n = m := ⟨n.toNat, by omega⟩
        have hm : m < ps.length := by omega
        obtain ⟨⟨y, z⟩, hyz⟩ : ∃ p, ps[m]? = some p := ⟨_, List.getElem?_eq_getElem hm⟩
        have e : look ps ⟨4, m, ⟨#[]⟩⟩ = some (y, z) := by
          unfold look
          rw [if_pos ⟨rfl, by simp only; omega⟩]
          simpa using hyz
        rw [e]
        exact at_ok base g cap ps hN m y z hyz w ho
      · have e : look ps ⟨4, n, s⟩ = none := by unfold look; rw [if_neg]; simp only; intro h; exact hs h.1
        rw [e]; exact at_str g _ cap n s (by omega) (by omega) (str_ne hs) w

end Go.Proofs.YtfgnlddfpemblaaDoor
