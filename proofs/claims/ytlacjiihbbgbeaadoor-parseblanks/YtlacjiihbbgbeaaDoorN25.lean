import Derived.Test.YtlacjiihbbgbeaaDoorN24
import Derived.Test.YtlacjiihbbgbeaaDoorM3
import Derived.RegionTactic
namespace Go.Proofs.YtlacjiihbbgbeaaDoor
open Go.RowKit
set_option linter.unusedVariables false
set_option linter.unusedSimpArgs false

theorem end3v {w : World} {a2 a3 a4 : Nat} {t0 t1 t2 t3 t4 x0 y0 : Value} (h23 : a2 < a3) (h34 : a3 < a4) (B2 : w.heap[a2]? = some (.cells #[t0, t1, t2, t3, t4] 26 (0, 0))) (B3 : w.heap[a3]? = some (.cells #[x0] 3 (0, 0))) (B4 : w.heap[a4]? = some (.cells #[y0] 27 (0, 0))) (u0 u1 u2 u3 u4 : Value) (at' code : Int) : (((((((w.setCell ⟨a2, 0, none⟩ u0).setCell ⟨a2, 1, none⟩ u1).setCell ⟨a2, 2, none⟩ u2).setCell ⟨a2, 3, none⟩ u3).setCell ⟨a2, 4, none⟩ u4).setCell ⟨a3, 0, none⟩ (.int .i64 at')).setCell ⟨a4, 0, none⟩ (.int .i64 code)).heap[a2]? = some (.cells #[u0, u1, u2, u3, u4] 26 (0, 0)) ∧ (((((((w.setCell ⟨a2, 0, none⟩ u0).setCell ⟨a2, 1, none⟩ u1).setCell ⟨a2, 2, none⟩ u2).setCell ⟨a2, 3, none⟩ u3).setCell ⟨a2, 4, none⟩ u4).setCell ⟨a3, 0, none⟩ (.int .i64 at')).setCell ⟨a4, 0, none⟩ (.int .i64 code)).heap[a3]? = some (.cells #[.int .i64 at'] 3 (0, 0)) ∧ (((((((w.setCell ⟨a2, 0, none⟩ u0).setCell ⟨a2, 1, none⟩ u1).setCell ⟨a2, 2, none⟩ u2).setCell ⟨a2, 3, none⟩ u3).setCell ⟨a2, 4, none⟩ u4).setCell ⟨a3, 0, none⟩ (.int .i64 at')).setCell ⟨a4, 0, none⟩ (.int .i64 code)).heap[a4]? = some (.cells #[.int .i64 code] 27 (0, 0)) ∧ Below a2 w (((((((w.setCell ⟨a2, 0, none⟩ u0).setCell ⟨a2, 1, none⟩ u1).setCell ⟨a2, 2, none⟩ u2).setCell ⟨a2, 3, none⟩ u3).setCell ⟨a2, 4, none⟩ u4).setCell ⟨a3, 0, none⟩ (.int .i64 at')).setCell ⟨a4, 0, none⟩ (.int .i64 code)) ∧ (∀ b, ¬ b = a2 → ¬ b = a3 → ¬ b = a4 → (((((((w.setCell ⟨a2, 0, none⟩ u0).setCell ⟨a2, 1, none⟩ u1).setCell ⟨a2, 2, none⟩ u2).setCell ⟨a2, 3, none⟩ u3).setCell ⟨a2, 4, none⟩ u4).setCell ⟨a3, 0, none⟩ (.int .i64 at')).setCell ⟨a4, 0, none⟩ (.int .i64 code)).heap[b]? = w.heap[b]?) := by
  have s5 := set5 (a := u0) (c := u1) (d := u2) (e := u3) (f := u4) B2
  have o5 : ∀ b, ¬ b = a2 → (((((w.setCell ⟨a2, 0, none⟩ u0).setCell ⟨a2, 1, none⟩ u1).setCell ⟨a2, 2, none⟩ u2).setCell ⟨a2, 3, none⟩ u3).setCell ⟨a2, 4, none⟩ u4).heap[b]? = w.heap[b]? := fun b hb => set5o hb
  have b5 : Below a2 w (((((w.setCell ⟨a2, 0, none⟩ u0).setCell ⟨a2, 1, none⟩ u1).setCell ⟨a2, 2, none⟩ u2).setCell ⟨a2, 3, none⟩ u3).setCell ⟨a2, 4, none⟩ u4) := Below.setCell (p := ⟨a2, 4, none⟩) (Below.setCell (p := ⟨a2, 3, none⟩) (Below.setCell (p := ⟨a2, 2, none⟩) (Below.setCell (p := ⟨a2, 1, none⟩) (Below.setCell (p := ⟨a2, 0, none⟩) (Below.refl a2 w) (Nat.le_refl _) _) (Nat.le_refl _) _) (Nat.le_refl _) _) (Nat.le_refl _) _) (Nat.le_refl _) _
  generalize (((((w.setCell ⟨a2, 0, none⟩ u0).setCell ⟨a2, 1, none⟩ u1).setCell ⟨a2, 2, none⟩ u2).setCell ⟨a2, 3, none⟩ u3).setCell ⟨a2, 4, none⟩ u4) = W at s5 o5 b5 ⊢
  have t3 : (W.setCell ⟨a3, 0, none⟩ (.int .i64 at')).heap[a3]? = some (.cells #[.int .i64 at'] 3 (0, 0)) := heap_setCell_same W a3 0 _ 3 _ ((o5 a3 (by omega)).trans B3)
  have t4 := heap_setCell_same (W.setCell ⟨a3, 0, none⟩ (.int .i64 at')) a4 0 #[y0] 27 (.int .i64 code) ((sco _ (by omega)).trans ((o5 a4 (by omega)).trans B4))
  refine ⟨(sco _ (by omega)).trans ((sco _ (by omega)).trans s5), (sco _ (by omega)).trans t3, t4, ?_, fun b h2 h3 h4 => (sco _ h4).trans ((sco _ h3).trans (o5 b h2))⟩
  exact Below.setCell (p := ⟨a4, 0, none⟩) (Below.setCell (p := ⟨a3, 0, none⟩) b5 (Nat.le_of_lt h23) _) (by show a2 ≤ a4; omega) _
theorem toks_at2 {w : World} {lo N n c : Nat} {ao : Option Addr} {ts : List Tok} (h : w.ownsRow lo 50 4 (.slice ao n c) ts.length (tc N ts)) : n = ts.length ∧ ts.length ≤ c ∧ c ≤ maxLen ∧ (ts = [] ∨ ∃ b off, ao = some ⟨b, off, none⟩ ∧ lo ≤ b ∧ b < w.heap.size ∧ ∀ (i : Nat) t, ts[i]? = some t → TokC w N b (off + i * 4) t) := by
  obtain ⟨h1, h2, h3, h4⟩ := toks_at h
  refine ⟨h1, h2, h3, ?_⟩
  rcases h4 with h4 | ⟨b, off, rfl, hb, hc⟩
  · exact .inl h4
  · exact .inr ⟨b, off, rfl, own_ge h b rfl, hb, hc⟩
set_option maxRecDepth 100000 in
theorem lexAll_code {l : List UInt8} {bk k : Nat} (h : lexAll l = .error (bk, k)) : k ≠ 0 := by
  unfold lexAll at h
  split at h
  · injection h with h; injection h with _ h2; omega
  · rcases lxr_e h with ⟨h1, _⟩ | h1 <;> omega
set_option maxRecDepth 100000 in
set_option maxHeartbeats 4000000 in
theorem parse_any (s : ByteArray) (w : World) (hE : Er w) (hG : Gv w) : Calls Tryd.prog 5 #[.string s] w (PostPar s w) := by
  have hmf : ∀ (fn : Fn) (first cap : Array Value) (w : World), (Instr.makeFunc fn first cap).run Tryd.prog w = .ok (.func fn first cap) w := fun _ _ _ _ => rfl
  have hw2 : 2 < w.heap.size := hG.1
  have HE : Hid (Er w) := hE
  have HG : Hid (Gv w) := hG
  unfold PostPar
  clear hE hG
  generalize hL : lexAll s.data.toList = R
  go_enter_defers Tryd.func5, Tryd.ntmps5
  go_wp2_with (fail)
  obtain ⟨W, hW⟩ : ∃ W, W = ((((w.alloc (.cells #[.string s] 9)).alloc (.cells #[.int .u8 0, .int .i64 0, .string ⟨#[]⟩, .slice none 0 0, .slice none 0 0] 26)).alloc (.cells #[.int .i64 0] 3)).alloc (.cells #[.int .i64 0] 27)) := ⟨_, rfl⟩
  rw [← hW]
  have hbw : BW w W := by rw [hW]; exact (by repeat (first | exact BW.refl _ | apply BW.alloc | apply BW.drewN | apply BW.drew))
  have hWs : W.heap.size = w.heap.size + 1 + 1 + 1 + 1 := by rw [hW]; simp
  have W1 : Hid (W.heap[w.heap.size]? = some (.cells #[.string s] 9 (0, 0))) := by show _ = _; rw [hW]; rw [Lib.alloc_old _ _ _ (by simp; try omega)]; rw [Lib.alloc_old _ _ _ (by simp; try omega)]; rw [Lib.alloc_old _ _ _ (by simp; try omega)]; exact new_at _ _ _ (by simp)
  have W2 : Hid (W.heap[w.heap.size + 1]? = some (.cells #[.int .u8 0, .int .i64 0, .string ⟨#[]⟩, .slice none 0 0, .slice none 0 0] 26 (0, 0))) := by show _ = _; rw [hW]; rw [Lib.alloc_old _ _ _ (by simp; try omega)]; rw [Lib.alloc_old _ _ _ (by simp; try omega)]; exact new_at _ _ _ (by simp)
  have W3 : Hid (W.heap[w.heap.size + 1 + 1]? = some (.cells #[.int .i64 0] 3 (0, 0))) := by show _ = _; rw [hW]; rw [Lib.alloc_old _ _ _ (by simp; try omega)]; exact new_at _ _ _ (by simp)
  have W4 : Hid (W.heap[w.heap.size + 1 + 1 + 1]? = some (.cells #[.int .i64 0] 27 (0, 0))) := by show _ = _; rw [hW]; exact new_at _ _ _ (by simp)
  clear hW
  have CL : Hid (Calls Tryd.prog 7 #[.string s] W (PostK s W R)) := by
    have := lexTokens_any s W (HE.out.bw hbw)
    rw [hL] at this
    exact this
  cases R with
  | error x =>
    obtain ⟨bk, k⟩ := x
    have hk := lexAll_code hL
    refine CL.out.mono ?_
    rintro e w1 ⟨rfl, hb⟩
    have B1 : Hid (w1.heap[w.heap.size]? = some (.cells #[.string s] 9 (0, 0))) := (hb.block _ (by omega)).trans W1.out
    have B2 : Hid (w1.heap[w.heap.size + 1]? = some (.cells #[.int .u8 0, .int .i64 0, .string ⟨#[]⟩, .slice none 0 0, .slice none 0 0] 26 (0, 0))) := (hb.block _ (by omega)).trans W2.out
    have B3 : Hid (w1.heap[w.heap.size + 1 + 1]? = some (.cells #[.int .i64 0] 3 (0, 0))) := (hb.block _ (by omega)).trans W3.out
    have B4 : Hid (w1.heap[w.heap.size + 1 + 1 + 1]? = some (.cells #[.int .i64 0] 27 (0, 0))) := (hb.block _ (by omega)).trans W4.out
    have hz1 := hb.size
    have e1 : ((k : Int) != 0) = true := by simp; omega
    have e2 : ¬ (k : Int) = 0 := by omega
    have HB : Hid (BW w w1) := hbw.trans hb
    have c2a : w1.cell? ⟨w.heap.size + 1 + 1, 0, none⟩ = some (.int .i64 0) := by rw [Lib.cell_of_heap B3.out]; rfl
    have c2b : w1.cell? ⟨w.heap.size + 1 + 1 + 1, 0, none⟩ = some (.int .i64 0) := by rw [Lib.cell_of_heap B4.out]; rfl
    have z2a : ∀ o, w1.frozen? ⟨w.heap.size + 1 + 1, o, none⟩ = false := fun o => Lib.frozen_of_heap B3.out o
    have z2b : ∀ o, w1.frozen? ⟨w.heap.size + 1 + 1 + 1, o, none⟩ = false := fun o => Lib.frozen_of_heap B4.out o
    clear CL W1 W2 W3 W4 hL hk hb
    go_wp2_with fail
    obtain ⟨W2, hW2⟩ : ∃ W2, W2 = (w1.setCell ⟨w.heap.size + 1 + 1, 0, none⟩ (.int .i64 ((s.size - bk : Nat) : Int))).setCell ⟨w.heap.size + 1 + 1 + 1, 0, none⟩ (.int .i64 k) := ⟨_, rfl⟩
    have hz2 : W2.heap.size = w1.heap.size := by rw [hW2]; simp [World.setCell]
    have C1 : Hid (W2.heap[w.heap.size + 1]? = some (.cells #[.int .u8 0, .int .i64 0, .string ⟨#[]⟩, .slice none 0 0, .slice none 0 0] 26 (0, 0))) := by show _ = _; rw [hW2]; exact (sco _ (by omega)).trans ((sco _ (by omega)).trans B2.out)
    have C2 : Hid (W2.heap[w.heap.size + 1 + 1]? = some (.cells #[.int .i64 ((s.size - bk : Nat) : Int)] 3 (0, 0))) := by show _ = _; rw [hW2]; exact (sco _ (by omega)).trans (heap_setCell_same w1 _ 0 _ 3 _ B3.out)
    have C3 : Hid (W2.heap[w.heap.size + 1 + 1 + 1]? = some (.cells #[.int .i64 k] 27 (0, 0))) := by show _ = _; rw [hW2]; exact heap_setCell_same _ _ 0 _ 27 _ ((sco _ (by omega)).trans B4.out)
    have HB2 : Hid (BW w W2) := by show BW w W2; rw [hW2]; exact (HB.out.setCell (p := ⟨w.heap.size + 1 + 1, 0, none⟩) (by show w.heap.size ≤ w.heap.size + 1 + 1; omega) _).setCell (p := ⟨w.heap.size + 1 + 1 + 1, 0, none⟩) (by show w.heap.size ≤ w.heap.size + 1 + 1 + 1; omega) _
    rw [← hW2]
    clear hW2 c2a c2b z2a z2b B1 B2 B3 B4 HB
    have b0 : W2.cell? ⟨w.heap.size + 1, 0, none⟩ = some (.int .u8 0) := by rw [Lib.cell_of_heap C1.out]; rfl
    have b1 : W2.cell? ⟨w.heap.size + 1, 1, none⟩ = some (.int .i64 0) := by rw [Lib.cell_of_heap C1.out]; rfl
    have b2 : W2.cell? ⟨w.heap.size + 1, 2, none⟩ = some (.string ⟨#[]⟩) := by rw [Lib.cell_of_heap C1.out]; rfl
    have b3 : W2.cell? ⟨w.heap.size + 1, 3, none⟩ = some (.slice none 0 0) := by rw [Lib.cell_of_heap C1.out]; rfl
    have b4 : W2.cell? ⟨w.heap.size + 1, 4, none⟩ = some (.slice none 0 0) := by rw [Lib.cell_of_heap C1.out]; rfl
    have d3 : W2.cell? ⟨w.heap.size + 1 + 1, 0, none⟩ = some (.int .i64 ((s.size - bk : Nat) : Int)) := by rw [Lib.cell_of_heap C2.out]; rfl
    have d4 : W2.cell? ⟨w.heap.size + 1 + 1 + 1, 0, none⟩ = some (.int .i64 k) := by rw [Lib.cell_of_heap C3.out]; rfl
    have z1 : ∀ o, W2.frozen? ⟨w.heap.size + 1, o, none⟩ = false := fun o => Lib.frozen_of_heap C1.out o
    have z3 : ∀ o, W2.frozen? ⟨w.heap.size + 1 + 1, o, none⟩ = false := fun o => Lib.frozen_of_heap C2.out o
    have z4 : ∀ o, W2.frozen? ⟨w.heap.size + 1 + 1 + 1, o, none⟩ = false := fun o => Lib.frozen_of_heap C3.out o
    go_region
    obtain ⟨q2, q3, q4, qb⟩ := end3 (a2 := w.heap.size + 1) (a3 := w.heap.size + 1 + 1) (a4 := w.heap.size + 1 + 1 + 1) (by omega) (by omega) C1.out C2.out C3.out ((s.size - bk : Nat) : Int) k
    go_wp2_with fail
    generalize hX : ((((((((W2.setCell ⟨w.heap.size + 1, 0, none⟩ (.int .u8 0)).setCell ⟨w.heap.size + 1, 1, none⟩ (.int .i64 0)).setCell ⟨w.heap.size + 1, 2, none⟩ (.string ⟨#[]⟩)).setCell ⟨w.heap.size + 1, 3, none⟩ (.slice none 0 0)).setCell ⟨w.heap.size + 1, 4, none⟩ (.slice none 0 0)).setCell ⟨w.heap.size + 1 + 1, 0, none⟩ (.int .i64 ((s.size - bk : Nat) : Int))).setCell ⟨w.heap.size + 1 + 1 + 1, 0, none⟩ (.int .i64 k))) = X at q2 q3 q4 qb ⊢
    have HX : Hid (BW w X) := Below.trans HB2.out (Below.mono qb (by omega))
    have x0 : X.cell? ⟨w.heap.size + 1, 0, none⟩ = some (.int .u8 0) := by rw [Lib.cell_of_heap q2]; rfl
    have x1 : X.cell? ⟨w.heap.size + 1, 1, none⟩ = some (.int .i64 0) := by rw [Lib.cell_of_heap q2]; rfl
    have x2 : X.cell? ⟨w.heap.size + 1, 2, none⟩ = some (.string ⟨#[]⟩) := by rw [Lib.cell_of_heap q2]; rfl
    have x3 : X.cell? ⟨w.heap.size + 1, 3, none⟩ = some (.slice none 0 0) := by rw [Lib.cell_of_heap q2]; rfl
    have x4 : X.cell? ⟨w.heap.size + 1, 4, none⟩ = some (.slice none 0 0) := by rw [Lib.cell_of_heap q2]; rfl
    have x5 : X.cell? ⟨w.heap.size + 1 + 1, 0, none⟩ = some (.int .i64 ((s.size - bk : Nat) : Int)) := by rw [Lib.cell_of_heap q3]; rfl
    have x6 : X.cell? ⟨w.heap.size + 1 + 1 + 1, 0, none⟩ = some (.int .i64 k) := by rw [Lib.cell_of_heap q4]; rfl
    clear q2 q3 q4 qb hX b0 b1 b2 b3 b4 d3 d4 z1 z3 z4
    simp [bodyPostD, Leaves, settle, results, Tryd.results5, go_sem, x0, x1, x2, x3, x4, x5, x6]
    exact HX.out.drew
  | ok ts =>
    obtain ⟨hok, hle, h65⟩ := lexAll_toks hL
    have hsl : s.data.toList.length = s.size := by simp
    rw [hsl] at hle h65
    refine CL.out.mono ?_
    rintro e w1 ⟨ao, n, c, rfl, hown, hb⟩
    obtain ⟨rfl, hc, hm, hTok⟩ := toks_at2 hown
    have B1 : Hid (w1.heap[w.heap.size]? = some (.cells #[.string s] 9 (0, 0))) := (hb.block _ (by omega)).trans W1.out
    have B2 : Hid (w1.heap[w.heap.size + 1]? = some (.cells #[.int .u8 0, .int .i64 0, .string ⟨#[]⟩, .slice none 0 0, .slice none 0 0] 26 (0, 0))) := (hb.block _ (by omega)).trans W2.out
    have B3 : Hid (w1.heap[w.heap.size + 1 + 1]? = some (.cells #[.int .i64 0] 3 (0, 0))) := (hb.block _ (by omega)).trans W3.out
    have B4 : Hid (w1.heap[w.heap.size + 1 + 1 + 1]? = some (.cells #[.int .i64 0] 27 (0, 0))) := (hb.block _ (by omega)).trans W4.out
    have hz1 := hb.size
    have HB : Hid (BW w w1) := hbw.trans hb
    have c2a : w1.cell? ⟨w.heap.size + 1 + 1, 0, none⟩ = some (.int .i64 0) := by rw [Lib.cell_of_heap B3.out]; rfl
    have c2b : w1.cell? ⟨w.heap.size + 1 + 1 + 1, 0, none⟩ = some (.int .i64 0) := by rw [Lib.cell_of_heap B4.out]; rfl
    have z2a : ∀ o, w1.frozen? ⟨w.heap.size + 1 + 1, o, none⟩ = false := fun o => Lib.frozen_of_heap B3.out o
    have z2b : ∀ o, w1.frozen? ⟨w.heap.size + 1 + 1 + 1, o, none⟩ = false := fun o => Lib.frozen_of_heap B4.out o
    have HTK : Hid _ := hTok
    have HOK : Hid (∀ t ∈ ts, TokOk t) := hok
    clear CL W1 W2 W3 W4 hL hb hown hTok hok
    obtain ⟨V, hV⟩ : ∃ V, V = (w1.setCell ⟨w.heap.size + 1 + 1, 0, none⟩ (.int .i64 0)).setCell ⟨w.heap.size + 1 + 1 + 1, 0, none⟩ (.int .i64 0) := ⟨_, rfl⟩
    have hzV : V.heap.size = w1.heap.size := by rw [hV]; simp [World.setCell]
    have hVo : ∀ b, ¬ b = w.heap.size + 1 + 1 → ¬ b = w.heap.size + 1 + 1 + 1 → V.heap[b]? = w1.heap[b]? := fun b h1 h2 => by rw [hV]; exact (sco _ h2).trans (sco _ h1)
    have C3 : Hid (V.heap[w.heap.size + 1 + 1]? = some (.cells #[.int .i64 0] 3 (0, 0))) := by show _ = _; rw [hV]; exact (sco _ (by omega)).trans (heap_setCell_same w1 _ 0 _ 3 _ B3.out)
    have C4 : Hid (V.heap[w.heap.size + 1 + 1 + 1]? = some (.cells #[.int .i64 0] 27 (0, 0))) := by show _ = _; rw [hV]; exact heap_setCell_same _ _ 0 _ 27 _ ((sco _ (by omega)).trans B4.out)
    have HBV : Hid (BW w V) := by show BW w V; rw [hV]; exact (HB.out.setCell (p := ⟨w.heap.size + 1 + 1, 0, none⟩) (by show w.heap.size ≤ w.heap.size + 1 + 1; omega) _).setCell (p := ⟨w.heap.size + 1 + 1 + 1, 0, none⟩) (by show w.heap.size ≤ w.heap.size + 1 + 1 + 1; omega) _
    go_wp2_with fail
    rw [← hV]
    obtain ⟨W2, hW2⟩ : ∃ W2, W2 = V.alloc (.cells #[.slice ao ts.length c, .int .i64 0] 40) := ⟨_, rfl⟩
    have bV : BW V W2 := by rw [hW2]; exact BW.alloc (BW.refl _) _
    have hz2 : w1.heap.size < W2.heap.size := by rw [hW2]; simp; omega
    have HRB : Hid (W2.heap[w1.heap.size]? = some (.cells #[.slice ao ts.length c, .int .i64 0] 40 (0, 0))) := by show _ = _; rw [hW2, ← hzV]; exact heap_alloc_new _ _
    have D1 : Hid (W2.heap[w.heap.size]? = some (.cells #[.string s] 9 (0, 0))) := (bV.block _ (by omega)).trans ((hVo _ (by omega) (by omega)).trans B1.out)
    have D2 : Hid (W2.heap[w.heap.size + 1]? = some (.cells #[.int .u8 0, .int .i64 0, .string ⟨#[]⟩, .slice none 0 0, .slice none 0 0] 26 (0, 0))) := (bV.block _ (by omega)).trans ((hVo _ (by omega) (by omega)).trans B2.out)
    have D3 : Hid (W2.heap[w.heap.size + 1 + 1]? = some (.cells #[.int .i64 0] 3 (0, 0))) := (bV.block _ (by omega)).trans C3.out
    have D4 : Hid (W2.heap[w.heap.size + 1 + 1 + 1]? = some (.cells #[.int .i64 0] 27 (0, 0))) := (bV.block _ (by omega)).trans C4.out
    have HB2 : Hid (BW w W2) := HBV.out.trans bV
    have HRD : Hid (RdP w1.heap.size (w1.heap.size + 1) s.size (ts, 0) W2) := by
      refine ⟨HOK.out, by show (0 : Nat) ≤ 4000; omega, ⟨by omega, by show ts.length ≤ 100000; omega⟩, by omega, by omega, ao, c, hc, by unfold maxLen at hm; omega, HRB.out, ?_⟩
      rcases HTK.out with h | ⟨b, off, h1, h2, h3, h4⟩
      · exact .inl h
      · refine .inr ⟨b, off, h1, by omega, fun i t hi => ?_⟩
        obtain ⟨t0, t1, t2, t3⟩ := h4 i t hi
        have K : ∀ o, W2.cell? ⟨b, o, none⟩ = w1.cell? ⟨b, o, none⟩ := fun o => cell_block ((bV.block _ (by omega)).trans (hVo _ (by omega) (by omega))) o
        exact ⟨(K _).trans t0, (K _).trans t1, (K _).trans t2, (K _).trans t3⟩
    have CP : Hid (Calls Tryd.prog 9 #[.pointer (some ⟨w1.heap.size, 0, none⟩)] W2 (PostPr w1.heap.size (w1.heap.size + 1) s.size W2 (pProg ts))) := program_any _ _ _ ts W2 HRD.out (HG.out.bw HB2.out) (by omega)
    rw [← hW2]
    clear hW2 hV hVo HTK HRB HRD HOK C3 C4 B1 B2 B3 B4 c2a c2b z2a z2b HB HBV
    cases hp : pProg ts with
    | error er =>
      rw [hp] at CP
      have CP2 : Hid (Calls Tryd.prog 9 #[.pointer (some ⟨w1.heap.size, 0, none⟩)] W2 (fun e w' => e = .panicked (thrP s.size er) ∧ Fl w1.heap.size W2 w')) := CP.out
      clear CP
      refine CP2.out.mono ?_
      rintro e w3 ⟨rfl, f3⟩
      have hz3 := f3.size
      have b3 : BW w w3 := f3.bw HB2.out (by omega)
      exact doorE _ w3 _ (w.heap.size) (w.heap.size + 1) (w.heap.size + 1 + 1) (w.heap.size + 1 + 1 + 1) s er rfl rfl rfl (by omega) (by omega) (by omega)
        ((f3.block _ (by omega) (by omega)).trans D1.out) ((f3.block _ (by omega) (by omega)).trans D2.out) ((f3.block _ (by omega) (by omega)).trans D3.out) ((f3.block _ (by omega) (by omega)).trans D4.out)
        (fun w' hb => by dsimp only; rw [hp]; exact ⟨rfl, Below.trans b3 (Below.mono hb (by omega))⟩)
    | ok x =>
      rw [hp] at CP
      have CP2 : Hid (Calls Tryd.prog 9 #[.pointer (some ⟨w1.heap.size, 0, none⟩)] W2 (fun e w' => ∃ v, e = .returned v ∧ NodeQ (fun b => W2.heap.size ≤ b ∧ b < w'.heap.size) w' 60 v x ∧ Fl w1.heap.size W2 w')) := CP.out
      clear CP
      refine CP2.out.mono ?_
      rintro e w3 ⟨v3, rfl, hx, f3⟩
      obtain ⟨ro, rfl⟩ := hx.rw
      have hz3 := f3.size
      have HB3 : Hid (BW w w3) := f3.bw HB2.out (by omega)
      have HX : Hid (NodeQ (fun b => W2.heap.size ≤ b ∧ b < w3.heap.size) w3 60 ro.v x) := hx
      have E2 : Hid (w3.heap[w.heap.size + 1]? = some (.cells #[.int .u8 0, .int .i64 0, .string ⟨#[]⟩, .slice none 0 0, .slice none 0 0] 26 (0, 0))) := (f3.block _ (by omega) (by omega)).trans D2.out
      have E3 : Hid (w3.heap[w.heap.size + 1 + 1]? = some (.cells #[.int .i64 0] 3 (0, 0))) := (f3.block _ (by omega) (by omega)).trans D3.out
      have E4 : Hid (w3.heap[w.heap.size + 1 + 1 + 1]? = some (.cells #[.int .i64 0] 27 (0, 0))) := (f3.block _ (by omega) (by omega)).trans D4.out
      clear hx f3 CP2 D1 D2 D3 D4 HB2
      have b0 : w3.cell? ⟨w.heap.size + 1, 0, none⟩ = some (.int .u8 0) := by rw [Lib.cell_of_heap E2.out]; rfl
      have b1 : w3.cell? ⟨w.heap.size + 1, 1, none⟩ = some (.int .i64 0) := by rw [Lib.cell_of_heap E2.out]; rfl
      have b2 : w3.cell? ⟨w.heap.size + 1, 2, none⟩ = some (.string ⟨#[]⟩) := by rw [Lib.cell_of_heap E2.out]; rfl
      have b3 : w3.cell? ⟨w.heap.size + 1, 3, none⟩ = some (.slice none 0 0) := by rw [Lib.cell_of_heap E2.out]; rfl
      have b4 : w3.cell? ⟨w.heap.size + 1, 4, none⟩ = some (.slice none 0 0) := by rw [Lib.cell_of_heap E2.out]; rfl
      have d3 : w3.cell? ⟨w.heap.size + 1 + 1, 0, none⟩ = some (.int .i64 0) := by rw [Lib.cell_of_heap E3.out]; rfl
      have d4 : w3.cell? ⟨w.heap.size + 1 + 1 + 1, 0, none⟩ = some (.int .i64 0) := by rw [Lib.cell_of_heap E4.out]; rfl
      have z1 : ∀ o, w3.frozen? ⟨w.heap.size + 1, o, none⟩ = false := fun o => Lib.frozen_of_heap E2.out o
      have z3 : ∀ o, w3.frozen? ⟨w.heap.size + 1 + 1, o, none⟩ = false := fun o => Lib.frozen_of_heap E3.out o
      have z4 : ∀ o, w3.frozen? ⟨w.heap.size + 1 + 1 + 1, o, none⟩ = false := fun o => Lib.frozen_of_heap E4.out o
      go_wp2_with fail
      obtain ⟨q2, q3, q4, qb, qo⟩ := end3v (a2 := w.heap.size + 1) (a3 := w.heap.size + 1 + 1) (a4 := w.heap.size + 1 + 1 + 1) (by omega) (by omega) E2.out E3.out E4.out (.int .u8 ro.k) (.int .i64 ro.n) (.string ro.s) (.slice ro.na ro.nl ro.nc) (.slice ro.ka ro.kl ro.kc) 0 0
      have hzX : ((((((((w3.setCell ⟨w.heap.size + 1, 0, none⟩ (.int .u8 ro.k)).setCell ⟨w.heap.size + 1, 1, none⟩ (.int .i64 ro.n)).setCell ⟨w.heap.size + 1, 2, none⟩ (.string ro.s)).setCell ⟨w.heap.size + 1, 3, none⟩ (.slice ro.na ro.nl ro.nc)).setCell ⟨w.heap.size + 1, 4, none⟩ (.slice ro.ka ro.kl ro.kc)).setCell ⟨w.heap.size + 1 + 1, 0, none⟩ (.int .i64 0)).setCell ⟨w.heap.size + 1 + 1 + 1, 0, none⟩ (.int .i64 0))).heap.size = w3.heap.size := by simp [World.setCell]
      generalize hX : (((((((w3.setCell ⟨w.heap.size + 1, 0, none⟩ (.int .u8 ro.k)).setCell ⟨w.heap.size + 1, 1, none⟩ (.int .i64 ro.n)).setCell ⟨w.heap.size + 1, 2, none⟩ (.string ro.s)).setCell ⟨w.heap.size + 1, 3, none⟩ (.slice ro.na ro.nl ro.nc)).setCell ⟨w.heap.size + 1, 4, none⟩ (.slice ro.ka ro.kl ro.kc)).setCell ⟨w.heap.size + 1 + 1, 0, none⟩ (.int .i64 0)).setCell ⟨w.heap.size + 1 + 1 + 1, 0, none⟩ (.int .i64 0)) = X at q2 q3 q4 qb qo hzX ⊢
      refine doorI _ _ _ (w.heap.size) (w.heap.size + 1) (w.heap.size + 1 + 1) (w.heap.size + 1 + 1 + 1) _ _ _ _ _ _ _ rfl rfl rfl q2 q3 q4 ?_
      exact ⟨_, rfl, NodeQ.keep (fun b hb => ⟨by omega, by omega⟩) (fun b hb hl => qo b (by omega) (by omega) (by omega)) (by omega) HX.out, Below.trans HB3.out (Below.mono qb (by omega))⟩

end Go.Proofs.YtlacjiihbbgbeaaDoor
