import Derived.Test.YtlacjiihbbgbeaaDoorN23
namespace Go.Proofs.YtlacjiihbbgbeaaDoor
open Go.RowKit
set_option linter.unusedVariables false
set_option linter.unusedSimpArgs false

theorem tc_get (N : Nat) (ts : List Tok) (i j : Nat) (t : Tok) (h : ts[i]? = some t) (hj : j < 4) : (tc N ts)[i * 4 + j]? = (tcs N t)[j]? := by
  unfold tc
  induction ts generalizing i with
  | nil => simp at h
  | cons a q ih =>
    have hl : (tcs N a).length = 4 := rfl
    cases i with
    | zero =>
      simp at h
      subst h
      rw [List.flatMap_cons, Nat.zero_mul, Nat.zero_add, List.getElem?_append_left (by rw [hl]; exact hj)]
    | succ i =>
      have := ih i (by simpa using h)
      rw [List.flatMap_cons, List.getElem?_append_right (by rw [hl]; omega), hl, ← this]
      congr 1
      omega
theorem toks_at {w : World} {lo N n c : Nat} {ao : Option Addr} {ts : List Tok} (h : w.ownsRow lo 50 4 (.slice ao n c) ts.length (tc N ts)) : n = ts.length ∧ ts.length ≤ c ∧ c ≤ maxLen ∧ TokAt w w.heap.size N ao ts := by
  have h' := h
  rcases h.2 with ⟨e, h0⟩ | ⟨g, cap, cur, e, hbg, hgb, hnc, hcm, hcs, htake⟩
  · cases e
    exact ⟨h0.symm, by omega, Nat.zero_le _, .inl (List.eq_nil_of_length_eq_zero h0)⟩
  · cases e
    refine ⟨rfl, hnc, hcm, .inr ⟨g, 0, rfl, (Array.getElem?_eq_some_iff.1 hgb).1, fun i t hi => ?_⟩⟩
    have C : ∀ j u, j < 4 → (tcs N t)[j]? = some u → w.cell? ⟨g, 0 + i * 4 + j, none⟩ = some u := fun j u hj hu => by
      have := h'.cells (g := g) rfl (i * 4 + j) u (by rw [tc_get N ts i j t hi hj]; exact hu)
      rw [Addr.add_mid] at this
      simpa [Nat.add_assoc] using this
    exact ⟨by simpa using C 0 _ (by omega) rfl, C 1 _ (by omega) rfl, C 2 _ (by omega) rfl, C 3 _ (by omega) rfl⟩
def pAt (N : Nat) (er : Pe) : Int := if er.1 = 11 then N else ((N - er.2 : Nat) : Int)
def pCd (er : Pe) : Int := if er.1 = 11 then 11 else if er.1 = 12 then 12 else 13
/-- How Parse ends. -/
def PostPar (s : ByteArray) (w : World) (e : Ending) (w' : World) : Prop := match lexAll s.data.toList with
  | .error (bk, k) => e = .returned (.tuple #[.agg #[.int .u8 0, .int .i64 0, .string ⟨#[]⟩, .slice none 0 0, .slice none 0 0], .int .i64 ((s.size - bk : Nat) : Int), .int .i64 k]) ∧ BW w w'
  | .ok ts => match pProg ts with
    | .error er => e = .returned (.tuple #[.agg #[.int .u8 0, .int .i64 0, .string ⟨#[]⟩, .slice none 0 0, .slice none 0 0], .int .i64 (pAt s.size er), .int .i64 (pCd er)]) ∧ BW w w'
    | .ok x => ∃ v, e = .returned (.tuple #[v, .int .i64 0, .int .i64 0]) ∧ NodeQ (fun b => w.heap.size ≤ b ∧ b < w'.heap.size) w' 60 v x ∧ BW w w'
set_option maxRecDepth 100000 in
theorem doorI (tm : Array Value) (w : World) (R : Ending → World → Prop) (a1 a2 a3 a4 : Nat) (v0 v1 v2 v3 v4 x y : Value) (h2 : tm.getD 2 undef = .pointer (some ⟨a2, 0, none⟩)) (h3 : tm.getD 3 undef = .pointer (some ⟨a3, 0, none⟩)) (h4 : tm.getD 4 undef = .pointer (some ⟨a4, 0, none⟩))
    (B2 : w.heap[a2]? = some (.cells #[v0, v1, v2, v3, v4] 26 (0, 0))) (B3 : w.heap[a3]? = some (.cells #[x] 3 (0, 0))) (B4 : w.heap[a4]? = some (.cells #[y] 27 (0, 0))) (h : R (.returned (.tuple #[.agg #[v0, v1, v2, v3, v4], x, y])) w) :
    bodyPostD Tryd.prog Tryd.f5 R .ret { tmps := tm, defers := [{ target := .fn (.func 8) #[.pointer (some ⟨a1, 0, none⟩), .pointer (some ⟨a2, 0, none⟩), .pointer (some ⟨a3, 0, none⟩), .pointer (some ⟨a4, 0, none⟩)], args := #[] }] } w := by
  have c0 : w.cell? ⟨a2, 0, none⟩ = some v0 := by simp only [World.cell?, B2]; rfl
  have c1 : w.cell? ⟨a2, 1, none⟩ = some v1 := by simp only [World.cell?, B2]; rfl
  have c2 : w.cell? ⟨a2, 2, none⟩ = some v2 := by simp only [World.cell?, B2]; rfl
  have c3 : w.cell? ⟨a2, 3, none⟩ = some v3 := by simp only [World.cell?, B2]; rfl
  have c4 : w.cell? ⟨a2, 4, none⟩ = some v4 := by simp only [World.cell?, B2]; rfl
  have d3 : w.cell? ⟨a3, 0, none⟩ = some x := by simp only [World.cell?, B3]; rfl
  have d4 : w.cell? ⟨a4, 0, none⟩ = some y := by simp only [World.cell?, B4]; rfl
  refine leaves_cons (f := 8) (args := #[.pointer (some ⟨a1, 0, none⟩), .pointer (some ⟨a2, 0, none⟩), .pointer (some ⟨a3, 0, none⟩), .pointer (some ⟨a4, 0, none⟩)]) (by simp) (by simp [go_sem]) ?_
  refine (catchP_idle a1 a2 a3 a4 _).mono ?_
  rintro e u' w'' ⟨rfl, rfl, rfl⟩
  refine ⟨_, ?_, h⟩
  simp only [Array.getD_eq_getD_getElem?] at h2 h3 h4
  simp [results, Tryd.results5, go_sem, h2, h3, h4, c0, c1, c2, c3, c4, d3, d4]
theorem res5 {tm : Array Value} {w : World} {a2 a3 a4 : Nat} {v0 v1 v2 v3 v4 x y : Value} (h2 : tm[2]?.getD undef = .pointer (some ⟨a2, 0, none⟩)) (h3 : tm[3]?.getD undef = .pointer (some ⟨a3, 0, none⟩)) (h4 : tm[4]?.getD undef = .pointer (some ⟨a4, 0, none⟩))
    (B2 : w.heap[a2]? = some (.cells #[v0, v1, v2, v3, v4] 26 (0, 0))) (B3 : w.heap[a3]? = some (.cells #[x] 3 (0, 0))) (B4 : w.heap[a4]? = some (.cells #[y] 27 (0, 0))) : w.cell? ⟨a2, 0, none⟩ = some v0 ∧ w.cell? ⟨a2, 1, none⟩ = some v1 ∧ w.cell? ⟨a2, 2, none⟩ = some v2 ∧ w.cell? ⟨a2, 3, none⟩ = some v3 ∧ w.cell? ⟨a2, 4, none⟩ = some v4 ∧ w.cell? ⟨a3, 0, none⟩ = some x ∧ w.cell? ⟨a4, 0, none⟩ = some y := by
  refine ⟨?_, ?_, ?_, ?_, ?_, ?_, ?_⟩
  · simp only [World.cell?, B2]; rfl
  · simp only [World.cell?, B2]; rfl
  · simp only [World.cell?, B2]; rfl
  · simp only [World.cell?, B2]; rfl
  · simp only [World.cell?, B2]; rfl
  · simp only [World.cell?, B3]; rfl
  · simp only [World.cell?, B4]; rfl
set_option maxRecDepth 100000 in
theorem doorE (tm : Array Value) (w : World) (R : Ending → World → Prop) (a1 a2 a3 a4 : Nat) (s : ByteArray) (er : Pe) (h2 : tm.getD 2 undef = .pointer (some ⟨a2, 0, none⟩)) (h3 : tm.getD 3 undef = .pointer (some ⟨a3, 0, none⟩)) (h4 : tm.getD 4 undef = .pointer (some ⟨a4, 0, none⟩))
    (h12 : a1 < a2) (h23 : a2 < a3) (h34 : a3 < a4) (B1 : w.heap[a1]? = some (.cells #[.string s] 9 (0, 0))) (B2 : w.heap[a2]? = some (.cells #[.int .u8 0, .int .i64 0, .string ⟨#[]⟩, .slice none 0 0, .slice none 0 0] 26 (0, 0))) (B3 : w.heap[a3]? = some (.cells #[.int .i64 0] 3 (0, 0))) (B4 : w.heap[a4]? = some (.cells #[.int .i64 0] 27 (0, 0)))
    (h : ∀ w', Below a2 w w' → R (.returned (.tuple #[.agg #[.int .u8 0, .int .i64 0, .string ⟨#[]⟩, .slice none 0 0, .slice none 0 0], .int .i64 (pAt s.size er), .int .i64 (pCd er)])) w') :
    bodyPostD Tryd.prog Tryd.f5 R (.panic (thrP s.size er)) { tmps := tm, defers := [{ target := .fn (.func 8) #[.pointer (some ⟨a1, 0, none⟩), .pointer (some ⟨a2, 0, none⟩), .pointer (some ⟨a3, 0, none⟩), .pointer (some ⟨a4, 0, none⟩)], args := #[] }] } w := by
  simp only [Array.getD_eq_getD_getElem?] at h2 h3 h4
  refine leaves_cons (f := 8) (args := #[.pointer (some ⟨a1, 0, none⟩), .pointer (some ⟨a2, 0, none⟩), .pointer (some ⟨a3, 0, none⟩), .pointer (some ⟨a4, 0, none⟩)]) (by simp) (by simp [go_sem]) ?_
  unfold thrP
  unfold pAt pCd at h
  by_cases k1 : er.1 = 11
  · rw [if_pos k1]
    rw [if_pos k1, if_pos k1] at h
    refine (catchP_miss a1 a2 a3 a4 s w h12 h23 h34 B1 B2 B3 B4).mono ?_
    rintro e u' w'' ⟨rfl, rfl, q2, q3, q4, hb⟩
    have hh := h w'' hb
    obtain ⟨c0, c1, c2, c3, c4, d3, d4⟩ := res5 h2 h3 h4 q2 q3 q4
    simp [Leaves, settle, results, Tryd.results5, go_sem, h2, h3, h4, c0, c1, c2, c3, c4, d3, d4]
    exact hh
  · rw [if_neg k1]
    rw [if_neg k1, if_neg k1] at h
    by_cases k2 : er.1 = 12
    · rw [if_pos k2]
      rw [if_pos k2] at h
      refine (catchP_stray a1 a2 a3 a4 s _ w h12 h23 h34 B1 B2 B3 B4).mono ?_
      rintro e u' w'' ⟨rfl, rfl, q2, q3, q4, hb⟩
      have hh := h w'' hb
      obtain ⟨c0, c1, c2, c3, c4, d3, d4⟩ := res5 h2 h3 h4 q2 q3 q4
      simp [Leaves, settle, results, Tryd.results5, go_sem, h2, h3, h4, c0, c1, c2, c3, c4, d3, d4]
      exact hh
    · rw [if_neg k2]
      rw [if_neg k2] at h
      refine (catchP_excess a1 a2 a3 a4 s _ w h12 h23 h34 B1 B2 B3 B4).mono ?_
      rintro e u' w'' ⟨rfl, rfl, q2, q3, q4, hb⟩
      have hh := h w'' hb
      obtain ⟨c0, c1, c2, c3, c4, d3, d4⟩ := res5 h2 h3 h4 q2 q3 q4
      simp [Leaves, settle, results, Tryd.results5, go_sem, h2, h3, h4, c0, c1, c2, c3, c4, d3, d4]
      exact hh

end Go.Proofs.YtlacjiihbbgbeaaDoor
