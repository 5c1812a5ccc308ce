import Derived.Test.YtlacjiihbbgbeaaDoorM2
namespace Go.Proofs.YtlacjiihbbgbeaaDoor
open Go.RowKit
set_option linter.unusedVariables false
set_option linter.unusedSimpArgs false

/-- What is thrown. -/
def thrP (N : Nat) (e : Pe) : List PanicEntry := if e.1 = 11 then [{ v := .iface 36 (.agg #[]), recovered := false }] else if e.1 = 12 then [{ v := .iface 37 (.int .i64 ((N - e.2 : Nat) : Int)), recovered := false }] else [{ v := .iface 38 (.int .i64 ((N - e.2 : Nat) : Int)), recovered := false }]
/-- What a token may be. -/
structure TokOk (t : Tok) : Prop where
  k1 : 1 ≤ t.kind
  k5 : t.kind ≤ 5
  n0 : -9223372036854775808 ≤ t.n
  n1 : t.n ≤ 9223372036854775807
  s : t.s.length ≤ 100000
def TokC (w : World) (N b o : Nat) (t : Tok) : Prop := w.cell? ⟨b, o, none⟩ = some (.int .u8 t.kind) ∧ w.cell? ⟨b, o + 1, none⟩ = some (sv t.s) ∧ w.cell? ⟨b, o + 2, none⟩ = some (.int .i64 t.n) ∧ w.cell? ⟨b, o + 3, none⟩ = some (.int .i64 ((N - t.back : Nat) : Int))
def TokAt (w : World) (B N : Nat) (ao : Option Addr) (ts : List Tok) : Prop := ts = [] ∨ ∃ b off, ao = some ⟨b, off, none⟩ ∧ b < B ∧ ∀ (i : Nat) t, ts[i]? = some t → TokC w N b (off + i * 4) t
/-- The reader in block rb: what is left, and how many nodes have begun. -/
def RdP (rb B N : Nat) (st : Ps) (w : World) : Prop := (∀ t ∈ st.1, TokOk t) ∧ st.2 ≤ 4000 ∧ (N ≤ 100000 ∧ st.1.length ≤ 100000) ∧ rb < B ∧ B ≤ w.heap.size ∧ ∃ ao cp, st.1.length ≤ cp ∧ cp ≤ 9223372036854775807 ∧ w.heap[rb]? = some (.cells #[.slice ao st.1.length cp, .int .i64 st.2] 40 (0, 0)) ∧ TokAt w B N ao st.1
theorem RdP.lt {rb B N : Nat} {st : Ps} {w : World} (h : RdP rb B N st w) : rb < w.heap.size := by
  obtain ⟨_, _, _, _, _, ao, cp, _, _, h, _⟩ := h
  exact (Array.getElem?_eq_some_iff.1 h).1
/-- No cell of the reader is a uint8 or a string. -/
theorem RdP.ne8 {rb B N : Nat} {st : Ps} {w : World} (h : RdP rb B N st w) {b o : Nat} {k : Int} (hc : w.cell? ⟨b, o, none⟩ = some (.int .u8 k)) : ¬ b = rb := by
  rintro rfl
  obtain ⟨_, _, _, _, _, ao, cp, _, _, h, _⟩ := h
  rw [Lib.cell_of_heap h] at hc
  match o, hc with
  | 0, hc => simp at hc
  | 1, hc => simp at hc
  | o + 2, hc => simp at hc
theorem RdP.neS {rb B N : Nat} {st : Ps} {w : World} (h : RdP rb B N st w) {b o : Nat} {s : ByteArray} (hc : w.cell? ⟨b, o, none⟩ = some (.string s)) : ¬ b = rb := by
  rintro rfl
  obtain ⟨_, _, _, _, _, ao, cp, _, _, h, _⟩ := h
  rw [Lib.cell_of_heap h] at hc
  match o, hc with
  | 0, hc => simp at hc
  | 1, hc => simp at hc
  | o + 2, hc => simp at hc
theorem Fl.refl (lb : Nat) (w : World) : Fl lb w w := (BW.refl w).fl lb
theorem Fl.alloc {lb : Nat} {w w' : World} (h : Fl lb w w') (o : Obj) : Fl lb w (w'.alloc o) := h.trans ((BW.alloc (BW.refl w') o).fl lb)
theorem Fl.setC {lb : Nat} {W w : World} (h : Fl lb W w) (g o : Nat) (hg : W.heap.size ≤ g ∨ g = lb) (u : Value) : Fl lb W (w.setCell ⟨g, o, none⟩ u) :=
  ⟨h.os, h.tape, h.output, Nat.le_trans h.size (by simp [World.setCell]), fun k hk hn => (Below.heap_setCell _ _ _ _ (fun e => by have e' : k = g := e; omega)).trans (h.block k hk hn)⟩
theorem TokAt.fl {w w' : World} {rb B N : Nat} {st : Ps} {ao : Option Addr} {ts : List Tok} (h : TokAt w B N ao ts) (hr : RdP rb B N st w) (k : Fl rb w w') : TokAt w' B N ao ts := by
  rcases h with h | ⟨b, off, e, hb, hc⟩
  · exact .inl h
  · by_cases h0 : ts = []
    · exact .inl h0
    · obtain ⟨t0, ht0⟩ : ∃ t, ts[0]? = some t := by
        cases ts with
        | nil => exact (h0 rfl).elim
        | cons t r => exact ⟨t, rfl⟩
      have hn := hr.ne8 (hc 0 t0 ht0).1
      have hb' : b < w.heap.size := Nat.lt_of_lt_of_le hb hr.2.2.2.2.1
      refine .inr ⟨b, off, e, hb, fun i t ht => ?_⟩
      obtain ⟨c0, c1, c2, c3⟩ := hc i t ht
      replace hb := hb'
      exact ⟨(k.cells b _ hb hn).trans c0, (k.cells b _ hb hn).trans c1, (k.cells b _ hb hn).trans c2, (k.cells b _ hb hn).trans c3⟩
/-- The reader under a change elsewhere. -/
theorem RdP.bw {rb B N : Nat} {st : Ps} {w w' : World} (h : RdP rb B N st w) (k : BW w w') : RdP rb B N st w' := by
  have hl := h.lt
  have h' := h
  obtain ⟨h1, h2, h3, hB1, hB2, ao, cp, h4, h5, h6, h7⟩ := h
  exact ⟨h1, h2, h3, hB1, Nat.le_trans hB2 k.size, ao, cp, h4, h5, (k.block rb hl).trans h6, h7.fl h' (k.fl rb)⟩
theorem SeqAt.fl {K : Type} {At At' : Value → K → Prop} {w w' : World} {rb B N : Nat} {st : Ps} {ao : Option Addr} {ln : Nat} {l : List K} (h : SeqAt At w ao ln l) (hr : RdP rb B N st w) (k : Fl rb w w') (m : ∀ v x, At v x → At' v x) : SeqAt At' w' ao ln l := by
  obtain ⟨h1, h2, h4⟩ := h
  refine ⟨h1, h2, ?_⟩
  rcases h4 with h4 | ⟨b, off, e, hb, hc⟩
  · exact .inl h4
  · by_cases h0 : ln = 0
    · exact .inl h0
    · obtain ⟨x0, hx0⟩ : ∃ x, l[0]? = some x := ⟨_, List.getElem?_eq_getElem (by omega)⟩
      obtain ⟨r0, hr0, _⟩ := hc 0 x0 hx0
      have hn := hr.ne8 hr0.1
      refine .inr ⟨b, off, e, Nat.lt_of_lt_of_le hb k.size, fun i x hx => ?_⟩
      obtain ⟨r, ⟨c0, c1, c2, c3, c4⟩, ha⟩ := hc i x hx
      exact ⟨r, ⟨(k.cells b _ hb hn).trans c0, (k.cells b _ hb hn).trans c1, (k.cells b _ hb hn).trans c2, (k.cells b _ hb hn).trans c3, (k.cells b _ hb hn).trans c4⟩, m _ _ ha⟩
theorem StrsAt.fl {w w' : World} {rb B N : Nat} {st : Ps} {ao : Option Addr} {ln : Nat} {l : List ByteArray} (h : StrsAt w ao ln l) (hr : RdP rb B N st w) (k : Fl rb w w') : StrsAt w' ao ln l := by
  obtain ⟨h1, h2, h3, h4⟩ := h
  refine ⟨h1, h2, h3, ?_⟩
  rcases h4 with h4 | ⟨b, off, e, hb, hc⟩
  · exact .inl h4
  · by_cases h0 : ln = 0
    · exact .inl h0
    · obtain ⟨x0, hx0⟩ : ∃ x, l[0]? = some x := ⟨_, List.getElem?_eq_getElem (by omega)⟩
      have hn := hr.neS (hc 0 x0 hx0)
      exact .inr ⟨b, off, e, Nat.lt_of_lt_of_le hb k.size, fun i x hx => (k.cells b _ hb hn).trans (hc i x hx)⟩
theorem NodeAt.fl {w w' : World} {rb B N : Nat} {st : Ps} (hr : RdP rb B N st w) (k : Fl rb w w') : ∀ {n : Nat} {v : Value} {t : Tr n}, NodeAt w n v t → NodeAt w' n v t := by
  intro n
  induction n with
  | zero => intro v t h; exact h.elim
  | succ n ih =>
    intro v t h
    obtain ⟨na, nl, nc, ka, kl, kc, e, wf, a1, a2, a3, a4, s1, s2⟩ := h
    exact ⟨na, nl, nc, ka, kl, kc, e, wf, a1, a2, a3, a4, s1.fl hr k, s2.fl hr k (fun _ _ hh => ih hh)⟩
/-- The next token's cells. -/
theorem RdP.head {rb B N : Nat} {t : Tok} {r : List Tok} {g : Nat} {w : World} (h : RdP rb B N (t :: r, g) w) : ∃ b off cp, r.length + 1 ≤ cp ∧ cp ≤ 9223372036854775807 ∧ w.heap[rb]? = some (.cells #[.slice (some ⟨b, off, none⟩) (r.length + 1) cp, .int .i64 g] 40 (0, 0)) ∧ TokC w N b off t ∧ TokOk t ∧ ¬ b = rb ∧ b < B ∧ ∀ (i : Nat) u, r[i]? = some u → TokC w N b (off + 4 + i * 4) u := by
  have h' := h
  obtain ⟨h1, h2, h3, hB1, hB2, ao, cp, h4, h5, h6, h7⟩ := h
  rcases h7 with h7 | ⟨b, off, rfl, hb, hc⟩
  · cases h7
  · have c0 := hc 0 t rfl
    simp only [Nat.zero_mul, Nat.add_zero] at c0
    refine ⟨b, off, cp, h4, h5, h6, c0, h1 t (by simp), h'.ne8 c0.1, hb, fun i u hu => ?_⟩
    have := hc (i + 1) u (by simpa using hu)
    rw [show off + 4 + i * 4 = off + (i + 1) * 4 by omega]
    exact this
theorem RdP.cellsR {rb B N : Nat} {st : Ps} {w : World} (h : RdP rb B N st w) : (∃ ao cp, st.1.length ≤ cp ∧ cp ≤ 9223372036854775807 ∧ w.cell? ⟨rb, 0, none⟩ = some (.slice ao st.1.length cp)) ∧ w.cell? ⟨rb, 1, none⟩ = some (.int .i64 st.2) := by
  obtain ⟨h1, h2, h3, hB1, hB2, ao, cp, h4, h5, h6, h7⟩ := h
  exact ⟨⟨ao, cp, h4, h5, by rw [Lib.cell_of_heap h6]; rfl⟩, by rw [Lib.cell_of_heap h6]; rfl⟩
theorem end_tok {F : Nat} {fn : Func} (hfn : Tryd.prog.funcs[F]? = some fn) (slot : Nat) (hres : fn.results = #[.cell slot 50]) {tm : Array Value} {w : World} {R : Ending → World → Prop} {g : Nat} {k n a : Int} {t : ByteArray} (h2 : tm.getD slot undef = .pointer (some ⟨g, 0, none⟩)) (hb : w.heap[g]? = some (.cells #[.int .u8 k, .string t, .int .i64 n, .int .i64 a] 50 (0, 0))) (h : R (.returned (.agg #[.int .u8 k, .string t, .int .i64 n, .int .i64 a])) w) :
    bodyPost Tryd.prog fn R .ret { tmps := tm, defers := [] } w := by
  have c0 : w.cell? ⟨g, 0, none⟩ = some (.int .u8 k) := by simp only [World.cell?, hb]; rfl
  have c1 : w.cell? ⟨g, 1, none⟩ = some (.string t) := by simp only [World.cell?, hb]; rfl
  have c2 : w.cell? ⟨g, 2, none⟩ = some (.int .i64 n) := by simp only [World.cell?, hb]; rfl
  have c3 : w.cell? ⟨g, 3, none⟩ = some (.int .i64 a) := by simp only [World.cell?, hb]; rfl
  simp only [Array.getD_eq_getD_getElem?] at h2
  exact bodyPost_ret (v := .agg #[.int .u8 k, .string t, .int .i64 n, .int .i64 a]) (by simp [results, hres, go_sem, h2, c0, c1, c2, c3]) rfl h
/-- The reader under a change above. -/
theorem RdP.up {rb B N : Nat} {st : Ps} {w w' : World} (h : RdP rb B N st w) (k : ∀ j, j < B → w'.heap[j]? = w.heap[j]?) (hz : B ≤ w'.heap.size) : RdP rb B N st w' := by
  obtain ⟨h1, h2, h3, hB1, hB2, ao, cp, h4, h5, h6, h7⟩ := h
  refine ⟨h1, h2, h3, hB1, hz, ao, cp, h4, h5, (k rb hB1).trans h6, ?_⟩
  rcases h7 with h7 | ⟨b, off, e, hb, hc⟩
  · exact .inl h7
  · refine .inr ⟨b, off, e, hb, fun i t ht => ?_⟩
    obtain ⟨c0, c1, c2, c3⟩ := hc i t ht
    have F := fun o => cell_block (k b hb) o
    exact ⟨(F _).trans c0, (F _).trans c1, (F _).trans c2, (F _).trans c3⟩

end Go.Proofs.YtlacjiihbbgbeaaDoor
