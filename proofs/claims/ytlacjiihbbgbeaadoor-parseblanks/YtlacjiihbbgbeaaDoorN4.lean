import Derived.Test.YtlacjiihbbgbeaaDoorN3
namespace Go.Proofs.YtlacjiihbbgbeaaDoor
open Go.RowKit
set_option linter.unusedVariables false
set_option linter.unusedSimpArgs false

theorem end_node {F : Nat} {fn : Func} (hfn : Tryd.prog.funcs[F]? = some fn) (slot : Nat) (hres : fn.results = #[.cell slot 26]) {tm : Array Value} {w : World} {R : Ending → World → Prop} {g : Nat} {v0 v1 v2 v3 v4 : Value} (h2 : tm.getD slot undef = .pointer (some ⟨g, 0, none⟩)) (hb : w.heap[g]? = some (.cells #[v0, v1, v2, v3, v4] 26 (0, 0))) (h : R (.returned (.agg #[v0, v1, v2, v3, v4])) w) :
    bodyPost Tryd.prog fn R .ret { tmps := tm, defers := [] } w := by
  have c0 : w.cell? ⟨g, 0, none⟩ = some v0 := by simp only [World.cell?, hb]; rfl
  have c1 : w.cell? ⟨g, 1, none⟩ = some v1 := by simp only [World.cell?, hb]; rfl
  have c2 : w.cell? ⟨g, 2, none⟩ = some v2 := by simp only [World.cell?, hb]; rfl
  have c3 : w.cell? ⟨g, 3, none⟩ = some v3 := by simp only [World.cell?, hb]; rfl
  have c4 : w.cell? ⟨g, 4, none⟩ = some v4 := by simp only [World.cell?, hb]; rfl
  simp only [Array.getD_eq_getD_getElem?] at h2
  exact bodyPost_ret (v := .agg #[v0, v1, v2, v3, v4]) (by simp [results, hres, go_sem, h2, c0, c1, c2, c3, c4]) rfl h
theorem set5 {w : World} {g T : Nat} {x y z u v a c d e f : Value} (h : w.heap[g]? = some (.cells #[x, y, z, u, v] T (0, 0))) : (((((w.setCell ⟨g, 0, none⟩ a).setCell ⟨g, 1, none⟩ c).setCell ⟨g, 2, none⟩ d).setCell ⟨g, 3, none⟩ e).setCell ⟨g, 4, none⟩ f).heap[g]? = some (.cells #[a, c, d, e, f] T (0, 0)) := by
  have h1 := heap_setCell_same w g 0 _ T a h
  have h2 := heap_setCell_same _ g 1 _ T c h1
  have h3 := heap_setCell_same _ g 2 _ T d h2
  have h4 := heap_setCell_same _ g 3 _ T e h3
  exact heap_setCell_same _ g 4 _ T f h4
theorem set5o {w : World} {g k : Nat} {a c d e f : Value} (hk : k ≠ g) : (((((w.setCell ⟨g, 0, none⟩ a).setCell ⟨g, 1, none⟩ c).setCell ⟨g, 2, none⟩ d).setCell ⟨g, 3, none⟩ e).setCell ⟨g, 4, none⟩ f).heap[k]? = w.heap[k]? :=
  (heap_setCell_other _ ⟨g, 4, none⟩ k f hk).trans (set4o hk)
theorem Fl.set5 {lb g : Nat} {W w : World} {a c d e f : Value} (h : Fl lb W w) (hg : W.heap.size ≤ g) : Fl lb W (((((w.setCell ⟨g, 0, none⟩ a).setCell ⟨g, 1, none⟩ c).setCell ⟨g, 2, none⟩ d).setCell ⟨g, 3, none⟩ e).setCell ⟨g, 4, none⟩ f) := (h.set4 hg).setC g 4 (.inl hg) f
theorem RdP.beg {rb B N g : Nat} {ts : List Tok} {w : World} (h : RdP rb B N (ts, g) w) (hg : g + 1 ≤ 4000) : RdP rb B N (ts, g + 1) (w.setCell ⟨rb, 1, none⟩ (.int .i64 ((g : Int) + 1))) := by
  have hl := h.lt
  have h' := h
  obtain ⟨h1, h2, h3, hB1, hB2, ao, cp, h4, h5, h6, h7⟩ := h
  refine ⟨h1, hg, h3, hB1, by simp [World.setCell]; exact hB2, ao, cp, h4, h5, ?_, h7.fl h' ((Fl.refl rb w).setC rb 1 (.inr rfl) _)⟩
  have := heap_setCell_same w rb 1 _ 40 (.int .i64 ((g : Int) + 1)) h6
  simpa using this
set_option maxRecDepth 100000 in
set_option maxHeartbeats 1000000 in
theorem begin_any (rb B N : Nat) (t : Tok) (d : Nat) (st : Ps) (w : World) (h : RdP rb B N st w) : Calls Tryd.prog 16 #[.pointer (some ⟨rb, 0, none⟩), .agg #[.int .u8 t.kind, .string ⟨t.s.toArray⟩, .int .i64 t.n, .int .i64 ((N - t.back : Nat) : Int)], .int .i64 d] w fun e w' => match pBeg (decide (60 < d)) t st with
    | .ok q => e = .returned (.tuple #[]) ∧ RdP rb B N q w' ∧ Fl rb w w'
    | .error er => e = .panicked (thrP N er) ∧ Fl rb w w' := by
  obtain ⟨ts, g⟩ := st
  have hlt := h.lt
  have hB := h.2.2.2.2.1
  have hg := h.2.1
  obtain ⟨_, r1⟩ := h.cellsR
  have HR : Hid (RdP rb B N (ts, g) w) := h
  have hz : ∀ o, w.frozen? ⟨rb, o, none⟩ = false := by obtain ⟨_, _, _, _, _, _, _, _, _, h6, _⟩ := h; exact fun o => Lib.frozen_of_heap h6 o
  simp only at hg r1
  clear h
  have n1 : ¬ rb = w.heap.size := by omega
  have n1' : ¬ w.heap.size = rb := by omega
  by_cases h60 : 60 < d
  · have e0 : pBeg (decide (60 < d)) t (ts, g) = .error (13, t.back) := by unfold pBeg; rw [decide_eq_true h60]; rfl
    rw [e0]
    clear e0
    have e1 : decide ((60 : Int) < d) = true := decide_eq_true (by omega)
    go_enter Tryd.func16, Tryd.ntmps16
    go_wp2_with (fail)
    exact ⟨rfl, rfl, BW.fl (by repeat (first | exact BW.refl _ | assumption | apply BW.alloc | apply BW.drewN | apply BW.drew | (refine BW.setCell ?_ (by first | omega | (simp; done) | (simp; omega)) _) | (refine BW.trans ?_ (by assumption)))) rb⟩
  · have e1 : decide ((60 : Int) < d) = false := decide_eq_false (by omega)
    by_cases h4 : g = 4000
    · subst h4
      have e0 : pBeg (decide (60 < d)) t (ts, 4000) = .error (13, t.back) := by unfold pBeg; rw [decide_eq_false h60]; rfl
      rw [e0]
      clear e0
      go_enter Tryd.func16, Tryd.ntmps16
      go_wp2_with (fail)
      exact ⟨rfl, rfl, BW.fl (by repeat (first | exact BW.refl _ | assumption | apply BW.alloc | apply BW.drewN | apply BW.drew | (refine BW.setCell ?_ (by first | omega | (simp; done) | (simp; omega)) _) | (refine BW.trans ?_ (by assumption)))) rb⟩
    · have e0 : pBeg (decide (60 < d)) t (ts, g) = .ok (ts, g + 1) := by
        unfold pBeg; rw [decide_eq_false h60]
        have : (g == 4000) = false := by simp; omega
        simp [this]
      rw [e0]
      clear e0
      have e2 : ((g : Int) == 4000) = false := by simp; omega
      have hw1 : IntKind.i64.wrap ((g : Int) + 1) = (g : Int) + 1 := i64w _ (by omega) (by omega)
      go_enter Tryd.func16, Tryd.ntmps16
      go_wp2_with (fail)
      go_end0
      exact ⟨rfl, (HR.out.beg (by omega)).bw (BW.alloc (BW.refl _) _), ((Fl.refl rb w).setC rb 1 (.inr rfl) _).alloc _⟩

/-- The value of a word that stands alone. -/
def plV (s : List UInt8) : Value := if s = [116, 114, 117, 101] then ndv 2 1 ⟨#[]⟩ none 0 0 none 0 0 else if s = [102, 97, 108, 115, 101] then ndv 2 0 ⟨#[]⟩ none 0 0 none 0 0 else if s = [117, 110, 105, 116] then ndv 4 0 ⟨#[]⟩ none 0 0 none 0 0 else ndv 5 0 ⟨s.toArray⟩ none 0 0 none 0 0
theorem toL (s : List UInt8) : (⟨s.toArray⟩ : ByteArray).toList = s := by rw [ByteArray.toList_eq]
theorem toL_ne {s l : List UInt8} (h : ¬ s = l) : (s == l) = false ∧ ¬ s = l := ⟨by simpa using h, h⟩
set_option maxRecDepth 100000 in
set_option maxHeartbeats 1000000 in
theorem plainP_any (s : List UInt8) (w : World) : Calls Tryd.prog 17 #[.string ⟨s.toArray⟩] w fun e w' => e = .returned (plV s) ∧ BW w w' := by
  by_cases h1 : s = [116, 114, 117, 101]
  · have e : plV s = ndv 2 1 ⟨#[]⟩ none 0 0 none 0 0 := by unfold plV; rw [if_pos h1]
    rw [e]
    clear e
    subst h1
    go_enter Tryd.func17, Tryd.ntmps17
    go_wp2_with (fail)
    exact end_node Tryd.func17 2 rfl rfl (heap_alloc_new _ _) ⟨rfl, (by repeat (first | exact BW.refl _ | assumption | apply BW.alloc | apply BW.drewN | apply BW.drew | (refine BW.setCell ?_ (by first | omega | (simp; done) | (simp; omega)) _) | (refine BW.trans ?_ (by assumption))))⟩
  · by_cases h2 : s = [102, 97, 108, 115, 101]
    · have e : plV s = ndv 2 0 ⟨#[]⟩ none 0 0 none 0 0 := by unfold plV; rw [if_neg h1, if_pos h2]
      rw [e]
      clear e
      subst h2
      go_enter Tryd.func17, Tryd.ntmps17
      go_wp2_with (fail)
      exact end_node Tryd.func17 2 rfl rfl (heap_alloc_new _ _) ⟨rfl, (by repeat (first | exact BW.refl _ | assumption | apply BW.alloc | apply BW.drewN | apply BW.drew | (refine BW.setCell ?_ (by first | omega | (simp; done) | (simp; omega)) _) | (refine BW.trans ?_ (by assumption))))⟩
    · by_cases h3 : s = [117, 110, 105, 116]
      · have e : plV s = ndv 4 0 ⟨#[]⟩ none 0 0 none 0 0 := by unfold plV; rw [if_neg h1, if_neg h2, if_pos h3]
        rw [e]
        clear e
        subst h3
        go_enter Tryd.func17, Tryd.ntmps17
        go_wp2_with (fail)
        exact end_node Tryd.func17 2 rfl rfl (heap_alloc_new _ _) ⟨rfl, (by repeat (first | exact BW.refl _ | assumption | apply BW.alloc | apply BW.drewN | apply BW.drew | (refine BW.setCell ?_ (by first | omega | (simp; done) | (simp; omega)) _) | (refine BW.trans ?_ (by assumption))))⟩
      · have e : plV s = ndv 5 0 ⟨s.toArray⟩ none 0 0 none 0 0 := by unfold plV; rw [if_neg h1, if_neg h2, if_neg h3]
        rw [e]
        clear e
        obtain ⟨e1, e1'⟩ := toL_ne h1
        obtain ⟨e2, e2'⟩ := toL_ne h2
        obtain ⟨e3, e3'⟩ := toL_ne h3
        go_enter Tryd.func17, Tryd.ntmps17
        go_wp2_with (fail)
        exact end_node Tryd.func17 2 rfl rfl (heap_alloc_new _ _) ⟨rfl, (by repeat (first | exact BW.refl _ | assumption | apply BW.alloc | apply BW.drewN | apply BW.drew | (refine BW.setCell ?_ (by first | omega | (simp; done) | (simp; omega)) _) | (refine BW.trans ?_ (by assumption))))⟩

end Go.Proofs.YtlacjiihbbgbeaaDoor
