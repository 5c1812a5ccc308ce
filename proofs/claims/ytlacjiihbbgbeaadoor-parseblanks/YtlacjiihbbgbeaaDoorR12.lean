import Derived.Test.YtlacjiihbbgbeaaDoorR11
namespace Go.Proofs.YtlacjiihbbgbeaaDoor
open Go.RowKit
set_option linter.unusedVariables false
set_option linter.unusedSimpArgs false

def E11 (t : List UInt8) (k : Nat) : Prop := (k = 11 ∧ t = []) ∨ k = 10
theorem dig_e {l t : List UInt8} {k : Nat} (h : dig l = .error k t) : E11 t k := by
  unfold dig at h
  split at h
  · cases h; exact .inl ⟨rfl, rfl⟩
  · split at h
    · cases h; exact .inr rfl
    · cases h
theorem esb_e {l t : List UInt8} {k : Nat} (h : esb l = .error k t) : E11 t k := by
  unfold esb at h
  split at h
  · cases h; exact .inl ⟨rfl, rfl⟩
  · split at h
    · cases h
    · split at h
      · cases h
      · split at h
        · split at h
          · rename_i e1; cases h; exact dig_e e1
          · split at h
            · rename_i e2; cases h; exact dig_e e2
            · cases h
        · cases h; exact .inr rfl
theorem txt_e {l t : List UInt8} {k : Nat} {acc : List UInt8} (h : txt acc l = .error k t) : E11 t k := by
  have H : ∀ n, ∀ l : List UInt8, l.length ≤ n → ∀ {acc t : List UInt8} {k : Nat}, txt acc l = .error k t → E11 t k := by
    intro n
    induction n with
    | zero =>
      intro l hl acc t k h
      obtain rfl : l = [] := List.length_eq_zero_iff.1 (by omega)
      rw [txt_nil] at h; cases h; exact .inl ⟨rfl, rfl⟩
    | succ n ih =>
      intro l hl acc t k h
      cases l with
      | nil => rw [txt_nil] at h; cases h; exact .inl ⟨rfl, rfl⟩
      | cons c r =>
        simp only [List.length_cons] at hl
        by_cases h1 : c = 34
        · subst h1; rw [txt_end] at h; cases h
        · by_cases h2 : c = 92
          · subst h2
            cases e1 : esb r with
            | error k2 u => rw [txt_esc_no _ _ _ _ e1] at h; cases h; exact esb_e e1
            | ok d u =>
              rw [txt_esc_ok _ _ _ _ e1] at h
              have := esb_len e1
              exact ih u (by omega) h
          · rw [txt_one _ _ _ h1 h2] at h
            exact ih r (by omega) h
  exact H _ l (Nat.le_refl _) h
theorem wrd_e {l t : List UInt8} {k : Nat} (h : wrd l = .error k t) : E11 t k := by
  unfold wrd at h
  split at h
  · cases h
  · split at h
    · cases h
    · cases h; exact .inr rfl
theorem one_e {l t : List UInt8} {k : Nat} (h : one l = .error k t) : E11 t k := by
  cases l with
  | nil => rw [one] at h; cases h; exact .inl ⟨rfl, rfl⟩
  | cons c r =>
    by_cases d1 : c = 40
    · subst d1; rw [one_open] at h; cases h
    · by_cases d2 : c = 41
      · subst d2; rw [one_close] at h; cases h
      · by_cases d3 : c = 34
        · subst d3
          rw [one_text] at h
          split at h
          · rename_i e1; cases h; exact txt_e e1
          · cases h
        · rw [one_word r d1 d2 d3] at h
          split at h
          · rename_i e1; cases h; exact wrd_e e1
          · split at h
            · split at h
              · cases h
              · cases h; exact .inr rfl
            · cases h
theorem lxr_e {l : List UInt8} {bk k : Nat} (h : lxr l = .error (bk, k)) : (k = 11 ∧ bk = 0) ∨ k = 10 := by
  have H : ∀ n, ∀ l : List UInt8, l.length ≤ n → ∀ {bk k : Nat}, lxr l = .error (bk, k) → (k = 11 ∧ bk = 0) ∨ k = 10 := by
    intro n
    induction n with
    | zero =>
      intro l hl bk k h
      obtain rfl : l = [] := List.length_eq_zero_iff.1 (by omega)
      rw [lxr_nil] at h; cases h
    | succ n ih =>
      intro l hl bk k h
      rw [lxr_eq] at h
      split at h
      · cases h
      · split at h
        · rename_i e1
          cases h
          rcases one_e e1 with ⟨h1, rfl⟩ | h1
          · exact .inl ⟨h1, rfl⟩
          · exact .inr h1
        · split at h
          · rename_i t u e1 hl2
            cases e2 : lxr u with
            | ok ts => rw [e2] at h; simp [Lx.cons] at h
            | error x =>
              rw [e2] at h
              simp only [Lx.cons] at h
              cases h
              exact ih u (by omega) e2
          · cases h
  exact H _ l (Nat.le_refl _) h
/-- A source's tokens. -/
def lexAll (l : List UInt8) : Lx := if 65536 < l.length then .error (l.length - 65536, 13) else lxr l
def PostK (s : ByteArray) (w : World) (R : Lx) (e : Ending) (w' : World) : Prop :=
  match R with
  | .ok ts => ∃ ao n c, e = .returned (.tuple #[.slice ao n c, .int .i64 0, .int .i64 0]) ∧ w'.ownsRow w.heap.size 50 4 (.slice ao n c) ts.length (tc s.size ts) ∧ BW w w'
  | .error (bk, k) => e = .returned (.tuple #[.slice none 0 0, .int .i64 ((s.size - bk : Nat) : Int), .int .i64 k]) ∧ BW w w'
theorem BW.trans' {w W w1 w2 : World} {b a : Nat} (h : BW w W) (k : Fd b W w1) (m : Below a w1 w2) (hb : w.heap.size ≤ b) (ha : w.heap.size ≤ a) : BW w w2 :=
  Below.trans (Below.trans h (Below.mono k.bel hb)) (Below.mono m ha)
theorem new_at (w : World) (o : Obj) (k : Nat) (h : k = w.heap.size) : (w.alloc o).heap[k]? = some o := by subst h; exact heap_alloc_new w o
theorem own_same {w w' : World} {B B' e z : Nat} {v : Value} {n : Nat} {xs : List Value} (h : w.ownsRow B e z v n xs) (k : ∀ g, B ≤ g → w'.heap[g]? = w.heap[g]?) (hB : B' ≤ B) : w'.ownsRow B' e z v n xs := by
  obtain ⟨h2, h3⟩ := h
  refine ⟨h2, ?_⟩
  rcases h3 with h3 | ⟨g, cap, cur, e, hg, hh, r⟩
  · exact .inl h3
  · exact .inr ⟨g, cap, cur, e, Nat.le_trans hB hg, (k g hg).trans hh, r⟩
set_option maxRecDepth 100000 in
theorem door10 (tm : Array Value) (w : World) (R : Ending → World → Prop) (a1 a2 a3 a4 : Nat) (v x y : Value) (h2 : tm.getD 2 undef = .pointer (some ⟨a2, 0, none⟩)) (h3 : tm.getD 3 undef = .pointer (some ⟨a3, 0, none⟩)) (h4 : tm.getD 4 undef = .pointer (some ⟨a4, 0, none⟩))
    (c2 : w.cell? ⟨a2, 0, none⟩ = some v) (c3 : w.cell? ⟨a3, 0, none⟩ = some x) (c4 : w.cell? ⟨a4, 0, none⟩ = some y) (h : R (.returned (.tuple #[v, x, y])) w) :
    bodyPostD Tryd.prog Tryd.f7 R .ret { tmps := tm, defers := [{ target := .fn (.func 10) #[.pointer (some ⟨a1, 0, none⟩), .pointer (some ⟨a2, 0, none⟩), .pointer (some ⟨a3, 0, none⟩), .pointer (some ⟨a4, 0, none⟩)], args := #[] }] } w := by
  refine leaves_cons (f := 10) (args := #[.pointer (some ⟨a1, 0, none⟩), .pointer (some ⟨a2, 0, none⟩), .pointer (some ⟨a3, 0, none⟩), .pointer (some ⟨a4, 0, none⟩)]) (by simp) (by simp [go_sem]) ?_
  refine (catch_idle a1 a2 a3 a4 _).mono ?_
  rintro e u' w'' ⟨rfl, rfl, rfl⟩
  refine ⟨_, ?_, h⟩
  simp only [Array.getD_eq_getD_getElem?] at h2 h3 h4
  simp [results, Tryd.results7, go_sem, h2, h3, h4, c2, c3, c4]
set_option maxRecDepth 100000 in
theorem doorP (tm : Array Value) (w : World) (R : Ending → World → Prop) (a1 a2 a3 a4 : Nat) (s : ByteArray) (bk k : Nat) (hk : (k = 11 ∧ bk = 0) ∨ k = 10) (h2 : tm.getD 2 undef = .pointer (some ⟨a2, 0, none⟩)) (h3 : tm.getD 3 undef = .pointer (some ⟨a3, 0, none⟩)) (h4 : tm.getD 4 undef = .pointer (some ⟨a4, 0, none⟩))
    (h12 : a1 < a2) (h23 : a2 < a3) (h34 : a3 < a4) (c1 : w.cell? ⟨a1, 0, none⟩ = some (.string s)) (c2 : w.cell? ⟨a2, 0, none⟩ = some (.slice none 0 0)) (c3 : w.cell? ⟨a3, 0, none⟩ = some (.int .i64 0)) (c4 : w.cell? ⟨a4, 0, none⟩ = some (.int .i64 0)) (z2 : w.frozen? ⟨a2, 0, none⟩ = false) (z3 : w.frozen? ⟨a3, 0, none⟩ = false) (z4 : w.frozen? ⟨a4, 0, none⟩ = false) (hz : a4 < w.heap.size)
    (h : ∀ w', Below a2 w w' → R (.returned (.tuple #[.slice none 0 0, .int .i64 ((s.size - bk : Nat) : Int), .int .i64 k])) w') :
    bodyPostD Tryd.prog Tryd.f7 R (.panic (thr s.size bk k)) { tmps := tm, defers := [{ target := .fn (.func 10) #[.pointer (some ⟨a1, 0, none⟩), .pointer (some ⟨a2, 0, none⟩), .pointer (some ⟨a3, 0, none⟩), .pointer (some ⟨a4, 0, none⟩)], args := #[] }] } w := by
  simp only [Array.getD_eq_getD_getElem?] at h2 h3 h4
  refine leaves_cons (f := 10) (args := #[.pointer (some ⟨a1, 0, none⟩), .pointer (some ⟨a2, 0, none⟩), .pointer (some ⟨a3, 0, none⟩), .pointer (some ⟨a4, 0, none⟩)]) (by simp) (by simp [go_sem]) ?_
  rcases hk with ⟨rfl, rfl⟩ | rfl
  · unfold thr
    rw [if_pos rfl]
    refine (catch_unend a1 a2 a3 a4 s w h12 h23 h34 c1 c2 c3 c4 z2 z3 z4 hz).mono ?_
    rintro e u' w'' ⟨rfl, rfl, q2, q3, q4, hb⟩
    have hh := h w'' hb
    simp [Leaves, settle, results, Tryd.results7, go_sem, h2, h3, h4, q2, q3, q4]
    exact hh
  · unfold thr
    rw [if_neg (by decide)]
    refine (catch_misf a1 a2 a3 a4 s _ w h12 h23 h34 c1 c2 c3 c4 z2 z3 z4 hz).mono ?_
    rintro e u' w'' ⟨rfl, rfl, q2, q3, q4, hb⟩
    have hh := h w'' hb
    simp [Leaves, settle, results, Tryd.results7, go_sem, h2, h3, h4, q2, q3, q4]
    exact hh
set_option maxRecDepth 100000 in
set_option maxHeartbeats 1000000 in
theorem tokens_long (s : ByteArray) (hs : 65536 < s.size) (w : World) :
    Calls Tryd.prog 7 #[.string s] w fun e w' => e = .returned (.tuple #[.slice none 0 0, .int .i64 65536, .int .i64 13]) ∧ BW w w' := by
  have hq : (65536 : Int) < s.size := by omega
  go_enter_defers Tryd.func7, Tryd.ntmps7
  go_wp2_with (fail)
  simp [bodyPostD, Leaves, settle, results, Tryd.results7, go_sem]
  exact (by repeat (first | exact BW.refl _ | apply BW.alloc | apply BW.drewN | apply BW.drew))
set_option maxRecDepth 100000 in
set_option maxHeartbeats 1000000 in
theorem tokens_ok (s : ByteArray) (hs : ¬ 65536 < s.size) (w : World) (hE : Er w) : Calls Tryd.prog 7 #[.string s] w (PostK s w (lxr s.data.toList)) := by
  have hmf : ∀ (fn : Fn) (first cap : Array Value) (w : World), (Instr.makeFunc fn first cap).run Tryd.prog w = .ok (.func fn first cap) w := fun _ _ _ _ => rfl
  have hq : ¬ (65536 : Int) < s.size := by omega
  generalize hL : lxr s.data.toList = R
  go_enter_defers Tryd.func7, Tryd.ntmps7
  go_wp2_with (fail)
  obtain ⟨W, hW⟩ : ∃ W, W = ((((w.alloc (.cells #[.string s] 9)).alloc (.cells #[.slice none 0 0] 32)).alloc (.cells #[.int .i64 0] 3)).alloc (.cells #[.int .i64 0] 27)).alloc (.cells #[.string s, .int .i64 0] 45) := ⟨_, rfl⟩
  rw [← hW]
  have hbw : BW w W := by rw [hW]; exact (by repeat (first | exact BW.refl _ | apply BW.alloc | apply BW.drewN | apply BW.drew))
  have hWs : W.heap.size = w.heap.size + 1 + 1 + 1 + 1 + 1 := by rw [hW]; simp
  have W1 : W.heap[w.heap.size]? = some (.cells #[.string s] 9 (0, 0)) := by rw [hW]; rw [Lib.alloc_old _ _ _ (by simp; try omega)]; rw [Lib.alloc_old _ _ _ (by simp; try omega)]; rw [Lib.alloc_old _ _ _ (by simp; try omega)]; rw [Lib.alloc_old _ _ _ (by simp; try omega)]; exact new_at _ _ _ (by simp)
  have W2 : W.heap[w.heap.size + 1]? = some (.cells #[.slice none 0 0] 32 (0, 0)) := by rw [hW]; rw [Lib.alloc_old _ _ _ (by simp; try omega)]; rw [Lib.alloc_old _ _ _ (by simp; try omega)]; rw [Lib.alloc_old _ _ _ (by simp; try omega)]; exact new_at _ _ _ (by simp)
  have W3 : W.heap[w.heap.size + 1 + 1]? = some (.cells #[.int .i64 0] 3 (0, 0)) := by rw [hW]; rw [Lib.alloc_old _ _ _ (by simp; try omega)]; rw [Lib.alloc_old _ _ _ (by simp; try omega)]; exact new_at _ _ _ (by simp)
  have W4 : W.heap[w.heap.size + 1 + 1 + 1]? = some (.cells #[.int .i64 0] 27 (0, 0)) := by rw [hW]; rw [Lib.alloc_old _ _ _ (by simp; try omega)]; exact new_at _ _ _ (by simp)
  have W5 : Rd (w.heap.size + 1 + 1 + 1 + 1) s 0 W := by unfold Rd; rw [hW]; exact new_at _ _ _ (by simp)
  clear hW
  have h1w := hE.lt
  refine (tokens_any _ s (by omega) W W5 (hE.bw hbw) (by omega)).mono ?_
  rw [hL]
  cases R with
  | error x =>
    obtain ⟨bk, k⟩ := x
    rintro e w1 ⟨rfl, hf⟩
    have B1 := (hf.bel.block _ (show w.heap.size < _ by omega)).trans W1
    have B2 := (hf.bel.block _ (show w.heap.size + 1 < _ by omega)).trans W2
    have B3 := (hf.bel.block _ (show w.heap.size + 1 + 1 < _ by omega)).trans W3
    have B4 := (hf.bel.block _ (show w.heap.size + 1 + 1 + 1 < _ by omega)).trans W4
    have hz1 := hf.size
    exact doorP _ w1 _ (w.heap.size) (w.heap.size + 1) (w.heap.size + 1 + 1) (w.heap.size + 1 + 1 + 1) s bk k (lxr_e hL) rfl rfl rfl (by omega) (by omega) (by omega)
      (by rw [Lib.cell_of_heap B1]; rfl) (by rw [Lib.cell_of_heap B2]; rfl) (by rw [Lib.cell_of_heap B3]; rfl) (by rw [Lib.cell_of_heap B4]; rfl) (Lib.frozen_of_heap B2 0) (Lib.frozen_of_heap B3 0) (Lib.frozen_of_heap B4 0) (by omega)
      (fun w' hb => ⟨rfl, hbw.trans' hf hb (by omega) (by omega)⟩)
  | ok ts =>
    rintro e w1 ⟨ao, n, c, rfl, hown, hf⟩
    have B2 := (hf.bel.block _ (show w.heap.size + 1 < _ by omega)).trans W2
    have B3 := (hf.bel.block _ (show w.heap.size + 1 + 1 < _ by omega)).trans W3
    have B4 := (hf.bel.block _ (show w.heap.size + 1 + 1 + 1 < _ by omega)).trans W4
    have c2 : w1.cell? ⟨w.heap.size + 1, 0, none⟩ = some (.slice none 0 0) := by rw [Lib.cell_of_heap B2]; rfl
    have c3 : w1.cell? ⟨w.heap.size + 1 + 1, 0, none⟩ = some (.int .i64 0) := by rw [Lib.cell_of_heap B3]; rfl
    have c4 : w1.cell? ⟨w.heap.size + 1 + 1 + 1, 0, none⟩ = some (.int .i64 0) := by rw [Lib.cell_of_heap B4]; rfl
    have z2 := Lib.frozen_of_heap B2 0
    have z3 := Lib.frozen_of_heap B3 0
    have z4 := Lib.frozen_of_heap B4 0
    have hz1 := hf.size
    go_wp2_with fail
    obtain ⟨q1, q2, q3, q4⟩ := set3c (x := .slice ao n c) (y := .int .i64 0) (z := .int .i64 0) (show w.heap.size + 1 < w.heap.size + 1 + 1 by omega) (show w.heap.size + 1 + 1 < w.heap.size + 1 + 1 + 1 by omega) c2 c3 c4
    refine door10 _ _ _ (w.heap.size) (w.heap.size + 1) (w.heap.size + 1 + 1) (w.heap.size + 1 + 1 + 1) _ _ _ rfl rfl rfl q1 q2 q3 ⟨ao, n, c, rfl, own_same hown ?_ (by omega), hbw.trans' hf q4 (by omega) (by omega)⟩
    intro g hg
    exact (heap_setCell_other _ ⟨w.heap.size + 1 + 1 + 1, 0, none⟩ g _ (by show g ≠ w.heap.size + 1 + 1 + 1; omega)).trans ((heap_setCell_other _ ⟨w.heap.size + 1 + 1, 0, none⟩ g _ (by show g ≠ w.heap.size + 1 + 1; omega)).trans (heap_setCell_other _ ⟨w.heap.size + 1, 0, none⟩ g _ (by show g ≠ w.heap.size + 1; omega)))
theorem lexTokens_any (s : ByteArray) (w : World) (hE : Er w) : Calls Tryd.prog 7 #[.string s] w (PostK s w (lexAll s.data.toList)) := by
  have hl : s.data.toList.length = s.size := by simp
  unfold lexAll
  rw [hl]
  by_cases h : 65536 < s.size
  · rw [if_pos h]
    refine (tokens_long s h w).mono ?_
    rintro e w' ⟨rfl, hb⟩
    exact ⟨by rw [show s.size - (s.size - 65536) = 65536 by omega]; rfl, hb⟩
  · rw [if_neg h]
    exact tokens_ok s h w hE

end Go.Proofs.YtlacjiihbbgbeaaDoor
