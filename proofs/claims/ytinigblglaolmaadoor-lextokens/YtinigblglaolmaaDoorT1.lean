import Derived.Test.YtinigblglaolmaaDoorR9
import Derived.Test.YtinigblglaolmaaDoorN1
namespace Go.Proofs.YtinigblglaolmaaDoor
open Go.RowKit
set_option linter.unusedVariables false
set_option linter.unusedSimpArgs false

/-- What the reference answers where one token is read, as a value; N: how long the source is. -/
def rvv (k : Int) (t : ByteArray) (n a at_ e : Int) : Value := .agg #[.int .u8 k, .string t, .int .i64 n, .int .i64 a, .int .i64 at_, .int .i64 e]
def rv (N : Nat) : Res Tok → Value
  | .ok t rest => rvv t.kind ⟨t.s.toArray⟩ t.n ((N - t.back : Nat) : Int) ((N - rest.length : Nat) : Int) 0
  | .error e rest => rvv 0 ⟨#[]⟩ 0 0 ((N - rest.length : Nat) : Int) e
theorem endR {f : Func} (hf : f.results = #[.cell 4 46]) {tm : Array Value} {w : World} {R : Ending → World → Prop} {g : Nat} {k n a b e : Int} {t : ByteArray} (h2 : tm.getD 4 undef = .pointer (some ⟨g, 0, none⟩)) (hb : w.heap[g]? = some (.cells #[.int .u8 k, .string t, .int .i64 n, .int .i64 a, .int .i64 b, .int .i64 e] 46 (0, 0))) (h : R (.returned (rvv k t n a b e)) w) :
    bodyPost Tryd.prog f R .ret { tmps := tm, defers := [] } w := by
  have c0 : w.cell? ⟨g, 0, none⟩ = some (.int .u8 k) := by simp only [World.cell?, hb]; rfl
  have c1 : w.cell? ⟨g, 1, none⟩ = some (.string t) := by simp only [World.cell?, hb]; rfl
  have c2 : w.cell? ⟨g, 2, none⟩ = some (.int .i64 n) := by simp only [World.cell?, hb]; rfl
  have c3 : w.cell? ⟨g, 3, none⟩ = some (.int .i64 a) := by simp only [World.cell?, hb]; rfl
  have c4 : w.cell? ⟨g, 4, none⟩ = some (.int .i64 b) := by simp only [World.cell?, hb]; rfl
  have c5 : w.cell? ⟨g, 5, none⟩ = some (.int .i64 e) := by simp only [World.cell?, hb]; rfl
  simp only [Array.getD_eq_getD_getElem?] at h2
  exact bodyPost_ret (v := rvv k t n a b e) (by simp [results, hf, go_sem, h2, c0, c1, c2, c3, c4, c5, rvv]) rfl h
theorem set6 {w : World} {g T : Nat} {x0 x1 x2 x3 x4 x5 y0 y1 y2 y3 y4 y5 : Value} (h : w.heap[g]? = some (.cells #[x0, x1, x2, x3, x4, x5] T (0, 0))) : ((((((w.setCell ⟨g, 0, none⟩ y0).setCell ⟨g, 1, none⟩ y1).setCell ⟨g, 2, none⟩ y2).setCell ⟨g, 3, none⟩ y3).setCell ⟨g, 4, none⟩ y4).setCell ⟨g, 5, none⟩ y5).heap[g]? = some (.cells #[y0, y1, y2, y3, y4, y5] T (0, 0)) := by
  have h1 := heap_setCell_same w g 0 _ T y0 h
  have h2 := heap_setCell_same _ g 1 _ T y1 h1
  have h3 := heap_setCell_same _ g 2 _ T y2 h2
  have h4 := heap_setCell_same _ g 3 _ T y3 h3
  have h5 := heap_setCell_same _ g 4 _ T y4 h4
  exact heap_setCell_same _ g 5 _ T y5 h5
theorem BW.set6 {w0 w : World} {g : Nat} {y0 y1 y2 y3 y4 y5 : Value} (h : BW w0 w) (hg : w0.heap.size ≤ g) : BW w0 ((((((w.setCell ⟨g, 0, none⟩ y0).setCell ⟨g, 1, none⟩ y1).setCell ⟨g, 2, none⟩ y2).setCell ⟨g, 3, none⟩ y3).setCell ⟨g, 4, none⟩ y4).setCell ⟨g, 5, none⟩ y5) :=
  BW.setCell (p := ⟨g, 5, none⟩) (BW.setCell (p := ⟨g, 4, none⟩) (BW.setCell (p := ⟨g, 3, none⟩) (BW.setCell (p := ⟨g, 2, none⟩) (BW.setCell (p := ⟨g, 1, none⟩) (BW.setCell (p := ⟨g, 0, none⟩) h hg _) hg _) hg _) hg _) hg _) hg _
set_option maxRecDepth 100000 in
set_option maxHeartbeats 2000000 in
theorem refWord21_l (s : ByteArray) (hs : s.size ≤ 100000) (p : Nat) (l : List UInt8) (hl : At s p l) (O : Res Tok) (hO : O = match wrd l with
      | .error e t => .error e t
      | .ok b t => if num b then (match numv b with | some n => .ok ⟨4, [], n, l.length⟩ t | none => .error 10 l) else .ok ⟨3, b, 0, l.length⟩ t) (w : World) :
    Calls Tryd.prog 21 #[.string s, .int .i64 p] w fun e w' => e = .returned (rv s.size O) ∧ BW w w' := by
  have hpl := hl.place
  have H0 : Hid (∃ (q : Nat) (pre m : List UInt8), (.int .i64 p : Value) = .int .i64 q ∧ At s q m ∧ l = pre ++ m ∧ pre.all plB = true ∧ p ≤ q) := ⟨p, [], l, rfl, hl, rfl, rfl, Nat.le_refl _⟩
  go_enter Tryd.func21, Tryd.ntmps21
  go_wp2_with (fail)
  go_loop [5] (fun i => ∃ (q : Nat) (pre m : List UInt8), i = .int .i64 q ∧ At s q m ∧ l = pre ++ m ∧ pre.all plB = true ∧ p ≤ q) (fun i => s.size - (intOf i).toNat)
  case atStart => exact H0.out
  case round =>
    clear H0
    obtain ⟨q, pre, m, rfl, hA, hE, hP, hpq⟩ := hrel
    cases m with
    | nil =>
      obtain rfl := hA.nil
      have hq' : ¬ (s.size : Int) < s.size := by omega
      have hW : wrd l = .ok pre [] := by rw [hE]; exact wrd_end hP
      have hx := ext_pre hl hE hA
      have hxs : s.extract p s.size = ⟨pre.toArray⟩ := by injection hx
      have hps : (⟨pre.toArray⟩ : ByteArray).size ≤ 100000 := by
        show pre.toArray.size ≤ _
        rw [List.size_toArray]
        have := hl.len; rw [hE, List.length_append] at this; omega
      have hlen := hA.place
      rw [hW] at hO
      have hpq1 : (p : Int) ≤ s.size := by omega
      have hpq2 : (s.size : Int) ≤ s.size := by omega
      have hC : ∀ w, Calls Tryd.prog 25 #[.string ⟨pre.toArray⟩] w fun e w' => numRes pre e ∧ w' = w := fun w => refNumber_any _ hps w
      obtain ⟨S, hS⟩ : ∃ S : ByteArray, S = ⟨pre.toArray⟩ := ⟨_, rfl⟩
      rw [← hS] at hC hxs
      have HS : Hid _ := hS
      clear hx hP hE hW hps hS
      go_wp2_with (fail)
      refine (hC _).mono ?_
      rintro e w' ⟨⟨hn, rfl⟩ | ⟨hn, m, rfl, hm⟩, rfl⟩
      · try dsimp only at hO
        rw [if_neg (by rw [hn]; decide)] at hO
        subst hO
        go_wp2_with fail
        refine endR rfl (g := w.heap.size) rfl (heap_alloc_new _ _) ⟨?_, (BW.refl w).alloc _⟩
        unfold rv
        dsimp only
        rw [hlen, hpl, HS.out]; rfl
      · try dsimp only at hO
        rw [if_pos hn] at hO
        cases hv : numv pre with
        | none =>
          rw [hv] at hO
          subst hO
          go_wp2_with fail
          refine endR rfl (g := w.heap.size) rfl (heap_alloc_new _ _) ⟨?_, (BW.refl w).alloc _⟩
          unfold rv
          dsimp only
          rw [hpl]; rfl
        | some n =>
          rw [hv] at hO
          subst hO
          obtain rfl := hm n hv
          go_wp2_with fail
          refine endR rfl (g := w.heap.size) rfl (heap_alloc_new _ _) ⟨?_, (BW.refl w).alloc _⟩
          unfold rv
          dsimp only
          rw [hlen, hpl]; rfl
    | cons a t =>
      obtain ⟨hq, ha, hA1⟩ := hA.cons
      have hq' : (q : Int) < s.size := by omega
      by_cases h1 : en a.toNat = true
      · have hW : wrd l = .ok pre (a :: t) := by rw [hE]; exact wrd_stop hP a t h1
        subst ha
        have hx := ext_pre hl hE hA
        have hxs : s.extract p q = ⟨pre.toArray⟩ := by injection hx
        have hps : (⟨pre.toArray⟩ : ByteArray).size ≤ 100000 := by
          show pre.toArray.size ≤ _
          rw [List.size_toArray]
          have := hl.len; rw [hE, List.length_append] at this; omega
        have hlen := hA.place
        rw [hW] at hO
        have hpq1 : (p : Int) ≤ q := by omega
        have hpq2 : (q : Int) ≤ s.size := by have := hA.1; omega
        have hC : ∀ w, Calls Tryd.prog 25 #[.string ⟨pre.toArray⟩] w fun e w' => numRes pre e ∧ w' = w := fun w => refNumber_any _ hps w
        obtain ⟨S, hS⟩ : ∃ S : ByteArray, S = ⟨pre.toArray⟩ := ⟨_, rfl⟩
        rw [← hS] at hC hxs
        have HS : Hid _ := hS
        clear hx hP hE hW hps hS
        go_wp2_with (go_at_call 24; refine (refEnds_any _ _).mono ?_; rw [h1]; rintro e w' ⟨rfl, rfl⟩)
        refine (hC _).mono ?_
        rintro e w' ⟨⟨hn, rfl⟩ | ⟨hn, m, rfl, hm⟩, rfl⟩
        · try dsimp only at hO
          rw [if_neg (by rw [hn]; decide)] at hO
          subst hO
          go_wp2_with fail
          refine endR rfl (g := w.heap.size) rfl (heap_alloc_new _ _) ⟨?_, (BW.refl w).alloc _⟩
          unfold rv
          dsimp only
          rw [hlen, hpl, HS.out]; rfl
        · try dsimp only at hO
          rw [if_pos hn] at hO
          cases hv : numv pre with
          | none =>
            rw [hv] at hO
            subst hO
            go_wp2_with fail
            refine endR rfl (g := w.heap.size) rfl (heap_alloc_new _ _) ⟨?_, (BW.refl w).alloc _⟩
            unfold rv
            dsimp only
            rw [hpl]; rfl
          | some n =>
            rw [hv] at hO
            subst hO
            obtain rfl := hm n hv
            go_wp2_with fail
            refine endR rfl (g := w.heap.size) rfl (heap_alloc_new _ _) ⟨?_, (BW.refl w).alloc _⟩
            unfold rv
            dsimp only
            rw [hlen, hpl]; rfl
      · have h1' : en a.toNat = false := by simpa using h1
        by_cases h2 : pl a.toNat = true
        · have hP2 : Hid ((pre ++ [a]).all plB = true) := by show _ = _; simp only [List.all_append, hP]; simp [plB, h2]
          have hE2 : Hid (l = (pre ++ [a]) ++ t) := by show _ = _; rw [hE]; simp
          simp only [pl, Bool.and_eq_true, decide_eq_true_eq, Bool.not_eq_true'] at h2
          obtain ⟨⟨e1, e2⟩, _⟩ := h2
          subst ha
          have f1 : decide ((s[q].toNat : Int) < 33) = false := by simp; omega
          have f2 : decide ((126 : Int) < (s[q].toNat : Int)) = false := by simp; omega
          clear hP hE
          go_wp2_with (go_at_call 24; refine (refEnds_any _ _).mono ?_; rw [h1']; rintro e w' ⟨rfl, rfl⟩)
          go_round
          case rel => exact ⟨q + 1, _, t, by go_num, hA1, hE2.out, hP2.out, by omega⟩
          case measure => simp [intOf]; omega
        · have h2' : pl a.toNat = false := by simpa using h2
          have hW : wrd l = .error 10 (a :: t) := by rw [hE]; exact wrd_bad hP a t h1' h2'
          rw [hW] at hO
          subst hO
          have hlen := hA.place
          subst ha
          have hd2 : (s[q].toNat : Int) < 33 ∨ (126 : Int) < s[q].toNat := by
            simp only [pl, h1', Bool.not_false, Bool.and_true, Bool.and_eq_false_iff, decide_eq_false_iff_not] at h2'
            omega
          clear hP hE hW
          go_wp2_with (go_at_call 24; refine (refEnds_any _ _).mono ?_; rw [h1']; rintro e w' ⟨rfl, rfl⟩)
          all_goals
            refine endR rfl (g := w.heap.size) rfl (heap_alloc_new _ _) ⟨?_, (BW.refl w).alloc _⟩
            unfold rv
            dsimp only
            rw [hlen]; rfl
theorem refWord21_any (s : ByteArray) (hs : s.size ≤ 100000) (p : Nat) (c : UInt8) (r : List UInt8) (hl : At s p (c :: r)) (d1 : ¬ c = 40) (d2 : ¬ c = 41) (d3 : ¬ c = 34) (w : World) :
    Calls Tryd.prog 21 #[.string s, .int .i64 p] w fun e w' => e = .returned (rv s.size (one (c :: r))) ∧ BW w w' :=
  refWord21_l s hs p (c :: r) hl _ (one_word r d1 d2 d3) w

end Go.Proofs.YtinigblglaolmaaDoor
