import Derived.Test.YtlacjiihbbgbeaaDoorN6
namespace Go.Proofs.YtlacjiihbbgbeaaDoor
open Go.RowKit
set_option linter.unusedVariables false
set_option linter.unusedSimpArgs false

theorem Tryd.info9 : (Tryd.prog.info? 9).map (fun i => (i.zero, i.size, i.bytes)) = some (some (.string ⟨#[]⟩), 1, 16) := by kernel_rfl
theorem own_strs {w : World} {B : Nat} {v : Value} {ops : List ByteArray} (h : w.ownsRow B 9 1 v ops.length (ops.map Value.string)) (hs : ∀ s ∈ ops, s.size ≤ maxLen) : ∃ ao cp, v = .slice ao ops.length cp ∧ StrsAt w ao ops.length ops ∧ ops.length ≤ cp := by
  rcases h.2 with ⟨rfl, h0⟩ | ⟨g, cap, cur, rfl, hb, hg, h1, h2, h3, h4⟩
  · exact ⟨none, 0, by rw [h0], ⟨rfl, by rw [h0]; exact Nat.zero_le _, hs, .inl h0⟩, by omega⟩
  · refine ⟨_, cap, rfl, ⟨rfl, by omega, hs, .inr ⟨g, 0, rfl, (Array.getElem?_eq_some_iff.1 hg).1, fun i s hi => ?_⟩⟩, h1⟩
    have := h.cells (g := g) rfl i (.string s) (by simp [hi])
    rw [Addr.add_mid] at this
    simpa using this
theorem own_strs' {w : World} {B : Nat} {v : Value} {ops : List ByteArray} (h : w.ownsRow B 9 1 v ops.length (ops.map Value.string)) (hs : ∀ s ∈ ops, s.size ≤ maxLen) : ∃ ao cp, v = .slice ao ops.length cp ∧ StrsAt w ao ops.length ops ∧ ops.length ≤ cp ∧ cp ≤ maxLen := by
  rcases h.2 with ⟨rfl, h0⟩ | ⟨g, cap, cur, rfl, hb, hg, h1, h2, h3, h4⟩
  · exact ⟨none, 0, by rw [h0], ⟨rfl, by rw [h0]; exact Nat.zero_le _, hs, .inl h0⟩, by omega, Nat.zero_le _⟩
  · obtain ⟨ao, cp, e, h5, h6⟩ := own_strs h hs
    cases e
    exact ⟨_, _, rfl, h5, h6, h2⟩
theorem append_strs (ty : TypeId) (base : Nat) (v : Value) (xs ns : List ByteArray) (na : Option Addr) (nl nc : Nat) (w : World) (hown : w.ownsRow base 9 1 v xs.length (xs.map Value.string)) (hs : StrsAt w na nl ns) (hl : xs.length + nl ≤ 10000000) (hb : base ≤ w.heap.size) :
    ∃ v' w', (Builtin.append_ #[23, 23] ty #[v, .slice na nl nc]).run Tryd.prog w = .ok v' w' ∧ w'.ownsRow base 9 1 v' (xs ++ ns).length ((xs ++ ns).map Value.string) ∧ w.grownBy w' v.ownBlock := by
  obtain ⟨i0, hi, hz0, hz1, hz2⟩ := info_parts Tryd.info9
  obtain ⟨h1, h2, h3, h4⟩ := hs
  cases na with
  | none =>
    have h0 : nl = 0 := by
      rcases h4 with h | ⟨b, off, e, _⟩
      · exact h
      · cases e
    subst h0
    have hns : ns = [] := List.length_eq_zero_iff.1 h1
    subst hns
    refine ⟨v, w, ?_, by simpa using hown, ⟨rfl, rfl, rfl, Nat.le_refl _, fun _ _ _ => rfl⟩⟩
    rcases hown.2 with ⟨rfl, h0⟩ | ⟨g, cap, cur, rfl, _, _, hnc, _⟩
    · simp [Builtin.append_, run_underlying Tryd.underlying23, sizeOf, typeInfo, hi, Builtin.lenOf, Builtin.firstCells]
    · simp [Builtin.append_, run_underlying Tryd.underlying23, sizeOf, typeInfo, hi, Builtin.lenOf, Builtin.firstCells, hnc, storeCells]
  | some ad =>
    have hc : ∀ j u, (ns.map Value.string)[j]? = some u → w.cell? (ad.add j) = some u := by
      intro j u hj
      rcases h4 with h | ⟨b, off, e, _, hc⟩
      · have : ns = [] := List.length_eq_zero_iff.1 (h1.trans h)
        subst this; simp at hj
      · cases e
        simp only [List.getElem?_map, Option.map_eq_some_iff] at hj
        obtain ⟨s, hs, rfl⟩ := hj
        rw [Addr.add_mid]
        exact hc j s hs
    obtain ⟨v', w', hr, ho, hg, _⟩ := run_append_own (P := Tryd.prog) w base 23 ty 9 i0 (.string ⟨#[]⟩) 1 16 Tryd.underlying23 hi hz0 hz1 hz2 rfl (by decide) v xs.length (xs.map Value.string) hown ad nl nc (ns.map Value.string) (by simp [h1]) hc (by intro u hu; simp at hu; obtain ⟨s, _, rfl⟩ := hu; rfl) (by unfold maxLen; omega) (by omega) hb
    exact ⟨v', w', hr, by rw [← h1] at ho; simpa using ho, hg⟩
theorem wpList_append_strs {ops : Array Oper} {rest : List Oper} {o : Oper} {a : Act} {w : World} {Q : Exit → Act → World → Prop} (hgd : o.guard = none) (s x : Operand)
    (ho : o.op = .call { callee := .builtin .append, args := #[s, x], argTypes := #[23, 23] }) (base : Nat) (v : Value) (xs ns : List ByteArray) (na : Option Addr) (nl nc : Nat) (hsv : a.eval s = v) (hxv : a.eval x = .slice na nl nc)
    (hown : w.ownsRow base 9 1 v xs.length (xs.map Value.string)) (hs : StrsAt w na nl ns) (hl : xs.length + nl ≤ 10000000) (hb : base ≤ w.heap.size)
    (h : ∀ v' w', w'.ownsRow base 9 1 v' (xs ++ ns).length ((xs ++ ns).map Value.string) → w.grownBy w' v.ownBlock → wpList Tryd.prog ops Q rest (a.put o.dst v') w') : wpList Tryd.prog ops Q (o :: rest) a w := by
  refine wpList_plain hgd fun K hK => ?_
  obtain ⟨v', w', hrun, r1, r2⟩ := append_strs o.type base v xs ns na nl nc w hown hs hl hb
  unfold Oper.wp execOp
  simp only [ho, resolve, invoke, builtin, Sem.run_bind, Sem.run_pure, Result.andThen_ok, List.map_toArray, List.map_cons, List.map_nil, hsv, hxv, hrun]
  exact hK _ _ (h v' w' r1 r2)
theorem strs_one (w : World) (s : ByteArray) (h : s.size ≤ maxLen) : StrsAt (w.alloc (.cells #[.string s] 9)) (some ⟨w.heap.size, 0, none⟩) 1 [s] := by
  refine ⟨rfl, by unfold maxLen; omega, by simpa using h, .inr ⟨_, 0, rfl, by simp, fun i x hi => ?_⟩⟩
  match i, hi with
  | 0, hi => simp at hi; subst hi; exact cell_new _ _ _ 0
theorem Tryd.info26 : (Tryd.prog.info? 26).map (fun i => (i.zero, i.size, i.bytes)) = some (some (.agg #[.int .u8 0, .int .i64 0, .string ⟨#[]⟩, .slice none 0 0, .slice none 0 0]), 5, 80) := by kernel_rfl
theorem own_bw {w w' : World} {base e z : Nat} {v : Value} {n : Nat} {xs : List Value} (h : w.ownsRow base e z v n xs) (k : BW w w') : w'.ownsRow base e z v n xs := by
  obtain ⟨h2, h3⟩ := h
  refine ⟨h2, ?_⟩
  rcases h3 with h3 | ⟨g, cap, cur, e', hg, hh, r⟩
  · exact .inl h3
  · exact .inr ⟨g, cap, cur, e', hg, (k.block g (Array.getElem?_eq_some_iff.1 hh).1).trans hh, r⟩
theorem own_fl {w w' : World} {rb B N : Nat} {st : Ps} {base e z : Nat} {v : Value} {n : Nat} {xs : List Value} (h : w.ownsRow base e z v n xs) (hr : RdP rb B N st w) (k : Fl rb w w') (he : ¬ e = 40) : w'.ownsRow base e z v n xs := by
  obtain ⟨h2, h3⟩ := h
  refine ⟨h2, ?_⟩
  rcases h3 with h3 | ⟨g, cap, cur, e', hg, hh, r⟩
  · exact .inl h3
  · have hgl := (Array.getElem?_eq_some_iff.1 hh).1
    have hne : ¬ g = rb := by
      rintro rfl
      obtain ⟨_, _, _, _, _, ao, cp, _, _, h6, _⟩ := hr
      rw [h6] at hh
      simp only [Option.some.injEq, Obj.cells.injEq] at hh
      exact he hh.2.1.symm
    exact .inr ⟨g, cap, cur, e', hg, (k.block g hgl hne).trans hh, r⟩
theorem own_f2 {w w' : World} {rb B N mb : Nat} {st : Ps} {l : List (List UInt8)} {base e z : Nat} {v : Value} {n : Nat} {xs : List Value} (h : w.ownsRow base e z v n xs) (hr : RdP rb B N st w) (hm : TkIs w mb l) (k : F2 rb mb w w') (he : ¬ e = 40) : w'.ownsRow base e z v n xs := by
  obtain ⟨h2, h3⟩ := h
  refine ⟨h2, ?_⟩
  rcases h3 with h3 | ⟨g, cap, cur, e', hg, hh, r⟩
  · exact .inl h3
  · have hgl := (Array.getElem?_eq_some_iff.1 hh).1
    have hne : ¬ g = rb := by
      rintro rfl
      obtain ⟨_, _, _, _, _, ao, cp, _, _, h6, _⟩ := hr
      rw [h6] at hh
      simp only [Option.some.injEq, Obj.cells.injEq] at hh
      exact he hh.2.1.symm
    have hnm : ¬ g = mb := by
      rintro rfl
      obtain ⟨D, ⟨es, cl, h1, _⟩, _⟩ := hm
      rw [h1] at hh
      cases hh
    exact .inr ⟨g, cap, cur, e', hg, (k.block g hgl hne hnm).trans hh, r⟩
/-- A node's cells. -/
def rcs (r : Rw) : List Value := [.int .u8 r.k, .int .i64 r.n, .string r.s, .slice r.na r.nl r.nc, .slice r.ka r.kl r.kc]
/-- A row of nodes of one's own. -/
def NRow (w : World) (base f : Nat) (v : Value) (l : List (Tr f)) : Prop := ∃ rs : List Rw, rs.length = l.length ∧ w.ownsRow base 26 5 v l.length (rs.flatMap rcs) ∧ ∀ (i : Nat) r x, rs[i]? = some r → l[i]? = some x → NodeAt w f r.v x
theorem NRow.nil (w : World) (base f : Nat) : NRow w base f (.slice none 0 0) ([] : List (Tr f)) := ⟨[], rfl, World.ownsRow_nil _ _ _ _, fun i r x h => by simp at h⟩
theorem NRow.fl {w w' : World} {rb B N : Nat} {st : Ps} {base f : Nat} {v : Value} {l : List (Tr f)} (h : NRow w base f v l) (hr : RdP rb B N st w) (k : Fl rb w w') : NRow w' base f v l := by
  obtain ⟨rs, h1, h2, h3⟩ := h
  exact ⟨rs, h1, own_fl h2 hr k (by decide), fun i r x a b => NodeAt.fl hr k (h3 i r x a b)⟩
theorem flat_get (rs : List Rw) (i j : Nat) (r : Rw) (h : rs[i]? = some r) (hj : j < 5) : (rs.flatMap rcs)[i * 5 + j]? = (rcs r)[j]? := by
  induction rs generalizing i with
  | nil => simp at h
  | cons a q ih =>
    have hl : (rcs a).length = 5 := rfl
    cases i with
    | zero =>
      simp at h
      subst h
      rw [List.flatMap_cons, Nat.zero_mul, Nat.zero_add, List.getElem?_append_left (by rw [hl]; exact hj)]
    | succ i =>
      have := ih i (by simpa using h)
      rw [List.flatMap_cons, List.getElem?_append_right (by rw [hl]; omega), hl, ← this]
      congr 1
      omega
/-- .. as a sequence. -/
theorem NRow.seq {w : World} {base f : Nat} {v : Value} {l : List (Tr f)} (h : NRow w base f v l) : ∃ ao cp, v = .slice ao l.length cp ∧ SeqAt (NodeAt w f) w ao l.length l ∧ l.length ≤ cp ∧ cp ≤ maxLen := by
  obtain ⟨rs, h1, h2, h3⟩ := h
  rcases h2.2 with ⟨rfl, h0⟩ | ⟨g, cap, cur, rfl, hb, hg, q1, q2, q3, q4⟩
  · exact ⟨none, 0, by rw [h0], ⟨rfl, by rw [h0]; exact Nat.zero_le _, .inl h0⟩, by omega, Nat.zero_le _⟩
  · refine ⟨some ⟨g, 0, none⟩, cap, rfl, ⟨rfl, by omega, .inr ⟨g, 0, rfl, (Array.getElem?_eq_some_iff.1 hg).1, fun i x hi => ?_⟩⟩, q1, q2⟩
    obtain ⟨r, hr⟩ : ∃ r, rs[i]? = some r := ⟨_, List.getElem?_eq_getElem (by rw [h1]; exact (List.getElem?_eq_some_iff.1 hi).1)⟩
    have C : ∀ j u, j < 5 → (rcs r)[j]? = some u → w.cell? ⟨g, 0 + i * 5 + j, none⟩ = some u := fun j u hj hu => by
      have := h2.cells (g := g) rfl (i * 5 + j) u (by rw [flat_get rs i j r hr hj]; exact hu)
      rw [Addr.add_mid] at this
      simpa [Nat.add_assoc] using this
    refine ⟨r, ⟨?_, ?_, ?_, ?_, ?_⟩, h3 i r x hr hi⟩
    · simpa using C 0 _ (by omega) rfl
    · exact C 1 _ (by omega) rfl
    · exact C 2 _ (by omega) rfl
    · exact C 3 _ (by omega) rfl
    · exact C 4 _ (by omega) rfl

end Go.Proofs.YtlacjiihbbgbeaaDoor
