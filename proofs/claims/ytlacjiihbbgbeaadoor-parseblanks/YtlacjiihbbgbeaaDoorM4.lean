import Derived.Test.YtlacjiihbbgbeaaDoorM3
namespace Go.Proofs.YtlacjiihbbgbeaaDoor
open Go.RowKit
set_option linter.unusedVariables false
set_option linter.unusedSimpArgs false

/-- A token but for its place. -/
def tkey (t : Tok) : Nat × List UInt8 × Int := (t.kind, t.s, t.n)
def Sim (st st' : Ps) : Prop := st.1.map tkey = st'.1.map tkey ∧ st.2 = st'.2
/-- What is read is read the same wherever the tokens stand. -/
def SimF {X : Type} (p : Ps → Pr X) : Prop := ∀ st st' x q, Sim st st' → p st = .ok (x, q) → ∃ q', p st' = .ok (x, q') ∧ Sim q q'
theorem Sim.len {st st' : Ps} (h : Sim st st') : st.1.length = st'.1.length := by
  have := congrArg List.length h.1
  simpa using this
theorem Sim.nil {g : Nat} {st' : Ps} (h : Sim ([], g) st') : st' = ([], g) := by
  obtain ⟨ts, g'⟩ := st'
  obtain ⟨h1, h2⟩ := h
  cases ts with
  | nil => simp only at h2; rw [h2]
  | cons a r => simp at h1
theorem Sim.cons {t : Tok} {r : List Tok} {g : Nat} {st' : Ps} (h : Sim (t :: r, g) st') : ∃ t' r', st' = (t' :: r', g) ∧ tkey t = tkey t' ∧ Sim (r, g) (r', g) := by
  obtain ⟨ts, g'⟩ := st'
  obtain ⟨h1, h2⟩ := h
  cases ts with
  | nil => simp at h1
  | cons a q =>
    simp only [List.map_cons, List.cons.injEq] at h1
    simp only at h2
    subst h2
    exact ⟨a, q, rfl, h1.1, h1.2, rfl⟩
theorem tkey_eq {t t' : Tok} (h : tkey t = tkey t') : t'.kind = t.kind ∧ t'.s = t.s ∧ t'.n = t.n := by
  simp only [tkey, Prod.mk.injEq] at h
  exact ⟨h.1.symm, h.2.1.symm, h.2.2.symm⟩
theorem take_sim {st st' : Ps} {t : Tok} {q : Ps} (hs : Sim st st') (h : pTake st = .ok (t, q)) : ∃ t' q', pTake st' = .ok (t', q') ∧ tkey t = tkey t' ∧ Sim q q' := by
  obtain ⟨ts, g⟩ := st
  cases ts with
  | nil => cases h
  | cons a r =>
    cases h
    obtain ⟨t', r', rfl, h1, h2⟩ := hs.cons
    exact ⟨t', _, rfl, h1, h2⟩
theorem expect_sim {k : Nat} {st st' : Ps} {t : Tok} {q : Ps} (hs : Sim st st') (h : pExpect k st = .ok (t, q)) : ∃ t' q', pExpect k st' = .ok (t', q') ∧ tkey t = tkey t' ∧ Sim q q' := by
  unfold pExpect at h
  cases hx : pTake st with
  | error e => rw [hx] at h; cases h
  | ok p =>
    obtain ⟨u, r⟩ := p
    rw [hx] at h
    simp only at h
    split at h
    · rename_i hk
      cases h
      obtain ⟨t', q', e1, e2, e3⟩ := take_sim hs hx
      refine ⟨t', q', ?_, e2, e3⟩
      unfold pExpect
      rw [e1]
      simp only
      rw [if_pos ((tkey_eq e2).1.trans hk)]
    · cases h
theorem name_sim (l : List (List UInt8)) : SimF (pName l) := by
  intro st st' x q hs h
  unfold pName at h
  cases hx : pExpect 3 st with
  | error e => rw [hx] at h; cases h
  | ok p =>
    obtain ⟨u, r⟩ := p
    rw [hx] at h
    simp only at h
    split at h
    · rename_i hk
      cases h
      obtain ⟨t', q', e1, e2, e3⟩ := expect_sim hs hx
      refine ⟨q', ?_, e3⟩
      unfold pName
      rw [e1]
      simp only
      rw [(tkey_eq e2).2.1, if_pos hk]
    · cases h
theorem many_sim {X : Type} {node : Ps → Pr X} (hn : SimF node) : ∀ c, SimF (pMany node c) := by
  intro c
  induction c with
  | zero => intro st st' x q hs h; cases h; exact ⟨st', rfl, hs⟩
  | succ c ih =>
    intro st st' x q hs h
    simp only [pMany] at h
    cases hx : node st with
    | error e => rw [hx] at h; cases h
    | ok p =>
      obtain ⟨y, st1⟩ := p
      rw [hx] at h
      simp only at h
      cases hy : pMany node c st1 with
      | error e => rw [hy] at h; cases h
      | ok p =>
        obtain ⟨l, st2⟩ := p
        rw [hy] at h
        cases h
        obtain ⟨q1, e1, s1⟩ := hn _ _ _ _ hs hx
        obtain ⟨q2, e2, s2⟩ := ih _ _ _ _ s1 hy
        exact ⟨q2, by simp only [pMany, e1, e2], s2⟩
theorem more_sim {X : Type} {node : Ps → Pr X} (hn : SimF node) : ∀ c, SimF (pMore node c) := by
  intro c
  induction c with
  | zero => intro st st' x q hs h; cases h; exact ⟨st', rfl, hs⟩
  | succ c ih =>
    intro st st' x q hs h
    obtain ⟨ts, g⟩ := st
    cases ts with
    | nil => cases h
    | cons t r =>
      obtain ⟨t', r', rfl, k1, k2⟩ := hs.cons
      simp only [pMore] at h
      split at h
      · rename_i hk
        cases h
        exact ⟨_, by simp only [pMore]; rw [if_pos ((tkey_eq k1).1.trans hk)], hs⟩
      · rename_i hk
        cases hx : node (t :: r, g) with
        | error e => rw [hx] at h; cases h
        | ok p =>
          obtain ⟨y, st1⟩ := p
          rw [hx] at h
          simp only at h
          cases hy : pMore node c st1 with
          | error e => rw [hy] at h; cases h
          | ok p =>
            obtain ⟨l, st2⟩ := p
            rw [hy] at h
            cases h
            obtain ⟨q1, e1, s1⟩ := hn _ _ _ _ hs hx
            obtain ⟨q2, e2, s2⟩ := ih _ _ _ _ s1 hy
            exact ⟨q2, by simp only [pMore, e1, e2]; rw [if_neg (by rw [(tkey_eq k1).1]; exact hk)], s2⟩
theorem par_sim : ∀ c l, SimF (pParF c l) := by
  intro c
  induction c with
  | zero => intro l st st' x q hs h; cases h; exact ⟨st', rfl, hs⟩
  | succ c ih =>
    intro l st st' x q hs h
    obtain ⟨ts, g⟩ := st
    cases ts with
    | nil => cases h
    | cons t r =>
      obtain ⟨t', r', rfl, k1, k2⟩ := hs.cons
      simp only [pParF] at h
      split at h
      · rename_i hk
        cases h
        exact ⟨_, by simp only [pParF]; rw [if_pos ((tkey_eq k1).1.trans hk)], hs⟩
      · rename_i hk
        cases hx : pName l (t :: r, g) with
        | error e => rw [hx] at h; cases h
        | ok p =>
          obtain ⟨y, st1⟩ := p
          rw [hx] at h
          simp only at h
          obtain ⟨q1, e1, s1⟩ := name_sim l _ _ _ _ hs hx
          obtain ⟨q2, e2, s2⟩ := ih _ _ _ _ _ s1 h
          exact ⟨q2, by simp only [pParF, e1, e2]; rw [if_neg (by rw [(tkey_eq k1).1]; exact hk)], s2⟩
theorem nms_sim : ∀ c l, SimF (pNms c l) := by
  intro c
  induction c with
  | zero => intro l st st' x q hs h; cases h; exact ⟨st', rfl, hs⟩
  | succ c ih =>
    intro l st st' x q hs h
    simp only [pNms] at h
    cases hx : pName l st with
    | error e => rw [hx] at h; cases h
    | ok p =>
      obtain ⟨y, st1⟩ := p
      rw [hx] at h
      simp only at h
      obtain ⟨q1, e1, s1⟩ := name_sim l _ _ _ _ hs hx
      obtain ⟨q2, e2, s2⟩ := ih _ _ _ _ _ s1 h
      exact ⟨q2, by simp only [pNms, e1, e2], s2⟩
theorem cls_sim {X : Type} {kd : X → Int} {tt : X → List UInt8} {cl : Nat → List (List UInt8) → Ps → Pr X} (hn : ∀ a l, SimF (cl a l)) : ∀ c a l, SimF (pCls kd tt cl c a l) := by
  intro c
  induction c with
  | zero => intro a l st st' x q hs h; cases h; exact ⟨st', rfl, hs⟩
  | succ c ih =>
    intro a l st st' x q hs h
    obtain ⟨ts, g⟩ := st
    cases ts with
    | nil => cases h
    | cons t r =>
      obtain ⟨t', r', rfl, k1, k2⟩ := hs.cons
      simp only [pCls] at h
      split at h
      · rename_i hk
        cases h
        exact ⟨_, by simp only [pCls]; rw [if_pos ((tkey_eq k1).1.trans hk)], hs⟩
      · rename_i hk
        cases hx : cl a l (t :: r, g) with
        | error e => rw [hx] at h; cases h
        | ok p =>
          obtain ⟨y, st1⟩ := p
          rw [hx] at h
          simp only at h
          cases hy : pCls kd tt cl c (if kd y = 18 then 1 else (kd y).toNat - 16) (if kd y = 18 then l ++ [tt y] else l) st1 with
          | error e => rw [hy] at h; cases h
          | ok p =>
            obtain ⟨m, st2⟩ := p
            rw [hy] at h
            cases h
            obtain ⟨q1, e1, s1⟩ := hn a l _ _ _ _ hs hx
            obtain ⟨q2, e2, s2⟩ := ih _ _ _ _ _ _ s1 hy
            exact ⟨q2, by simp only [pCls, e1, e2]; rw [if_neg (by rw [(tkey_eq k1).1]; exact hk)], s2⟩

end Go.Proofs.YtlacjiihbbgbeaaDoor
