import Derived.Test.YtlacjiihbbgbeaaDoorN11
namespace Go.Proofs.YtlacjiihbbgbeaaDoor
open Go.RowKit
set_option linter.unusedVariables false
set_option linter.unusedSimpArgs false

/-- What stands behind a clause's word. -/
def pClB (f : Nat) (node : Ps → Pr (Tr f)) (k : Nat) (ops : List (List UInt8)) (st : Ps) : Pr (Tr (f + 1)) := match (if k = 1 then pName ops st else .ok ([], st)) with
  | .error e => .error e
  | .ok (s, st4) => match pNms (if k = 0 then 1 else if k = 1 then 2 else 0) [] st4 with
    | .error e => .error e
    | .ok (ns, st5) => match pMany node 1 st5 with
      | .error e => .error e
      | .ok (l, st6) => .ok ((⟨17 + k, 0, bsB s, ns.map bsB, l⟩ : Nd (Tr f)), st6)
theorem pClS_eq (f : Nat) (node : Ps → Pr (Tr f)) (a : Nat) (ops : List (List UInt8)) (st : Ps) : pClS f node a ops st = (match pExpect 1 st with
    | .error e => .error e
    | .ok (t, st1) => match pBeg false t st1 with
      | .error e => .error e
      | .ok st2 => match pFrom a st2 with
        | .error e => .error e
        | .ok (k, st3) => match pClB f node k ops st3 with
          | .error e => .error e
          | .ok (x, st6) => match pExpect 2 st6 with
            | .error e => .error e
            | .ok (_, st7) => .ok (x, st7)) := by
  unfold pClS pFrom
  cases pExpect 1 st with
  | error e => rfl
  | ok p =>
    obtain ⟨t, st1⟩ := p
    simp only
    cases pBeg false t st1 with
    | error e => rfl
    | ok st2 =>
      simp only
      cases pExpect 3 st2 with
      | error e => rfl
      | ok p =>
        obtain ⟨t2, st3⟩ := p
        simp only
        cases clOf a t2.s with
        | none => rfl
        | some k =>
          simp only
          unfold pClB
          cases (if k = 1 then pName ops st3 else .ok ([], st3) : Pr (List UInt8)) with
          | error e => rfl
          | ok p =>
            obtain ⟨s, st4⟩ := p
            simp only
            cases pNms (if k = 0 then 1 else if k = 1 then 2 else 0) [] st4 with
            | error e => rfl
            | ok p =>
              obtain ⟨ns, st5⟩ := p
              simp only
              cases pMany node 1 st5 with
              | error e => rfl
              | ok p =>
                obtain ⟨l, st6⟩ := p
                rfl
theorem clOf_le {a : Nat} {s : List UInt8} {k : Nat} (h : clOf a s = some k) : a ≤ k ∧ k ≤ 2 := by
  unfold clOf at h
  split at h
  · rename_i h1; cases h; omega
  · split at h
    · rename_i h1; cases h; omega
    · split at h
      · rename_i h1; cases h; omega
      · cases h
theorem pFrom_len {a : Nat} {st q : Ps} {k : Nat} (h : pFrom a st = .ok (k, q)) : q.1.length + 1 = st.1.length ∧ a ≤ k ∧ k ≤ 2 := by
  unfold pFrom at h
  cases hx : pExpect 3 st with
  | error e => rw [hx] at h; cases h
  | ok p =>
    obtain ⟨t, st1⟩ := p
    rw [hx] at h
    simp only at h
    cases hc : clOf a t.s with
    | none => rw [hc] at h; cases h
    | some j =>
      rw [hc] at h
      cases h
      exact ⟨pExpect_len hx, clOf_le hc⟩

end Go.Proofs.YtlacjiihbbgbeaaDoor
