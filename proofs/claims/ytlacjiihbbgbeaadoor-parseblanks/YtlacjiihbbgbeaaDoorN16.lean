import Derived.Test.YtlacjiihbbgbeaaDoorN14
namespace Go.Proofs.YtlacjiihbbgbeaaDoor
open Go.RowKit
set_option linter.unusedVariables false
set_option linter.unusedSimpArgs false

theorem take_lt {st : Ps} {t : Tok} {q : Ps} (h : pTake st = .ok (t, q)) : q.1.length < st.1.length := by
  obtain ⟨ts, g⟩ := st
  cases ts with
  | nil => cases h
  | cons a r => cases h; simp
theorem expect_lt {k : Nat} {st : Ps} {t : Tok} {q : Ps} (h : pExpect k st = .ok (t, q)) : q.1.length < st.1.length := by
  unfold pExpect at h
  cases hx : pTake st with
  | error e => rw [hx] at h; cases h
  | ok p =>
    obtain ⟨t', q'⟩ := p
    rw [hx] at h
    simp only at h
    split at h
    · cases h; exact take_lt hx
    · cases h
theorem name_lt {o : List (List UInt8)} {st : Ps} {s : List UInt8} {q : Ps} (h : pName o st = .ok (s, q)) : q.1.length < st.1.length := by
  unfold pName at h
  cases hx : pExpect 3 st with
  | error e => rw [hx] at h; cases h
  | ok p =>
    obtain ⟨t', q'⟩ := p
    rw [hx] at h
    simp only at h
    split at h
    · cases h; exact expect_lt hx
    · cases h
theorem nms_le : ∀ (c : Nat) {l : List (List UInt8)} {st : Ps} {m : List (List UInt8)} {q : Ps}, pNms c l st = .ok (m, q) → q.1.length ≤ st.1.length := by
  intro c
  induction c with
  | zero => intro l st m q h; cases h; exact Nat.le_refl _
  | succ c ih =>
    intro l st m q h
    unfold pNms at h
    cases hx : pName l st with
    | error e => rw [hx] at h; cases h
    | ok p =>
      obtain ⟨s, q'⟩ := p
      rw [hx] at h
      have := ih h
      have := name_lt hx
      omega
theorem many_le {X : Type} {node : Ps → Pr X} (hn : ∀ st x q, node st = .ok (x, q) → q.1.length ≤ st.1.length) : ∀ (c : Nat) {st : Ps} {l : List X} {q : Ps}, pMany node c st = .ok (l, q) → q.1.length ≤ st.1.length := by
  intro c
  induction c with
  | zero => intro st l q h; cases h; exact Nat.le_refl _
  | succ c ih =>
    intro st l q h
    unfold pMany at h
    cases hx : node st with
    | error e => rw [hx] at h; cases h
    | ok p =>
      obtain ⟨x, q'⟩ := p
      rw [hx] at h
      simp only at h
      cases hy : pMany node c q' with
      | error e => rw [hy] at h; cases h
      | ok p =>
        obtain ⟨l', q2⟩ := p
        rw [hy] at h
        cases h
        have := ih hy
        have := hn _ _ _ hx
        omega
theorem more_le {X : Type} {node : Ps → Pr X} (hn : ∀ st x q, node st = .ok (x, q) → q.1.length ≤ st.1.length) : ∀ (c : Nat) {st : Ps} {l : List X} {q : Ps}, pMore node c st = .ok (l, q) → q.1.length ≤ st.1.length := by
  intro c
  induction c with
  | zero => intro st l q h; cases h; exact Nat.le_refl _
  | succ c ih =>
    intro st l q h
    obtain ⟨ts, g⟩ := st
    unfold pMore at h
    cases ts with
    | nil => cases h
    | cons t r =>
      simp only at h
      split at h
      · cases h; exact Nat.le_refl _
      · cases hx : node (t :: r, g) with
        | error e => rw [hx] at h; cases h
        | ok p =>
          obtain ⟨x, q'⟩ := p
          rw [hx] at h
          simp only at h
          cases hy : pMore node c q' with
          | error e => rw [hy] at h; cases h
          | ok p =>
            obtain ⟨l', q2⟩ := p
            rw [hy] at h
            cases h
            have := ih hy
            have := hn _ _ _ hx
            omega
theorem cls_le {X : Type} {kd : X → Int} {tt : X → List UInt8} {cl : Nat → List (List UInt8) → Ps → Pr X} (hn : ∀ a o st x q, cl a o st = .ok (x, q) → q.1.length ≤ st.1.length) : ∀ (c a : Nat) (o : List (List UInt8)) {st : Ps} {l : List X} {q : Ps}, pCls kd tt cl c a o st = .ok (l, q) → q.1.length ≤ st.1.length := by
  intro c
  induction c with
  | zero => intro a o st l q h; cases h; exact Nat.le_refl _
  | succ c ih =>
    intro a o st l q h
    obtain ⟨ts, g⟩ := st
    unfold pCls at h
    cases ts with
    | nil => cases h
    | cons t r =>
      simp only at h
      split at h
      · cases h; exact Nat.le_refl _
      · cases hx : cl a o (t :: r, g) with
        | error e => rw [hx] at h; cases h
        | ok p =>
          obtain ⟨x, q'⟩ := p
          rw [hx] at h
          simp only at h
          cases hy : pCls kd tt cl c (if kd x = 18 then 1 else (kd x).toNat - 16) (if kd x = 18 then o ++ [tt x] else o) q' with
          | error e => rw [hy] at h; cases h
          | ok p =>
            obtain ⟨l', q2⟩ := p
            rw [hy] at h
            cases h
            have := ih _ _ hy
            have := hn _ _ _ _ _ hx
            omega
theorem beg_eq {deep : Bool} {t : Tok} {st q : Ps} (h : pBeg deep t st = .ok q) : q.1 = st.1 := by
  unfold pBeg at h
  split at h
  · cases h
  · cases h; rfl
theorem parF_le : ∀ (c : Nat) (l : List (List UInt8)) {st : Ps} {m : List (List UInt8)} {q : Ps}, pParF c l st = .ok (m, q) → q.1.length ≤ st.1.length := by
  intro c
  induction c with
  | zero => intro l st m q h; cases h; exact Nat.le_refl _
  | succ c ih =>
    intro l st m q h
    obtain ⟨ts, g⟩ := st
    unfold pParF at h
    cases ts with
    | nil => cases h
    | cons t r =>
      simp only at h
      split at h
      · cases h; exact Nat.le_refl _
      · cases hx : pName l (t :: r, g) with
        | error e => rw [hx] at h; cases h
        | ok p =>
          obtain ⟨x, q'⟩ := p
          rw [hx] at h
          have := ih _ h
          have := name_lt hx
          omega
theorem params_le {st : Ps} {l : List (List UInt8)} {q : Ps} (h : pParams st = .ok (l, q)) : q.1.length ≤ st.1.length := by
  unfold pParams at h
  cases hx : pExpect 1 st with
  | error e => rw [hx] at h; cases h
  | ok p =>
    obtain ⟨t, q1⟩ := p
    rw [hx] at h
    simp only at h
    cases hy : pParF (q1.1.length + 1) [] q1 with
    | error e => rw [hy] at h; cases h
    | ok p =>
      obtain ⟨l1, q2⟩ := p
      rw [hy] at h
      simp only at h
      cases hz : pTake q2 with
      | error e => rw [hz] at h; cases h
      | ok p =>
        obtain ⟨t3, q3⟩ := p
        rw [hz] at h
        cases h
        have := expect_lt hx
        have := parF_le _ _ hy
        have := take_lt hz
        omega
theorem form_le {f : Nat} {node : Ps → Pr (Tr f)} {cl : Nat → List (List UInt8) → Ps → Pr (Tr f)} (hn : ∀ st x q, node st = .ok (x, q) → q.1.length ≤ st.1.length) (hc : ∀ a o st x q, cl a o st = .ok (x, q) → q.1.length ≤ st.1.length) {F : Fo} {st : Ps} {x : Tr (f + 1)} {q : Ps} (h : pForm f node cl F st = .ok (x, q)) : q.1.length ≤ st.1.length := by
  unfold pForm at h
  cases h1 : (if F.named then pName [] st else .ok ([], st) : Pr (List UInt8)) with
  | error e => rw [h1] at h; cases h
  | ok p =>
    obtain ⟨s, st1⟩ := p
    rw [h1] at h
    simp only at h
    have k1 : st1.1.length ≤ st.1.length := by
      split at h1
      · exact Nat.le_of_lt (name_lt h1)
      · cases h1; exact Nat.le_refl _
    cases h2 : (if F.kind = 6 then pParams st1 else .ok ([], st1) : Pr (List (List UInt8))) with
    | error e => rw [h2] at h; cases h
    | ok p =>
      obtain ⟨ns, st2⟩ := p
      rw [h2] at h
      simp only at h
      have k2 : st2.1.length ≤ st1.1.length := by
        split at h2
        · exact params_le h2
        · cases h2; exact Nat.le_refl _
      cases h3 : pMany node F.parts st2 with
      | error e => rw [h3] at h; cases h
      | ok p =>
        obtain ⟨l, st3⟩ := p
        rw [h3] at h
        simp only at h
        have k3 := many_le hn _ h3
        cases h4 : (if F.more then pMore node (st3.1.length + 1) st3 else .ok ([], st3) : Pr (List (Tr f))) with
        | error e => rw [h4] at h; cases h
        | ok p =>
          obtain ⟨l2, st4⟩ := p
          rw [h4] at h
          simp only at h
          have k4 : st4.1.length ≤ st3.1.length := by
            split at h4
            · exact more_le hn _ h4
            · cases h4; exact Nat.le_refl _
          cases h5 : (if F.kind = 13 then pCls (knd f) (ttL f) cl (st4.1.length + 1) 0 [] st4 else .ok ([], st4) : Pr (List (Tr f))) with
          | error e => rw [h5] at h; cases h
          | ok p =>
            obtain ⟨l3, st5⟩ := p
            rw [h5] at h
            cases h
            have k5 : q.1.length ≤ st4.1.length := by
              split at h5
              · exact cls_le hc _ _ _ h5
              · cases h5; exact Nat.le_refl _
            omega
theorem br_le {f : Nat} {node : Ps → Pr (Tr f)} {cl : Nat → List (List UInt8) → Ps → Pr (Tr f)} (hn : ∀ st x q, node st = .ok (x, q) → q.1.length ≤ st.1.length) (hc : ∀ a o st x q, cl a o st = .ok (x, q) → q.1.length ≤ st.1.length) {st : Ps} {x : Tr (f + 1)} {q : Ps} (h : pBr f node cl st = .ok (x, q)) : q.1.length ≤ st.1.length := by
  unfold pBr at h
  cases h1 : pExpect 3 st with
  | error e => rw [h1] at h; cases h
  | ok p =>
    obtain ⟨t, st1⟩ := p
    rw [h1] at h
    simp only at h
    have k1 := expect_lt h1
    split at h
    · cases h2 : pMany node (tk t.s).toNat st1 with
      | error e => rw [h2] at h; cases h
      | ok p =>
        obtain ⟨l, st2⟩ := p
        rw [h2] at h
        cases h
        have := many_le hn _ h2
        omega
    · cases h2 : foOf t.s with
      | none => rw [h2] at h; cases h
      | some F =>
        rw [h2] at h
        have := form_le hn hc h
        omega
theorem pN_lt : ∀ (f : Nat), (∀ st x q, (pN f).1 st = .ok (x, q) → q.1.length < st.1.length) ∧ (∀ a o st x q, (pN f).2 a o st = .ok (x, q) → q.1.length < st.1.length) := by
  intro f
  induction f with
  | zero =>
    refine ⟨fun st x q h => ?_, fun a o st x q h => ?_⟩
    · change pNode0 st = _ at h
      unfold pNode0 at h
      cases hx : pTake st with
      | error e => rw [hx] at h; cases h
      | ok p => obtain ⟨t, q1⟩ := p; rw [hx] at h; cases h
    · change pCl0 st = _ at h
      unfold pCl0 at h
      cases hx : pExpect 1 st with
      | error e => rw [hx] at h; cases h
      | ok p => obtain ⟨t, q1⟩ := p; rw [hx] at h; cases h
  | succ f ih =>
    have hn : ∀ st x q, (pN f).1 st = .ok (x, q) → q.1.length ≤ st.1.length := fun st x q h => Nat.le_of_lt (ih.1 st x q h)
    have hc : ∀ a o st x q, (pN f).2 a o st = .ok (x, q) → q.1.length ≤ st.1.length := fun a o st x q h => Nat.le_of_lt (ih.2 a o st x q h)
    refine ⟨fun st x q h => ?_, fun a o st x q h => ?_⟩
    · change pNodeS f (pN f).1 (pN f).2 st = _ at h
      unfold pNodeS at h
      cases h1 : pTake st with
      | error e => rw [h1] at h; cases h
      | ok p =>
        obtain ⟨t, st1⟩ := p
        rw [h1] at h
        simp only at h
        have k1 := take_lt h1
        split at h
        · cases h
        · cases h2 : pBeg false t st1 with
          | error e => rw [h2] at h; cases h
          | ok st2 =>
            rw [h2] at h
            simp only at h
            have k2 := beg_eq h2
            split at h
            · cases h; rw [k2]; exact k1
            · split at h
              · cases h; rw [k2]; exact k1
              · split at h
                · cases h; rw [k2]; exact k1
                · cases h3 : pBr f (pN f).1 (pN f).2 st2 with
                  | error e => rw [h3] at h; cases h
                  | ok p =>
                    obtain ⟨y, st3⟩ := p
                    rw [h3] at h
                    simp only at h
                    have k3 := br_le hn hc h3
                    cases h4 : pExpect 2 st3 with
                    | error e => rw [h4] at h; cases h
                    | ok p =>
                      obtain ⟨t4, st4⟩ := p
                      rw [h4] at h
                      cases h
                      have k4 := expect_lt h4
                      rw [k2] at k3
                      omega
    · change pClS f (pN f).1 a o st = _ at h
      rw [pClS_eq] at h
      cases h1 : pExpect 1 st with
      | error e => rw [h1] at h; cases h
      | ok p =>
        obtain ⟨t, st1⟩ := p
        rw [h1] at h
        simp only at h
        have k1 := expect_lt h1
        cases h2 : pBeg false t st1 with
        | error e => rw [h2] at h; cases h
        | ok st2 =>
          rw [h2] at h
          simp only at h
          have k2 := beg_eq h2
          cases h3 : pFrom a st2 with
          | error e => rw [h3] at h; cases h
          | ok p =>
            obtain ⟨k, st3⟩ := p
            rw [h3] at h
            simp only at h
            have k3 : st3.1.length < st2.1.length := by
              unfold pFrom at h3
              cases hx : pExpect 3 st2 with
              | error e => rw [hx] at h3; cases h3
              | ok p =>
                obtain ⟨t3, q3⟩ := p
                rw [hx] at h3
                simp only at h3
                split at h3
                · cases h3
                · cases h3; exact expect_lt hx
            cases h4 : pClB f (pN f).1 k o st3 with
            | error e => rw [h4] at h; cases h
            | ok p =>
              obtain ⟨y, st6⟩ := p
              rw [h4] at h
              simp only at h
              have k4 : st6.1.length ≤ st3.1.length := by
                unfold pClB at h4
                cases g1 : (if k = 1 then pName o st3 else .ok ([], st3) : Pr (List UInt8)) with
                | error e => rw [g1] at h4; cases h4
                | ok p =>
                  obtain ⟨s, q4⟩ := p
                  rw [g1] at h4
                  simp only at h4
                  have m1 : q4.1.length ≤ st3.1.length := by
                    split at g1
                    · exact Nat.le_of_lt (name_lt g1)
                    · cases g1; exact Nat.le_refl _
                  cases g2 : pNms (if k = 0 then 1 else if k = 1 then 2 else 0) [] q4 with
                  | error e => rw [g2] at h4; cases h4
                  | ok p =>
                    obtain ⟨ns, q5⟩ := p
                    rw [g2] at h4
                    simp only at h4
                    have m2 := nms_le _ g2
                    cases g3 : pMany (pN f).1 1 q5 with
                    | error e => rw [g3] at h4; cases h4
                    | ok p =>
                      obtain ⟨l, q6⟩ := p
                      rw [g3] at h4
                      cases h4
                      have m3 := many_le hn _ g3
                      omega
              cases h5 : pExpect 2 st6 with
              | error e => rw [h5] at h; cases h
              | ok p =>
                obtain ⟨t7, st7⟩ := p
                rw [h5] at h
                cases h
                have k5 := expect_lt h5
                rw [k2] at k3
                omega


/-- What stands behind a clause's bracket, counted. -/
def pClR : (f : Nat) → Nat → List (List UInt8) → Ps → Pr (Tr f)
  | 0, _, _, _ => .error (0, 0)
  | g + 1, a, ops, st2 => match pFrom a st2 with
    | .error e => .error e
    | .ok (k, st3) => match pClB g (pN g).1 k ops st3 with
      | .error e => .error e
      | .ok (x, st6) => match pExpect 2 st6 with
        | .error e => .error e
        | .ok (_, st7) => .ok (x, st7)
theorem pN_cl (f d a : Nat) (ops : List (List UInt8)) (st : Ps) (hd : d + f = 61) : (pN f).2 a ops st = (match pExpect 1 st with
    | .error e => .error e
    | .ok (t, st1) => match pBeg (decide (60 < d)) t st1 with
      | .error e => .error e
      | .ok st2 => pClR f a ops st2) := by
  cases f with
  | zero =>
    obtain rfl : d = 61 := by omega
    change pCl0 st = _
    unfold pCl0
    cases pExpect 1 st with
    | error e => rfl
    | ok p => obtain ⟨t, q⟩ := p; rfl
  | succ g =>
    have hd2 : decide (60 < d) = false := decide_eq_false (by omega)
    rw [hd2]
    exact pClS_eq g (pN g).1 a ops st
theorem from_le2 {a : Nat} {st q : Ps} {k : Nat} (h : pFrom a st = .ok (k, q)) : k ≤ 2 ∧ q.1.length < st.1.length := by
  unfold pFrom at h
  cases hx : pExpect 3 st with
  | error e => rw [hx] at h; cases h
  | ok p =>
    obtain ⟨t, q1⟩ := p
    rw [hx] at h
    simp only at h
    have hl := expect_lt hx
    cases hc : clOf a t.s with
    | none => rw [hc] at h; cases h
    | some k' =>
      rw [hc] at h
      cases h
      refine ⟨?_, hl⟩
      unfold clOf at hc
      split at hc
      · cases hc; omega
      · split at hc
        · cases hc; omega
        · split at hc
          · cases hc; omega
          · cases hc
theorem clB_le {g k : Nat} {ops : List (List UInt8)} {st q : Ps} {x : Tr (g + 1)} (h4 : pClB g (pN g).1 k ops st = .ok (x, q)) : q.1.length ≤ st.1.length := by
  unfold pClB at h4
  cases g1 : (if k = 1 then pName ops st else .ok ([], st) : Pr (List UInt8)) with
  | error e => rw [g1] at h4; cases h4
  | ok p =>
    obtain ⟨s, q4⟩ := p
    rw [g1] at h4
    simp only at h4
    have m1 : q4.1.length ≤ st.1.length := by
      split at g1
      · exact Nat.le_of_lt (name_lt g1)
      · cases g1; exact Nat.le_refl _
    cases g2 : pNms (if k = 0 then 1 else if k = 1 then 2 else 0) [] q4 with
    | error e => rw [g2] at h4; cases h4
    | ok p =>
      obtain ⟨ns, q5⟩ := p
      rw [g2] at h4
      simp only at h4
      have m2 := nms_le _ g2
      cases g3 : pMany (pN g).1 1 q5 with
      | error e => rw [g3] at h4; cases h4
      | ok p =>
        obtain ⟨l, q6⟩ := p
        rw [g3] at h4
        cases h4
        have m3 := many_le (fun st x q h => Nat.le_of_lt ((pN_lt g).1 st x q h)) _ g3
        omega
theorem clB_kind {g k : Nat} {ops : List (List UInt8)} {st q : Ps} {x : Tr (g + 1)} (h4 : pClB g (pN g).1 k ops st = .ok (x, q)) : Nd.k (K := Tr g) x = ((17 + k : Nat) : Int) := by
  unfold pClB at h4
  cases g1 : (if k = 1 then pName ops st else .ok ([], st) : Pr (List UInt8)) with
  | error e => rw [g1] at h4; cases h4
  | ok p =>
    obtain ⟨s, q4⟩ := p
    rw [g1] at h4
    simp only at h4
    cases g2 : pNms (if k = 0 then 1 else if k = 1 then 2 else 0) [] q4 with
    | error e => rw [g2] at h4; cases h4
    | ok p =>
      obtain ⟨ns, q5⟩ := p
      rw [g2] at h4
      simp only at h4
      cases g3 : pMany (pN g).1 1 q5 with
      | error e => rw [g3] at h4; cases h4
      | ok p =>
        obtain ⟨l, q6⟩ := p
        rw [g3] at h4
        cases h4
        simp
def rowLen : Value → Nat
  | .slice _ n _ => n
  | _ => 0
theorem QRow.rowLen {w : World} {lo f : Nat} {v : Value} {l : List (Tr f)} (h : QRow w lo f v l) : rowLen v = l.length := by
  obtain ⟨ao, cp, rfl, _⟩ := h.seq
  rfl
theorem pre_cons2 {X : Type} (l : List X) (x : X) (R : Pr (List X)) : pPre (l ++ [x]) R = pPre l (match R with
    | .error e => .error e
    | .ok (m, q) => .ok (x :: m, q)) := by
  cases R with
  | error e => rfl
  | ok p => obtain ⟨m, q⟩ := p; simp [pPre]
theorem pre_err {X : Type} (l : List X) (e : Pe) : pPre l (.error e) = .error e := rfl
theorem cls_nil {X : Type} {kd : X → Int} {tt : X → List UInt8} {cl : Nat → List (List UInt8) → Ps → Pr X} (c a : Nat) (o : List (List UInt8)) (g : Nat) : pCls kd tt cl (c + 1) a o ([], g) = .error (11, 0) := rfl
theorem cls_shut {X : Type} {kd : X → Int} {tt : X → List UInt8} {cl : Nat → List (List UInt8) → Ps → Pr X} (c a : Nat) (o : List (List UInt8)) (g : Nat) (t : Tok) (r : List Tok) (h : t.kind = 2) : pCls kd tt cl (c + 1) a o (t :: r, g) = .ok ([], (t :: r, g)) := by
  simp only [pCls, if_pos h]
theorem cls_go {X : Type} {kd : X → Int} {tt : X → List UInt8} {cl : Nat → List (List UInt8) → Ps → Pr X} (c a : Nat) (o : List (List UInt8)) (g : Nat) (t : Tok) (r : List Tok) (h : ¬ t.kind = 2) : pCls kd tt cl (c + 1) a o (t :: r, g) = (match cl a o (t :: r, g) with
      | .error e => .error e
      | .ok (x, st1) => match pCls kd tt cl c (if kd x = 18 then 1 else (kd x).toNat - 16) (if kd x = 18 then o ++ [tt x] else o) st1 with
        | .error e => .error e
        | .ok (l, st2) => .ok (x :: l, st2)) := by
  conv => lhs; unfold pCls
  simp only [if_neg h]
  rfl
set_option maxRecDepth 100000 in
set_option maxHeartbeats 4000000 in
theorem clauses_any {f : Nat} (ihN : ∀ g, f = g + 1 → NodeC g) (rb B N d : Nat) (hd : d + f = 61) (st : Ps) (w : World) (h : RdP rb B N st w) (hG : Gv w) (hrb : 2 < rb) : Calls Tryd.prog 42 #[.pointer (some ⟨rb, 0, none⟩), .int .i64 d] w (PostP (fun w' v l => QRow w' w.heap.size f v l) rb B N w (pCls (knd f) (ttL f) (pN f).2 (st.1.length + 1) 0 [] st)) := by
  obtain ⟨i0, hi, hz0, hz1, hz2⟩ := info_parts Tryd.info26
  have hmm : ∀ w : World, (Instr.makeMap 83 none).run Tryd.prog w = .ok (.map (some w.heap.size)) (w.alloc (.map #[] 0)) := fun w => by first | rfl | simp [Instr.makeMap]
  have hfd : ∀ (v0 v1 v2 v3 : Value) (w : World), (Instr.field 50 (.agg #[v0, v1, v2, v3]) 0).run Tryd.prog w = .ok v0 w := fun v0 v1 v2 v3 w => by kernel_rfl
  have IH : Hid (∀ g, f = g + 1 → NodeC g) := ihN
  have HG : Hid (Gv w) := hG
  have hlt := h.lt
  have hBw := h.2.2.2.2.1
  have hlb : rb < B := h.2.2.2.1
  have hsl : st.1.length ≤ 100000 := h.2.2.1.2
  generalize hR : pCls (knd f) (ttL f) (pN f).2 (st.1.length + 1) 0 [] st = R
  have HR : Hid (pCls (knd f) (ttL f) (pN f).2 (st.1.length + 1) 0 [] st = R) := hR
  obtain ⟨W, hW⟩ : ∃ W, W = w.alloc (.map #[] 0) := ⟨_, rfl⟩
  have HBW : Hid (BW w W) := by show BW w W; rw [hW]; exact BW.alloc (BW.refl _) _
  have HRW : Hid (RdP rb B N st W) := h.bw HBW.out
  have HTW : Hid (TkIs W w.heap.size []) := by show TkIs _ _ _; rw [hW]; exact TkIs.new w
  have hzW : w.heap.size < W.heap.size := by rw [hW]; simp
  clear hR ihN hG h
  go_enter Tryd.func42, Tryd.ntmps42
  go_wp2_with (fail)
  rw [← hW]
  clear hW
  go_loopw [5, 7] (fun v i wr => ∃ (l : List (Tr f)) (q : Ps) (a c : Nat) (ops : List (List UInt8)), i = .int .i64 a ∧ a ≤ 3 ∧ Hid (QRow wr (w.heap.size + 1) f v l) ∧ Hid (RdP rb B N q wr) ∧ Hid (TkIs wr w.heap.size ops) ∧ ops.length ≤ l.length ∧ l.length + q.1.length ≤ st.1.length ∧ q.1.length < c ∧ Hid (pPre l (pCls (knd f) (ttL f) (pN f).2 c a ops q) = R) ∧ w.heap.size < wr.heap.size ∧ Hid (F2 rb w.heap.size w wr)) (fun v _ _ => st.1.length + 1 - rowLen v)
  case atStart => exact ⟨[], st, 0, st.1.length + 1, [], rfl, by omega, QRow.nil _ _ _, HRW.out, HTW.out, by simp, by simp, by omega, by show pPre [] _ = R; rw [pPre_nil]; exact HR.out, hzW, HBW.out.f2⟩
  case round =>
    clear HR HRW HTW HBW
    obtain ⟨l, q, a, c, ops, rfl, ha, HW, HRq, HTq, hol, hlq, hqc, HQ, hzr, HFq⟩ := hrel
    have hrv := HW.out.rowLen
    obtain ⟨c, rfl⟩ : ∃ c', c = c' + 1 := ⟨c - 1, by omega⟩
    obtain ⟨ts, gg⟩ := q
    cases ts with
    | nil =>
      have CP : Hid (Calls Tryd.prog 27 #[.pointer (some ⟨rb, 0, none⟩)] wr fun e w' => e = .panicked (thrP N (11, 0)) ∧ BW wr w') := peek_nil rb B N gg wr HRq.out
      obtain rfl : R = .error (11, 0) := by rw [← HQ.out]; rfl
      go_wp2_with (go_at_call 27; refine CP.out.mono ?_; rintro e w1 ⟨rfl, b1⟩)
      exact ⟨rfl, rfl, F2.fl (HFq.out.trans b1.f2) (Fl.refl rb w) (Nat.le_refl _)⟩
    | cons t r =>
      have ok := HRq.out.1 t (by simp)
      have CP : Hid (Calls Tryd.prog 27 #[.pointer (some ⟨rb, 0, none⟩)] wr fun e w' => e = .returned (.agg #[.int .u8 t.kind, .string ⟨t.s.toArray⟩, .int .i64 t.n, .int .i64 ((N - t.back : Nat) : Int)]) ∧ BW wr w') := peek_cons rb B N gg t r wr HRq.out
      by_cases h2 : t.kind = 2
      · have c1 : ((t.kind : Int) != 2) = false := by simp; omega
        obtain rfl : R = .ok (l, (t :: r, gg)) := by rw [← HQ.out, cls_shut _ _ _ _ _ _ h2]; simp [pPre]
        clear HQ
        go_wp2_with (fail)
        refine CP.out.mono ?_
        rintro e w1 ⟨rfl, b1⟩
        have HB : Hid (BW wr w1) := b1
        clear CP b1
        go_wp2_with (fail)
        go_ret
        have b := HB.out
        exact ⟨_, rfl, (HW.out.keep (fun b' _ hb' => b.block b' hb') b.size).low (by omega), HRq.out.bw b, F2.fl (HFq.out.trans b.f2) (Fl.refl rb w) (Nat.le_refl _)⟩
      · have c1 : ((t.kind : Int) != 2) = true := by simp; omega
        have HQ0 : Hid (pPre l (match (match pExpect 1 (t :: r, gg) with
          | .error e => .error e
          | .ok (t, st1) => match pBeg (decide (60 < d)) t st1 with
            | .error e => .error e
            | .ok st2 => pClR f a ops st2 : Pr (Tr f)) with
          | .error e => .error e
          | .ok (x, st1) => match pCls (knd f) (ttL f) (pN f).2 c (if knd f x = 18 then 1 else (knd f x).toNat - 16) (if knd f x = 18 then ops ++ [ttL f x] else ops) st1 with
            | .error e => .error e
            | .ok (l, st2) => .ok (x :: l, st2)) = R) := by
          show _ = R
          rw [← HQ.out, cls_go _ _ _ _ _ _ h2, pN_cl f d a ops _ hd]
          kernel_rfl
        clear HQ h2
        have CE : Hid (∀ w', BW wr w' → Calls Tryd.prog 19 #[.pointer (some ⟨rb, 0, none⟩), .int .u8 1] w' (PostP (tvl N) rb B N w' (pExpect 1 (t :: r, gg)))) := fun w' hb => expect_any rb B N 1 (by omega) _ w' (HRq.out.bw hb)
        cases he : pExpect 1 (t :: r, gg) with
        | error er =>
          rw [he] at CE HQ0
          obtain rfl : R = .error er := HQ0.out.symm
          have CE2 : Hid (∀ w', BW wr w' → Calls Tryd.prog 19 #[.pointer (some ⟨rb, 0, none⟩), .int .u8 1] w' (fun e w'' => e = .panicked (thrP N er) ∧ Fl rb w' w'')) := CE.out
          clear he HQ0 CE
          go_wp2_with (fail)
          refine CP.out.mono ?_
          rintro e w1 ⟨rfl, b1⟩
          go_wp2_with (go_at_call 19; refine (CE2.out w1 b1).mono ?_; rintro e w2 ⟨rfl, f2⟩)
          exact ⟨rfl, rfl, F2.fl (HFq.out.trans (b1.f2.trans (f2.f2 _))) (Fl.refl rb w) (Nat.le_refl _)⟩
        | ok p =>
          obtain ⟨t1, st1⟩ := p
          have hl1 := expect_lt he
          rw [he] at CE HQ0
          have CE2 : Hid (∀ w', BW wr w' → Calls Tryd.prog 19 #[.pointer (some ⟨rb, 0, none⟩), .int .u8 1] w' (fun e w'' => e = .returned (.agg #[.int .u8 t1.kind, .string ⟨t1.s.toArray⟩, .int .i64 t1.n, .int .i64 ((N - t1.back : Nat) : Int)]) ∧ RdP rb B N st1 w'' ∧ Fl rb w' w'')) := fun w' hb => (CE.out w' hb).mono fun e w'' hh => by
            obtain ⟨v, h1, ⟨h2, h3⟩, h4, h5⟩ := hh
            subst h2
            exact ⟨h1, h4, h5⟩
          clear he CE
          go_wp2_with (fail)
          refine CP.out.mono ?_
          rintro e w1 ⟨rfl, b1⟩
          have HB1 : Hid (BW wr w1) := b1
          clear CP b1
          go_wp2_with (fail)
          refine (CE2.out w1 HB1.out).mono ?_
          rintro e w2 ⟨rfl, R2, F2'⟩
          have HR2 : Hid (RdP rb B N st1 w2) := R2
          have HF2 : Hid (Fl rb wr w2) := (HB1.out.fl rb).trans F2'
          clear R2 F2' CE2 HB1
          have CB : Hid (Calls Tryd.prog 16 #[.pointer (some ⟨rb, 0, none⟩), .agg #[.int .u8 t1.kind, .string ⟨t1.s.toArray⟩, .int .i64 t1.n, .int .i64 ((N - t1.back : Nat) : Int)], .int .i64 d] w2 fun e w' => match pBeg (decide (60 < d)) t1 st1 with
            | .ok q => e = .returned (.tuple #[]) ∧ RdP rb B N q w' ∧ Fl rb w2 w'
            | .error er => e = .panicked (thrP N er) ∧ Fl rb w2 w') := begin_any rb B N t1 d st1 w2 HR2.out
          cases hb : pBeg (decide (60 < d)) t1 st1 with
          | error er =>
            rw [hb] at CB
            have HQ1 : Hid (R = .error er) := by show R = _; rw [← HQ0.out]; simp only [hb]; rfl
            obtain rfl : R = .error er := HQ1.out
            clear hb HQ0 HQ1
            go_wp2_with (go_at_call 16; refine CB.out.mono ?_; rintro e w3 ⟨rfl, f3⟩)
            exact ⟨rfl, rfl, F2.fl (HFq.out.trans ((HF2.out.trans f3).f2 _)) (Fl.refl rb w) (Nat.le_refl _)⟩
          | ok st2 =>
            have hl2 := beg_eq hb
            have hd60 : d ≤ 60 := by
              rcases Nat.lt_or_ge 60 d with h | h
              · rw [decide_eq_true h] at hb; cases hb
              · exact h
            obtain ⟨g, rfl⟩ : ∃ g, f = g + 1 := ⟨f - 1, by omega⟩
            have IN : Hid (NodeC g) := IH.out g rfl
            rw [hb] at CB
            have HQ1 : Hid (pPre l (match (match pFrom a st2 with
              | .error e => .error e
              | .ok (k, st3) => match pClB g (pN g).1 k ops st3 with
                | .error e => .error e
                | .ok (x, st6) => match pExpect 2 st6 with
                  | .error e => .error e
                  | .ok (_, st7) => .ok (x, st7) : Pr (Tr (g + 1))) with
              | .error e => .error e
              | .ok (x, st1) => match pCls (knd (g + 1)) (ttL (g + 1)) (pN (g + 1)).2 c (if knd (g + 1) x = 18 then 1 else (knd (g + 1) x).toNat - 16) (if knd (g + 1) x = 18 then ops ++ [ttL (g + 1) x] else ops) st1 with
                | .error e => .error e
                | .ok (l, st2) => .ok (x :: l, st2)) = R) := by
              show _ = R
              rw [← HQ0.out]
              simp only [hb]
              kernel_rfl
            clear hb HQ0 IH
            go_wp2_with (fail)
            refine CB.out.mono ?_
            rintro e w3 ⟨rfl, R3, F3⟩
            have HR3 : Hid (RdP rb B N st2 w3) := R3
            have HF3 : Hid (Fl rb wr w3) := HF2.out.trans F3
            have hz3 := HF3.out.size
            have HGv3 : Hid (Gv w3) := HG.out.f2 (HFq.out.trans (HF3.out.f2 _)) hrb (by omega)
            clear R3 F3 CB HR2 HF2
            have CF : Hid (Calls Tryd.prog 48 #[.pointer (some ⟨rb, 0, none⟩), .int .i64 a] w3 (PostP (fun _ v k => v = .int .i64 (k : Nat)) rb B N w3 (pFrom a st2))) := from_any rb B N a ha st2 w3 HR3.out HGv3.out hrb
            cases hf : pFrom a st2 with
            | error er =>
              rw [hf] at CF HQ1
              obtain rfl : R = .error er := HQ1.out.symm
              clear hf HQ1
              have CF2 : Hid (Calls Tryd.prog 48 #[.pointer (some ⟨rb, 0, none⟩), .int .i64 a] w3 (fun e w' => e = .panicked (thrP N er) ∧ Fl rb w3 w')) := CF.out
              clear CF
              go_wp2_with (go_at_call 48; refine CF2.out.mono ?_; rintro e w4 ⟨rfl, f4⟩)
              exact ⟨rfl, rfl, F2.fl (HFq.out.trans ((HF3.out.trans f4).f2 _)) (Fl.refl rb w) (Nat.le_refl _)⟩
            | ok p =>
              obtain ⟨k, st3⟩ := p
              obtain ⟨hk2, hl3⟩ := from_le2 hf
              rw [hf] at CF HQ1
              have HQ3 : Hid (pPre l (match (match pClB g (pN g).1 k ops st3 with
                | .error e => .error e
                | .ok (x, st6) => match pExpect 2 st6 with
                  | .error e => .error e
                  | .ok (_, st7) => .ok (x, st7) : Pr (Tr (g + 1))) with
                | .error e => .error e
                | .ok (x, st1) => match pCls (knd (g + 1)) (ttL (g + 1)) (pN (g + 1)).2 c (if knd (g + 1) x = 18 then 1 else (knd (g + 1) x).toNat - 16) (if knd (g + 1) x = 18 then ops ++ [ttL (g + 1) x] else ops) st1 with
                  | .error e => .error e
                  | .ok (l, st2) => .ok (x :: l, st2)) = R) := HQ1.out
              have CF2 : Hid (Calls Tryd.prog 48 #[.pointer (some ⟨rb, 0, none⟩), .int .i64 a] w3 (fun e w' => e = .returned (.int .i64 (k : Nat)) ∧ RdP rb B N st3 w' ∧ Fl rb w3 w')) := CF.out.mono fun e w' hh => by
                obtain ⟨v, h1, h2, h3, h4⟩ := hh
                subst h2
                exact ⟨h1, h3, h4⟩
              clear hf HQ1 CF
              go_wp2_with (fail)
              refine CF2.out.mono ?_
              rintro e w4 ⟨rfl, R4, F4⟩
              have HR4 : Hid (RdP rb B N st3 w4) := R4
              have HF34 : Hid (Fl rb wr w4) := HF3.out.trans F4
              have HF4 : Hid (F2 rb w.heap.size w w4) := HFq.out.trans (HF34.out.f2 _)
              have hz4 := HF34.out.size
              have HGv4 : Hid (Gv w4) := HG.out.f2 HF4.out hrb (by omega)
              have ht4 : w4.heap[w.heap.size]? = wr.heap[w.heap.size]? := HF34.out.block _ hzr (by omega)
              have HT4 : Hid (TkIs w4 w.heap.size ops) := HTq.out.same ht4
              have HW4 : Hid (QRow w4 (w.heap.size + 1) (g + 1) _ l) := HW.out.keep (fun b hb hb2 => HF34.out.block b hb2 (by omega)) HF34.out.size
              obtain ⟨o0, o1, o2, o3, o4, o5, o6, o7, o8⟩ := HGv4.out.ord
              clear R4 F4 CF2 HR3 HF3 HGv3 ht4 HW HTq HRq HF34 HFq c1 ok
              have hlen3 : st3.1.length < r.length + 1 := by simp at hl1; rw [hl2] at hl3; omega
              simp at hlq hqc
              clear hl1 hl2 hl3
              rcases (by omega : k = 0 ∨ k = 1 ∨ k = 2) with rfl | rfl | rfl
              · have CC : Hid (Calls Tryd.prog 49 #[.pointer (some ⟨rb, 0, none⟩), .agg #[.string ⟨#[114, 101, 116, 117, 114, 110]⟩, .int .u8 17, .int .i64 1], .map (some w.heap.size), .int .i64 d] w4 (PostCl g rb B N w.heap.size 0 ops w4 (pClB g (pN g).1 0 ops st3))) := clause_ret IN.out rb B N (w.heap.size) d ops hd st3 w4 HR4.out HGv4.out hrb HT4.out (by omega)
                cases hp : pClB g (pN g).1 0 ops st3 with
                | error er =>
                  rw [hp] at CC HQ3
                  obtain rfl : R = .error er := HQ3.out.symm
                  have CC2 : Hid (Calls Tryd.prog 49 #[.pointer (some ⟨rb, 0, none⟩), .agg #[.string ⟨#[114, 101, 116, 117, 114, 110]⟩, .int .u8 17, .int .i64 1], .map (some w.heap.size), .int .i64 d] w4 (fun e w' => e = .panicked (thrP N er) ∧ F2 rb w.heap.size w4 w')) := CC.out
                  clear hp HQ3 CC
                  go_wp2_with (fail)
                  refine CC2.out.mono ?_
                  rintro e w5 ⟨rfl, f5⟩
                  exact ⟨rfl, rfl, F2.fl (HF4.out.trans f5) (Fl.refl rb w) (Nat.le_refl _)⟩
                | ok p =>
                  obtain ⟨x, st6⟩ := p
                  have hl6 := clB_le hp
                  have hkx : (Nd.k (K := Tr g) x) = 17 := clB_kind hp
                  rw [hp] at CC HQ3
                  have HQ4 : Hid (pPre l (match (match pExpect 2 st6 with
                    | .error e => .error e
                    | .ok (_, st7) => .ok (x, st7) : Pr (Tr (g + 1))) with
                    | .error e => .error e
                    | .ok (x, st1) => match pCls (knd (g + 1)) (ttL (g + 1)) (pN (g + 1)).2 c (if knd (g + 1) x = 18 then 1 else (knd (g + 1) x).toNat - 16) (if knd (g + 1) x = 18 then ops ++ [ttL (g + 1) x] else ops) st1 with
                      | .error e => .error e
                      | .ok (l, st2) => .ok (x :: l, st2)) = R) := HQ3.out
                  have CC2 : Hid (Calls Tryd.prog 49 #[.pointer (some ⟨rb, 0, none⟩), .agg #[.string ⟨#[114, 101, 116, 117, 114, 110]⟩, .int .u8 17, .int .i64 1], .map (some w.heap.size), .int .i64 d] w4 (fun e w' => ∃ v, e = .returned v ∧ NodeQ (fun b => w4.heap.size ≤ b ∧ b < w'.heap.size) w' (g + 1) v x ∧ RdP rb B N st6 w' ∧ TkIs w' w.heap.size ops ∧ F2 rb w.heap.size w4 w')) := CC.out
                  clear hp HQ3 CC
                  go_wp2_with (fail)
                  refine CC2.out.mono ?_
                  rintro e w5 ⟨v5, rfl, hx, R5, T5, F5⟩
                  obtain ⟨r, rfl⟩ := hx.rw
                  have HR5 : Hid (RdP rb B N st6 w5) := R5
                  have HF5 : Hid (F2 rb w.heap.size w w5) := HF4.out.trans F5
                  have HT5 : Hid (TkIs w5 w.heap.size ops) := T5
                  have hz5 := F5.size
                  have hB5 := R5.2.2.2.2.1
                  have HW5 : QRow w5 (w.heap.size + 1) (g + 1) _ l := HW4.out.keep (fun b hb hb2 => F5.block b hb2 (by omega) (by omega)) F5.size
                  obtain ⟨rs, hrl, hown, hnod⟩ := HW5
                  have HX : Hid (NodeQ (fun b => w.heap.size + 1 ≤ b ∧ b < w5.heap.size ∧ Value.ownBlock _ ≠ some b) w5 (g + 1) r.v x) := NodeQ.keep (fun b hb => ⟨by omega, hb.2, fun e => by
                    obtain ⟨rs', _, ho', _⟩ := HW4.out
                    have := (ho'.lt b e).2
                    omega⟩) (fun _ _ _ => rfl) (Nat.le_refl _) hx
                  have HN5 : Hid (∀ (i : Nat) r x, rs[i]? = some r → l[i]? = some x → NodeQ (fun b => w.heap.size + 1 ≤ b ∧ b < w5.heap.size ∧ Value.ownBlock _ ≠ some b) w5 (g + 1) r.v x) := hnod
                  have HO5 : Hid (w5.ownsRow (w.heap.size + 1) 26 5 _ l.length (rs.flatMap rcs)) := hown
                  clear hx R5 F5 T5 CC2 HW4 HR4 HGv4 HF4 HT4 hnod hown o0 o1 o2 o3 o4 o5 o6 o7 o8
                  go_wp2_with (at_builtin; refine wpList_append_nodes rfl _ _ rfl (w.heap.size + 1) _ l.length (rs.flatMap rcs) ⟨w5.heap.size, 0, none⟩ 1 1 (rcs r) rfl rfl (HO5.out.alloc _) rfl (cells_new w5 26 (rcs r)) (rcs_one r) (by omega) (by simp; omega) ?_)
                  intro v' w6 hown6 hgrow6 hv6
                  have hz6 := hgrow6.size
                  simp at hz6
                  have hgb : ∀ k, k < w.heap.size + 1 → w6.heap[k]? = w5.heap[k]? := fun k hk => (hgrow6.block k (by simp; omega) (fun e => by have := (HO5.out.lt k e.symm).1; omega)).trans ((BW.alloc (BW.refl w5) _).block k (by omega))
                  have HW6 : Hid (QRow w6 (w.heap.size + 1) (g + 1) v' (l ++ [x])) := QRow.snoc hrl HO5.out HN5.out HX.out (BW.alloc (BW.refl w5) _) (by simp) hown6 hgrow6 (by simpa using hv6)
                  have HR6 : Hid (RdP rb B N st6 w6) := HR5.out.up (fun k hk => hgb k (by omega)) (by omega)
                  have HF6 : Hid (F2 rb w.heap.size w w6) := HF5.out.hi hgb (by omega) hgrow6.os hgrow6.tape hgrow6.output (by omega)
                  have HT6 : Hid (TkIs w6 w.heap.size ops) := HT5.out.same (hgb _ (by omega))
                  have CE : Hid (Calls Tryd.prog 19 #[.pointer (some ⟨rb, 0, none⟩), .int .u8 2] w6 (PostP (tvl N) rb B N w6 (pExpect 2 st6))) := expect_any rb B N 2 (by omega) st6 w6 HR6.out
                  clear hown6 hgrow6 hv6 hgb HO5 HN5 HX HR5 HF5 HT5
                  cases he : pExpect 2 st6 with
                  | error er =>
                    rw [he] at CE HQ4
                    obtain rfl : R = .error er := HQ4.out.symm
                    clear he HQ4
                    go_wp2_with (fail)
                    refine CE.out.mono ?_
                    rintro e w7 ⟨rfl, f7⟩
                    exact ⟨rfl, rfl, F2.fl (HF6.out.trans (f7.f2 _)) (Fl.refl rb w) (Nat.le_refl _)⟩
                  | ok p =>
                    obtain ⟨t7, st7⟩ := p
                    have hlen7 := expect_lt he
                    rw [he] at CE HQ4
                    have HQ5 : Hid (pPre (l ++ [x]) (pCls (knd (g + 1)) (ttL (g + 1)) (pN (g + 1)).2 c 1 ops st7) = R) := by
                      show _ = R
                      rw [← HQ4.out]
                      have e18 : knd (g + 1) x = 17 := hkx
                      simp only
                      rw [e18]
                      rw [if_neg (show ¬ (17 : Int) = 18 by decide), if_neg (show ¬ (17 : Int) = 18 by decide), show (17 : Int).toNat - 16 = 1 by rfl]
                      refine Eq.trans (pre_cons2 l x (pCls (knd (g + 1)) (ttL (g + 1)) (pN (g + 1)).2 c 1 ops st7)) ?_
                      cases pCls (knd (g + 1)) (ttL (g + 1)) (pN (g + 1)).2 c 1 ops st7 with
                      | error e => rfl
                      | ok p => obtain ⟨m, q⟩ := p; rfl
                    clear he HQ4
                    go_wp2_with (fail)
                    refine CE.out.mono ?_
                    rintro e w7 ⟨v7, rfl, _, R7, F7⟩
                    have HR7 : Hid (RdP rb B N st7 w7) := R7
                    have HF7 : Hid (F2 rb w.heap.size w w7) := HF6.out.trans (F7.f2 _)
                    have HT7 : Hid (TkIs w7 w.heap.size ops) := HT6.out.same (F7.block _ (by omega) (by omega))
                    have HW7 : Hid (QRow w7 (w.heap.size + 1) (g + 1) v' (l ++ [x])) := HW6.out.keep (fun b hb hb2 => F7.block b hb2 (by omega)) F7.size
                    obtain ⟨o0, o1, o2, o3, o4, o5, o6, o7, o8⟩ := (HG.out.f2 HF7.out hrb (by omega)).ord
                    have hz7 := F7.size
                    have hrl7 : rowLen v' = l.length + 1 := by have := HW7.out.rowLen; simpa using this
                    clear R7 F7 CE HW6 HR6 HF6 HT6
                    go_wp2_with (fail)
                    go_roundw
                    case rel => exact ⟨l ++ [x], st7, 1, c, ops, by go_num, by omega, HW7.out, HR7.out, HT7.out, by simp; omega, by simp; omega, by omega, HQ5.out, by omega, HF7.out⟩
                    case measure => omega
              · have CC : Hid (Calls Tryd.prog 49 #[.pointer (some ⟨rb, 0, none⟩), .agg #[.string ⟨#[111, 110]⟩, .int .u8 18, .int .i64 2], .map (some w.heap.size), .int .i64 d] w4 (PostCl g rb B N w.heap.size 1 ops w4 (pClB g (pN g).1 1 ops st3))) := clause_on IN.out rb B N (w.heap.size) d ops hd (by omega) st3 w4 HR4.out HGv4.out hrb HT4.out (by omega)
                cases hp : pClB g (pN g).1 1 ops st3 with
                | error er =>
                  rw [hp] at CC HQ3
                  obtain rfl : R = .error er := HQ3.out.symm
                  have CC2 : Hid (Calls Tryd.prog 49 #[.pointer (some ⟨rb, 0, none⟩), .agg #[.string ⟨#[111, 110]⟩, .int .u8 18, .int .i64 2], .map (some w.heap.size), .int .i64 d] w4 (fun e w' => e = .panicked (thrP N er) ∧ F2 rb w.heap.size w4 w')) := CC.out
                  clear hp HQ3 CC
                  go_wp2_with (fail)
                  refine CC2.out.mono ?_
                  rintro e w5 ⟨rfl, f5⟩
                  exact ⟨rfl, rfl, F2.fl (HF4.out.trans f5) (Fl.refl rb w) (Nat.le_refl _)⟩
                | ok p =>
                  obtain ⟨x, st6⟩ := p
                  have hl6 := clB_le hp
                  have hkx : (Nd.k (K := Tr g) x) = 18 := clB_kind hp
                  rw [hp] at CC HQ3
                  have HQ4 : Hid (pPre l (match (match pExpect 2 st6 with
                    | .error e => .error e
                    | .ok (_, st7) => .ok (x, st7) : Pr (Tr (g + 1))) with
                    | .error e => .error e
                    | .ok (x, st1) => match pCls (knd (g + 1)) (ttL (g + 1)) (pN (g + 1)).2 c (if knd (g + 1) x = 18 then 1 else (knd (g + 1) x).toNat - 16) (if knd (g + 1) x = 18 then ops ++ [ttL (g + 1) x] else ops) st1 with
                      | .error e => .error e
                      | .ok (l, st2) => .ok (x :: l, st2)) = R) := HQ3.out
                  have CC2 : Hid (Calls Tryd.prog 49 #[.pointer (some ⟨rb, 0, none⟩), .agg #[.string ⟨#[111, 110]⟩, .int .u8 18, .int .i64 2], .map (some w.heap.size), .int .i64 d] w4 (fun e w' => ∃ v, e = .returned v ∧ NodeQ (fun b => w4.heap.size ≤ b ∧ b < w'.heap.size) w' (g + 1) v x ∧ RdP rb B N st6 w' ∧ TkIs w' w.heap.size (ops ++ [(Nd.s (K := Tr g) x).toList]) ∧ F2 rb w.heap.size w4 w')) := CC.out
                  clear hp HQ3 CC
                  go_wp2_with (fail)
                  refine CC2.out.mono ?_
                  rintro e w5 ⟨v5, rfl, hx, R5, T5, F5⟩
                  obtain ⟨r, rfl⟩ := hx.rw
                  have HR5 : Hid (RdP rb B N st6 w5) := R5
                  have HF5 : Hid (F2 rb w.heap.size w w5) := HF4.out.trans F5
                  have HT5 : Hid (TkIs w5 w.heap.size (ops ++ [(Nd.s (K := Tr g) x).toList])) := T5
                  have hz5 := F5.size
                  have hB5 := R5.2.2.2.2.1
                  have HW5 : QRow w5 (w.heap.size + 1) (g + 1) _ l := HW4.out.keep (fun b hb hb2 => F5.block b hb2 (by omega) (by omega)) F5.size
                  obtain ⟨rs, hrl, hown, hnod⟩ := HW5
                  have HX : Hid (NodeQ (fun b => w.heap.size + 1 ≤ b ∧ b < w5.heap.size ∧ Value.ownBlock _ ≠ some b) w5 (g + 1) r.v x) := NodeQ.keep (fun b hb => ⟨by omega, hb.2, fun e => by
                    obtain ⟨rs', _, ho', _⟩ := HW4.out
                    have := (ho'.lt b e).2
                    omega⟩) (fun _ _ _ => rfl) (Nat.le_refl _) hx
                  have HN5 : Hid (∀ (i : Nat) r x, rs[i]? = some r → l[i]? = some x → NodeQ (fun b => w.heap.size + 1 ≤ b ∧ b < w5.heap.size ∧ Value.ownBlock _ ≠ some b) w5 (g + 1) r.v x) := hnod
                  have HO5 : Hid (w5.ownsRow (w.heap.size + 1) 26 5 _ l.length (rs.flatMap rcs)) := hown
                  clear hx R5 F5 T5 CC2 HW4 HR4 HGv4 HF4 HT4 hnod hown o0 o1 o2 o3 o4 o5 o6 o7 o8
                  go_wp2_with (at_builtin; refine wpList_append_nodes rfl _ _ rfl (w.heap.size + 1) _ l.length (rs.flatMap rcs) ⟨w5.heap.size, 0, none⟩ 1 1 (rcs r) rfl rfl (HO5.out.alloc _) rfl (cells_new w5 26 (rcs r)) (rcs_one r) (by omega) (by simp; omega) ?_)
                  intro v' w6 hown6 hgrow6 hv6
                  have hz6 := hgrow6.size
                  simp at hz6
                  have hgb : ∀ k, k < w.heap.size + 1 → w6.heap[k]? = w5.heap[k]? := fun k hk => (hgrow6.block k (by simp; omega) (fun e => by have := (HO5.out.lt k e.symm).1; omega)).trans ((BW.alloc (BW.refl w5) _).block k (by omega))
                  have HW6 : Hid (QRow w6 (w.heap.size + 1) (g + 1) v' (l ++ [x])) := QRow.snoc hrl HO5.out HN5.out HX.out (BW.alloc (BW.refl w5) _) (by simp) hown6 hgrow6 (by simpa using hv6)
                  have HR6 : Hid (RdP rb B N st6 w6) := HR5.out.up (fun k hk => hgb k (by omega)) (by omega)
                  have HF6 : Hid (F2 rb w.heap.size w w6) := HF5.out.hi hgb (by omega) hgrow6.os hgrow6.tape hgrow6.output (by omega)
                  have HT6 : Hid (TkIs w6 w.heap.size (ops ++ [(Nd.s (K := Tr g) x).toList])) := HT5.out.same (hgb _ (by omega))
                  have CE : Hid (Calls Tryd.prog 19 #[.pointer (some ⟨rb, 0, none⟩), .int .u8 2] w6 (PostP (tvl N) rb B N w6 (pExpect 2 st6))) := expect_any rb B N 2 (by omega) st6 w6 HR6.out
                  clear hown6 hgrow6 hv6 hgb HO5 HN5 HX HR5 HF5 HT5
                  cases he : pExpect 2 st6 with
                  | error er =>
                    rw [he] at CE HQ4
                    obtain rfl : R = .error er := HQ4.out.symm
                    clear he HQ4
                    go_wp2_with (fail)
                    refine CE.out.mono ?_
                    rintro e w7 ⟨rfl, f7⟩
                    exact ⟨rfl, rfl, F2.fl (HF6.out.trans (f7.f2 _)) (Fl.refl rb w) (Nat.le_refl _)⟩
                  | ok p =>
                    obtain ⟨t7, st7⟩ := p
                    have hlen7 := expect_lt he
                    rw [he] at CE HQ4
                    have HQ5 : Hid (pPre (l ++ [x]) (pCls (knd (g + 1)) (ttL (g + 1)) (pN (g + 1)).2 c 1 (ops ++ [(Nd.s (K := Tr g) x).toList]) st7) = R) := by
                      show _ = R
                      rw [← HQ4.out]
                      have e18 : knd (g + 1) x = 18 := hkx
                      simp only
                      rw [e18]
                      rw [if_pos (show (18 : Int) = 18 by rfl), if_pos (show (18 : Int) = 18 by rfl), show ttL (g + 1) x = (Nd.s (K := Tr g) x).toList by rw [ByteArray.toList_eq]; rfl]
                      refine Eq.trans (pre_cons2 l x (pCls (knd (g + 1)) (ttL (g + 1)) (pN (g + 1)).2 c 1 (ops ++ [(Nd.s (K := Tr g) x).toList]) st7)) ?_
                      cases pCls (knd (g + 1)) (ttL (g + 1)) (pN (g + 1)).2 c 1 (ops ++ [(Nd.s (K := Tr g) x).toList]) st7 with
                      | error e => rfl
                      | ok p => obtain ⟨m, q⟩ := p; rfl
                    clear he HQ4
                    go_wp2_with (fail)
                    refine CE.out.mono ?_
                    rintro e w7 ⟨v7, rfl, _, R7, F7⟩
                    have HR7 : Hid (RdP rb B N st7 w7) := R7
                    have HF7 : Hid (F2 rb w.heap.size w w7) := HF6.out.trans (F7.f2 _)
                    have HT7 : Hid (TkIs w7 w.heap.size (ops ++ [(Nd.s (K := Tr g) x).toList])) := HT6.out.same (F7.block _ (by omega) (by omega))
                    have HW7 : Hid (QRow w7 (w.heap.size + 1) (g + 1) v' (l ++ [x])) := HW6.out.keep (fun b hb hb2 => F7.block b hb2 (by omega)) F7.size
                    obtain ⟨o0, o1, o2, o3, o4, o5, o6, o7, o8⟩ := (HG.out.f2 HF7.out hrb (by omega)).ord
                    have hz7 := F7.size
                    have hrl7 : rowLen v' = l.length + 1 := by have := HW7.out.rowLen; simpa using this
                    clear R7 F7 CE HW6 HR6 HF6 HT6
                    go_wp2_with (fail)
                    go_roundw
                    case rel => exact ⟨l ++ [x], st7, 1, c, (ops ++ [(Nd.s (K := Tr g) x).toList]), by go_num, by omega, HW7.out, HR7.out, HT7.out, by simp; omega, by simp; omega, by omega, HQ5.out, by omega, HF7.out⟩
                    case measure => omega
              · have CC : Hid (Calls Tryd.prog 49 #[.pointer (some ⟨rb, 0, none⟩), .agg #[.string ⟨#[102, 105, 110, 97, 108, 108, 121]⟩, .int .u8 19, .int .i64 0], .map (some w.heap.size), .int .i64 d] w4 (PostCl g rb B N w.heap.size 2 ops w4 (pClB g (pN g).1 2 ops st3))) := clause_fin IN.out rb B N (w.heap.size) d ops hd st3 w4 HR4.out HGv4.out hrb HT4.out (by omega)
                cases hp : pClB g (pN g).1 2 ops st3 with
                | error er =>
                  rw [hp] at CC HQ3
                  obtain rfl : R = .error er := HQ3.out.symm
                  have CC2 : Hid (Calls Tryd.prog 49 #[.pointer (some ⟨rb, 0, none⟩), .agg #[.string ⟨#[102, 105, 110, 97, 108, 108, 121]⟩, .int .u8 19, .int .i64 0], .map (some w.heap.size), .int .i64 d] w4 (fun e w' => e = .panicked (thrP N er) ∧ F2 rb w.heap.size w4 w')) := CC.out
                  clear hp HQ3 CC
                  go_wp2_with (fail)
                  refine CC2.out.mono ?_
                  rintro e w5 ⟨rfl, f5⟩
                  exact ⟨rfl, rfl, F2.fl (HF4.out.trans f5) (Fl.refl rb w) (Nat.le_refl _)⟩
                | ok p =>
                  obtain ⟨x, st6⟩ := p
                  have hl6 := clB_le hp
                  have hkx : (Nd.k (K := Tr g) x) = 19 := clB_kind hp
                  rw [hp] at CC HQ3
                  have HQ4 : Hid (pPre l (match (match pExpect 2 st6 with
                    | .error e => .error e
                    | .ok (_, st7) => .ok (x, st7) : Pr (Tr (g + 1))) with
                    | .error e => .error e
                    | .ok (x, st1) => match pCls (knd (g + 1)) (ttL (g + 1)) (pN (g + 1)).2 c (if knd (g + 1) x = 18 then 1 else (knd (g + 1) x).toNat - 16) (if knd (g + 1) x = 18 then ops ++ [ttL (g + 1) x] else ops) st1 with
                      | .error e => .error e
                      | .ok (l, st2) => .ok (x :: l, st2)) = R) := HQ3.out
                  have CC2 : Hid (Calls Tryd.prog 49 #[.pointer (some ⟨rb, 0, none⟩), .agg #[.string ⟨#[102, 105, 110, 97, 108, 108, 121]⟩, .int .u8 19, .int .i64 0], .map (some w.heap.size), .int .i64 d] w4 (fun e w' => ∃ v, e = .returned v ∧ NodeQ (fun b => w4.heap.size ≤ b ∧ b < w'.heap.size) w' (g + 1) v x ∧ RdP rb B N st6 w' ∧ TkIs w' w.heap.size ops ∧ F2 rb w.heap.size w4 w')) := CC.out
                  clear hp HQ3 CC
                  go_wp2_with (fail)
                  refine CC2.out.mono ?_
                  rintro e w5 ⟨v5, rfl, hx, R5, T5, F5⟩
                  obtain ⟨r, rfl⟩ := hx.rw
                  have HR5 : Hid (RdP rb B N st6 w5) := R5
                  have HF5 : Hid (F2 rb w.heap.size w w5) := HF4.out.trans F5
                  have HT5 : Hid (TkIs w5 w.heap.size ops) := T5
                  have hz5 := F5.size
                  have hB5 := R5.2.2.2.2.1
                  have HW5 : QRow w5 (w.heap.size + 1) (g + 1) _ l := HW4.out.keep (fun b hb hb2 => F5.block b hb2 (by omega) (by omega)) F5.size
                  obtain ⟨rs, hrl, hown, hnod⟩ := HW5
                  have HX : Hid (NodeQ (fun b => w.heap.size + 1 ≤ b ∧ b < w5.heap.size ∧ Value.ownBlock _ ≠ some b) w5 (g + 1) r.v x) := NodeQ.keep (fun b hb => ⟨by omega, hb.2, fun e => by
                    obtain ⟨rs', _, ho', _⟩ := HW4.out
                    have := (ho'.lt b e).2
                    omega⟩) (fun _ _ _ => rfl) (Nat.le_refl _) hx
                  have HN5 : Hid (∀ (i : Nat) r x, rs[i]? = some r → l[i]? = some x → NodeQ (fun b => w.heap.size + 1 ≤ b ∧ b < w5.heap.size ∧ Value.ownBlock _ ≠ some b) w5 (g + 1) r.v x) := hnod
                  have HO5 : Hid (w5.ownsRow (w.heap.size + 1) 26 5 _ l.length (rs.flatMap rcs)) := hown
                  clear hx R5 F5 T5 CC2 HW4 HR4 HGv4 HF4 HT4 hnod hown o0 o1 o2 o3 o4 o5 o6 o7 o8
                  go_wp2_with (at_builtin; refine wpList_append_nodes rfl _ _ rfl (w.heap.size + 1) _ l.length (rs.flatMap rcs) ⟨w5.heap.size, 0, none⟩ 1 1 (rcs r) rfl rfl (HO5.out.alloc _) rfl (cells_new w5 26 (rcs r)) (rcs_one r) (by omega) (by simp; omega) ?_)
                  intro v' w6 hown6 hgrow6 hv6
                  have hz6 := hgrow6.size
                  simp at hz6
                  have hgb : ∀ k, k < w.heap.size + 1 → w6.heap[k]? = w5.heap[k]? := fun k hk => (hgrow6.block k (by simp; omega) (fun e => by have := (HO5.out.lt k e.symm).1; omega)).trans ((BW.alloc (BW.refl w5) _).block k (by omega))
                  have HW6 : Hid (QRow w6 (w.heap.size + 1) (g + 1) v' (l ++ [x])) := QRow.snoc hrl HO5.out HN5.out HX.out (BW.alloc (BW.refl w5) _) (by simp) hown6 hgrow6 (by simpa using hv6)
                  have HR6 : Hid (RdP rb B N st6 w6) := HR5.out.up (fun k hk => hgb k (by omega)) (by omega)
                  have HF6 : Hid (F2 rb w.heap.size w w6) := HF5.out.hi hgb (by omega) hgrow6.os hgrow6.tape hgrow6.output (by omega)
                  have HT6 : Hid (TkIs w6 w.heap.size ops) := HT5.out.same (hgb _ (by omega))
                  have CE : Hid (Calls Tryd.prog 19 #[.pointer (some ⟨rb, 0, none⟩), .int .u8 2] w6 (PostP (tvl N) rb B N w6 (pExpect 2 st6))) := expect_any rb B N 2 (by omega) st6 w6 HR6.out
                  clear hown6 hgrow6 hv6 hgb HO5 HN5 HX HR5 HF5 HT5
                  cases he : pExpect 2 st6 with
                  | error er =>
                    rw [he] at CE HQ4
                    obtain rfl : R = .error er := HQ4.out.symm
                    clear he HQ4
                    go_wp2_with (fail)
                    refine CE.out.mono ?_
                    rintro e w7 ⟨rfl, f7⟩
                    exact ⟨rfl, rfl, F2.fl (HF6.out.trans (f7.f2 _)) (Fl.refl rb w) (Nat.le_refl _)⟩
                  | ok p =>
                    obtain ⟨t7, st7⟩ := p
                    have hlen7 := expect_lt he
                    rw [he] at CE HQ4
                    have HQ5 : Hid (pPre (l ++ [x]) (pCls (knd (g + 1)) (ttL (g + 1)) (pN (g + 1)).2 c 3 ops st7) = R) := by
                      show _ = R
                      rw [← HQ4.out]
                      have e18 : knd (g + 1) x = 19 := hkx
                      simp only
                      rw [e18]
                      rw [if_neg (show ¬ (19 : Int) = 18 by decide), if_neg (show ¬ (19 : Int) = 18 by decide), show (19 : Int).toNat - 16 = 3 by rfl]
                      refine Eq.trans (pre_cons2 l x (pCls (knd (g + 1)) (ttL (g + 1)) (pN (g + 1)).2 c 3 ops st7)) ?_
                      cases pCls (knd (g + 1)) (ttL (g + 1)) (pN (g + 1)).2 c 3 ops st7 with
                      | error e => rfl
                      | ok p => obtain ⟨m, q⟩ := p; rfl
                    clear he HQ4
                    go_wp2_with (fail)
                    refine CE.out.mono ?_
                    rintro e w7 ⟨v7, rfl, _, R7, F7⟩
                    have HR7 : Hid (RdP rb B N st7 w7) := R7
                    have HF7 : Hid (F2 rb w.heap.size w w7) := HF6.out.trans (F7.f2 _)
                    have HT7 : Hid (TkIs w7 w.heap.size ops) := HT6.out.same (F7.block _ (by omega) (by omega))
                    have HW7 : Hid (QRow w7 (w.heap.size + 1) (g + 1) v' (l ++ [x])) := HW6.out.keep (fun b hb hb2 => F7.block b hb2 (by omega)) F7.size
                    obtain ⟨o0, o1, o2, o3, o4, o5, o6, o7, o8⟩ := (HG.out.f2 HF7.out hrb (by omega)).ord
                    have hz7 := F7.size
                    have hrl7 : rowLen v' = l.length + 1 := by have := HW7.out.rowLen; simpa using this
                    clear R7 F7 CE HW6 HR6 HF6 HT6
                    go_wp2_with (fail)
                    go_roundw
                    case rel => exact ⟨l ++ [x], st7, 3, c, ops, by go_num, by omega, HW7.out, HR7.out, HT7.out, by simp; omega, by simp; omega, by omega, HQ5.out, by omega, HF7.out⟩
                    case measure => omega

end Go.Proofs.YtlacjiihbbgbeaaDoor
