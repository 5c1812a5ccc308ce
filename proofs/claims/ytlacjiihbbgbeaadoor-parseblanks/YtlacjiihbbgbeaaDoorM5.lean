import Derived.Test.YtlacjiihbbgbeaaDoorM4
namespace Go.Proofs.YtlacjiihbbgbeaaDoor
open Go.RowKit
set_option linter.unusedVariables false
set_option linter.unusedSimpArgs false

theorem params_sim : SimF pParams := by
  intro st st' x q hs h
  unfold pParams at h
  cases hx : pExpect 1 st with
  | error e => rw [hx] at h; cases h
  | ok p =>
    obtain ⟨t, st1⟩ := p
    rw [hx] at h
    simp only at h
    cases hy : pParF (st1.1.length + 1) [] st1 with
    | error e => rw [hy] at h; cases h
    | ok p =>
      obtain ⟨l, st2⟩ := p
      rw [hy] at h
      simp only at h
      cases hz : pTake st2 with
      | error e => rw [hz] at h; cases h
      | ok p =>
        obtain ⟨u, st3⟩ := p
        rw [hz] at h
        cases h
        obtain ⟨t', q1, e1, _, s1⟩ := expect_sim hs hx
        obtain ⟨q2, e2, s2⟩ := par_sim _ _ _ _ _ _ s1 hy
        obtain ⟨u', q3, e3, _, s3⟩ := take_sim s2 hz
        rw [s1.len] at e2
        exact ⟨q3, by simp only [pParams, e1, e2, e3], s3⟩
theorem opt_sim {X : Type} {p : Ps → Pr X} (b : Prop) [Decidable b] (x0 : X) (h : SimF p) : SimF (fun st => if b then p st else .ok (x0, st)) := by
  intro st st' x q hs hh
  simp only at hh ⊢
  split at hh
  · rename_i hb
    rw [if_pos hb]
    exact h _ _ _ _ hs hh
  · rename_i hb
    rw [if_neg hb]
    cases hh
    exact ⟨st', rfl, hs⟩
theorem form_sim {f : Nat} {node : Ps → Pr (Tr f)} {cl : Nat → List (List UInt8) → Ps → Pr (Tr f)} (hn : SimF node) (hc : ∀ a l, SimF (cl a l)) (F : Fo) : SimF (pForm f node cl F) := by
  intro st st' x q hs h
  unfold pForm at h
  cases h1 : (if F.named then pName [] st else .ok ([], st) : Pr (List UInt8)) with
  | error e => rw [h1] at h; cases h
  | ok p1 =>
    obtain ⟨s, st1⟩ := p1
    rw [h1] at h
    simp only at h
    cases h2 : (if F.kind = 6 then pParams st1 else .ok ([], st1) : Pr (List (List UInt8))) with
    | error e => rw [h2] at h; cases h
    | ok p2 =>
      obtain ⟨ns, st2⟩ := p2
      rw [h2] at h
      simp only at h
      cases h3 : pMany node F.parts st2 with
      | error e => rw [h3] at h; cases h
      | ok p3 =>
        obtain ⟨l, st3⟩ := p3
        rw [h3] at h
        simp only at h
        cases h4 : (if F.more then pMore node (st3.1.length + 1) st3 else .ok ([], st3) : Pr (List (Tr f))) with
        | error e => rw [h4] at h; cases h
        | ok p4 =>
          obtain ⟨l2, st4⟩ := p4
          rw [h4] at h
          simp only at h
          cases h5 : (if F.kind = 13 then pCls (knd f) (ttL f) cl (st4.1.length + 1) 0 [] st4 else .ok ([], st4) : Pr (List (Tr f))) with
          | error e => rw [h5] at h; cases h
          | ok p5 =>
            obtain ⟨l3, st5⟩ := p5
            rw [h5] at h
            cases h
            obtain ⟨q1, e1, s1⟩ := opt_sim (F.named = true) [] (name_sim []) _ _ _ _ hs h1
            obtain ⟨q2, e2, s2⟩ := opt_sim (F.kind = 6) [] params_sim _ _ _ _ s1 h2
            obtain ⟨q3, e3, s3⟩ := many_sim hn _ _ _ _ _ s2 h3
            obtain ⟨q4, e4, s4⟩ := opt_sim (F.more = true) [] (more_sim hn (st3.1.length + 1)) _ _ _ _ s3 h4
            obtain ⟨q5, e5, s5⟩ := opt_sim (F.kind = 13) [] (cls_sim (kd := knd f) (tt := ttL f) hc (st4.1.length + 1) 0 []) _ _ _ _ s4 h5
            simp only at e1 e2 e4 e5
            rw [s3.len] at e4
            rw [s4.len] at e5
            refine ⟨q5, ?_, s5⟩
            unfold pForm
            rw [e1]
            simp only
            rw [e2]
            simp only
            rw [e3]
            simp only
            rw [e4]
            simp only
            rw [e5]
theorem br_sim {f : Nat} {node : Ps → Pr (Tr f)} {cl : Nat → List (List UInt8) → Ps → Pr (Tr f)} (hn : SimF node) (hc : ∀ a l, SimF (cl a l)) : SimF (pBr f node cl) := by
  intro st st' x q hs h
  unfold pBr at h
  cases hx : pExpect 3 st with
  | error e => rw [hx] at h; cases h
  | ok p =>
    obtain ⟨t, st1⟩ := p
    rw [hx] at h
    simp only at h
    obtain ⟨t', q1, e1, k1, s1⟩ := expect_sim hs hx
    have ks := (tkey_eq k1).2.1
    split at h
    · rename_i h0
      cases hy : pMany node (tk t.s).toNat st1 with
      | error e => rw [hy] at h; cases h
      | ok p =>
        obtain ⟨l, st2⟩ := p
        rw [hy] at h
        cases h
        obtain ⟨q2, e2, s2⟩ := many_sim hn _ _ _ _ _ s1 hy
        refine ⟨q2, ?_, s2⟩
        unfold pBr
        rw [e1]
        simp only
        rw [ks, if_pos h0, e2]
    · rename_i h0
      cases hf : foOf t.s with
      | none => rw [hf] at h; cases h
      | some F =>
        rw [hf] at h
        simp only at h
        obtain ⟨q2, e2, s2⟩ := form_sim hn hc F _ _ _ _ s1 h
        refine ⟨q2, ?_, s2⟩
        unfold pBr
        rw [e1]
        simp only
        rw [ks, if_neg h0, hf]
        exact e2
theorem beg_sim {t t' : Tok} {st st' q : Ps} (hs : Sim st st') (h : pBeg false t st = .ok q) : ∃ q', pBeg false t' st' = .ok q' ∧ Sim q q' := by
  unfold pBeg at h
  split at h
  · cases h
  · rename_i hg
    cases h
    refine ⟨(st'.1, st'.2 + 1), ?_, hs.1, by rw [hs.2]⟩
    unfold pBeg
    rw [← hs.2, if_neg hg]
theorem node_sim {f : Nat} {node : Ps → Pr (Tr f)} {cl : Nat → List (List UInt8) → Ps → Pr (Tr f)} (hn : SimF node) (hc : ∀ a l, SimF (cl a l)) : SimF (pNodeS f node cl) := by
  intro st st' x q hs h
  unfold pNodeS at h
  cases hx : pTake st with
  | error e => rw [hx] at h; cases h
  | ok p =>
    obtain ⟨t, st1⟩ := p
    rw [hx] at h
    simp only at h
    obtain ⟨t', q1, e1, k1, s1⟩ := take_sim hs hx
    obtain ⟨kk, ks, kn⟩ := tkey_eq k1
    split at h
    · cases h
    · rename_i h2
      cases hb : pBeg false t st1 with
      | error e => rw [hb] at h; cases h
      | ok st2 =>
        rw [hb] at h
        simp only at h
        obtain ⟨q2, e2, s2⟩ := beg_sim (t' := t') s1 hb
        have U : pNodeS f node cl st' = (if t.kind = 4 then .ok ((⟨1, t.n, ⟨#[]⟩, [], []⟩ : Nd (Tr f)), q2) else if t.kind = 5 then .ok ((⟨3, 0, bsB t.s, [], []⟩ : Nd (Tr f)), q2) else if t.kind = 3 then .ok (pPlain f t.s, q2) else match pBr f node cl q2 with
            | .error e => .error e
            | .ok (x, st3) => match pExpect 2 st3 with
              | .error e => .error e
              | .ok (_, st4) => .ok (x, st4)) := by
          unfold pNodeS
          rw [e1]
          simp only
          rw [kk, if_neg h2, e2]
          simp only [ks, kn]
          cases pBr f node cl q2 with
          | error e => rfl
          | ok p =>
            obtain ⟨a, b⟩ := p
            simp only
            cases pExpect 2 b with
            | error e => rfl
            | ok p => rfl
        rw [U]
        split at h
        · rename_i h4
          cases h
          exact ⟨q2, by rw [if_pos h4], s2⟩
        · rename_i h4
          rw [if_neg h4]
          split at h
          · rename_i h5
            cases h
            exact ⟨q2, by rw [if_pos h5], s2⟩
          · rename_i h5
            rw [if_neg h5]
            split at h
            · rename_i h3
              cases h
              exact ⟨q2, by rw [if_pos h3], s2⟩
            · rename_i h3
              rw [if_neg h3]
              cases hr : pBr f node cl st2 with
              | error e => rw [hr] at h; cases h
              | ok p =>
                obtain ⟨y, st3⟩ := p
                rw [hr] at h
                simp only at h
                cases he : pExpect 2 st3 with
                | error e => rw [he] at h; cases h
                | ok p =>
                  obtain ⟨u, st4⟩ := p
                  rw [he] at h
                  cases h
                  obtain ⟨q3, e3, s3⟩ := br_sim hn hc _ _ _ _ s2 hr
                  obtain ⟨u', q4, e4, _, s4⟩ := expect_sim s3 he
                  exact ⟨q4, by rw [e3]; simp only; rw [e4], s4⟩
theorem cl_sim {f : Nat} {node : Ps → Pr (Tr f)} (hn : SimF node) (a : Nat) (ops : List (List UInt8)) : SimF (pClS f node a ops) := by
  intro st st' x q hs h
  unfold pClS at h
  cases h1 : pExpect 1 st with
  | error e => rw [h1] at h; cases h
  | ok p1 =>
    obtain ⟨t, st1⟩ := p1
    rw [h1] at h
    simp only at h
    cases h2 : pBeg false t st1 with
    | error e => rw [h2] at h; cases h
    | ok st2 =>
      rw [h2] at h
      simp only at h
      cases h3 : pExpect 3 st2 with
      | error e => rw [h3] at h; cases h
      | ok p3 =>
        obtain ⟨t2, st3⟩ := p3
        rw [h3] at h
        simp only at h
        cases h4 : clOf a t2.s with
        | none => rw [h4] at h; cases h
        | some k =>
          rw [h4] at h
          simp only at h
          cases h5 : (if k = 1 then pName ops st3 else .ok ([], st3) : Pr (List UInt8)) with
          | error e => rw [h5] at h; cases h
          | ok p5 =>
            obtain ⟨s, st4⟩ := p5
            rw [h5] at h
            simp only at h
            cases h6 : pNms (if k = 0 then 1 else if k = 1 then 2 else 0) [] st4 with
            | error e => rw [h6] at h; cases h
            | ok p6 =>
              obtain ⟨ns, st5⟩ := p6
              rw [h6] at h
              simp only at h
              cases h7 : pMany node 1 st5 with
              | error e => rw [h7] at h; cases h
              | ok p7 =>
                obtain ⟨l, st6⟩ := p7
                rw [h7] at h
                simp only at h
                cases h8 : pExpect 2 st6 with
                | error e => rw [h8] at h; cases h
                | ok p8 =>
                  obtain ⟨t3, st7⟩ := p8
                  rw [h8] at h
                  cases h
                  obtain ⟨t', q1, e1, _, s1⟩ := expect_sim hs h1
                  obtain ⟨q2, e2, s2⟩ := beg_sim (t' := t') s1 h2
                  obtain ⟨t2', q3, e3, k3, s3⟩ := expect_sim s2 h3
                  obtain ⟨q4, e4, s4⟩ := opt_sim (k = 1) [] (name_sim ops) _ _ _ _ s3 h5
                  obtain ⟨q5, e5, s5⟩ := nms_sim _ _ _ _ _ _ s4 h6
                  obtain ⟨q6, e6, s6⟩ := many_sim hn _ _ _ _ _ s5 h7
                  obtain ⟨t3', q7, e7, _, s7⟩ := expect_sim s6 h8
                  simp only at e4
                  refine ⟨q7, ?_, s7⟩
                  unfold pClS
                  rw [e1]
                  simp only
                  rw [e2]
                  simp only
                  rw [e3]
                  simp only
                  rw [(tkey_eq k3).2.1, h4]
                  simp only
                  rw [e4]
                  simp only
                  rw [e5]
                  simp only
                  rw [e6]
                  simp only
                  rw [e7]
theorem pN_sim : ∀ f, SimF (pN f).1 ∧ ∀ a l, SimF ((pN f).2 a l) := by
  intro f
  induction f with
  | zero =>
    refine ⟨?_, ?_⟩
    · intro st st' x q hs h
      exact x.elim
    · intro a l st st' x q hs h
      exact x.elim
  | succ f ih => exact ⟨node_sim ih.1 ih.2, cl_sim ih.1⟩
/-- A tree is read the same wherever the tokens stand. -/
theorem prog_sim {ts ts' : List Tok} {x : Tr 60} (hs : ts.map tkey = ts'.map tkey) (h : pProg ts = .ok x) : pProg ts' = .ok x := by
  unfold pProg at h
  cases hx : (pN 60).1 (ts, 0) with
  | error e => rw [hx] at h; cases h
  | ok p =>
    obtain ⟨y, q⟩ := p
    rw [hx] at h
    simp only at h
    obtain ⟨q', e1, s1⟩ := (pN_sim 60).1 _ _ _ _ (show Sim (ts, 0) (ts', 0) from ⟨hs, rfl⟩) hx
    unfold pProg
    rw [e1]
    simp only
    obtain ⟨rest, g⟩ := q
    cases rest with
    | nil =>
      rw [s1.nil]
      exact h
    | cons a r => cases h

end Go.Proofs.YtlacjiihbbgbeaaDoor
