import Derived.Test.YtijoadkjkbkjgaaDoorF10
namespace Go.Proofs.YtijoadkjkbkjgaaDoor
open Go.RowKit
set_option linter.unusedVariables false
set_option linter.unusedSimpArgs false


/-- The value v is the node t; its memory lies in blocks of which P holds. -/
def NodeQ (P : Nat → Prop) (W : World) : (n : Nat) → Value → Tr n → Prop
  | 0, _, _ => False
  | n + 1, v, t => ∃ na nl nc ka kl kc, v = ndv (Nd.k (K := Tr n) t) (Nd.n (K := Tr n) t) (Nd.s (K := Tr n) t) na nl nc ka kl kc ∧ Wf (K := Tr n) t ∧ (nl ≤ nc ∧ nc ≤ maxLen ∧ kl ≤ kc ∧ kc ≤ maxLen) ∧ StrsAt W na nl (Nd.ns (K := Tr n) t) ∧ SeqAt (NodeQ P W n) W ka kl (Nd.ks (K := Tr n) t) ∧ (nl = 0 ∨ ∃ b off, na = some ⟨b, off, none⟩ ∧ P b) ∧ (kl = 0 ∨ ∃ b off, ka = some ⟨b, off, none⟩ ∧ P b)
theorem SeqAt.imp {K : Type} {At At' : Value → K → Prop} {W : World} {ao : Option Addr} {ln : Nat} {l : List K} (h : SeqAt At W ao ln l) (m : ∀ v x, At v x → At' v x) : SeqAt At' W ao ln l := h.bw (BW.refl W) m
theorem NodeQ.at' {P : Nat → Prop} {W : World} : ∀ {n : Nat} {v : Value} {t : Tr n}, NodeQ P W n v t → NodeAt W n v t := by
  intro n
  induction n with
  | zero => intro v t h; exact h.elim
  | succ n ih =>
    intro v t h
    obtain ⟨na, nl, nc, ka, kl, kc, e, wf, ⟨a1, a2, a3, a4⟩, s1, s2, _⟩ := h
    exact ⟨na, nl, nc, ka, kl, kc, e, wf, a1, a2, a3, a4, s1, s2.imp (fun _ _ hh => ih hh)⟩
/-- Where the blocks are as they were. -/
theorem NodeQ.keep {P P' : Nat → Prop} {W W' : World} (hp : ∀ b, P b → P' b) (k : ∀ b, P b → b < W.heap.size → W'.heap[b]? = W.heap[b]?) (hz : W.heap.size ≤ W'.heap.size) : ∀ {n : Nat} {v : Value} {t : Tr n}, NodeQ P W n v t → NodeQ P' W' n v t := by
  intro n
  induction n with
  | zero => intro v t h; exact h.elim
  | succ n ih =>
    intro v t h
    obtain ⟨na, nl, nc, ka, kl, kc, e, wf, a, s1, s2, p1, p2⟩ := h
    refine ⟨na, nl, nc, ka, kl, kc, e, wf, a, ?_, ?_, ?_, ?_⟩
    · obtain ⟨h1, h2, h3, h4⟩ := s1
      refine ⟨h1, h2, h3, ?_⟩
      rcases p1 with p1 | ⟨b, off, rfl, pb⟩
      · exact .inl p1
      · rcases h4 with h4 | ⟨b', off', e', hb, hc⟩
        · exact .inl h4
        · cases e'
          exact .inr ⟨b, off, rfl, Nat.lt_of_lt_of_le hb hz, fun i s hs => (cell_block (k b pb hb) _).trans (hc i s hs)⟩
    · obtain ⟨h1, h2, h4⟩ := s2
      refine ⟨h1, h2, ?_⟩
      rcases p2 with p2 | ⟨b, off, rfl, pb⟩
      · exact .inl p2
      · rcases h4 with h4 | ⟨b', off', e', hb, hc⟩
        · exact .inl h4
        · cases e'
          refine .inr ⟨b, off, rfl, Nat.lt_of_lt_of_le hb hz, fun i x hx => ?_⟩
          obtain ⟨r, ⟨c0, c1, c2, c3, c4⟩, ha⟩ := hc i x hx
          have F := fun o => cell_block (k b pb hb) o
          exact ⟨r, ⟨(F _).trans c0, (F _).trans c1, (F _).trans c2, (F _).trans c3, (F _).trans c4⟩, ih ha⟩
    · rcases p1 with p1 | ⟨b, off, e, pb⟩
      · exact .inl p1
      · exact .inr ⟨b, off, e, hp b pb⟩
    · rcases p2 with p2 | ⟨b, off, e, pb⟩
      · exact .inl p2
      · exact .inr ⟨b, off, e, hp b pb⟩
theorem NodeQ.rw {P : Nat → Prop} {w : World} {f : Nat} {v : Value} {x : Tr f} (h : NodeQ P w f v x) : ∃ r : Rw, v = r.v := by
  cases f with
  | zero => exact h.elim
  | succ f =>
    obtain ⟨na, nl, nc, ka, kl, kc, rfl, _⟩ := h
    exact ⟨⟨_, _, _, na, nl, nc, ka, kl, kc⟩, rfl⟩

end Go.Proofs.YtijoadkjkbkjgaaDoor
