import Derived.Test.YtlacjiihbbgbeaaDoorN7
namespace Go.Proofs.YtlacjiihbbgbeaaDoor
open Go.RowKit
set_option linter.unusedVariables false
set_option linter.unusedSimpArgs false

/-- The value v is the node t; its memory lies in blocks of which P holds. -/
def NodeQ (P : Nat → Prop) (W : World) : (n : Nat) → Value → Tr n → Prop
  | 0, _, _ => False
  | n + 1, v, t => ∃ na nl nc ka kl kc, v = ndv (Nd.k (K := Tr n) t) (Nd.n (K := Tr n) t) (Nd.s (K := Tr n) t) na nl nc ka kl kc ∧ Wf (K := Tr n) t ∧ (nl ≤ nc ∧ nc ≤ maxLen ∧ kl ≤ kc ∧ kc ≤ maxLen) ∧ StrsAt W na nl (Nd.ns (K := Tr n) t) ∧ SeqAt (NodeQ P W n) W ka kl (Nd.ks (K := Tr n) t) ∧ (nl = 0 ∨ ∃ b off, na = some ⟨b, off, none⟩ ∧ P b) ∧ (kl = 0 ∨ ∃ b off, ka = some ⟨b, off, none⟩ ∧ P b)
theorem SeqAt.imp {K : Type} {At At' : Value → K → Prop} {W : World} {ao : Option Addr} {ln : Nat} {l : List K} (h : SeqAt At W ao ln l) (m : ∀ v x, At v x → At' v x) : SeqAt At' W ao ln l := h.bw (BW.refl W) m
theorem NodeQ.at' {P : Nat → Prop} {W : World} : ∀ {n : Nat} {v : Value} {t : Tr n}, NodeQ P W n v t → NodeAt W n v t := by
  intro n
  induction n with
  | zero => intro v t h; exact h.elim
  | succ n ih =>
    intro v t h
    obtain ⟨na, nl, nc, ka, kl, kc, e, wf, ⟨a1, a2, a3, a4⟩, s1, s2, _⟩ := h
    exact ⟨na, nl, nc, ka, kl, kc, e, wf, a1, a2, a3, a4, s1, s2.imp (fun _ _ hh => ih hh)⟩
/-- Where the blocks are as they were. -/
theorem NodeQ.keep {P P' : Nat → Prop} {W W' : World} (hp : ∀ b, P b → P' b) (k : ∀ b, P b → b < W.heap.size → W'.heap[b]? = W.heap[b]?) (hz : W.heap.size ≤ W'.heap.size) : ∀ {n : Nat} {v : Value} {t : Tr n}, NodeQ P W n v t → NodeQ P' W' n v t := by
  intro n
  induction n with
  | zero => intro v t h; exact h.elim
  | succ n ih =>
    intro v t h
    obtain ⟨na, nl, nc, ka, kl, kc, e, wf, a, s1, s2, p1, p2⟩ := h
    refine ⟨na, nl, nc, ka, kl, kc, e, wf, a, ?_, ?_, ?_, ?_⟩
    · obtain ⟨h1, h2, h3, h4⟩ := s1
      refine ⟨h1, h2, h3, ?_⟩
      rcases p1 with p1 | ⟨b, off, rfl, pb⟩
      · exact .inl p1
      · rcases h4 with h4 | ⟨b', off', e', hb, hc⟩
        · exact .inl h4
        · cases e'
          exact .inr ⟨b, off, rfl, Nat.lt_of_lt_of_le hb hz, fun i s hs => (cell_block (k b pb hb) _).trans (hc i s hs)⟩
    · obtain ⟨h1, h2, h4⟩ := s2
      refine ⟨h1, h2, ?_⟩
      rcases p2 with p2 | ⟨b, off, rfl, pb⟩
      · exact .inl p2
      · rcases h4 with h4 | ⟨b', off', e', hb, hc⟩
        · exact .inl h4
        · cases e'
          refine .inr ⟨b, off, rfl, Nat.lt_of_lt_of_le hb hz, fun i x hx => ?_⟩
          obtain ⟨r, ⟨c0, c1, c2, c3, c4⟩, ha⟩ := hc i x hx
          have F := fun o => cell_block (k b pb hb) o
          exact ⟨r, ⟨(F _).trans c0, (F _).trans c1, (F _).trans c2, (F _).trans c3, (F _).trans c4⟩, ih ha⟩
    · rcases p1 with p1 | ⟨b, off, e, pb⟩
      · exact .inl p1
      · exact .inr ⟨b, off, e, hp b pb⟩
    · rcases p2 with p2 | ⟨b, off, e, pb⟩
      · exact .inl p2
      · exact .inr ⟨b, off, e, hp b pb⟩
theorem NodeQ.rw {P : Nat → Prop} {w : World} {f : Nat} {v : Value} {x : Tr f} (h : NodeQ P w f v x) : ∃ r : Rw, v = r.v := by
  cases f with
  | zero => exact h.elim
  | succ f =>
    obtain ⟨na, nl, nc, ka, kl, kc, rfl, _⟩ := h
    exact ⟨⟨_, _, _, na, nl, nc, ka, kl, kc⟩, rfl⟩
/-- A row of nodes of one's own, all of it from lo on. -/
def QRow (w : World) (lo f : Nat) (v : Value) (l : List (Tr f)) : Prop := ∃ rs : List Rw, rs.length = l.length ∧ w.ownsRow lo 26 5 v l.length (rs.flatMap rcs) ∧ ∀ (i : Nat) r x, rs[i]? = some r → l[i]? = some x → NodeQ (fun b => lo ≤ b ∧ b < w.heap.size ∧ v.ownBlock ≠ some b) w f r.v x
theorem QRow.nil (w : World) (lo f : Nat) : QRow w lo f (.slice none 0 0) ([] : List (Tr f)) := ⟨[], rfl, World.ownsRow_nil _ _ _ _, fun i r x h => by simp at h⟩
/-- .. where all from lo on is as it was. -/
theorem QRow.keep {w w' : World} {lo f : Nat} {v : Value} {l : List (Tr f)} (h : QRow w lo f v l) (k : ∀ b, lo ≤ b → b < w.heap.size → w'.heap[b]? = w.heap[b]?) (hz : w.heap.size ≤ w'.heap.size) : QRow w' lo f v l := by
  obtain ⟨rs, h1, h2, h3⟩ := h
  refine ⟨rs, h1, ?_, fun i r x a b => NodeQ.keep (fun c hc => ⟨hc.1, Nat.lt_of_lt_of_le hc.2.1 hz, hc.2.2⟩) (fun c hc hl => k c hc.1 hl) hz (h3 i r x a b)⟩
  obtain ⟨q2, q3⟩ := h2
  refine ⟨q2, ?_⟩
  rcases q3 with q3 | ⟨g, cap, cur, e', hg, hh, r⟩
  · exact .inl q3
  · exact .inr ⟨g, cap, cur, e', hg, (k g hg (Array.getElem?_eq_some_iff.1 hh).1).trans hh, r⟩
theorem QRow.low {w : World} {lo lo' f : Nat} {v : Value} {l : List (Tr f)} (h : QRow w lo f v l) (hl : lo' ≤ lo) : QRow w lo' f v l := by
  obtain ⟨rs, h1, ⟨q2, q3⟩, h3⟩ := h
  refine ⟨rs, h1, ⟨q2, ?_⟩, fun i r x a b => NodeQ.keep (fun c hc => ⟨Nat.le_trans hl hc.1, hc.2⟩) (fun _ _ _ => rfl) (Nat.le_refl _) (h3 i r x a b)⟩
  rcases q3 with q3 | ⟨g, cap, cur, e', hg, hh, r⟩
  · exact .inl q3
  · exact .inr ⟨g, cap, cur, e', Nat.le_trans hl hg, hh, r⟩
/-- .. as a sequence. -/
theorem QRow.seq {w : World} {lo f : Nat} {v : Value} {l : List (Tr f)} (h : QRow w lo f v l) : ∃ ao cp, v = .slice ao l.length cp ∧ SeqAt (NodeQ (fun b => lo ≤ b ∧ b < w.heap.size) w f) w ao l.length l ∧ l.length ≤ cp ∧ cp ≤ maxLen ∧ (l.length = 0 ∨ ∃ b off, ao = some ⟨b, off, none⟩ ∧ lo ≤ b ∧ b < w.heap.size) := by
  obtain ⟨rs, h1, h2, h3⟩ := h
  rcases h2.2 with ⟨rfl, h0⟩ | ⟨g, cap, cur, rfl, hb, hg, q1, q2, q3, q4⟩
  · exact ⟨none, 0, by rw [h0], ⟨rfl, by rw [h0]; exact Nat.zero_le _, .inl h0⟩, by omega, Nat.zero_le _, .inl h0⟩
  · have hgl := (Array.getElem?_eq_some_iff.1 hg).1
    refine ⟨some ⟨g, 0, none⟩, cap, rfl, ⟨rfl, by omega, .inr ⟨g, 0, rfl, hgl, fun i x hi => ?_⟩⟩, q1, q2, .inr ⟨g, 0, rfl, hb, hgl⟩⟩
    obtain ⟨r, hr⟩ : ∃ r, rs[i]? = some r := ⟨_, List.getElem?_eq_getElem (by rw [h1]; exact (List.getElem?_eq_some_iff.1 hi).1)⟩
    have C : ∀ j u, j < 5 → (rcs r)[j]? = some u → w.cell? ⟨g, 0 + i * 5 + j, none⟩ = some u := fun j u hj hu => by
      have := h2.cells (g := g) rfl (i * 5 + j) u (by rw [flat_get rs i j r hr hj]; exact hu)
      rw [Addr.add_mid] at this
      simpa [Nat.add_assoc] using this
    refine ⟨r, ⟨?_, ?_, ?_, ?_, ?_⟩, NodeQ.keep (fun c hc => ⟨hc.1, hc.2.1⟩) (fun _ _ _ => rfl) (Nat.le_refl _) (h3 i r x hr hi)⟩
    · simpa using C 0 _ (by omega) rfl
    · exact C 1 _ (by omega) rfl
    · exact C 2 _ (by omega) rfl
    · exact C 3 _ (by omega) rfl
    · exact C 4 _ (by omega) rfl
theorem append_nodes (ty : TypeId) (base : Nat) (v : Value) (n : Nat) (xs : List Value) (ad : Addr) (m c : Nat) (news : List Value) (w : World) (hown : w.ownsRow base 26 5 v n xs) (hl : news.length = m * 5) (hnews : ∀ j u, news[j]? = some u → w.cell? (ad.add j) = some u) (h1 : ∀ u ∈ news, u.oneCell' = true) (hb : n + m ≤ 1000000) (hbase : base ≤ w.heap.size) :
    ∃ v' w', (Builtin.append_ #[24, 24] ty #[v, .slice (some ad) m c]).run Tryd.prog w = .ok v' w' ∧ w'.ownsRow base 26 5 v' (n + m) (xs ++ news) ∧ w.grownBy w' v.ownBlock ∧ (v'.ownBlock = v.ownBlock ∨ v'.ownBlock = some w.heap.size) := by
  obtain ⟨i, hi, hz0, hz1, hz2⟩ := info_parts Tryd.info26
  obtain ⟨v', w', hr, ho, hg, _⟩ := run_append_own (P := Tryd.prog) w base 24 ty 26 i _ 5 80 Tryd.underlying24 hi hz0 hz1 hz2 rfl (by decide) v n xs hown ad m c news hl hnews h1 (by unfold maxLen; omega) (by omega) hbase
  refine ⟨v', w', hr, ho, hg, ?_⟩
  rcases hown.2 with ⟨rfl, rfl⟩ | ⟨g, cap, cur, rfl, hbg, hgb, hnc, hcm, hcs, htake⟩
  · by_cases hm : m = 0
    · subst hm
      have hn : news = [] := List.eq_nil_of_length_eq_zero (by simpa using hl)
      subst hn
      have hr2 : (Builtin.append_ #[24, 24] ty #[.slice none 0 0, .slice (some ad) 0 c]).run Tryd.prog w = .ok (.slice none 0 0) w := by
        simp [Builtin.append_, run_underlying Tryd.underlying24, sizeOf, typeInfo, hi, Builtin.lenOf, Builtin.firstCells, loadCells, loadCellsFrom]
      rw [hr2] at hr
      cases hr
      exact .inl rfl
    · have hr2 := run_append_nil (P := Tryd.prog) w 24 ty 26 i _ Tryd.underlying24 hi hz0 ad m c news (by rw [hz1]; exact hl) hnews (by omega) (by omega) (by rw [hz2]; omega)
      rw [hr2] at hr
      cases hr
      exact .inr rfl
  · by_cases hroom : n + m ≤ cap
    · have hfit : n * i.size + news.length ≤ cur.size := by rw [hz1, hl, hcs, ← Nat.add_mul]; exact Nat.mul_le_mul_right _ hroom
      have hr2 := run_append_room (P := Tryd.prog) w 24 ty 26 i Tryd.underlying24 hi g n cap cur hgb ad m c news (by rw [hz1]; exact hl) hnews h1 hroom hfit
      rw [hr2] at hr
      cases hr
      exact .inl rfl
    · have holds : ∀ j u, xs[j]? = some u → w.cell? ((⟨g, 0, none⟩ : Addr).add j) = some u := hown.cells (g := g) rfl
      have hr2 := run_append_grow (P := Tryd.prog) w 24 ty 26 i _ Tryd.underlying24 hi hz0 ⟨g, 0, none⟩ n cap xs (by rw [hz1]; exact hown.1) holds ad m c news (by rw [hz1]; exact hl) hnews (by omega) (by omega) (growslice_fits (by omega) (by rw [hz2]; omega))
      rw [hr2] at hr
      cases hr
      exact .inr rfl
theorem wpList_append_nodes {ops : Array Oper} {rest : List Oper} {o : Oper} {a : Act} {w : World} {Q : Exit → Act → World → Prop} (hgd : o.guard = none) (s x : Operand)
    (ho : o.op = .call { callee := .builtin .append, args := #[s, x], argTypes := #[24, 24] }) (base : Nat) (v : Value) (n : Nat) (xs : List Value) (ad : Addr) (m c : Nat) (news : List Value) (hsv : a.eval s = v) (hxv : a.eval x = .slice (some ad) m c)
    (hown : w.ownsRow base 26 5 v n xs) (hl : news.length = m * 5) (hnews : ∀ j u, news[j]? = some u → w.cell? (ad.add j) = some u) (h1 : ∀ u ∈ news, u.oneCell' = true) (hb : n + m ≤ 1000000) (hbase : base ≤ w.heap.size)
    (h : ∀ v' w', w'.ownsRow base 26 5 v' (n + m) (xs ++ news) → w.grownBy w' v.ownBlock → (v'.ownBlock = v.ownBlock ∨ v'.ownBlock = some w.heap.size) → wpList Tryd.prog ops Q rest (a.put o.dst v') w') : wpList Tryd.prog ops Q (o :: rest) a w := by
  refine wpList_plain hgd fun K hK => ?_
  obtain ⟨v', w', hrun, r1, r2, r3⟩ := append_nodes o.type base v n xs ad m c news w hown hl hnews h1 hb hbase
  unfold Oper.wp execOp
  simp only [ho, resolve, invoke, builtin, Sem.run_bind, Sem.run_pure, Result.andThen_ok, List.map_toArray, List.map_cons, List.map_nil, hsv, hxv, hrun]
  exact hK _ _ (h v' w' r1 r2 r3)
theorem rcs_one (r : Rw) : ∀ u ∈ rcs r, u.oneCell' = true := by
  intro u hu
  simp only [rcs, List.mem_cons, List.not_mem_nil, or_false] at hu
  rcases hu with rfl | rfl | rfl | rfl | rfl <;> rfl
/-- One node more, put behind. -/
theorem QRow.snoc {w w1 w' : World} {lo f : Nat} {v v' : Value} {l : List (Tr f)} {r : Rw} {x : Tr f} {rs : List Rw} (h1 : rs.length = l.length) (h2 : w.ownsRow lo 26 5 v l.length (rs.flatMap rcs)) (h3 : ∀ (i : Nat) r x, rs[i]? = some r → l[i]? = some x → NodeQ (fun b => lo ≤ b ∧ b < w.heap.size ∧ v.ownBlock ≠ some b) w f r.v x) (hx : NodeQ (fun b => lo ≤ b ∧ b < w.heap.size ∧ v.ownBlock ≠ some b) w f r.v x) (hb1 : BW w w1) (hz1 : w.heap.size < w1.heap.size) (ho : w'.ownsRow lo 26 5 v' (l.length + 1) (rs.flatMap rcs ++ rcs r)) (hg : w1.grownBy w' v.ownBlock) (hv : v'.ownBlock = v.ownBlock ∨ v'.ownBlock = some w1.heap.size) : QRow w' lo f v' (l ++ [x]) := by
  have hzz := hg.size
  have K : ∀ {y : Tr f} {u : Value}, NodeQ (fun b => lo ≤ b ∧ b < w.heap.size ∧ v.ownBlock ≠ some b) w f u y → NodeQ (fun b => lo ≤ b ∧ b < w'.heap.size ∧ v'.ownBlock ≠ some b) w' f u y := fun h => NodeQ.keep (fun b hb => ⟨hb.1, by omega, by
      rcases hv with hv | hv
      · rw [hv]; exact hb.2.2
      · rw [hv]; intro e; have := Option.some.inj e; omega⟩) (fun b hb hl => (hg.block b (by omega) (fun e => hb.2.2 e.symm)).trans (hb1.block b hl)) (by omega) h
  refine ⟨rs ++ [r], by simp [h1], by simpa using ho, fun i r' x' a c => ?_⟩
  by_cases hi : i < l.length
  · rw [List.getElem?_append_left (by omega)] at a
    rw [List.getElem?_append_left hi] at c
    exact K (h3 i r' x' a c)
  · have hi2 : i = l.length := by
      have := (List.getElem?_eq_some_iff.1 c).1
      simp at this
      omega
    subst hi2
    rw [List.getElem?_append_right (by omega)] at a
    simp [h1] at a c
    subst a c
    exact K hx

end Go.Proofs.YtlacjiihbbgbeaaDoor
