import Derived.Test.YtijoadkjkbkjgaaDoorF4
import Derived.Test.YtijoadkjkbkjgaaDoorC6
namespace Go.Proofs.YtijoadkjkbkjgaaDoor
open Go.RowKit
set_option linter.unusedVariables false
set_option linter.unusedSimpArgs false

/-- How many nodes, and names of theirs. -/
def bz : (n : Nat) → Tr n → Nat
  | 0, _ => 0
  | n + 1, t => 1 + (Nd.ns (K := Tr n) t).length + ((Nd.ks (K := Tr n) t).map (bz n)).sum
/-- The free names of a node, put to others; B: what is bound. -/
def fr : (n : Nat) → Tr n → List ByteArray → List ByteArray → List ByteArray
  | 0, _, _, F => F
  | n + 1, t, B, F =>
    if (Nd.k (K := Tr n) t) = 5 then addN B F (Nd.s (K := Tr n) t)
    else if (Nd.k (K := Tr n) t) = 8 then (match (Nd.ks (K := Tr n) t) with
      | [] => F
      | a :: r => r.foldl (fun F x => fr n x (B ++ (Nd.ns (K := Tr n) t) ++ [(Nd.s (K := Tr n) t)]) F) (fr n a B F))
    else (Nd.ks (K := Tr n) t).foldl (fun F x => fr n x (B ++ (Nd.ns (K := Tr n) t) ++ (if (Nd.k (K := Tr n) t) = 6 then [(Nd.s (K := Tr n) t)] else [])) F) F
theorem addN_len (B F : List ByteArray) (s : ByteArray) : (addN B F s).length ≤ F.length + 1 := by
  unfold addN
  split <;> simp
theorem fr_len : ∀ (n : Nat) (t : Tr n) (B F : List ByteArray), (fr n t B F).length ≤ F.length + bz n t := by
  intro n
  induction n with
  | zero => intro t B F; simp [fr, bz]
  | succ n ih =>
    intro t B F
    have key : ∀ (l : List (Tr n)) (B F : List ByteArray), (l.foldl (fun F x => fr n x B F) F).length ≤ F.length + (l.map (bz n)).sum := by
      intro l
      induction l with
      | nil => intro B F; simp
      | cons a r ihr =>
        intro B F
        rw [List.foldl_cons, List.map_cons, List.sum_cons]
        have h1 := ihr B (fr n a B F)
        have h2 := ih a B F
        omega
    unfold fr bz
    split
    · have := addN_len B F (Nd.s (K := Tr n) t); omega
    · split
      · cases hk : (Nd.ks (K := Tr n) t) with
        | nil => simp
        | cons a r =>
          simp only [List.map_cons, List.sum_cons]
          have h1 := key r (B ++ (Nd.ns (K := Tr n) t) ++ [(Nd.s (K := Tr n) t)]) (fr n a B F)
          have h2 := ih a B F
          omega
      · have h1 := key (Nd.ks (K := Tr n) t) (B ++ (Nd.ns (K := Tr n) t) ++ (if (Nd.k (K := Tr n) t) = 6 then [(Nd.s (K := Tr n) t)] else [])) F
        omega
theorem bz_pos (n : Nat) (t : Tr (n + 1)) : 1 ≤ bz (n + 1) t := by unfold bz; omega
theorem bz_kid {n : Nat} {t : Tr (n + 1)} {x : Tr n} (h : x ∈ Nd.ks (K := Tr n) t) : bz n x + 1 ≤ bz (n + 1) t := by
  have : ∀ l : List (Tr n), x ∈ l → bz n x ≤ (l.map (bz n)).sum := by
    intro l
    induction l with
    | nil => intro h; cases h
    | cons a r ih =>
      intro h
      simp only [List.map_cons, List.sum_cons]
      rcases List.mem_cons.1 h with h | h
      · subst h; omega
      · have := ih h; omega
  have := this _ h
  show bz n x + 1 ≤ 1 + (Nd.ns (K := Tr n) t).length + ((Nd.ks (K := Tr n) t).map (bz n)).sum
  omega
/-- What lies below the finder stays. -/
theorem Fq.bw0 {W0 w w' : World} {fb mb m : Nat} {v v' : Value} {c : ByteArray → Nat} {F : List ByteArray} (h : Fq fb mb v v' w w') (hf : FiIs w fb mb W0.heap.size m v c F) (hb : BW W0 w) : BW W0 w' := by
  have hz := hb.size
  refine ⟨h.os.trans hb.os, h.tape.trans hb.tape, h.output.trans hb.output, Nat.le_trans hz h.size, fun k hk => (h.block k (Nat.lt_of_lt_of_le hk hz) ?_ ?_ ?_).trans (hb.block k hk)⟩
  · have := hf.l1; omega
  · have := hf.l2; omega
  · intro e; have := (hf.nr.2.2 k e).1; omega
/-- Texts stay. -/
theorem StrsAt.fq {w w' : World} {fb mb lo m : Nat} {v v' : Value} {c : ByteArray → Nat} {F : List ByteArray} {ao : Option Addr} {ln : Nat} {l : List ByteArray} (h : StrsAt w ao ln l) (k : Fq fb mb v v' w w') (hf : FiIs w fb mb lo m v c F) (hs : ln = 0 ∨ ∀ b off, ao = some ⟨b, off, none⟩ → v.ownBlock ≠ some b) : StrsAt w' ao ln l := by
  obtain ⟨h1, h2, h3, h4⟩ := h
  refine ⟨h1, h2, h3, ?_⟩
  rcases h4 with h4 | ⟨b, off, e, hb, hc⟩
  · exact .inl h4
  · by_cases h0 : ln = 0
    · exact .inl h0
    · obtain ⟨x0, hx0⟩ : ∃ x, l[0]? = some x := ⟨_, List.getElem?_eq_getElem (by omega)⟩
      have c0 := hc 0 x0 hx0
      have hm := str_ne_map c0 hf.ct
      have hfb : ¬ b = fb := by
        rintro rfl
        rw [Lib.cell_of_heap hf.cells] at c0
        match off + 0, c0 with
        | 0, c0 => simp at c0
        | 1, c0 =>
          rcases Go.Joins.ownsRow_forms hf.row with ⟨e, _⟩ | ⟨g, cap, e⟩ <;> rw [e] at c0 <;> simp at c0
        | j + 2, c0 => simp at c0
      exact .inr ⟨b, off, e, Nat.lt_of_lt_of_le hb k.size, fun i s hi => (k.cells b _ hb hfb hm (hs.resolve_left h0 b off e)).trans (hc i s hi)⟩
/-- The calls at a level. -/
def NodeS (n : Nat) : Prop := ∀ (W0 : World) (fb mb m : Nat) (v val : Value) (B F : List ByteArray) (t : Tr n) (w : World), NodeAt W0 n val t → rt n t = true → BW W0 w → FiB w fb mb W0.heap.size m v B F → m + 4 * bz n t ≤ 1000000000 → F.length + bz n t ≤ 10000000 → Calls Tryd.prog 21 #[.pointer (some ⟨fb, 0, none⟩), val] w fun e w' => e = .returned (.tuple #[]) ∧ ∃ v', FiB w' fb mb W0.heap.size (m + 4 * bz n t) v' B (fr n t B F) ∧ Fq fb mb v v' w w'
def WithinS (n : Nat) : Prop := ∀ (W0 : World) (fb mb m : Nat) (v val : Value) (B F : List ByteArray) (t : Tr n) (ao : Option Addr) (ln cp : Nat) (l : List ByteArray) (w : World), NodeAt W0 n val t → rt n t = true → BW W0 w → FiB w fb mb W0.heap.size m v B F → StrsAt w ao ln l → (ln = 0 ∨ ∀ b off, ao = some ⟨b, off, none⟩ → v.ownBlock ≠ some b) → m + 4 * bz n t + 2 * ln ≤ 1000000000 → F.length + bz n t ≤ 10000000 → Calls Tryd.prog 41 #[.pointer (some ⟨fb, 0, none⟩), val, .slice ao ln cp] w fun e w' => e = .returned (.tuple #[]) ∧ ∃ v', FiB w' fb mb W0.heap.size (m + 4 * bz n t + 2 * ln) v' B (fr n t (B ++ l) F) ∧ Fq fb mb v v' w w'
set_option maxRecDepth 100000 in
set_option maxHeartbeats 4000000 in
theorem within_of {n : Nat} (ih : NodeS n) : WithinS n := by
  intro W0 fb mb m v val B F t ao ln cp l w hN ht hb hF hS hsep hm hfl
  have IH : Hid (NodeS n) := ih
  have HN : Hid (NodeAt W0 n val t) := hN
  have HT : Hid (rt n t = true) := ht
  have HB : Hid (BW W0 w) := hb
  have HF : Hid (FiB w fb mb W0.heap.size m v B F) := hF
  have HS : Hid (StrsAt w ao ln l) := hS
  have HSep : Hid (ln = 0 ∨ ∀ b off, ao = some ⟨b, off, none⟩ → v.ownBlock ≠ some b) := hsep
  cases n with
  | zero => exact hN.elim
  | succ n =>
    obtain ⟨na, nl, nc, ka, kl, kc, rfl, _⟩ := hN
    have hlt := hF.lt
    have hml := hF.ct.lt
    clear ih ht hb hF hS hsep
    have CB : Hid (∀ w', BW w w' → Calls Tryd.prog 40 #[.pointer (some ⟨fb, 0, none⟩), .slice ao ln cp] w' fun e w'' => e = .returned (.tuple #[]) ∧ FiIs w'' fb mb W0.heap.size (m + ln) v (fun x => (ct B x + ct F x) + ct l x) F ∧ Fq fb mb v v w' w'') := fun w' hw => bind_any fb mb _ m v _ F ao ln cp l w' (HF.out.bw hw) (HS.out.bw hw) (by omega)
    go_enter Tryd.func41, Tryd.ntmps41
    go_wp2_with (fail)
    refine (CB.out _ (BW.alloc (BW.refl w) _)).mono ?_
    rintro e w1 ⟨rfl, hF1, hQ1⟩
    have hz1 := hQ1.size
    simp at hz1
    have hgf : ¬ w.heap.size = fb := by omega
    have hgm : ¬ w.heap.size = mb := by omega
    have hgv : v.ownBlock ≠ some w.heap.size := fun e => by have := (HF.out.nr.2.2 _ e).2; omega
    obtain ⟨⟨c0, c1, c2, c3, c4⟩, _, _⟩ := bx_at (BW.refl (bx w (Nd.k (K := Tr n) t) (Nd.n (K := Tr n) t) (Nd.s (K := Tr n) t) na nl nc ka kl kc))
    have K := fun o => hQ1.cells w.heap.size o (by simp) hgf hgm hgv
    have g0 := (K 0).trans c0
    have g1 := (K 1).trans c1
    have g2 := (K 2).trans c2
    have g3 := (K 3).trans c3
    have g4 := (K 4).trans c4
    have HF1 : Hid (FiB w1 fb mb W0.heap.size (m + ln) v (B ++ l) F) := hF1.of (fun x => by rw [ct_append]; omega)
    have HQ1 : Hid (Fq fb mb v v w w1) := Fq.trans ((BW.alloc (BW.refl w) _).fq fb mb v) hQ1
    have HB1 : Hid (BW W0 w1) := HQ1.out.bw0 HF.out HB.out
    have HS1 : Hid (StrsAt w1 ao ln l) := HS.out.fq HQ1.out HF.out HSep.out
    have CN : Hid (Calls Tryd.prog 21 #[.pointer (some ⟨fb, 0, none⟩), ndv (Nd.k (K := Tr n) t) (Nd.n (K := Tr n) t) (Nd.s (K := Tr n) t) na nl nc ka kl kc] w1 fun e w' => e = .returned (.tuple #[]) ∧ ∃ v', FiB w' fb mb W0.heap.size (m + ln + 4 * bz (n + 1) t) v' (B ++ l) (fr (n + 1) t (B ++ l) F) ∧ Fq fb mb v v' w1 w') := IH.out W0 fb mb (m + ln) v _ (B ++ l) F t w1 HN.out HT.out HB1.out HF1.out (by omega) hfl
    clear hF1 hQ1 c0 c1 c2 c3 c4 K CB
    go_wp2_with (fail)
    refine CN.out.mono ?_
    rintro e w2 ⟨rfl, v2, hF2, hQ2⟩
    have HF2 : Hid (FiB w2 fb mb W0.heap.size (m + ln + 4 * bz (n + 1) t) v2 (B ++ l) (fr (n + 1) t (B ++ l) F)) := hF2
    have HQ2 : Hid (Fq fb mb v v2 w w2) := HQ1.out.trans hQ2
    have HS2 : Hid (StrsAt w2 ao ln l) := HS1.out.fq hQ2 HF1.out HSep.out
    have CU : Hid (Calls Tryd.prog 42 #[.pointer (some ⟨fb, 0, none⟩), .slice ao ln cp] w2 fun e w' => e = .returned (.tuple #[]) ∧ FiIs w' fb mb W0.heap.size (m + ln + 4 * bz (n + 1) t + ln) v2 (fun s => (ct (B ++ l) s + ct (fr (n + 1) t (B ++ l) F) s) - ct l s) (fr (n + 1) t (B ++ l) F) ∧ Fq fb mb v2 v2 w2 w') := unbind_any fb mb _ _ v2 _ _ ao ln cp l w2 HF2.out HS2.out (by omega) (fun s => by rw [ct_append]; omega)
    clear hF2 hQ2 CN g0 g1 g2 g3 g4
    go_wp2_with (fail)
    refine CU.out.mono ?_
    rintro e w3 ⟨rfl, hF3, hQ3⟩
    have HF3 : Hid (FiB w3 fb mb W0.heap.size (m + 4 * bz (n + 1) t + 2 * ln) v2 B (fr (n + 1) t (B ++ l) F)) := (hF3.of (c' := fun x => ct B x + ct (fr (n + 1) t (B ++ l) F) x) (fun s => by rw [ct_append]; omega)).mono (by omega)
    have HQ3 : Hid (Fq fb mb v v2 w w3) := HQ2.out.trans hQ3
    clear hF3 hQ3
    go_wp2_with (fail)
    go_end0
    exact ⟨rfl, v2, HF3.out, HQ3.out⟩

end Go.Proofs.YtijoadkjkbkjgaaDoor
