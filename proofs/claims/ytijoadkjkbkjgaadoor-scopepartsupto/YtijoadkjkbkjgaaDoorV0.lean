import Derived.Test.YtijoadkjkbkjgaaDoorProg
import Derived.WalkKit
import Derived.WalkSpells
import Derived.WalkLawsBesides
import Derived.Deep.QuietTactic
import Derived.BigQuiet
import Derived.Deep.RegionLaw
import Derived.Lib.SmallJoins
import Derived.Deep.RegionHeld3
namespace Go.Proofs.YtijoadkjkbkjgaaDoor
open Go.RowKit
set_option linter.unusedVariables false
set_option linter.unusedSimpArgs false

/-- What a walk leaves of the world: nothing that was there has turned. -/
def BW (w w' : World) : Prop := Below w.heap.size w w'
theorem BW.refl (w : World) : BW w w := Below.refl _ _
theorem BW.size {w w' : World} (h : BW w w') : w.heap.size ≤ w'.heap.size := Below.size h
theorem BW.trans {a b c : World} (h : BW a b) (k : BW b c) : BW a c := Below.trans h (Below.mono k (BW.size h))
theorem BW.alloc {a b : World} (h : BW a b) (o : Obj) : BW a (b.alloc o) := Below.alloc h (BW.size h) o
theorem BW.drew {a b : World} (h : BW a b) : BW a b.drew := Below.drew h
theorem BW.drewN {a b : World} (h : BW a b) : (n : Nat) → BW a (b.drewN n) := fun n => ⟨h.os, h.tape, h.output, h.size, h.block⟩
theorem BW.setCell {a b : World} (h : BW a b) {p : Addr} (hp : a.heap.size ≤ p.block) (u : Value) : BW a (b.setCell p u) := Below.setCell h hp u
theorem BW.cells {W w1 : World} (hb : BW W w1) : ∀ b o, b < W.heap.size → w1.cell? ⟨b, o, none⟩ = W.cell? ⟨b, o, none⟩ := fun b o h => Below.cell hb (p := ⟨b, o, none⟩) h
theorem BW.froz {W w1 : World} (hb : BW W w1) : ∀ b o, b < W.heap.size → w1.frozen? ⟨b, o, none⟩ = W.frozen? ⟨b, o, none⟩ := fun b o h => Below.frozen hb (p := ⟨b, o, none⟩) h
theorem u8w (n : Int) (h0 : 0 ≤ n) (h : n < 256) : IntKind.u8.wrap n = n := by
  simp only [IntKind.wrap, show IntKind.u8.bits = 8 from rfl, show IntKind.u8.signed = false from rfl]; simp; omega
theorem u64w (n : Int) (h0 : 0 ≤ n) (h : n ≤ 18446744073709551615) : IntKind.u64.wrap n = n := by
  simp only [IntKind.wrap, show IntKind.u64.bits = 64 from rfl, show IntKind.u64.signed = false from rfl]; simp; omega
theorem i64w (n : Int) (h0 : -9223372036854775808 ≤ n) (h : n ≤ 9223372036854775807) : IntKind.i64.wrap n = n := by
  simp only [IntKind.wrap, show IntKind.i64.bits = 64 from rfl, show IntKind.i64.signed = true from rfl]; simp; omega
/-- A node over parts of a kind K. -/
structure Nd (K : Type) where
  k : Int
  n : Int
  s : ByteArray
  ns : List ByteArray
  ks : List K
/-- Nodes of at most so many levels. -/
def Tr : Nat → Type
  | 0 => Empty
  | n + 1 => Nd (Tr n)
/-- The slice at ao of length ln holds the strings l. -/
def StrsAt (W : World) (ao : Option Addr) (ln : Nat) (l : List ByteArray) : Prop := l.length = ln ∧ ln ≤ maxLen ∧ (∀ s ∈ l, s.size ≤ maxLen) ∧
  (ln = 0 ∨ ∃ b off, ao = some ⟨b, off, none⟩ ∧ b < W.heap.size ∧ ∀ (i : Nat) s, l[i]? = some s → W.cell? ⟨b, off + i, none⟩ = some (.string s))
/-- A node's value. -/
abbrev ndv (k n : Int) (s : ByteArray) (na : Option Addr) (nl nc : Nat) (ka : Option Addr) (kl kc : Nat) : Value := .agg #[.int .u8 k, .int .i64 n, .string s, .slice na nl nc, .slice ka kl kc]
/-- .. its parts. -/
structure Rw where
  k : Int
  n : Int
  s : ByteArray
  na : Option Addr
  nl : Nat
  nc : Nat
  ka : Option Addr
  kl : Nat
  kc : Nat
abbrev Rw.v (r : Rw) : Value := ndv r.k r.n r.s r.na r.nl r.nc r.ka r.kl r.kc
/-- The five cells of a node. -/
def CellsAt (W : World) (b o : Nat) (r : Rw) : Prop := W.cell? ⟨b, o, none⟩ = some (.int .u8 r.k) ∧ W.cell? ⟨b, o + 1, none⟩ = some (.int .i64 r.n) ∧ W.cell? ⟨b, o + 2, none⟩ = some (.string r.s) ∧ W.cell? ⟨b, o + 3, none⟩ = some (.slice r.na r.nl r.nc) ∧ W.cell? ⟨b, o + 4, none⟩ = some (.slice r.ka r.kl r.kc)
theorem CellsAt.bw {W W' : World} {b o : Nat} {r : Rw} (h : CellsAt W b o r) (k : BW W W') (hb : b < W.heap.size) : CellsAt W' b o r := by
  obtain ⟨d0, d1, d2, d3, d4⟩ := h
  exact ⟨(k.cells b _ hb).trans d0, (k.cells b _ hb).trans d1, (k.cells b _ hb).trans d2, (k.cells b _ hb).trans d3, (k.cells b _ hb).trans d4⟩
/-- The slice at ao of length ln holds nodes that are as At says. -/
def SeqAt {K : Type} (At : Value → K → Prop) (W : World) (ao : Option Addr) (ln : Nat) (l : List K) : Prop := l.length = ln ∧ ln ≤ maxLen ∧
  (ln = 0 ∨ ∃ b off, ao = some ⟨b, off, none⟩ ∧ b < W.heap.size ∧ ∀ (i : Nat) x, l[i]? = some x → ∃ r : Rw, CellsAt W b (off + i * 5) r ∧ At r.v x)
/-- What the kinds say of a node's own fields. -/
structure Wf {K : Type} (t : Nd K) : Prop where
  k0 : 0 ≤ t.k
  k1 : t.k ≤ 255
  n0 : -9223372036854775808 ≤ t.n
  n1 : t.n ≤ 9223372036854775807
  s : t.s.size ≤ maxLen
/-- The value v is the node t. -/
def NodeAt (W : World) : (n : Nat) → Value → Tr n → Prop
  | 0, _, _ => False
  | n + 1, v, t => ∃ na nl nc ka kl kc, v = ndv (Nd.k (K := Tr n) t) (Nd.n (K := Tr n) t) (Nd.s (K := Tr n) t) na nl nc ka kl kc ∧ Wf (K := Tr n) t ∧ nl ≤ nc ∧ nc ≤ maxLen ∧ kl ≤ kc ∧ kc ≤ maxLen ∧ StrsAt W na nl (Nd.ns (K := Tr n) t) ∧ SeqAt (NodeAt W n) W ka kl (Nd.ks (K := Tr n) t)
theorem StrsAt.bw {W W' : World} {ao : Option Addr} {ln : Nat} {l : List ByteArray} (h : StrsAt W ao ln l) (k : BW W W') : StrsAt W' ao ln l := by
  obtain ⟨h1, h2, h3, h4⟩ := h
  refine ⟨h1, h2, h3, ?_⟩
  rcases h4 with h4 | ⟨b, off, e, hb, hc⟩
  · exact .inl h4
  · exact .inr ⟨b, off, e, Nat.lt_of_lt_of_le hb k.size, fun j z hz => (k.cells b _ hb).trans (hc j z hz)⟩
theorem SeqAt.bw {K : Type} {At At' : Value → K → Prop} {W W' : World} {ao : Option Addr} {ln : Nat} {l : List K} (h : SeqAt At W ao ln l) (k : BW W W') (m : ∀ v x, At v x → At' v x) : SeqAt At' W' ao ln l := by
  obtain ⟨h1, h2, h4⟩ := h
  refine ⟨h1, h2, ?_⟩
  rcases h4 with h4 | ⟨b, off, e, hb, hc⟩
  · exact .inl h4
  · refine .inr ⟨b, off, e, Nat.lt_of_lt_of_le hb k.size, fun j z hz => ?_⟩
    obtain ⟨r, hr, ha⟩ := hc j z hz
    exact ⟨r, hr.bw k hb, m _ _ ha⟩
theorem NodeAt.bw {W W' : World} (k : BW W W') : ∀ {n : Nat} {v : Value} {t : Tr n}, NodeAt W n v t → NodeAt W' n v t := by
  intro n
  induction n with
  | zero => intro v t h; exact h
  | succ n ih =>
    intro v t h
    obtain ⟨na, nl, nc, ka, kl, kc, e, wf, a1, a2, a3, a4, s1, s2⟩ := h
    exact ⟨na, nl, nc, ka, kl, kc, e, wf, a1, a2, a3, a4, s1.bw k, s2.bw k (fun v x h => ih h)⟩
theorem bnd64 {n : Int} (h : (Lit.int .i64 n).wf = true) : -9223372036854775808 ≤ n ∧ n ≤ 9223372036854775807 := by
  have hmin : IntKind.i64.min = -9223372036854775808 := rfl
  have hmax : IntKind.i64.max = 9223372036854775807 := rfl
  simp only [Lit.wf, Bool.and_eq_true, decide_eq_true_eq] at h
  omega
theorem bnd8 {n : Int} (h : (Lit.int .u8 n).wf = true) : 0 ≤ n ∧ n ≤ 255 := by
  have hmin : IntKind.u8.min = 0 := rfl
  have hmax : IntKind.u8.max = 255 := rfl
  simp only [Lit.wf, Bool.and_eq_true, decide_eq_true_eq] at h
  omega
theorem pick_all {β : Type} (n : Nat) (R : Nat → β → Prop) (h : ∀ i, i < n → ∃ b, R i b) : ∃ l : List β, l.length = n ∧ ∀ i b, l[i]? = some b → R i b := by
  induction n with
  | zero => exact ⟨[], rfl, by simp⟩
  | succ n ih =>
    obtain ⟨l, hl, hr⟩ := ih (fun i hi => h i (by omega))
    obtain ⟨b, hb⟩ := h n (by omega)
    refine ⟨l ++ [b], by simp [hl], fun i c hc => ?_⟩
    rcases Nat.lt_or_ge i n with hi | hi
    · exact hr i c (by rw [List.getElem?_append_left (by omega)] at hc; exact hc)
    · have : i < n + 1 := by have := (List.getElem?_eq_some_iff.1 hc).1; simp [hl] at this; omega
      obtain rfl : i = n := by omega
      rw [List.getElem?_append_right (by omega)] at hc
      simp [hl] at hc
      subst hc; exact hb
theorem no_spot {W : World} {a : Addr} {v : Value} (h : W.cell? a = some v) : a.spot = none := by
  obtain ⟨b, off, sp⟩ := a
  unfold World.cell? at h
  split at h
  · simp only at h
    split at h
    · cases h
    · rename_i hn; simpa using hn
  · cases h

end Go.Proofs.YtijoadkjkbkjgaaDoor
