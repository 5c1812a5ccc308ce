import Derived.Test.YtijoadkjkbkjgaaDoorB0
import Derived.Maps.Own
import Derived.Maps.OwnSet
import Derived.Maps.Views
namespace Go.Proofs.YtijoadkjkbkjgaaDoor
open Go.RowKit
set_option linter.unusedVariables false
set_option linter.unusedSimpArgs false

open Go.Maps
/-- How often a text is among some. -/
def ct : List ByteArray → ByteArray → Nat
  | [], _ => 0
  | x :: r, s => (if x = s then 1 else 0) + ct r s
theorem ct_append (a b : List ByteArray) (s : ByteArray) : ct (a ++ b) s = ct a s + ct b s := by
  induction a with
  | nil => simp [ct]
  | cons x r ih => simp only [List.cons_append, ct, ih]; omega
theorem ct_zero (l : List ByteArray) (s : ByteArray) : ct l s = 0 ↔ ¬ s ∈ l := by
  induction l with
  | nil => simp [ct]
  | cons x r ih =>
    simp only [ct, List.mem_cons, not_or]
    by_cases h : x = s
    · subst h; simp
    · rw [if_neg h]
      constructor
      · intro hh; exact ⟨fun e => h e.symm, ih.1 (by omega)⟩
      · intro hh; have := ih.2 hh.2; omega
theorem ct_le (l : List ByteArray) (s : ByteArray) : ct l s ≤ l.length := by
  induction l with
  | nil => simp [ct]
  | cons x r ih => simp only [ct, List.length_cons]; split <;> omega
/-- The map in block mb tells how often each name is there. -/
def CtIs (w : World) (mb n : Nat) (c : ByteArray → Nat) : Prop := ∃ D : DataW Unit, w.ownsMap Tryd.prog 9 (plainElem Tryd.prog 3) mb n D ∧ ∀ s : ByteArray, c s ≤ n ∧ D.atKey (.string s.data.toList) (.lit (.int .i64 0)) = .lit (.int .i64 (c s))
theorem CtIs.same {w w' : World} {mb n : Nat} {c : ByteArray → Nat} (h : CtIs w mb n c) (k : w'.heap[mb]? = w.heap[mb]?) : CtIs w' mb n c := by
  obtain ⟨D, ⟨es, cl, h1, h2⟩, h3⟩ := h
  exact ⟨D, ⟨es, cl, k.trans h1, h2⟩, h3⟩
theorem CtIs.lt {w : World} {mb n : Nat} {c : ByteArray → Nat} (h : CtIs w mb n c) : mb < w.heap.size := by
  obtain ⟨D, h1, _⟩ := h
  exact h1.lt
theorem CtIs.new (w : World) : CtIs (w.alloc (.map #[] 0)) w.heap.size 0 (fun _ => 0) := ⟨_, World.ownsMap_made w Tryd.prog 9 _, fun s => ⟨Nat.le_refl _, by simp [DataW.atKey]⟩⟩
theorem CtIs.mono {w : World} {mb n m : Nat} {c : ByteArray → Nat} (h : CtIs w mb n c) (k : n ≤ m) : CtIs w mb m c := by
  obtain ⟨D, h1, h2⟩ := h
  exact ⟨D, h1.mono k, fun s => ⟨Nat.le_trans (h2 s).1 k, (h2 s).2⟩⟩
theorem CtIs.of {w : World} {mb n : Nat} {c c' : ByteArray → Nat} (h : CtIs w mb n c) (k : ∀ s, c' s = c s) : CtIs w mb n c' := by
  obtain rfl : c' = c := funext k
  exact h
theorem key_ne {u s : ByteArray} (h : ¬ u = s) : (Lit.string u.data.toList) ≠ .string s.data.toList := fun e => h (Go.WideShapes.bytes_inj (by simpa using e))
theorem CtIs.put {w : World} {mb n k : Nat} {s : ByteArray} {c : ByteArray → Nat} {D : DataW Unit} (h : w.ownsMap Tryd.prog 9 (plainElem Tryd.prog 3) mb (n + 1) (D.put (.string s.data.toList) (.lit (.int .i64 k)))) (hM : IsMap D) (hk : k ≤ n + 1) (hA : ∀ s : ByteArray, c s ≤ n ∧ D.atKey (.string s.data.toList) (.lit (.int .i64 0)) = .lit (.int .i64 (c s))) : CtIs w mb (n + 1) (fun x => if x = s then k else c x) := by
  refine ⟨_, h, fun u => ?_⟩
  by_cases e : u = s
  · subst e
    rw [atKey_put_same hM (by simp [WideAt.IsKeyLit])]
    simp [hk]
  · rw [atKey_put_other (key_ne e), (hA u).2]
    simp [e, Nat.le_succ_of_le (hA u).1]
theorem CtIs.del {w : World} {mb n : Nat} {s : ByteArray} {c : ByteArray → Nat} {D : DataW Unit} (h : w.ownsMap Tryd.prog 9 (plainElem Tryd.prog 3) mb n (D.del (.string s.data.toList))) (hA : ∀ s : ByteArray, c s ≤ n ∧ D.atKey (.string s.data.toList) (.lit (.int .i64 0)) = .lit (.int .i64 (c s))) : CtIs w mb n (fun x => if x = s then 0 else c x) := by
  refine ⟨_, h, fun u => ?_⟩
  by_cases e : u = s
  · subst e
    rw [atKey_del_same]
    simp
  · rw [atKey_del_other (key_ne e), (hA u).2]
    simp [e, (hA u).1]
/-- What a call of the finder's leaves of the world: v is the row of the found ones ahead, v' behind. -/
structure Fq (fb mb : Nat) (v v' : Value) (w w' : World) : Prop where
  os : w'.os = w.os
  tape : w'.tape = w.tape
  output : w'.output = w.output
  size : w.heap.size ≤ w'.heap.size
  block : ∀ k, k < w.heap.size → ¬ k = fb → ¬ k = mb → v.ownBlock ≠ some k → w'.heap[k]? = w.heap[k]?
  own : v'.ownBlock = v.ownBlock ∨ ∃ g, v'.ownBlock = some g ∧ w.heap.size ≤ g
theorem BW.fq {w w' : World} (h : BW w w') (fb mb : Nat) (v : Value) : Fq fb mb v v w w' := ⟨h.os, h.tape, h.output, h.size, fun k hk _ _ _ => h.block k hk, .inl rfl⟩
theorem Fq.trans {fb mb : Nat} {v v' v'' : Value} {a b c : World} (h : Fq fb mb v v' a b) (k : Fq fb mb v' v'' b c) : Fq fb mb v v'' a c := by
  refine ⟨k.os.trans h.os, k.tape.trans h.tape, k.output.trans h.output, Nat.le_trans h.size k.size, fun j hj hf hm ho => ?_, ?_⟩
  · refine (k.block j (Nat.lt_of_lt_of_le hj h.size) hf hm ?_).trans (h.block j hj hf hm ho)
    rcases h.own with e | ⟨g, e, hg⟩
    · rw [e]; exact ho
    · rw [e]; intro ee; have := Option.some.inj ee; omega
  · rcases k.own with e | ⟨g, e, hg⟩
    · rw [e]; exact h.own
    · exact .inr ⟨g, e, Nat.le_trans h.size hg⟩
theorem Fq.cells {fb mb : Nat} {v v' : Value} {w w' : World} (h : Fq fb mb v v' w w') (k o : Nat) (hk : k < w.heap.size) (hf : ¬ k = fb) (hm : ¬ k = mb) (ho : v.ownBlock ≠ some k) : w'.cell? ⟨k, o, none⟩ = w.cell? ⟨k, o, none⟩ := by
  simp only [World.cell?, h.block k hk hf hm ho]
theorem grown_fq {fb mb : Nat} {v : Value} {w w' : World} (h : w.grownBy w' (some mb)) : Fq fb mb v v w w' := ⟨h.os, h.tape, h.output, h.size, fun k hk _ hm _ => h.block k hk (fun e => hm (by first | exact Option.some.inj e | exact (Option.some.inj e).symm)), .inl rfl⟩
/-- The finder in block fb: how often each name is bound, and the free ones so far. -/
structure FiIs (w : World) (fb mb lo n : Nat) (v : Value) (c : ByteArray → Nat) (F : List ByteArray) : Prop where
  l1 : lo ≤ fb
  l2 : lo ≤ mb
  cells : w.heap[fb]? = some (.cells #[.map (some mb), v] 44 (0, 0))
  ct : CtIs w mb n c
  row : w.ownsRow lo 9 1 v F.length (F.map Value.string)
  sm : ∀ s ∈ F, s.size ≤ maxLen
theorem FiIs.lt {w : World} {fb mb lo n : Nat} {v : Value} {c : ByteArray → Nat} {F : List ByteArray} (h : FiIs w fb mb lo n v c F) : fb < w.heap.size := (Array.getElem?_eq_some_iff.1 h.cells).1
theorem FiIs.ne {w : World} {fb mb lo n : Nat} {v : Value} {c : ByteArray → Nat} {F : List ByteArray} (h : FiIs w fb mb lo n v c F) : ¬ fb = mb := by
  rintro rfl
  obtain ⟨D, ⟨es, cl, h1, _⟩, _⟩ := h.ct
  have := h.cells
  rw [h1] at this
  cases this
theorem FiIs.nr {w : World} {fb mb lo n : Nat} {v : Value} {c : ByteArray → Nat} {F : List ByteArray} (h : FiIs w fb mb lo n v c F) : v.ownBlock ≠ some fb ∧ v.ownBlock ≠ some mb ∧ ∀ g, v.ownBlock = some g → lo ≤ g ∧ g < w.heap.size := by
  rcases h.row.2 with ⟨e, _⟩ | ⟨g, cap, cur, e, hb, hg, _⟩
  · rw [e]; simp [Value.ownBlock]
  · rw [e]
    simp only [Value.ownBlock]
    refine ⟨?_, ?_, ?_⟩
    · intro ee
      have := h.cells
      rw [← Option.some.inj ee, hg] at this
      simp at this
    · intro ee
      obtain ⟨D, ⟨es, cl, h1, _⟩, _⟩ := h.ct
      rw [← Option.some.inj ee, hg] at h1
      cases h1
    · intro g' ee
      have := Option.some.inj ee
      subst this
      exact ⟨hb, (Array.getElem?_eq_some_iff.1 hg).1⟩
theorem FiIs.bw {w w' : World} {fb mb lo n : Nat} {v : Value} {c : ByteArray → Nat} {F : List ByteArray} (h : FiIs w fb mb lo n v c F) (k : BW w w') : FiIs w' fb mb lo n v c F :=
  ⟨h.l1, h.l2, (k.block fb h.lt).trans h.cells, h.ct.same (k.block mb h.ct.lt), own_bw h.row k, h.sm⟩
theorem FiIs.mono {w : World} {fb mb lo n m : Nat} {v : Value} {c : ByteArray → Nat} {F : List ByteArray} (h : FiIs w fb mb lo n v c F) (k : n ≤ m) : FiIs w fb mb lo m v c F := ⟨h.l1, h.l2, h.cells, h.ct.mono k, h.row, h.sm⟩
theorem FiIs.of {w : World} {fb mb lo n : Nat} {v : Value} {c c' : ByteArray → Nat} {F : List ByteArray} (h : FiIs w fb mb lo n v c F) (k : ∀ s, c' s = c s) : FiIs w fb mb lo n v c' F := ⟨h.l1, h.l2, h.cells, h.ct.of k, h.row, h.sm⟩
/-- .. where the map alone has turned. -/
theorem FiIs.turn {w w' : World} {fb mb lo n m : Nat} {v : Value} {c c' : ByteArray → Nat} {F : List ByteArray} (h : FiIs w fb mb lo n v c F) (k : w.grownBy w' (some mb)) (hc : CtIs w' mb m c') : FiIs w' fb mb lo m v c' F := by
  have B : ∀ j, j < w.heap.size → ¬ j = mb → w'.heap[j]? = w.heap[j]? := fun j hj hn => k.block j hj (fun e => hn (by first | exact Option.some.inj e | exact (Option.some.inj e).symm))
  refine ⟨h.l1, h.l2, (B fb h.lt h.ne).trans h.cells, hc, ?_, h.sm⟩
  obtain ⟨h2, h3⟩ := h.row
  refine ⟨h2, ?_⟩
  rcases h3 with h3 | ⟨g, cap, cur, e', hg, hh, r⟩
  · exact .inl h3
  · refine .inr ⟨g, cap, cur, e', hg, (B g (Array.getElem?_eq_some_iff.1 hh).1 ?_).trans hh, r⟩
    rintro rfl
    exact h.nr.2.1 (by rw [e']; rfl)
/-- Texts in memory lie in no map, nor in the finder. -/
theorem StrsAt.get' {W : World} {ao : Option Addr} {ln k : Nat} {l : List ByteArray} (h : StrsAt W ao ln l) (hk : k < ln) : ∃ b off x, ao = some ⟨b, off, none⟩ ∧ b < W.heap.size ∧ l[k]? = some x ∧ x.size ≤ maxLen ∧ W.cell? ⟨b, off + k, none⟩ = some (.string x) := by
  obtain ⟨h1, h2, h3, h4⟩ := h
  obtain ⟨x, hx⟩ : ∃ x, l[k]? = some x := ⟨_, List.getElem?_eq_getElem (by omega)⟩
  rcases h4 with h4 | ⟨b, off, e, hb, hc⟩
  · omega
  · exact ⟨b, off, x, e, hb, hx, h3 x (List.mem_of_getElem? hx), hc k x hx⟩
theorem str_ne_map {w : World} {b o mb n : Nat} {x : ByteArray} {c : ByteArray → Nat} (h : w.cell? ⟨b, o, none⟩ = some (.string x)) (hm : CtIs w mb n c) : ¬ b = mb := by
  rintro rfl
  obtain ⟨D, ⟨es, cl, h1, _⟩, _⟩ := hm
  simp [World.cell?, h1] at h
theorem ct_snoc {l : List ByteArray} {k : Nat} {x : ByteArray} (h : l[k]? = some x) (s : ByteArray) : ct (l.take (k + 1)) s = ct (l.take k) s + if x = s then 1 else 0 := by
  rw [List.take_add_one, h, ct_append]
  simp [ct]

end Go.Proofs.YtijoadkjkbkjgaaDoor
