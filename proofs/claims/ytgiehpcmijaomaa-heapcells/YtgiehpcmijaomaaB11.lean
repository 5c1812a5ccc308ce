import Derived.Test.YtgiehpcmijaomaaB8
import Derived.LoopTactic
namespace Go.Proofs.Ytgiehpcmijaomaa
open Go.RowKit
set_option linter.unusedVariables false
set_option linter.unusedSimpArgs false
theorem Try.info26 : (Try.prog.info? 26).map (fun i => (i.zero, i.size, i.bytes)) = some (some (.agg #[.int .u8 0, .int .i64 0, .string ⟨#[]⟩]), 3, 32) := by kernel_rfl
/-- The cells xs of i things: each a cell that holds one value. -/
def COf (xs : List Value) (i : Nat) (t n : Int) (s : ByteArray) : Prop := xs.length = i * 8 ∧ ∀ j, j < i → xs[j * 8]? = some (.int .u8 5) ∧ xs[j * 8 + 1]? = some (.int .u8 t) ∧ xs[j * 8 + 2]? = some (.int .i64 n) ∧ xs[j * 8 + 3]? = some (.string s)
theorem COf.snoc {xs : List Value} {i : Nat} {t n : Int} {s : ByteArray} (h : COf xs i t n s) : COf (xs ++ thing 5 t n s 0 0 ⟨#[]⟩ 0) (i + 1) t n s := by
  obtain ⟨hl, h⟩ := h
  refine ⟨by simp [hl]; omega, fun j hj => ?_⟩
  by_cases e : j < i
  · obtain ⟨a, b, c, d⟩ := h j e
    exact ⟨by rw [List.getElem?_append_left (by omega)]; exact a, by rw [List.getElem?_append_left (by omega)]; exact b, by rw [List.getElem?_append_left (by omega)]; exact c, by rw [List.getElem?_append_left (by omega)]; exact d⟩
  · obtain rfl : j = i := by omega
    refine ⟨?_, ?_, ?_, ?_⟩
    all_goals rw [List.getElem?_append_right (by omega), hl]
    · rw [show j * 8 - j * 8 = 0 by omega]; rfl
    · rw [show j * 8 + 1 - j * 8 = 1 by omega]; rfl
    · rw [show j * 8 + 2 - j * 8 = 2 by omega]; rfl
    · rw [show j * 8 + 3 - j * 8 = 3 by omega]; rfl
/-- The cells ys of the values of i cells. -/
def ROf (ys : List Value) (i : Nat) : Prop := ys.length = i * 3 ∧ ∀ j, j < i → ys[j * 3]? = some (.int .u8 5) ∧ ys[j * 3 + 1]? = some (.int .i64 j) ∧ ys[j * 3 + 2]? = some (.string ⟨#[]⟩)
theorem ROf.snoc {ys : List Value} {i : Nat} (h : ROf ys i) : ROf (ys ++ [.int .u8 5, .int .i64 i, .string ⟨#[]⟩]) (i + 1) := by
  obtain ⟨hl, h⟩ := h
  refine ⟨by simp [hl]; omega, fun j hj => ?_⟩
  by_cases e : j < i
  · obtain ⟨a, b, c⟩ := h j e
    exact ⟨by rw [List.getElem?_append_left (by omega)]; exact a, by rw [List.getElem?_append_left (by omega)]; exact b, by rw [List.getElem?_append_left (by omega)]; exact c⟩
  · obtain rfl : j = i := by omega
    refine ⟨?_, ?_, ?_⟩
    all_goals rw [List.getElem?_append_right (by omega), hl]
    · rw [show j * 3 - j * 3 = 0 by omega]; rfl
    · rw [show j * 3 + 1 - j * 3 = 1 by omega]; rfl
    · rw [show j * 3 + 2 - j * 3 = 2 by omega]; rfl
theorem COf.pair {xs : List Value} {i : Nat} {t n : Int} {s : ByteArray} (h : COf xs i t n s) (l : List Value) : ∀ j, j < i → (xs ++ l)[j * 8]? = some (.int .u8 5) ∧ (xs ++ l)[j * 8 + 1]? = some (.int .u8 t) ∧ (xs ++ l)[j * 8 + 2]? = some (.int .i64 n) ∧ (xs ++ l)[j * 8 + 3]? = some (.string s) := by
  obtain ⟨hl, h⟩ := h
  intro j e
  obtain ⟨a, b, c, d⟩ := h j e
  exact ⟨by rw [List.getElem?_append_left (by omega)]; exact a, by rw [List.getElem?_append_left (by omega)]; exact b, by rw [List.getElem?_append_left (by omega)]; exact c, by rw [List.getElem?_append_left (by omega)]; exact d⟩
theorem COf.last {xs : List Value} {i : Nat} {t n : Int} {s : ByteArray} (h : COf xs i t n s) (l : List Value) (q : Nat) : (xs ++ l)[i * 8 + q]? = l[q]? := by
  rw [List.getElem?_append_right (by have := h.1; omega), h.1, show i * 8 + q - i * 8 = q by omega]
/-- A row of type 26 that the call owns stays behind a call that may change the Go heap in block b. -/
theorem own26_fr {W w1 : World} {base b base' n : Nat} {v : Value} {ys : List Value} (h : W.ownsRow base' 26 3 v n ys) (F : Fr base b W w1) (hb : b < base') : w1.ownsRow base' 26 3 v n ys := by
  obtain ⟨h2, h3⟩ := h
  refine ⟨h2, ?_⟩
  rcases h3 with h3 | ⟨g, cap, cur, e, hg, hh, r⟩
  · exact .inl h3
  · exact .inr ⟨g, cap, cur, e, hg, F.at26 hh (by omega), r⟩
theorem own26_ty {W : World} {base n : Nat} {v : Value} {ys : List Value} (h : W.ownsRow base 26 3 v n ys) : ∀ k, v.ownBlock = some k → base ≤ k ∧ Ty W k 26 := by
  intro k hk
  rcases h.2 with ⟨rfl, _⟩ | ⟨g, cap, cur, rfl, hb, hg, _⟩
  · simp [Value.ownBlock] at hk
  · simp [Value.ownBlock] at hk
    subst hk
    exact ⟨hb, cur, hg⟩
theorem HeapIs.grow26 {W w1 : World} {base b : Nat} {lim : Int} {n : Nat} {xs : List Value} {row : Option Nat} (h : HeapIs W base b lim n xs) (hg : W.grownBy w1 row) (hr : ∀ k, row = some k → Ty W k 26) : HeapIs w1 base b lim n xs := by
  obtain ⟨hb, v, h1, h2, h3⟩ := h
  have keep : ∀ (k : Nat) (c : Array Value) (t : TypeId), W.heap[k]? = some (Obj.cells c t (0, 0)) → t ≠ 26 → w1.heap[k]? = some (Obj.cells c t (0, 0)) := by
    intro k c t hk ht
    rw [hg.block k (Array.getElem?_eq_some_iff.1 hk).1 (fun e => by obtain ⟨c', hc'⟩ := hr k e.symm; rw [hk] at hc'; simp at hc'; exact ht hc'.2)]
    exact hk
  refine ⟨hb, v, keep b _ _ h1 (by decide), h2, ?_⟩
  rcases h3 with h3 | ⟨g, cap, cur, e, hgg, hh, r⟩
  · exact .inl h3
  · exact .inr ⟨g, cap, cur, e, hgg, keep g _ _ hh (by decide), r⟩
/-- The two values that came in, in their blocks. -/
def Box (w : World) (k : Nat) (t n : Int) (s : ByteArray) : Prop := w.heap[k]? = some (.cells #[.int .u8 t, .int .i64 n, .string s] 26 (0, 0))
theorem Box.c0 {w : World} {k : Nat} {t n : Int} {s : ByteArray} (h : Box w k t n s) : w.cell? ⟨k, 0, none⟩ = some (.int .u8 t) := by unfold Box at h; simp [World.cell?, h]
theorem Box.c1 {w : World} {k : Nat} {t n : Int} {s : ByteArray} (h : Box w k t n s) : w.cell? ⟨k, 1, none⟩ = some (.int .i64 n) := by unfold Box at h; simp [World.cell?, h]
theorem Box.c2 {w : World} {k : Nat} {t n : Int} {s : ByteArray} (h : Box w k t n s) : w.cell? ⟨k, 2, none⟩ = some (.string s) := by unfold Box at h; simp [World.cell?, h]
theorem Box.lt {w : World} {k : Nat} {t n : Int} {s : ByteArray} (h : Box w k t n s) : k < w.heap.size := (Array.getElem?_eq_some_iff.1 h).1
theorem Box.bw {w w' : World} {k : Nat} {t n : Int} {s : ByteArray} (h : Box w k t n s) (e : BW w w') : Box w' k t n s := (e.block k h.lt).trans h
theorem Box.fr {w w' : World} {base b k : Nat} {t n : Int} {s : ByteArray} (h : Box w k t n s) (e : Fr base b w w') (hb : k ≠ b) : Box w' k t n s := e.at26 h hb
theorem Box.grow {W w1 : World} {k : Nat} {t n : Int} {s : ByteArray} {row : Option Nat} (h : Box W k t n s) (hg : W.grownBy w1 row) (hr : row ≠ some k) : Box w1 k t n s := (hg.block k h.lt (Ne.symm hr)).trans h
theorem own26_cell {w : World} {base g n cap : Nat} {ys : List Value} (h : w.ownsRow base 26 3 (.slice (some ⟨g, 0, none⟩) n cap) n ys) {j : Nat} {u : Value} (hj : ys[j]? = some u) : w.cell? ⟨g, j, none⟩ = some u := by
  have := h.cells (g := g) rfl j u hj
  have hadd : (⟨g, 0, none⟩ : Addr).add j = ⟨g, j, none⟩ := by unfold Addr.add; split <;> simp_all
  rwa [hadd] at this
theorem empty_own (W : World) (base : Nat) (hb : base ≤ W.heap.size) : (W.alloc (.cells #[] 26)).ownsRow base 26 3 (.slice (some ⟨W.heap.size, 0, none⟩) 0 0) 0 [] :=
  ⟨rfl, .inr ⟨_, 0, #[], rfl, hb, heap_alloc_new W _, Nat.le_refl _, Nat.zero_le _, rfl, rfl⟩⟩
theorem rows_end {w w1 W w2 : World} {b b6 b7 n m : Nat} {lim : Int} {v : Value} {xs ys : List Value} {tv nv : Int} {sv : ByteArray} {tw nw : Int} {sw : ByteArray} (ZO : w1.ownsRow (b + 1) 26 3 v n ys) (hbw : BW w1 W) (G : W.grownBy w2 v.ownBlock) (H : HeapIs w1 w.heap.size b lim m xs) (Z6 : Box w1 b6 tv nv sv) (Z7 : Box w1 b7 tw nw sw) (ZB : BW w w1) (h6 : b6 < b) (h7 : b7 < b) (hb : w.heap.size ≤ b) :
    HeapIs w2 w.heap.size b lim m xs ∧ Box w2 b6 tv nv sv ∧ Box w2 b7 tw nw sw ∧ BW w w2 := by
  have T := own26_ty (own_bw ZO hbw)
  refine ⟨HeapIs.grow26 (H.bw hbw) G (fun k hk => (T k hk).2), Box.grow (Z6.bw hbw) G (fun e => ?_), Box.grow (Z7.bw hbw) G (fun e => ?_), ?_⟩
  · have := (T _ e).1; omega
  · have := (T _ e).1; omega
  · exact Below.grown (ZB.trans hbw) G (Nat.le_trans ZB.size hbw.size) (fun k hk => by have := (T k hk).1; omega)
theorem new_a0 (w : World) (o1 o2 : Obj) : ((w.alloc o1).alloc o2).heap[w.heap.size]? = some o1 := by
  rw [Below.heap_alloc _ _ _ (by simp)]
  exact heap_alloc_new w o1
theorem new_b0 (w : World) (o1 o2 : Obj) : ((w.alloc o1).alloc o2).heap[w.heap.size + 1]? = some o2 := by
  have := heap_alloc_new (w.alloc o1) o2
  simpa using this
theorem pair_end {w wr W3 : World} {b b6 b7 n : Nat} {v : Value} {ys : List Value} {tv nv : Int} {sv : ByteArray} {tw nw : Int} {sw : ByteArray} (F : Fr w.heap.size b wr W3) (OR : wr.ownsRow (b + 1) 26 3 v n ys) (X6 : Box wr b6 tv nv sv) (X7 : Box wr b7 tw nw sw) (hbw : BW w wr) (h6 : b6 < b) (h7 : b7 < b) :
    W3.ownsRow (b + 1) 26 3 v n ys ∧ Box W3 b6 tv nv sv ∧ Box W3 b7 tw nw sw ∧ BW w W3 :=
  ⟨own26_fr OR F (by omega), X6.fr F (by omega), X7.fr F (by omega), Below.trans hbw F.bel⟩
theorem box_put {w1 : World} {k : Nat} {a b c : Value} (q : w1.heap[k]? = some (.cells #[a, b, c] 26 (0, 0))) (t n : Int) (s : ByteArray) : Box (((w1.setCell ⟨k, 0, none⟩ (.int .u8 t)).setCell ⟨k, 1, none⟩ (.int .i64 n)).setCell ⟨k, 2, none⟩ (.string s)) k t n s :=
  heap_setCell_same _ k 2 _ 26 _ (heap_setCell_same _ k 1 _ 26 _ (heap_setCell_same _ k 0 _ 26 _ q))
theorem HeapIs.put3 {w1 : World} {base b k n : Nat} {lim : Int} {xs : List Value} {c : Array Value} (H1 : HeapIs w1 base b lim n xs) (q : w1.heap[k]? = some (.cells c 26 (0, 0))) (x y z : Value) : HeapIs (((w1.setCell ⟨k, 0, none⟩ x).setCell ⟨k, 1, none⟩ y).setCell ⟨k, 2, none⟩ z) base b lim n xs :=
  have hT : Ty w1 k 26 := ⟨_, q⟩
  HeapIs.put (by decide) (by decide) ((hT.setCell _ _ _).setCell _ _ _) (HeapIs.put (by decide) (by decide) (hT.setCell _ _ _) (HeapIs.put (by decide) (by decide) hT H1 _ _) _ _) _ _
theorem Fr.put3 {w w1 : World} {base b k : Nat} (F : Fr base b w w1) (hb : base ≤ w.heap.size) (hk : w.heap.size ≤ k) (x y z : Value) : Fr base b w (((w1.setCell ⟨k, 0, none⟩ x).setCell ⟨k, 1, none⟩ y).setCell ⟨k, 2, none⟩ z) :=
  ((F.setNew hb hk _ _).setNew hb hk _ _).setNew hb hk _ _
/-- The cells of all things behind Set. -/
structure FOf (xs : List Value) (j A : Nat) (tv nv : Int) (sv : ByteArray) (tw nw : Int) (sw : ByteArray) : Prop where
  tag : ∀ i, i < j → xs[i * 8]? = some (.int .u8 5)
  oth : ∀ i, i < j → i ≠ A → xs[i * 8 + 1]? = some (.int .u8 tv) ∧ xs[i * 8 + 2]? = some (.int .i64 nv) ∧ xs[i * 8 + 3]? = some (.string sv)
  own : xs[A * 8 + 1]? = some (.int .u8 tw) ∧ xs[A * 8 + 2]? = some (.int .i64 nw) ∧ xs[A * 8 + 3]? = some (.string sw)
  ptag : xs[j * 8]? = some (.int .u8 4)
  fst : xs[j * 8 + 1]? = some (.int .u8 5) ∧ xs[j * 8 + 2]? = some (.int .i64 0) ∧ xs[j * 8 + 3]? = some (.string ⟨#[]⟩)
  snd : xs[j * 8 + 4]? = some (.int .u8 tv) ∧ xs[j * 8 + 5]? = some (.int .i64 nv) ∧ xs[j * 8 + 6]? = some (.string sv)
theorem set3_ne (l : List Value) (p q : Nat) (x y z : Value) (h : q < p ∨ p + 2 < q) : (((l.set p x).set (p + 1) y).set (p + 2) z)[q]? = l[q]? := by
  rw [List.getElem?_set_ne (by omega), List.getElem?_set_ne (by omega), List.getElem?_set_ne (by omega)]
theorem FOf.mk' {xs : List Value} {j A : Nat} {tv nv : Int} {sv : ByteArray} (CO : COf xs j tv nv sv) (hA : A < j) (tw nw : Int) (sw : ByteArray) :
    FOf ((((xs ++ thing 4 5 0 ⟨#[]⟩ tv nv sv 0).set (A * 8 + 1) (.int .u8 tw)).set (A * 8 + 2) (.int .i64 nw)).set (A * 8 + 3) (.string sw)) j A tv nv sv tw nw sw := by
  have P := CO.pair (thing 4 5 0 ⟨#[]⟩ tv nv sv 0)
  have L := CO.last (thing 4 5 0 ⟨#[]⟩ tv nv sv 0)
  have hl : (xs ++ thing 4 5 0 ⟨#[]⟩ tv nv sv 0).length = j * 8 + 8 := by simp [CO.1]
  generalize xs ++ thing 4 5 0 ⟨#[]⟩ tv nv sv 0 = l at P L hl
  have N := fun q h => set3_ne l (A * 8 + 1) q (.int .u8 tw) (.int .i64 nw) (.string sw) h
  refine ⟨fun i hi => ?_, fun i hi hne => ⟨?_, ?_, ?_⟩, ⟨?_, ?_, ?_⟩, ?_, ⟨?_, ?_, ?_⟩, ⟨?_, ?_, ?_⟩⟩
  · exact (N _ (by omega)).trans (P i hi).1
  · exact (N _ (by omega)).trans (P i hi).2.1
  · exact (N _ (by omega)).trans (P i hi).2.2.1
  · exact (N _ (by omega)).trans (P i hi).2.2.2
  · rw [List.getElem?_set_ne (by omega), List.getElem?_set_ne (by omega), List.getElem?_set_self (by omega)]
  · rw [List.getElem?_set_ne (by omega), List.getElem?_set_self (by simp; omega)]
  · rw [List.getElem?_set_self (by simp; omega)]
  · exact (N _ (by omega)).trans (L 0)
  · exact (N _ (by omega)).trans (L 1)
  · exact (N _ (by omega)).trans (L 2)
  · exact (N _ (by omega)).trans (L 3)
  · exact (N _ (by omega)).trans (L 4)
  · exact (N _ (by omega)).trans (L 5)
  · exact (N _ (by omega)).trans (L 6)
end Go.Proofs.Ytgiehpcmijaomaa
