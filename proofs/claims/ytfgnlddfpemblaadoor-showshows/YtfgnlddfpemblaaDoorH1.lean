import Derived.Test.YtfgnlddfpemblaaDoorProg
import Derived.WalkKit
import Derived.WalkSpells
import Derived.WalkLawsBesides
import Derived.Deep.QuietTactic
import Derived.BigQuiet
import Derived.Deep.RegionLaw
import Derived.Lib.SmallJoins
namespace Go.Proofs.YtfgnlddfpemblaaDoor
open Go.RowKit
set_option linter.unusedVariables false
set_option linter.unusedSimpArgs false
/-- What a walk leaves of the world: nothing that was there has turned. -/
def BW (w w' : World) : Prop := Below w.heap.size w w'
theorem BW.refl (w : World) : BW w w := Below.refl _ _
theorem BW.size {w w' : World} (h : BW w w') : w.heap.size ≤ w'.heap.size := Below.size h
theorem BW.trans {a b c : World} (h : BW a b) (k : BW b c) : BW a c := Below.trans h (Below.mono k (BW.size h))
theorem BW.alloc {a b : World} (h : BW a b) (o : Obj) : BW a (b.alloc o) := Below.alloc h (BW.size h) o
theorem BW.drew {a b : World} (h : BW a b) : BW a b.drew := Below.drew h
theorem BW.drewN {a b : World} (h : BW a b) : (n : Nat) → BW a (b.drewN n) := fun n => ⟨h.os, h.tape, h.output, h.size, h.block⟩
theorem BW.setCell {a b : World} (h : BW a b) {p : Addr} (hp : a.heap.size ≤ p.block) (u : Value) : BW a (b.setCell p u) := Below.setCell h hp u
theorem BW.cells {W w1 : World} (hb : BW W w1) : ∀ b o, b < W.heap.size → w1.cell? ⟨b, o, none⟩ = W.cell? ⟨b, o, none⟩ := fun b o h => Below.cell hb (p := ⟨b, o, none⟩) h
theorem BW.froz {W w1 : World} (hb : BW W w1) : ∀ b o, b < W.heap.size → w1.frozen? ⟨b, o, none⟩ = W.frozen? ⟨b, o, none⟩ := fun b o h => Below.frozen hb (p := ⟨b, o, none⟩) h
abbrev V (t n : Int) (s : ByteArray) : Value := .agg #[.int .u8 t, .int .i64 n, .string s]
abbrev Z : Value := V 0 0 ⟨#[]⟩
/-- The Go heap of limit 'lim' that lies in block b has n things, whose cells are xs. -/
def HeapIs (w : World) (base b : Nat) (lim : Int) (n : Nat) (xs : List Value) : Prop :=
  base ≤ b ∧ ∃ v, w.heap[b]? = some (.cells #[.int .i64 lim, v] 46 (0, 0)) ∧ w.ownsRow base 50 8 v n xs
/-- What a call that may change the Go heap in block b leaves of the world. -/
structure Fr (base b : Nat) (w w' : World) : Prop where
  bel : Below base w w'
  oth : ∀ k, k < w.heap.size → k ≠ b → (∀ c f, w.heap[k]? ≠ some (.cells c 50 f)) → w'.heap[k]? = w.heap[k]?
theorem Fr.size {base b : Nat} {w w' : World} (h : Fr base b w w') : w.heap.size ≤ w'.heap.size := h.bel.size
theorem HeapIs.bw {w w' : World} {base b : Nat} {lim : Int} {n : Nat} {xs : List Value} (h : HeapIs w base b lim n xs) (k : BW w w') : HeapIs w' base b lim n xs := by
  obtain ⟨hb, v, h1, h2, h3⟩ := h
  refine ⟨hb, v, (k.block b (Array.getElem?_eq_some_iff.1 h1).1).trans h1, h2, ?_⟩
  rcases h3 with h3 | ⟨g, cap, cur, e, hg, hh, r⟩
  · exact .inl h3
  · exact .inr ⟨g, cap, cur, e, hg, (k.block g (Array.getElem?_eq_some_iff.1 hh).1).trans hh, r⟩
theorem HeapIs.lt {w : World} {base b : Nat} {lim : Int} {n : Nat} {xs : List Value} (h : HeapIs w base b lim n xs) : b < w.heap.size := by
  obtain ⟨hb, v, h1, _⟩ := h; exact (Array.getElem?_eq_some_iff.1 h1).1
theorem BW.fr {w w' : World} (h : BW w w') {base b : Nat} (hb : base ≤ w.heap.size) : Fr base b w w' := ⟨Below.mono h hb, fun k hk _ _ => h.block k hk⟩
theorem Fr.trans {base b : Nat} {w w' w'' : World} (h : Fr base b w w') (k : Fr base b w' w'') : Fr base b w w'' :=
  ⟨h.bel.trans k.bel, fun j hj hb hn => (k.oth j (Nat.lt_of_lt_of_le hj h.size) hb (by rw [h.oth j hj hb hn]; exact hn)).trans (h.oth j hj hb hn)⟩
theorem step_append_own {P : Program} {ops : Array Oper} {o : Oper} {a : Act} {w : World} {K : Act → World → Prop} {Q : Exit → Act → World → Prop} {E : Prop}
    (hg : o.guard = none) (s x : Operand) (t : TypeId) (hop : o.op = Op.call { callee := Callee.builtin Builtin.append, args := #[s, x], argTypes := #[t, t] })
    (base : Nat) (e : TypeId) (i : TypeInfo) (z : Value) (size bytes : Nat) (h1 : P.underlying t = some (.slice e)) (h2 : P.info? e = some i) (h3 : i.zero = some z) (h4 : i.size = size) (h5 : i.bytes = bytes) (h6 : z.cells.size = size) (h7 : 0 < size)
    (v : Value) (n : Nat) (xs : List Value) (hs : a.eval s = v) (hown : w.ownsRow base e size v n xs)
    (ad : Addr) (m c : Nat) (news : List Value) (hx : a.eval x = .slice (some ad) m c) (hn : news.length = m * size) (hc : ∀ j u, news[j]? = some u → w.cell? (ad.add j) = some u) (h1c : ∀ u ∈ news, u.oneCell' = true)
    (b1 : n + m ≤ maxLen) (b2 : (n + m) * bytes ≤ 140737488355328) (hb : base ≤ w.heap.size)
    (hK : ∀ v' w', w'.ownsRow base e size v' (n + m) (xs ++ news) → w.grownBy w' v.ownBlock → K (a.put o.dst v') w') :
    if Region.wanted o (yielded ops a.tmps) = true then Oper.wp P o a w K Q else E := by
  have hw : Region.wanted o (yielded ops a.tmps) = true := by simp [Region.wanted, hg]
  rw [if_pos hw]
  obtain ⟨v', w', hrun, r1, r2, _⟩ := run_append_own (P := P) w base t o.type e i z size bytes h1 h2 h3 h4 h5 h6 h7 v n xs hown ad m c news hn hc h1c b1 b2 hb
  unfold Oper.wp
  simp [execOp, hop, resolve, invoke, builtin, hs, hx, hrun, Result.andThen]
  exact hK v' w' r1 r2
set_option maxHeartbeats 400000 in
theorem new_any (n m : Int) (hm : m = min (max n 0) 1048576) (w : World) :
    Calls Tryd.prog 9 #[.int .i64 n] w fun e w' => e = .returned (.pointer (some ⟨w.heap.size, 0, none⟩)) ∧ w' = w.alloc (.cells #[.int .i64 m, .slice none 0 0] 46) := by
  have hm2 : Hid (m = min (max n 0) 1048576) := hm
  clear hm
  go_enter Tryd.func9, Tryd.ntmps9
  go_wp2
  all_goals (go_ret)
  all_goals
    have e := hm2.out
    clear hm2
  · obtain rfl : m = 0 := by omega
    exact ⟨rfl, rfl⟩
  · obtain rfl : m = 1048576 := by omega
    exact ⟨rfl, rfl⟩
  · obtain rfl : m = n := by omega
    exact ⟨rfl, rfl⟩
set_option maxHeartbeats 400000 in
theorem add_nil (t : Int) (x0 x1 x2 x3 x4 x5 x6 : Value) (w : World) :
    Calls Tryd.prog 17 #[.pointer none, .agg #[.int .u8 t, x0, x1, x2, x3, x4, x5, x6]] w fun e w' => e = .returned (.tuple #[Z, .int .i64 17]) ∧ BW w w' := by
  go_enter Tryd.func17, Tryd.ntmps17
  go_wp2
  go_quiet (fail)
  go_wp2
  exact bodyPost_ret (v := .tuple #[Z, .int .i64 17]) (by simp [results, Tryd.results17, go_sem]) rfl ⟨rfl, by repeat (first | exact BW.refl _ | assumption | apply BW.alloc | apply BW.drewN | (refine BW.setCell ?_ (by simp) _) | (refine BW.trans ?_ (by assumption)))⟩
set_option maxHeartbeats 400000 in
theorem add_full (base b : Nat) (lim : Int) (n : Nat) (xs : List Value) (hn : lim ≤ n) (t : Int) (x0 x1 x2 x3 x4 x5 x6 : Value) (w : World) (H : HeapIs w base b lim n xs) :
    Calls Tryd.prog 17 #[.pointer (some ⟨b, 0, none⟩), .agg #[.int .u8 t, x0, x1, x2, x3, x4, x5, x6]] w fun e w' => e = .returned (.tuple #[Z, .int .i64 17]) ∧ BW w w' := by
  have hlt := H.lt
  obtain ⟨hb, v, h1, hown⟩ := H
  have hc0 : w.cell? ⟨b, 0, none⟩ = some (.int .i64 lim) := by simp [World.cell?, h1]
  have hc1 : w.cell? ⟨b, 1, none⟩ = some v := by simp [World.cell?, h1]
  have hv : v = .slice none 0 0 ∧ n = 0 ∨ ∃ g cap, v = .slice (some ⟨g, 0, none⟩) n cap := Go.Joins.ownsRow_forms hown
  clear hown h1
  rcases hv with ⟨rfl, rfl⟩ | ⟨g, cap, rfl⟩
  all_goals
    go_enter Tryd.func17, Tryd.ntmps17
    go_wp2
    go_quiet (fail)
    go_wp2
    exact bodyPost_ret (v := .tuple #[Z, .int .i64 17]) (by simp [results, Tryd.results17, go_sem]) rfl ⟨rfl, by repeat (first | exact BW.refl _ | assumption | apply BW.alloc | apply BW.drewN | (refine BW.setCell ?_ (by simp) _) | (refine BW.trans ?_ (by assumption)))⟩
theorem Tryd.info50 : (Tryd.prog.info? 50).map (fun i => (i.zero, i.size, i.bytes)) = some (some (.agg #[.int .u8 0, .int .u8 0, .int .i64 0, .string ⟨#[]⟩, .int .u8 0, .int .i64 0, .string ⟨#[]⟩, .int .i64 0]), 8, 80) := by kernel_rfl
/-- The cells of a thing. -/
abbrev thing (t t1 n1 : Int) (s1 : ByteArray) (t2 n2 : Int) (s2 : ByteArray) (m : Int) : List Value := [.int .u8 t, .int .u8 t1, .int .i64 n1, .string s1, .int .u8 t2, .int .i64 n2, .string s2, .int .i64 m]
theorem own_bw {w w' : World} {base e size : Nat} {v : Value} {n : Nat} {xs : List Value} (h : w.ownsRow base e size v n xs) (k : BW w w') : w'.ownsRow base e size v n xs := by
  obtain ⟨h2, h3⟩ := h
  refine ⟨h2, ?_⟩
  rcases h3 with h3 | ⟨g, cap, cur, e, hg, hh, r⟩
  · exact .inl h3
  · exact .inr ⟨g, cap, cur, e, hg, (k.block g (Array.getElem?_eq_some_iff.1 hh).1).trans hh, r⟩
/-- A block's element type. -/
def Ty (w : World) (k t : Nat) : Prop := ∃ c, w.heap[k]? = some (.cells c t (0, 0))
theorem Ty.setCell {w : World} {k t : Nat} (h : Ty w k t) (b o : Nat) (u : Value) : Ty (w.setCell ⟨b, o, none⟩ u) k t := by
  obtain ⟨c, hc⟩ := h
  by_cases e : k = b
  · subst e; exact ⟨_, heap_setCell_same w k o c t u hc⟩
  · exact ⟨c, (heap_setCell_other w ⟨b, o, none⟩ k u e).trans hc⟩
theorem Ty.lt {w : World} {k t : Nat} (h : Ty w k t) : k < w.heap.size := by obtain ⟨c, hc⟩ := h; exact (Array.getElem?_eq_some_iff.1 hc).1
theorem HeapIs.put {w : World} {base b : Nat} {lim : Int} {n : Nat} {xs : List Value} {k t : Nat} (ht : t ≠ 46) (ht' : t ≠ 50) (hk : Ty w k t) (h : HeapIs w base b lim n xs) (o : Nat) (u : Value) : HeapIs (w.setCell ⟨k, o, none⟩ u) base b lim n xs := by
  obtain ⟨hb, v, h1, h2, h3⟩ := h
  obtain ⟨c, hc⟩ := hk
  have n1 : b ≠ k := by rintro rfl; rw [h1] at hc; simp at hc; exact ht hc.2.symm
  refine ⟨hb, v, (heap_setCell_other w ⟨k, o, none⟩ b u n1).trans h1, h2, ?_⟩
  rcases h3 with h3 | ⟨g, cap, cur, e, hg, hh, r⟩
  · exact .inl h3
  · have n2 : g ≠ k := by rintro rfl; rw [hh] at hc; simp at hc; exact ht' hc.2.symm
    exact .inr ⟨g, cap, cur, e, hg, (heap_setCell_other w ⟨k, o, none⟩ g u n2).trans hh, r⟩
theorem HeapIs.grown {w : World} {base b : Nat} {lim : Int} {n : Nat} {xs : List Value} {v v' : Value} (hb : base ≤ b) (h1 : w.heap[b]? = some (.cells #[.int .i64 lim, v] 46 (0, 0))) (h2 : w.ownsRow base 50 8 v' n xs) : HeapIs (w.setCell ⟨b, 1, none⟩ v') base b lim n xs := by
  refine ⟨hb, v', heap_setCell_same w b 1 _ 46 v' h1, h2.1, ?_⟩
  rcases h2.2 with h3 | ⟨g, cap, cur, e, hg, hh, r⟩
  · exact .inl h3
  · have n2 : g ≠ b := by rintro rfl; rw [hh] at h1; simp at h1
    exact .inr ⟨g, cap, cur, e, hg, (heap_setCell_other w ⟨b, 1, none⟩ g v' n2).trans hh, r⟩
theorem own_ty {w : World} {base b : Nat} {v : Value} {n : Nat} {xs : List Value} (h : w.ownsRow base 50 8 v n xs) : ∀ k, v.ownBlock = some k → base ≤ k ∧ Ty w k 50 := by
  intro k hk
  rcases h.2 with ⟨rfl, _⟩ | ⟨g, cap, cur, rfl, hb, hg, _⟩
  · simp [Value.ownBlock] at hk
  · simp [Value.ownBlock] at hk
    subst hk
    exact ⟨hb, cur, hg⟩
theorem Fr.grow {base b : Nat} {w W w' : World} {row : Option Nat} (h : BW w W) (hb : base ≤ w.heap.size) (hg : W.grownBy w' row) (hr : ∀ k, row = some k → base ≤ k ∧ Ty w k 50) : Fr base b w w' := by
  refine ⟨Below.grown (Below.mono h hb) hg (Nat.le_trans hb h.size) (fun k hk => (hr k hk).1), fun k hk hkb hn => ?_⟩
  rw [hg.block k (Nat.lt_of_lt_of_le hk h.size) (fun e => by obtain ⟨_, c, hc⟩ := hr k e.symm; exact hn _ _ hc)]
  exact h.block k hk
theorem Fr.setHeap {base b : Nat} {w w' : World} (h : Fr base b w w') (hb : base ≤ b) (o : Nat) (u : Value) : Fr base b w (w'.setCell ⟨b, o, none⟩ u) :=
  ⟨h.bel.setCell hb u, fun k hk hkb hn => (heap_setCell_other w' ⟨b, o, none⟩ k u hkb).trans (h.oth k hk hkb hn)⟩
theorem Fr.setNew {base b : Nat} {w w' : World} (h : Fr base b w w') (hb : base ≤ w.heap.size) {k : Nat} (hk : w.heap.size ≤ k) (o : Nat) (u : Value) : Fr base b w (w'.setCell ⟨k, o, none⟩ u) :=
  ⟨h.bel.setCell (by exact Nat.le_trans hb hk) u, fun j hj hjb hn => (heap_setCell_other w' ⟨k, o, none⟩ j u (by show j ≠ k; omega)).trans (h.oth j hj hjb hn)⟩
theorem Fr.drew {base b : Nat} {w w' : World} (h : Fr base b w w') : Fr base b w w'.drew := ⟨h.bel.drew, h.oth⟩
theorem drewN_size (w : World) (n : Nat) : (w.drewN n).heap.size = w.heap.size := rfl
theorem cell_at_new {W : World} {k t : Nat} (l : List Value) (hk : k = W.heap.size) (j : Nat) (u : Value) (h : l[j]? = some u) : (W.alloc (.cells l.toArray t)).cell? ((⟨k, 0, none⟩ : Addr).add j) = some u := by
  subst hk
  have hadd : (⟨W.heap.size, 0, none⟩ : Addr).add j = ⟨W.heap.size, j, none⟩ := by unfold Addr.add; split <;> simp_all
  rw [hadd, cell_of_row _ _ j l.toArray t (0, 0) (heap_alloc_new W _)]
  simpa using h
theorem new_a (w : World) (o1 o2 : Obj) (k : Nat) : (((w.alloc o1).alloc o2).drewN k).heap[w.heap.size]? = some o1 := by
  show ((w.alloc o1).alloc o2).heap[w.heap.size]? = some o1
  rw [Below.heap_alloc _ _ _ (by simp)]
  exact heap_alloc_new w o1
theorem new_b (w : World) (o1 o2 : Obj) (k : Nat) : (((w.alloc o1).alloc o2).drewN k).heap[w.heap.size + 1]? = some o2 := by
  show ((w.alloc o1).alloc o2).heap[w.heap.size + 1]? = some o2
  have := heap_alloc_new (w.alloc o1) o2
  simpa using this
theorem qb_of {w W w' : World} {row : Option Nat} {b : Nat} {o : Obj} (hg : W.grownBy w' row) (hbw : BW w W) (hlt : b < w.heap.size) (hr : row ≠ some b) (h1 : w.heap[b]? = some o) : w'.heap[b]? = some o :=
  (hg.block b (Nat.lt_of_lt_of_le hlt hbw.size) (Ne.symm hr)).trans ((hbw.block b hlt).trans h1)
set_option maxRecDepth 100000 in
set_option maxHeartbeats 4000000 in
theorem add_room (base b : Nat) (lim : Int) (n : Nat) (xs : List Value) (hn : n < lim) (hlim : lim ≤ 1048576) (t t1 n1 : Int) (s1 : ByteArray) (t2 n2 : Int) (s2 : ByteArray) (m : Int) (w : World) (H : HeapIs w base b lim n xs) :
    Calls Tryd.prog 17 #[.pointer (some ⟨b, 0, none⟩), .agg #[.int .u8 t, .int .u8 t1, .int .i64 n1, .string s1, .int .u8 t2, .int .i64 n2, .string s2, .int .i64 m]] w fun e w' => e = .returned (.tuple #[V t n ⟨#[]⟩, .int .i64 0]) ∧
      HeapIs w' base b lim (n + 1) (xs ++ thing t t1 n1 s1 t2 n2 s2 m) ∧ Fr base b w w' := by
  have hlt := H.lt
  obtain ⟨hb, v, h1, hown⟩ := H
  have hc0 : w.cell? ⟨b, 0, none⟩ = some (.int .i64 lim) := by simp [World.cell?, h1]
  have hc1 : w.cell? ⟨b, 1, none⟩ = some v := by simp [World.cell?, h1]
  have hf1 : w.frozen? ⟨b, 1, none⟩ = false := by simp [World.frozen?, h1]
  have hv : v = .slice none 0 0 ∧ n = 0 ∨ ∃ g cap, v = .slice (some ⟨g, 0, none⟩) n cap := Go.Joins.ownsRow_forms hown
  obtain ⟨i0, hi, hz0, hz1, hz2⟩ := info_parts Tryd.info50
  have hrow := own_ty (b := b) hown
  have hbr : v.ownBlock ≠ some b := by
    intro e
    obtain ⟨_, c, hc⟩ := hrow b e
    rw [h1] at hc; simp at hc
  have hnr : ∀ k, w.heap.size ≤ k → v.ownBlock ≠ some k := by
    intro k hk e
    have := (hrow k e).2.lt
    omega
  rcases hv with ⟨rfl, rfl⟩ | ⟨g, cap, rfl⟩
  all_goals
    go_enter Tryd.func17, Tryd.ntmps17
    go_wp2
    go_quiet (fail)
    go_wp2
    obtain ⟨W, hW⟩ : ∃ W, W = ((w.alloc (.cells #[.int .u8 t, .int .u8 t1, .int .i64 n1, .string s1, .int .u8 t2, .int .i64 n2, .string s2, .int .i64 m] 50)).alloc (.cells #[.int .u8 0, .int .i64 0, .string ⟨#[]⟩] 24)).drewN nq := ⟨_, rfl⟩
    rw [← hW]
    have hbw : BW w W := by rw [hW]; exact (by repeat (first | exact BW.refl _ | apply BW.alloc | apply BW.drewN | apply BW.drew))
    have hWs : W.heap.size = w.heap.size + 1 + 1 := by rw [hW]; simp
    have W1 := (hbw.block b hlt).trans h1
    have W2 : W.heap[w.heap.size]? = some (.cells #[.int .u8 t, .int .u8 t1, .int .i64 n1, .string s1, .int .u8 t2, .int .i64 n2, .string s2, .int .i64 m] 50 (0, 0)) := by rw [hW]; exact new_a _ _ _ _
    have W3 : W.heap[w.heap.size + 1]? = some (.cells #[.int .u8 0, .int .i64 0, .string ⟨#[]⟩] 24 (0, 0)) := by rw [hW]; exact new_b _ _ _ _
    clear hW
    have d0 : W.cell? ⟨b, 1, none⟩ = some _ := (by simp only [World.cell?, W1]; rfl)
    have d1 : W.frozen? ⟨b, 1, none⟩ = false := (by simp [World.frozen?, W1])
    have e0 : W.cell? ⟨w.heap.size, 0, none⟩ = some _ := (by simp only [World.cell?, W2]; rfl)
    have e1 : W.cell? ⟨w.heap.size, 1, none⟩ = some _ := (by simp only [World.cell?, W2]; rfl)
    have e2 : W.cell? ⟨w.heap.size, 2, none⟩ = some _ := (by simp only [World.cell?, W2]; rfl)
    have e3 : W.cell? ⟨w.heap.size, 3, none⟩ = some _ := (by simp only [World.cell?, W2]; rfl)
    have e4 : W.cell? ⟨w.heap.size, 4, none⟩ = some _ := (by simp only [World.cell?, W2]; rfl)
    have e5 : W.cell? ⟨w.heap.size, 5, none⟩ = some _ := (by simp only [World.cell?, W2]; rfl)
    have e6 : W.cell? ⟨w.heap.size, 6, none⟩ = some _ := (by simp only [World.cell?, W2]; rfl)
    have e7 : W.cell? ⟨w.heap.size, 7, none⟩ = some _ := (by simp only [World.cell?, W2]; rfl)
    have hltW : b < W.heap.size := by omega
    have hown2 := own_bw hown hbw
    have HWs : Hid (W.heap.size = w.heap.size + 1 + 1) := hWs
    have hdW : ¬ b = W.heap.size := by omega
    have hd0 : w.heap.size < W.heap.size := by omega
    have hd1 : w.heap.size + 1 < W.heap.size := by omega
    have hbW : base ≤ W.heap.size := by omega
    clear hc0 hc1 hf1 hWs
    go_region_law (refine step_append_own rfl (.tmp 31) (.tmp 33) 44 rfl base 50 i0 _ 8 80 Tryd.underlying44 hi hz0 hz1 hz2 rfl (by decide) _ _ xs rfl (own_bw hown2 (by repeat (first | exact BW.refl _ | apply BW.alloc | apply BW.drewN | apply BW.drew))) ⟨_, 0, none⟩ 1 1 (thing t t1 n1 s1 t2 n2 s2 m) (by simp [Act.eval]; rfl) rfl (fun j u hj => cell_at_new _ (by simp) j u hj) (by
        intro u hu; simp at hu; rcases hu with rfl | rfl | rfl | rfl | rfl | rfl | rfl | rfl <;> rfl) (by unfold maxLen; omega) (by omega) (by first | (simp; done) | (simp; omega)) ?_; intro v' w' hown' hgrow; obtain ⟨g', cap', rfl⟩ := Go.Joins.ownsRow_form hown' (by omega); have qb := qb_of hgrow (by repeat (first | exact BW.refl _ | apply BW.alloc | apply BW.drewN | apply BW.drew)) hltW hbr W1; have q0 := qb_of hgrow (by repeat (first | exact BW.refl _ | apply BW.alloc | apply BW.drewN | apply BW.drew)) hd0 (hnr _ (by omega)) W2; have q1 := qb_of hgrow (by repeat (first | exact BW.refl _ | apply BW.alloc | apply BW.drewN | apply BW.drew)) hd1 (hnr _ (by omega)) W3; have FR : Fr base b w w' := Fr.grow (BW.trans hbw (by repeat (first | exact BW.refl _ | apply BW.alloc | apply BW.drewN | apply BW.drew))) (by omega) hgrow hrow; have cb : w'.cell? ⟨b, 1, none⟩ = some _ := (by simp only [World.cell?, qb]; rfl); have fb : w'.frozen? ⟨b, 1, none⟩ = false := (by simp [World.frozen?, qb]))
    all_goals
      have cz : w'.cell? ⟨w.heap.size, 0, none⟩ = some _ := (by simp only [World.cell?, q0]; rfl)
      have k0 : w'.cell? ⟨w.heap.size + 1, 0, none⟩ = some _ := (by simp only [World.cell?, q1]; rfl)
      have k1 : w'.cell? ⟨w.heap.size + 1, 1, none⟩ = some _ := (by simp only [World.cell?, q1]; rfl)
      have k2 : w'.cell? ⟨w.heap.size + 1, 2, none⟩ = some _ := (by simp only [World.cell?, q1]; rfl)
      have f0 : w'.frozen? ⟨w.heap.size + 1, 0, none⟩ = false := (by simp [World.frozen?, q1])
      have f1 : w'.frozen? ⟨w.heap.size + 1, 1, none⟩ = false := (by simp [World.frozen?, q1])
      have f2 : w'.frozen? ⟨w.heap.size + 1, 2, none⟩ = false := (by simp [World.frozen?, q1])
      have hT : Ty w' (w.heap.size + 1) 24 := ⟨_, q1⟩
      have HH : Hid (HeapIs (w'.setCell ⟨b, 1, none⟩ (.slice (some ⟨g', 0, none⟩) _ cap')) base b lim _ _) := HeapIs.grown hb qb hown'
      have n1 : ¬ b = w.heap.size := by omega
      have n2 : ¬ b = w.heap.size + 1 := by omega
      have n3 : ¬ w.heap.size = b := by omega
      have n4 : ¬ w.heap.size + 1 = b := by omega
      have hbb : base ≤ w.heap.size := by omega
      clear q0 q1 qb hown' hgrow hown hown2 e0 e1 e2 e3 e4 e5 e6 e7 W1 W2 W3 d0 d1 h1 hrow hnr hbr hi hz0 hz1 hz2 cb fb
      go_wp2
      refine bodyPost_ret (v := .tuple #[V t _ ⟨#[]⟩, .int .i64 0]) (by simp [results, Tryd.results17, go_sem, *]) rfl ⟨rfl, ?_, ?_⟩
      · exact HeapIs.put (by decide) (by decide) (((hT.setCell _ _ _).setCell _ _ _).setCell _ _ _) (HeapIs.put (by decide) (by decide) ((hT.setCell _ _ _).setCell _ _ _) (HeapIs.put (by decide) (by decide) (hT.setCell _ _ _) HH.out _ _) _ _) _ _
      · exact (((FR.setHeap hb _ _).setNew hbb (by omega) _ _).setNew hbb (by omega) _ _).setNew hbb (by omega) _ _
end Go.Proofs.YtfgnlddfpemblaaDoor
