import Derived.Test.YtgiehpcmijaomaaProg
import Derived.WalkKit
import Derived.WalkSpells
import Derived.WalkLawsBesides
import Derived.Deep.QuietTactic
import Derived.BigQuiet
import Derived.Deep.RegionLaw
import Derived.Lib.SmallJoins
namespace Go.Proofs.Ytgiehpcmijaomaa
open Go.RowKit
set_option linter.unusedVariables false
/-- What a walk leaves of the world: nothing that was there has turned. -/
def BW (w w' : World) : Prop := Below w.heap.size w w'
theorem BW.refl (w : World) : BW w w := Below.refl _ _
theorem BW.size {w w' : World} (h : BW w w') : w.heap.size ≤ w'.heap.size := Below.size h
theorem BW.trans {a b c : World} (h : BW a b) (k : BW b c) : BW a c := Below.trans h (Below.mono k (BW.size h))
theorem BW.alloc {a b : World} (h : BW a b) (o : Obj) : BW a (b.alloc o) := Below.alloc h (BW.size h) o
theorem BW.drew {a b : World} (h : BW a b) : BW a b.drew := Below.drew h
theorem BW.drewN {a b : World} (h : BW a b) : (n : Nat) → BW a (b.drewN n) := fun n => ⟨h.os, h.tape, h.output, h.size, h.block⟩
theorem BW.setCell {a b : World} (h : BW a b) {p : Addr} (hp : a.heap.size ≤ p.block) (u : Value) : BW a (b.setCell p u) := Below.setCell h hp u
theorem BW.cells {W w1 : World} (hb : BW W w1) : ∀ b o, b < W.heap.size → w1.cell? ⟨b, o, none⟩ = W.cell? ⟨b, o, none⟩ := fun b o h => Below.cell hb (p := ⟨b, o, none⟩) h
theorem BW.froz {W w1 : World} (hb : BW W w1) : ∀ b o, b < W.heap.size → w1.frozen? ⟨b, o, none⟩ = W.frozen? ⟨b, o, none⟩ := fun b o h => Below.frozen hb (p := ⟨b, o, none⟩) h

abbrev V (t n : Int) (s : ByteArray) : Value := .agg #[.int .u8 t, .int .i64 n, .string s]
abbrev Z : Value := V 0 0 ⟨#[]⟩

/-- The Go heap of limit 'lim' that lies in block b has n things, whose cells are xs. -/
def HeapIs (w : World) (base b : Nat) (lim : Int) (n : Nat) (xs : List Value) : Prop :=
  base ≤ b ∧ ∃ v, w.heap[b]? = some (.cells #[.int .i64 lim, v] 46 (0, 0)) ∧ w.ownsRow base 50 8 v n xs
/-- What a call that may change the Go heap in block b leaves of the world. -/
structure Fr (base b : Nat) (w w' : World) : Prop where
  bel : Below base w w'
  oth : ∀ k, k < w.heap.size → k ≠ b → (∀ c f, w.heap[k]? ≠ some (.cells c 50 f)) → w'.heap[k]? = w.heap[k]?
theorem Fr.size {base b : Nat} {w w' : World} (h : Fr base b w w') : w.heap.size ≤ w'.heap.size := h.bel.size

theorem HeapIs.bw {w w' : World} {base b : Nat} {lim : Int} {n : Nat} {xs : List Value} (h : HeapIs w base b lim n xs) (k : BW w w') : HeapIs w' base b lim n xs := by
  obtain ⟨hb, v, h1, h2, h3⟩ := h
  refine ⟨hb, v, (k.block b (Array.getElem?_eq_some_iff.1 h1).1).trans h1, h2, ?_⟩
  rcases h3 with h3 | ⟨g, cap, cur, e, hg, hh, r⟩
  · exact .inl h3
  · exact .inr ⟨g, cap, cur, e, hg, (k.block g (Array.getElem?_eq_some_iff.1 hh).1).trans hh, r⟩
theorem HeapIs.lt {w : World} {base b : Nat} {lim : Int} {n : Nat} {xs : List Value} (h : HeapIs w base b lim n xs) : b < w.heap.size := by
  obtain ⟨hb, v, h1, _⟩ := h; exact (Array.getElem?_eq_some_iff.1 h1).1
theorem BW.fr {w w' : World} (h : BW w w') {base b : Nat} (hb : base ≤ w.heap.size) : Fr base b w w' := ⟨Below.mono h hb, fun k hk _ _ => h.block k hk⟩
theorem Fr.trans {base b : Nat} {w w' w'' : World} (h : Fr base b w w') (k : Fr base b w' w'') : Fr base b w w'' :=
  ⟨h.bel.trans k.bel, fun j hj hb hn => (k.oth j (Nat.lt_of_lt_of_le hj h.size) hb (by rw [h.oth j hj hb hn]; exact hn)).trans (h.oth j hj hb hn)⟩

theorem step_append_own {P : Program} {ops : Array Oper} {o : Oper} {a : Act} {w : World} {K : Act → World → Prop} {Q : Exit → Act → World → Prop} {E : Prop}
    (hg : o.guard = none) (s x : Operand) (t : TypeId) (hop : o.op = Op.call { callee := Callee.builtin Builtin.append, args := #[s, x], argTypes := #[t, t] })
    (base : Nat) (e : TypeId) (i : TypeInfo) (z : Value) (size bytes : Nat) (h1 : P.underlying t = some (.slice e)) (h2 : P.info? e = some i) (h3 : i.zero = some z) (h4 : i.size = size) (h5 : i.bytes = bytes) (h6 : z.cells.size = size) (h7 : 0 < size)
    (v : Value) (n : Nat) (xs : List Value) (hs : a.eval s = v) (hown : w.ownsRow base e size v n xs)
    (ad : Addr) (m c : Nat) (news : List Value) (hx : a.eval x = .slice (some ad) m c) (hn : news.length = m * size) (hc : ∀ j u, news[j]? = some u → w.cell? (ad.add j) = some u) (h1c : ∀ u ∈ news, u.oneCell' = true)
    (b1 : n + m ≤ maxLen) (b2 : (n + m) * bytes ≤ 140737488355328) (hb : base ≤ w.heap.size)
    (hK : ∀ v' w', w'.ownsRow base e size v' (n + m) (xs ++ news) → w.grownBy w' v.ownBlock → K (a.put o.dst v') w') :
    if Region.wanted o (yielded ops a.tmps) = true then Oper.wp P o a w K Q else E := by
  have hw : Region.wanted o (yielded ops a.tmps) = true := by simp [Region.wanted, hg]
  rw [if_pos hw]
  obtain ⟨v', w', hrun, r1, r2, _⟩ := run_append_own (P := P) w base t o.type e i z size bytes h1 h2 h3 h4 h5 h6 h7 v n xs hown ad m c news hn hc h1c b1 b2 hb
  unfold Oper.wp
  simp [execOp, hop, resolve, invoke, builtin, hs, hx, hrun, Result.andThen]
  exact hK v' w' r1 r2
set_option maxHeartbeats 400000 in
theorem new_any (n m : Int) (hm : m = min (max n 0) 1048576) (w : World) :
    Calls Try.prog 8 #[.int .i64 n] w fun e w' => e = .returned (.pointer (some ⟨w.heap.size, 0, none⟩)) ∧ w' = w.alloc (.cells #[.int .i64 m, .slice none 0 0] 46) := by
  have hm2 : Hid (m = min (max n 0) 1048576) := hm
  clear hm
  go_enter Try.func8, Try.ntmps8
  go_wp2
  all_goals (go_ret)
  all_goals
    have e := hm2.out
    clear hm2
  · obtain rfl : m = 0 := by omega
    exact ⟨rfl, rfl⟩
  · obtain rfl : m = 1048576 := by omega
    exact ⟨rfl, rfl⟩
  · obtain rfl : m = n := by omega
    exact ⟨rfl, rfl⟩
set_option maxHeartbeats 400000 in
theorem add_nil (t : Int) (x0 x1 x2 x3 x4 x5 x6 : Value) (w : World) :
    Calls Try.prog 19 #[.pointer none, .agg #[.int .u8 t, x0, x1, x2, x3, x4, x5, x6]] w fun e w' => e = .returned (.tuple #[Z, .int .i64 17]) ∧ BW w w' := by
  go_enter Try.func19, Try.ntmps19
  go_wp2
  go_quiet (fail)
  go_wp2
  exact bodyPost_ret (v := .tuple #[Z, .int .i64 17]) (by simp [results, Try.results19, go_sem]) rfl ⟨rfl, by repeat (first | exact BW.refl _ | assumption | apply BW.alloc | apply BW.drewN | (refine BW.setCell ?_ (by simp) _) | (refine BW.trans ?_ (by assumption)))⟩
set_option maxHeartbeats 400000 in
theorem add_full (base b : Nat) (lim : Int) (n : Nat) (xs : List Value) (hn : lim ≤ n) (t : Int) (x0 x1 x2 x3 x4 x5 x6 : Value) (w : World) (H : HeapIs w base b lim n xs) :
    Calls Try.prog 19 #[.pointer (some ⟨b, 0, none⟩), .agg #[.int .u8 t, x0, x1, x2, x3, x4, x5, x6]] w fun e w' => e = .returned (.tuple #[Z, .int .i64 17]) ∧ BW w w' := by
  have hlt := H.lt
  obtain ⟨hb, v, h1, hown⟩ := H
  have hc0 : w.cell? ⟨b, 0, none⟩ = some (.int .i64 lim) := by simp [World.cell?, h1]
  have hc1 : w.cell? ⟨b, 1, none⟩ = some v := by simp [World.cell?, h1]
  have hv : v = .slice none 0 0 ∧ n = 0 ∨ ∃ g cap, v = .slice (some ⟨g, 0, none⟩) n cap := Go.Joins.ownsRow_forms hown
  clear hown h1
  rcases hv with ⟨rfl, rfl⟩ | ⟨g, cap, rfl⟩
  all_goals
    go_enter Try.func19, Try.ntmps19
    go_wp2
    go_quiet (fail)
    go_wp2
    exact bodyPost_ret (v := .tuple #[Z, .int .i64 17]) (by simp [results, Try.results19, go_sem]) rfl ⟨rfl, by repeat (first | exact BW.refl _ | assumption | apply BW.alloc | apply BW.drewN | (refine BW.setCell ?_ (by simp) _) | (refine BW.trans ?_ (by assumption)))⟩
end Go.Proofs.Ytgiehpcmijaomaa
