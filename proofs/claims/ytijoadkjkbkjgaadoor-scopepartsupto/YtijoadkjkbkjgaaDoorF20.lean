import Derived.Test.YtijoadkjkbkjgaaDoorF10
import Derived.Test.YtijoadkjkbkjgaaDoorK1
import Derived.Test.YtijoadkjkbkjgaaDoorP1
import Derived.Deep.DeepCutAuto
namespace Go.Proofs.YtijoadkjkbkjgaaDoor
open Go.RowKit
set_option linter.unusedVariables false
set_option linter.unusedSimpArgs false

theorem StrsV.len' {w : World} {a : Option Addr} {m c : Nat} {l : List ByteArray} (h : StrsV w (.slice a m c) l) : l.length = m ∧ StrsAt w a m l ∧ m ≤ c ∧ c ≤ maxLen := by
  obtain ⟨ao, cp, e, h1, h2, h3⟩ := h
  cases e
  exact ⟨rfl, h1, h2, h3⟩
theorem StrsV.form' {w : World} {v : Value} {l : List ByteArray} (h : StrsV w v l) : ∃ a b c, v = .slice a b c := by
  obtain ⟨ao, cp, e, _⟩ := h
  exact ⟨_, _, _, e⟩
/-- A node's box. -/
def BoxH' (w : World) (g : Nat) (k n : Int) (s : ByteArray) (na : Option Addr) (nl nc : Nat) (ka : Option Addr) (kl kc : Nat) : Prop := w.heap[g]? = some (.cells #[.int .u8 k, .int .i64 n, .string s, .slice na nl nc, .slice ka kl kc] 25 (0, 0))
theorem BoxH'.cells {w : World} {g : Nat} {k n : Int} {s : ByteArray} {na : Option Addr} {nl nc : Nat} {ka : Option Addr} {kl kc : Nat} (h : BoxH' w g k n s na nl nc ka kl kc) : w.cell? ⟨g, 0, none⟩ = some (.int .u8 k) ∧ w.cell? ⟨g, 1, none⟩ = some (.int .i64 n) ∧ w.cell? ⟨g, 2, none⟩ = some (.string s) ∧ w.cell? ⟨g, 3, none⟩ = some (.slice na nl nc) ∧ w.cell? ⟨g, 4, none⟩ = some (.slice ka kl kc) := by
  unfold BoxH' at h
  exact ⟨by rw [Lib.cell_of_heap h]; rfl, by rw [Lib.cell_of_heap h]; rfl, by rw [Lib.cell_of_heap h]; rfl, by rw [Lib.cell_of_heap h]; rfl, by rw [Lib.cell_of_heap h]; rfl⟩
theorem two_new (w : World) (o1 o2 : Obj) : ((w.alloc o1).alloc o2).drew.heap[w.heap.size]? = some o1 ∧ ((w.alloc o1).alloc o2).drew.heap[w.heap.size + 1]? = some o2 := by
  constructor
  · show ((w.alloc o1).alloc o2).heap[w.heap.size]? = some o1
    rw [Below.heap_alloc _ _ _ (by simp)]
    exact heap_alloc_new w o1
  · show ((w.alloc o1).alloc o2).heap[w.heap.size + 1]? = some o2
    have := heap_alloc_new (w.alloc o1) o2
    simpa using this
theorem drop_one_take (L : List ByteArray) : (L.take 1).drop 1 = [] := by cases L <;> simp
theorem drop_snoc {L : List ByteArray} {q : Nat} {y : ByteArray} (h : L[q]? = some y) (hq : 1 ≤ q) : (L.take (q + 1)).drop 1 = (L.take q).drop 1 ++ [y] := by
  have hl := (List.getElem?_eq_some_iff.1 h).1
  rw [List.take_add_one, h, Option.toList_some, List.drop_append_of_le_length (by simp; omega)]
/-- A let of a name. -/
def letT {n : Nat} (s : ByteArray) (u t : Tr (n + 1)) : Tr (n + 2) := (⟨8, 0, s, [], [u, t]⟩ : Nd (Tr (n + 1)))
theorem letT_sz {n : Nat} (s : ByteArray) (u t : Tr (n + 1)) : sz (n + 2) (letT s u t) = 1 + sz (n + 1) u + sz (n + 1) t := by
  show 1 + ([u, t].map (sz (n + 1))).sum = _
  simp; omega
theorem letT_n200 {n : Nat} {s : ByteArray} {u t : Tr (n + 1)} (hu : n200 (n + 1) u = true) (ht : n200 (n + 1) t = true) : n200 (n + 2) (letT s u t) = true := by
  show (decide (([] : List ByteArray).length ≤ 200) && [u, t].all (n200 (n + 1))) = true
  simp [hu, ht]
theorem letT_fre {n : Nat} {s : ByteArray} {u t : Tr (n + 1)} (ht : mayB (n + 1) t = true) (hu : mayB (n + 1) u = true) (hx : mayB (n + 2) (letT s u t) = true) (h0 : (fre (n + 1) t)[0]? = some s) : ∀ x ∈ fre (n + 2) (letT s u t), x ∈ fre (n + 1) u ∨ x ∈ (fre (n + 1) t).drop 1 := by
  intro x h
  unfold fre at h h0 ⊢
  rw [hx, if_pos rfl] at h
  rw [ht, if_pos rfl] at h0
  rw [hu, if_pos rfl, ht, if_pos rfl]
  have h' : x ∈ fr (n + 1) t ([] ++ [] ++ [s]) (fr (n + 1) u [] []) := h
  rcases fr_bind h' with h1 | ⟨h1, h2⟩
  · exact .inl h1
  · right
    generalize fr (n + 1) t [] [] = L at *
    cases L with
    | nil => cases h1
    | cons a r =>
      simp at h0
      subst h0
      rcases List.mem_cons.1 h1 with h1 | h1
      · exact absurd h1 h2
      · exact h1
theorem let_at {n : Nat} {u t : Tr (n + 1)} {w : World} {s : ByteArray} {b : Nat} {r1 r2 : Rw} (hu : NodeAt w (n + 1) r1.v u) (ht : NodeAt w (n + 1) r2.v t) (hs : s.size ≤ maxLen) (h : w.heap[b]? = some (.cells #[.int .u8 r1.k, .int .i64 r1.n, .string r1.s, .slice r1.na r1.nl r1.nc, .slice r1.ka r1.kl r1.kc, .int .u8 r2.k, .int .i64 r2.n, .string r2.s, .slice r2.na r2.nl r2.nc, .slice r2.ka r2.kl r2.kc] 25 (0, 0))) : NodeAt w (n + 2) (ndv 8 0 s none 0 0 (some ⟨b, 0, none⟩) 2 2) (letT s u t) := by
  refine ⟨none, 0, 0, _, 2, 2, rfl, ⟨(show (0 : Int) ≤ 8 by decide), (show (8 : Int) ≤ 255 by decide), (show (-9223372036854775808 : Int) ≤ 0 by decide), (show (0 : Int) ≤ 9223372036854775807 by decide), hs⟩, Nat.le_refl _, Nat.zero_le _, Nat.le_refl _, by decide, StrsAt.nil, SeqAt.two (r1 := r1) (r2 := r2) (Array.getElem?_eq_some_iff.1 h).1 ⟨?_, ?_, ?_, ?_, ?_⟩ ⟨?_, ?_, ?_, ?_, ?_⟩ hu ht⟩ <;> (rw [Lib.cell_of_heap h]; rfl)
/-- Two boxes, one behind the other. -/
def Bx2 (w0 w : World) {n : Nat} (t u : Tr (n + 1)) (na : Option Addr) (nl nc : Nat) (ka : Option Addr) (kl kc : Nat) (ma : Option Addr) (ml mc : Nat) (qa : Option Addr) (ql qc : Nat) : Prop :=
  BW (bx (bx w0 (Nd.k (K := Tr n) t) (Nd.n (K := Tr n) t) (Nd.s (K := Tr n) t) na nl nc ka kl kc) (Nd.k (K := Tr n) u) (Nd.n (K := Tr n) u) (Nd.s (K := Tr n) u) ma ml mc qa ql qc) w
theorem Bx2.bw {w0 w w' : World} {n : Nat} {t u : Tr (n + 1)} {na : Option Addr} {nl nc : Nat} {ka : Option Addr} {kl kc : Nat} {ma : Option Addr} {ml mc : Nat} {qa : Option Addr} {ql qc : Nat} (h : Bx2 w0 w t u na nl nc ka kl kc ma ml mc qa ql qc) (k : BW w w') : Bx2 w0 w' t u na nl nc ka kl kc ma ml mc qa ql qc := BW.trans h k
theorem Bx2.cells {w0 w : World} {n : Nat} {t u : Tr (n + 1)} {na : Option Addr} {nl nc : Nat} {ka : Option Addr} {kl kc : Nat} {ma : Option Addr} {ml mc : Nat} {qa : Option Addr} {ql qc : Nat} (h : Bx2 w0 w t u na nl nc ka kl kc ma ml mc qa ql qc) :
    (w.cell? ⟨w0.heap.size, 0, none⟩ = some (.int .u8 (Nd.k (K := Tr n) t)) ∧ w.cell? ⟨w0.heap.size, 1, none⟩ = some (.int .i64 (Nd.n (K := Tr n) t)) ∧ w.cell? ⟨w0.heap.size, 2, none⟩ = some (.string (Nd.s (K := Tr n) t)) ∧ w.cell? ⟨w0.heap.size, 3, none⟩ = some (.slice na nl nc) ∧ w.cell? ⟨w0.heap.size, 4, none⟩ = some (.slice ka kl kc)) ∧
    (w.cell? ⟨w0.heap.size + 1, 0, none⟩ = some (.int .u8 (Nd.k (K := Tr n) u)) ∧ w.cell? ⟨w0.heap.size + 1, 1, none⟩ = some (.int .i64 (Nd.n (K := Tr n) u)) ∧ w.cell? ⟨w0.heap.size + 1, 2, none⟩ = some (.string (Nd.s (K := Tr n) u)) ∧ w.cell? ⟨w0.heap.size + 1, 3, none⟩ = some (.slice ma ml mc) ∧ w.cell? ⟨w0.heap.size + 1, 4, none⟩ = some (.slice qa ql qc)) ∧ w0.heap.size + 1 < w.heap.size ∧ BW w0 w := by
  obtain ⟨d, hz, hb⟩ := bx_at h
  obtain ⟨c, _, hb0⟩ := bx_at hb
  rw [show (bx w0 (Nd.k (K := Tr n) t) (Nd.n (K := Tr n) t) (Nd.s (K := Tr n) t) na nl nc ka kl kc).heap.size = w0.heap.size + 1 by simp] at d hz
  exact ⟨c, d, hz, hb0⟩
theorem Bx2.new (w0 : World) {n : Nat} (t u : Tr (n + 1)) (na : Option Addr) (nl nc : Nat) (ka : Option Addr) (kl kc : Nat) (ma : Option Addr) (ml mc : Nat) (qa : Option Addr) (ql qc : Nat) : Bx2 w0 (bx (bx w0 (Nd.k (K := Tr n) t) (Nd.n (K := Tr n) t) (Nd.s (K := Tr n) t) na nl nc ka kl kc) (Nd.k (K := Tr n) u) (Nd.n (K := Tr n) u) (Nd.s (K := Tr n) u) ma ml mc qa ql qc) t u na nl nc ka kl kc ma ml mc qa ql qc := BW.refl _
set_option maxRecDepth 100000 in
set_option maxHeartbeats 4000000 in
theorem scopeBinds_any (f : Nat) (v0 v1 : Value) (t u : Tr f) (w : World) (h0 : NodeAt w f v0 t) (h1 : NodeAt w f v1 u) (hz : sz f t ≤ 1048576) (hy : sz f u ≤ 1048576) (hT : Tw w) : Calls Tryd.prog 4 #[v0, v1] w fun e w' => e = .returned (.bool true) ∧ BW w w' := by
  have HN : Hid (NodeAt w f v0 t) := h0
  have HU : Hid (NodeAt w f v1 u) := h1
  cases f with
  | zero => exact h0.elim
  | succ n =>
    obtain ⟨na, nl, nc, ka, kl, kc, rfl, _⟩ := h0
    obtain ⟨ma, ml, mc, qa, ql, qc, rfl, _⟩ := h1
    have HT : Hid (Tw w) := hT
    have HA : Hid (∀ w', BW w w' → Calls Tryd.prog 8 #[] w' fun e w'' => e = .returned (.bool true) ∧ BW w' w'') := fun w' hw => awake_any w' (hT.bw hw)
    have CG : Hid (∀ w', BW w w' → Calls Tryd.prog 7 #[ndv (Nd.k (K := Tr n) t) (Nd.n (K := Tr n) t) (Nd.s (K := Tr n) t) na nl nc ka kl kc, .int .i64 0] w' fun e w'' => e = .returned (.bool (gr (n + 1) t 0)) ∧ BW w' w'') := fun w' hw => by
      have := great_any (n + 1) _ t 0 w' (by decide) (HN.out.bw hw)
      simpa using this
    have CU : Hid (∀ w', BW w w' → Calls Tryd.prog 7 #[ndv (Nd.k (K := Tr n) u) (Nd.n (K := Tr n) u) (Nd.s (K := Tr n) u) ma ml mc qa ql qc, .int .i64 0] w' fun e w'' => e = .returned (.bool (gr (n + 1) u 0)) ∧ BW w' w'') := fun w' hw => by
      have := great_any (n + 1) _ u 0 w' (by decide) (HU.out.bw hw)
      simpa using this
    have CM : Hid (∀ w', BW w w' → Calls Tryd.prog 11 #[ndv (Nd.k (K := Tr n) t) (Nd.n (K := Tr n) t) (Nd.s (K := Tr n) t) na nl nc ka kl kc] w' fun e w'' => e = .returned (.bool (mayB (n + 1) t)) ∧ BW w' w'') := fun w' hw => refMay_any (n + 1) _ t w' (HN.out.bw hw) (by omega)
    have CN : Hid (∀ w', BW w w' → Calls Tryd.prog 11 #[ndv (Nd.k (K := Tr n) u) (Nd.n (K := Tr n) u) (Nd.s (K := Tr n) u) ma ml mc qa ql qc] w' fun e w'' => e = .returned (.bool (mayB (n + 1) u)) ∧ BW w' w'') := fun w' hw => refMay_any (n + 1) _ u w' (HU.out.bw hw) (by omega)
    clear hT hz hy
    cases hg0 : gr (n + 1) t 0 with
    | true =>
      rw [hg0] at CG
      clear hg0 CU CM CN
      go_enter Tryd.func4, Tryd.ntmps4
      have HX0 : Hid (Bx2 w (bx (bx w (Nd.k (K := Tr n) t) (Nd.n (K := Tr n) t) (Nd.s (K := Tr n) t) na nl nc ka kl kc) (Nd.k (K := Tr n) u) (Nd.n (K := Tr n) u) (Nd.s (K := Tr n) u) ma ml mc qa ql qc) t u na nl nc ka kl kc ma ml mc qa ql qc) := Bx2.new _ _ _ _ _ _ _ _ _ _ _ _ _ _ _
      obtain ⟨⟨c0, c1, c2, c3, c4⟩, ⟨d0, d1, d2, d3, d4⟩, zz, gb⟩ := HX0.out.cells
      go_wp2_with (fail)
      refine (CG.out _ gb).mono ?_
      rintro e w1 ⟨rfl, bw1⟩
      have HXw1 : Hid (Bx2 w w1 t u na nl nc ka kl kc ma ml mc qa ql qc) := HX0.out.bw bw1
      clear c0 c1 c2 c3 c4 d0 d1 d2 d3 d4 zz gb
      obtain ⟨⟨c0, c1, c2, c3, c4⟩, ⟨d0, d1, d2, d3, d4⟩, zz, gb⟩ := HXw1.out.cells
      go_wp2_with (first | (go_at_call 8; refine (HA.out _ gb).mono ?_; rintro e wz ⟨rfl, bz⟩))
      go_ret
      exact ⟨rfl, BW.trans gb bz⟩
    | false =>
      rw [hg0] at CG
      cases hg1 : gr (n + 1) u 0 with
      | true =>
        rw [hg1] at CU
        clear hg0 hg1 CM CN
        go_enter Tryd.func4, Tryd.ntmps4
        have HX0 : Hid (Bx2 w (bx (bx w (Nd.k (K := Tr n) t) (Nd.n (K := Tr n) t) (Nd.s (K := Tr n) t) na nl nc ka kl kc) (Nd.k (K := Tr n) u) (Nd.n (K := Tr n) u) (Nd.s (K := Tr n) u) ma ml mc qa ql qc) t u na nl nc ka kl kc ma ml mc qa ql qc) := Bx2.new _ _ _ _ _ _ _ _ _ _ _ _ _ _ _
        obtain ⟨⟨c0, c1, c2, c3, c4⟩, ⟨d0, d1, d2, d3, d4⟩, zz, gb⟩ := HX0.out.cells
        go_wp2_with (fail)
        refine (CG.out _ gb).mono ?_
        rintro e w1 ⟨rfl, bw1⟩
        have HXw1 : Hid (Bx2 w w1 t u na nl nc ka kl kc ma ml mc qa ql qc) := HX0.out.bw bw1
        clear c0 c1 c2 c3 c4 d0 d1 d2 d3 d4 zz gb
        obtain ⟨⟨c0, c1, c2, c3, c4⟩, ⟨d0, d1, d2, d3, d4⟩, zz, gb⟩ := HXw1.out.cells
        go_wp2_with (fail)
        refine (CU.out _ gb).mono ?_
        rintro e w2 ⟨rfl, bw2⟩
        have HXw2 : Hid (Bx2 w w2 t u na nl nc ka kl kc ma ml mc qa ql qc) := HXw1.out.bw bw2
        clear c0 c1 c2 c3 c4 d0 d1 d2 d3 d4 zz gb
        obtain ⟨⟨c0, c1, c2, c3, c4⟩, ⟨d0, d1, d2, d3, d4⟩, zz, gb⟩ := HXw2.out.cells
        go_wp2_with (first | (go_at_call 8; refine (HA.out _ gb).mono ?_; rintro e wz ⟨rfl, bz⟩))
        go_ret
        exact ⟨rfl, BW.trans gb bz⟩
      | false =>
        rw [hg1] at CU
        have n0 := gr_n200 _ _ _ hg0
        have n1 := gr_n200 _ _ _ hg1
        clear hg0 hg1
        cases hm0 : mayB (n + 1) t with
        | false =>
          rw [hm0] at CM
          clear hm0 CN
          go_enter Tryd.func4, Tryd.ntmps4
          have HX0 : Hid (Bx2 w (bx (bx w (Nd.k (K := Tr n) t) (Nd.n (K := Tr n) t) (Nd.s (K := Tr n) t) na nl nc ka kl kc) (Nd.k (K := Tr n) u) (Nd.n (K := Tr n) u) (Nd.s (K := Tr n) u) ma ml mc qa ql qc) t u na nl nc ka kl kc ma ml mc qa ql qc) := Bx2.new _ _ _ _ _ _ _ _ _ _ _ _ _ _ _
          obtain ⟨⟨c0, c1, c2, c3, c4⟩, ⟨d0, d1, d2, d3, d4⟩, zz, gb⟩ := HX0.out.cells
          go_wp2_with (fail)
          refine (CG.out _ gb).mono ?_
          rintro e w1 ⟨rfl, bw1⟩
          have HXw1 : Hid (Bx2 w w1 t u na nl nc ka kl kc ma ml mc qa ql qc) := HX0.out.bw bw1
          clear c0 c1 c2 c3 c4 d0 d1 d2 d3 d4 zz gb
          obtain ⟨⟨c0, c1, c2, c3, c4⟩, ⟨d0, d1, d2, d3, d4⟩, zz, gb⟩ := HXw1.out.cells
          go_wp2_with (fail)
          refine (CU.out _ gb).mono ?_
          rintro e w2 ⟨rfl, bw2⟩
          have HXw2 : Hid (Bx2 w w2 t u na nl nc ka kl kc ma ml mc qa ql qc) := HXw1.out.bw bw2
          clear c0 c1 c2 c3 c4 d0 d1 d2 d3 d4 zz gb
          obtain ⟨⟨c0, c1, c2, c3, c4⟩, ⟨d0, d1, d2, d3, d4⟩, zz, gb⟩ := HXw2.out.cells
          go_wp2_with (fail)
          refine (CM.out _ gb).mono ?_
          rintro e w3 ⟨rfl, bw3⟩
          have HXw3 : Hid (Bx2 w w3 t u na nl nc ka kl kc ma ml mc qa ql qc) := HXw2.out.bw bw3
          clear c0 c1 c2 c3 c4 d0 d1 d2 d3 d4 zz gb
          obtain ⟨⟨c0, c1, c2, c3, c4⟩, ⟨d0, d1, d2, d3, d4⟩, zz, gb⟩ := HXw3.out.cells
          go_wp2_with (first | (go_at_call 8; refine (HA.out _ gb).mono ?_; rintro e wz ⟨rfl, bz⟩))
          go_ret
          exact ⟨rfl, BW.trans gb bz⟩
        | true =>
          rw [hm0] at CM
          cases hm1 : mayB (n + 1) u with
          | false =>
            rw [hm1] at CN
            clear hm0 hm1
            go_enter Tryd.func4, Tryd.ntmps4
            have HX0 : Hid (Bx2 w (bx (bx w (Nd.k (K := Tr n) t) (Nd.n (K := Tr n) t) (Nd.s (K := Tr n) t) na nl nc ka kl kc) (Nd.k (K := Tr n) u) (Nd.n (K := Tr n) u) (Nd.s (K := Tr n) u) ma ml mc qa ql qc) t u na nl nc ka kl kc ma ml mc qa ql qc) := Bx2.new _ _ _ _ _ _ _ _ _ _ _ _ _ _ _
            obtain ⟨⟨c0, c1, c2, c3, c4⟩, ⟨d0, d1, d2, d3, d4⟩, zz, gb⟩ := HX0.out.cells
            go_wp2_with (fail)
            refine (CG.out _ gb).mono ?_
            rintro e w1 ⟨rfl, bw1⟩
            have HXw1 : Hid (Bx2 w w1 t u na nl nc ka kl kc ma ml mc qa ql qc) := HX0.out.bw bw1
            clear c0 c1 c2 c3 c4 d0 d1 d2 d3 d4 zz gb
            obtain ⟨⟨c0, c1, c2, c3, c4⟩, ⟨d0, d1, d2, d3, d4⟩, zz, gb⟩ := HXw1.out.cells
            go_wp2_with (fail)
            refine (CU.out _ gb).mono ?_
            rintro e w2 ⟨rfl, bw2⟩
            have HXw2 : Hid (Bx2 w w2 t u na nl nc ka kl kc ma ml mc qa ql qc) := HXw1.out.bw bw2
            clear c0 c1 c2 c3 c4 d0 d1 d2 d3 d4 zz gb
            obtain ⟨⟨c0, c1, c2, c3, c4⟩, ⟨d0, d1, d2, d3, d4⟩, zz, gb⟩ := HXw2.out.cells
            go_wp2_with (fail)
            refine (CM.out _ gb).mono ?_
            rintro e w3 ⟨rfl, bw3⟩
            have HXw3 : Hid (Bx2 w w3 t u na nl nc ka kl kc ma ml mc qa ql qc) := HXw2.out.bw bw3
            clear c0 c1 c2 c3 c4 d0 d1 d2 d3 d4 zz gb
            obtain ⟨⟨c0, c1, c2, c3, c4⟩, ⟨d0, d1, d2, d3, d4⟩, zz, gb⟩ := HXw3.out.cells
            go_wp2_with (fail)
            refine (CN.out _ gb).mono ?_
            rintro e w4 ⟨rfl, bw4⟩
            have HXw4 : Hid (Bx2 w w4 t u na nl nc ka kl kc ma ml mc qa ql qc) := HXw3.out.bw bw4
            clear c0 c1 c2 c3 c4 d0 d1 d2 d3 d4 zz gb
            obtain ⟨⟨c0, c1, c2, c3, c4⟩, ⟨d0, d1, d2, d3, d4⟩, zz, gb⟩ := HXw4.out.cells
            go_wp2_with (first | (go_at_call 8; refine (HA.out _ gb).mono ?_; rintro e wz ⟨rfl, bz⟩))
            go_ret
            exact ⟨rfl, BW.trans gb bz⟩
          | true =>
            rw [hm1] at CN
            have CF : Hid (∀ w', BW w w' → Calls Tryd.prog 9 #[ndv (Nd.k (K := Tr n) t) (Nd.n (K := Tr n) t) (Nd.s (K := Tr n) t) na nl nc ka kl kc] w' fun e w'' => ∃ v, e = .returned v ∧ StrsV w'' v (fre (n + 1) t) ∧ BW w' w'') := fun w' hw => Free_any (n + 1) _ t w' (HN.out.bw hw) n0 (HT.out.bw hw)
            have CA : Hid (∀ w', BW w w' → Calls Tryd.prog 9 #[ndv (Nd.k (K := Tr n) u) (Nd.n (K := Tr n) u) (Nd.s (K := Tr n) u) ma ml mc qa ql qc] w' fun e w'' => ∃ v, e = .returned v ∧ StrsV w'' v (fre (n + 1) u) ∧ BW w' w'') := fun w' hw => Free_any (n + 1) _ u w' (HU.out.bw hw) n1 (HT.out.bw hw)
            have HM : Hid (mayB (n + 1) t = true ∧ mayB (n + 1) u = true ∧ n200 (n + 1) t = true ∧ n200 (n + 1) u = true) := ⟨hm0, hm1, n0, n1⟩
            clear hm0 hm1 n0 n1
            go_enter Tryd.func4, Tryd.ntmps4
            have HX0 : Hid (Bx2 w (bx (bx w (Nd.k (K := Tr n) t) (Nd.n (K := Tr n) t) (Nd.s (K := Tr n) t) na nl nc ka kl kc) (Nd.k (K := Tr n) u) (Nd.n (K := Tr n) u) (Nd.s (K := Tr n) u) ma ml mc qa ql qc) t u na nl nc ka kl kc ma ml mc qa ql qc) := Bx2.new _ _ _ _ _ _ _ _ _ _ _ _ _ _ _
            obtain ⟨⟨c0, c1, c2, c3, c4⟩, ⟨d0, d1, d2, d3, d4⟩, zz, gb⟩ := HX0.out.cells
            go_wp2_with (fail)
            refine (CG.out _ gb).mono ?_
            rintro e w1 ⟨rfl, bw1⟩
            have HXw1 : Hid (Bx2 w w1 t u na nl nc ka kl kc ma ml mc qa ql qc) := HX0.out.bw bw1
            clear c0 c1 c2 c3 c4 d0 d1 d2 d3 d4 zz gb
            obtain ⟨⟨c0, c1, c2, c3, c4⟩, ⟨d0, d1, d2, d3, d4⟩, zz, gb⟩ := HXw1.out.cells
            go_wp2_with (fail)
            refine (CU.out _ gb).mono ?_
            rintro e w2 ⟨rfl, bw2⟩
            have HXw2 : Hid (Bx2 w w2 t u na nl nc ka kl kc ma ml mc qa ql qc) := HXw1.out.bw bw2
            clear c0 c1 c2 c3 c4 d0 d1 d2 d3 d4 zz gb
            obtain ⟨⟨c0, c1, c2, c3, c4⟩, ⟨d0, d1, d2, d3, d4⟩, zz, gb⟩ := HXw2.out.cells
            go_wp2_with (fail)
            refine (CM.out _ gb).mono ?_
            rintro e w3 ⟨rfl, bw3⟩
            have HXw3 : Hid (Bx2 w w3 t u na nl nc ka kl kc ma ml mc qa ql qc) := HXw2.out.bw bw3
            clear c0 c1 c2 c3 c4 d0 d1 d2 d3 d4 zz gb
            obtain ⟨⟨c0, c1, c2, c3, c4⟩, ⟨d0, d1, d2, d3, d4⟩, zz, gb⟩ := HXw3.out.cells
            go_wp2_with (fail)
            refine (CN.out _ gb).mono ?_
            rintro e w4 ⟨rfl, bw4⟩
            have HXw4 : Hid (Bx2 w w4 t u na nl nc ka kl kc ma ml mc qa ql qc) := HXw3.out.bw bw4
            clear c0 c1 c2 c3 c4 d0 d1 d2 d3 d4 zz gb
            obtain ⟨⟨c0, c1, c2, c3, c4⟩, ⟨d0, d1, d2, d3, d4⟩, zz, gb⟩ := HXw4.out.cells
            go_wp2_with (fail)
            refine (CF.out _ gb).mono ?_
            rintro e w5 ⟨v5, rfl, hv5, bw5⟩
            have HXw5 : Hid (Bx2 w w5 t u na nl nc ka kl kc ma ml mc qa ql qc) := HXw4.out.bw bw5
            clear c0 c1 c2 c3 c4 d0 d1 d2 d3 d4 zz gb
            obtain ⟨⟨c0, c1, c2, c3, c4⟩, ⟨d0, d1, d2, d3, d4⟩, zz, gb⟩ := HXw5.out.cells
            obtain ⟨lao, ll, lcp, hve⟩ := StrsV.form' hv5
            subst hve
            have HL : Hid (StrsV w5 (.slice lao ll lcp) (fre (n + 1) t)) := hv5
            clear hv5 CG CU CM CN CF
            by_cases hl0 : ll = 0
            · subst hl0
              go_wp2_with (first | (go_at_call 8; refine (HA.out _ gb).mono ?_; rintro e wz ⟨rfl, bz⟩))
              go_ret
              exact ⟨rfl, BW.trans gb bz⟩
            · have t0 : ((ll : Int) == 0) = false := by simp; omega
              obtain ⟨hll, hLs, hlc, _⟩ := HL.out.len'
              obtain ⟨lb, loff, l0, rfl, hlb, hl0x, hl0s, hlc0⟩ := StrsAt.get hLs (i := 0) (by omega)
              simp only [Nat.add_zero] at hlc0
              have HLs : Hid (StrsAt w5 (some ⟨lb, loff, none⟩) ll (fre (n + 1) t)) := hLs
              have HL0 : Hid ((fre (n + 1) t)[0]? = some l0) := hl0x
              have HLL : Hid ((fre (n + 1) t).length = ll) := hll
              have hpos : 0 < ll := by omega
              clear hll hLs hl0x hl0
              go_upto_region 6 with fail
              go_cut [6] (fun p0 wx => ∃ g sb, p0 = .pointer (some ⟨g, 0, none⟩) ∧ BW w5 wx ∧ w5.heap.size ≤ g ∧ w5.heap.size ≤ sb ∧ BoxH' wx g 8 0 l0 none 0 0 (some ⟨sb, 0, none⟩) 2 2 ∧ wx.heap[sb]? = some (.cells #[.int .u8 (Nd.k (K := Tr n) u), .int .i64 (Nd.n (K := Tr n) u), .string (Nd.s (K := Tr n) u), .slice ma ml mc, .slice qa ql qc, .int .u8 (Nd.k (K := Tr n) t), .int .i64 (Nd.n (K := Tr n) t), .string (Nd.s (K := Tr n) t), .slice na nl nc, .slice ka kl kc] 25 (0, 0)))
              case first =>
                go_region_held3 (fun w' => w'.cell? ⟨lb, loff, none⟩ = some (.string l0) ∧ w'.cell? ⟨w.heap.size, 0, none⟩ = some (.int .u8 (Nd.k (K := Tr n) t)) ∧ w'.cell? ⟨w.heap.size, 1, none⟩ = some (.int .i64 (Nd.n (K := Tr n) t)) ∧ w'.cell? ⟨w.heap.size, 2, none⟩ = some (.string (Nd.s (K := Tr n) t)) ∧ w'.cell? ⟨w.heap.size, 3, none⟩ = some (.slice na nl nc) ∧ w'.cell? ⟨w.heap.size, 4, none⟩ = some (.slice ka kl kc) ∧ w'.cell? ⟨w.heap.size + 1, 0, none⟩ = some (.int .u8 (Nd.k (K := Tr n) u)) ∧ w'.cell? ⟨w.heap.size + 1, 1, none⟩ = some (.int .i64 (Nd.n (K := Tr n) u)) ∧ w'.cell? ⟨w.heap.size + 1, 2, none⟩ = some (.string (Nd.s (K := Tr n) u)) ∧ w'.cell? ⟨w.heap.size + 1, 3, none⟩ = some (.slice ma ml mc) ∧ w'.cell? ⟨w.heap.size + 1, 4, none⟩ = some (.slice qa ql qc)) (go_keep) (fail)
                all_goals (go_wp2_with fail; go_meet)
                · exact ⟨w5.heap.size + 1, w5.heap.size, rfl, BW.drew (BW.alloc (BW.alloc (BW.refl _) _) _), Nat.le_succ _, Nat.le_refl _, (two_new _ _ _).2, (two_new _ _ _).1⟩
                · exact ⟨w5.heap.size, w5.heap.size + 1, rfl, BW.drew (BW.alloc (BW.alloc (BW.refl _) _) _), Nat.le_refl _, Nat.le_succ _, (two_new _ _ _).1, (two_new _ _ _).2⟩
              case rest =>
                obtain ⟨g, sb, rfl, hbx, hg, hsb, hBox, hRow⟩ := hcut
                have HBx : Hid (BoxH' wc g 8 0 l0 none 0 0 (some ⟨sb, 0, none⟩) 2 2) := hBox
                have HNX : Hid (NodeAt wc (n + 2) (ndv 8 0 l0 none 0 0 (some ⟨sb, 0, none⟩) 2 2) (letT l0 u t)) := let_at (r1 := ⟨Nd.k (K := Tr n) u, Nd.n (K := Tr n) u, Nd.s (K := Tr n) u, ma, ml, mc, qa, ql, qc⟩) (r2 := ⟨Nd.k (K := Tr n) t, Nd.n (K := Tr n) t, Nd.s (K := Tr n) t, na, nl, nc, ka, kl, kc⟩) (HU.out.bw (BW.trans gb hbx)) (HN.out.bw (BW.trans gb hbx)) hl0s hRow
                have HBw : Hid (BW w wc) := BW.trans gb hbx
                have HLc : Hid (StrsAt wc (some ⟨lb, loff, none⟩) ll (fre (n + 1) t)) := HLs.out.bw hbx
                have hgz : g < wc.heap.size := (Array.getElem?_eq_some_iff.1 hBox).1
                have hzc := hbx.size
                have HXc : Hid (Bx2 w wc t u na nl nc ka kl kc ma ml mc qa ql qc) := HXw5.out.bw hbx
                have CMX : Hid (∀ w', BW wc w' → Calls Tryd.prog 11 #[ndv 8 0 l0 none 0 0 (some ⟨sb, 0, none⟩) 2 2] w' fun e w'' => e = .returned (.bool (mayB (n + 2) (letT l0 u t))) ∧ BW w' w'') := fun w' hw => refMay_any (n + 2) _ _ w' (HNX.out.bw hw) (by
                  rw [letT_sz]
                  have := (may_rt HM.out.1).2.1
                  have := (may_rt HM.out.2.1).2.1
                  omega)
                clear hBox hRow hbx c0 c1 c2 c3 c4 d0 d1 d2 d3 d4 zz gb HLs HL HXw5 hlc0
                obtain ⟨x0, x1, x2, x3, x4⟩ := BoxH'.cells HBx.out
                cases hmx : mayB (n + 2) (letT l0 u t) with
                | false =>
                  rw [hmx] at CMX
                  clear hmx
                  have gb := HBw.out
                  go_wp2_with (fail)
                  refine (CMX.out _ (BW.refl _)).mono ?_
                  rintro e w6 ⟨rfl, bw6⟩
                  have gb6 : BW w w6 := BW.trans gb bw6
                  clear gb x0 x1 x2 x3 x4
                  go_wp2_with (first | (go_at_call 8; refine (HA.out _ gb6).mono ?_; rintro e wz ⟨rfl, bz⟩))
                  go_ret
                  exact ⟨rfl, BW.trans gb6 bz⟩
                | true =>
                  rw [hmx] at CMX
                  have CFX : Hid (∀ w', BW wc w' → Calls Tryd.prog 9 #[ndv 8 0 l0 none 0 0 (some ⟨sb, 0, none⟩) 2 2] w' fun e w'' => ∃ v, e = .returned v ∧ StrsV w'' v (fre (n + 2) (letT l0 u t)) ∧ BW w' w'') := fun w' hw => Free_any (n + 2) _ _ w' (HNX.out.bw hw) (letT_n200 HM.out.2.2.2 HM.out.2.2.1) (HT.out.bw (BW.trans HBw.out hw))
                  have HPure : Hid (∀ x ∈ fre (n + 2) (letT l0 u t), x ∈ fre (n + 1) u ∨ x ∈ (fre (n + 1) t).drop 1) := letT_fre HM.out.1 HM.out.2.1 hmx HL0.out
                  generalize fre (n + 2) (letT l0 u t) = M at *
                  clear hmx
                  go_wp2_with (fail)
                  refine (CMX.out _ (BW.refl _)).mono ?_
                  rintro e w6 ⟨rfl, bw6⟩
                  have y0 := (bw6.cells g 0 hgz).trans x0
                  have y1 := (bw6.cells g 1 hgz).trans x1
                  have y2 := (bw6.cells g 2 hgz).trans x2
                  have y3 := (bw6.cells g 3 hgz).trans x3
                  have y4 := (bw6.cells g 4 hgz).trans x4
                  have HX6 : Hid (Bx2 w w6 t u na nl nc ka kl kc ma ml mc qa ql qc) := HXc.out.bw bw6
                  have HL6 : Hid (StrsAt w6 (some ⟨lb, loff, none⟩) ll (fre (n + 1) t)) := HLc.out.bw bw6
                  have HB6 : Hid (BW wc w6) := bw6
                  clear x0 x1 x2 x3 x4 bw6 CMX
                  go_wp2_with (fail)
                  refine (CFX.out _ HB6.out).mono ?_
                  rintro e w7 ⟨v7, rfl, hv7, bw7⟩
                  obtain ⟨mao, mml, mcp, hve⟩ := StrsV.form' hv7
                  subst hve
                  have HM7 : Hid (StrsV w7 (.slice mao mml mcp) M) := hv7
                  have HX7 : Hid (Bx2 w w7 t u na nl nc ka kl kc ma ml mc qa ql qc) := HX6.out.bw bw7
                  have HL7 : Hid (StrsAt w7 (some ⟨lb, loff, none⟩) ll (fre (n + 1) t)) := HL6.out.bw bw7
                  obtain ⟨⟨c0, c1, c2, c3, c4⟩, ⟨d0, d1, d2, d3, d4⟩, zz, gb⟩ := HX7.out.cells
                  clear y0 y1 y2 y3 y4 hv7 bw7 CFX
                  go_wp2_with (fail)
                  refine (CA.out _ gb).mono ?_
                  rintro e w8 ⟨v8, rfl, hv8, bw8⟩
                  obtain ⟨oao, ool, ocp, hve⟩ := StrsV.form' hv8
                  subst hve
                  have HB8 : Hid (BW w w8) := BW.trans gb bw8
                  have HM8 : Hid (StrsAt w8 mao mml M) := HM7.out.len'.2.1.bw bw8
                  have HO8 : Hid (StrsAt w8 oao ool (fre (n + 1) u)) := hv8.len'.2.1
                  have HL8 : Hid (StrsAt w8 (some ⟨lb, loff, none⟩) ll (fre (n + 1) t)) := HL7.out.bw bw8
                  have hmm : mml ≤ 9223372036854775807 := by have := HM8.out.2.1; unfold maxLen at this; omega
                  have hom : ool ≤ 9223372036854775807 := by have := HO8.out.2.1; unfold maxLen at this; omega
                  have hlm : ll ≤ 9223372036854775807 := by have := HL8.out.2.1; unfold maxLen at this; omega
                  have hmc' := HM7.out.len'.2.2.1
                  have hoc' := hv8.len'.2.2.1
                  generalize fre (n + 1) u = O at *
                  generalize fre (n + 1) t = L at *
                  clear hv8 bw8 c0 c1 c2 c3 c4 d0 d1 d2 d3 d4 zz gb CA HM7 HL7 HX7 HX6 HL6 HXc HLc
                  go_wp2_with (fail)
                  go_loopw [9] (fun i wr => ∃ j : Nat, j ≤ mml ∧ i = .int .i64 j ∧ BW w8 wr) (fun i _ => mml - (intOf i).toNat)
                  case atStart => exact ⟨0, Nat.zero_le _, rfl, BW.refl _⟩
                  case round =>
                    obtain ⟨j, hj, rfl, hb⟩ := hrel
                    by_cases hlt : j < mml
                    · obtain ⟨b, off, x, rfl, hbl, hx, hxs, hc⟩ := StrsAt.get HM8.out hlt
                      have HX : Hid (x ∈ M) := List.mem_of_getElem? hx
                      have HBr : Hid (BW w8 wr) := hb
                      clear hx
                      go_wp2_with (fail)
                      go_loopw [10, 11] (fun fd k wk => ∃ (q : Nat) (fb : Bool), q ≤ ool ∧ fd = .bool fb ∧ k = .int .i64 q ∧ Hid (fb = inB (O.take q) x) ∧ BW w8 wk) (fun _ k _ => ool - (intOf k).toNat)
                      case atStart => exact ⟨0, false, Nat.zero_le _, rfl, rfl, rfl, HBr.out⟩
                      case round =>
                        obtain ⟨q, fb, hq, rfl, rfl, HFb, hbk⟩ := hrel
                        have cx := (hbk.cells b (off + j) hbl).trans hc
                        by_cases hq2 : q < ool
                        · obtain ⟨ob, ooff, y, rfl, hobl, hy, hys, hoc⟩ := StrsAt.get (HO8.out.bw hbk) hq2
                          have HFb2 : Hid (inB (O.take (q + 1)) x = (fb || decide (y = x))) := by
                            show inB _ _ = _
                            rw [HFb.out]
                            exact any_snoc (fun z => decide (z = x)) hy
                          clear hy
                          cases fb with
                          | true =>
                            have HFb3 : Hid (true = inB (O.take (q + 1)) x) := by show true = _; rw [HFb2.out]; rfl
                            go_wp2_with (fail)
                            go_quiet (fail)
                            go_wp2_with (fail)
                            go_roundw
                            case rel => exact ⟨q + 1, true, by omega, rfl, by go_num, HFb3, BW.drewN hbk _⟩
                            case measure => simp [intOf]; omega
                          | false =>
                            by_cases he : y = x
                            · have e1 := (bytes_eq' y x).2 he
                              have e2 : (y.toList == x.toList) = true := by rw [e1]; simp
                              have HFb3 : Hid (true = inB (O.take (q + 1)) x) := by show true = _; rw [HFb2.out, decide_eq_true he]; rfl
                              clear he
                              go_wp2_with (fail)
                              go_quiet (fail)
                              go_wp2_with (fail)
                              go_roundw
                              case rel => exact ⟨q + 1, true, by omega, rfl, by go_num, HFb3, BW.drewN hbk _⟩
                              case measure => simp [intOf]; omega
                            · have e1 : ¬ y.toList = x.toList := fun e => he ((bytes_eq' y x).1 e)
                              have e2 : (y.toList == x.toList) = false := by simpa using e1
                              have HFb3 : Hid (false = inB (O.take (q + 1)) x) := by show false = _; rw [HFb2.out, decide_eq_false he]; rfl
                              clear he
                              go_wp2_with (fail)
                              go_quiet (fail)
                              go_wp2_with (fail)
                              go_roundw
                              case rel => exact ⟨q + 1, false, by omega, rfl, by go_num, HFb3, BW.drewN hbk _⟩
                              case measure => simp [intOf]; omega
                        · obtain rfl : ool = q := by omega
                          have HFo : Hid (fb = inB O x) := by
                            show fb = _
                            rw [HFb.out, List.take_of_length_le (by have := HO8.out.1; omega)]
                          have HBk : Hid (BW w8 wr) := hbk
                          clear HFb
                          go_wp2_with (fail)
                          go_loopw [10, 12] (fun fd k wk => ∃ (q : Nat) (fc : Bool), 1 ≤ q ∧ q ≤ ll ∧ fd = .bool fc ∧ k = .int .i64 q ∧ Hid (fc = (inB O x || inB ((L.take q).drop 1) x)) ∧ BW w8 wk) (fun _ k _ => ll - (intOf k).toNat)
                          case atStart => exact ⟨1, fb, Nat.le_refl _, hpos, rfl, rfl, by show fb = _; rw [HFo.out, drop_one_take]; simp [inB], HBk.out⟩
                          case round =>
                            obtain ⟨q, fc, hq1, hq, rfl, rfl, HFb, hbk⟩ := hrel
                            have cx := (hbk.cells b (off + j) hbl).trans hc
                            by_cases hq2 : q < ll
                            · obtain ⟨ob, ooff, y, e, hobl, hy, hys, hoc⟩ := StrsAt.get (HL8.out.bw hbk) hq2
                              cases e
                              have HFb2 : Hid ((inB O x || inB ((L.take (q + 1)).drop 1) x) = (fc || decide (y = x))) := by
                                show _ = _
                                rw [HFb.out, drop_snoc hy hq1]
                                simp [inB, Bool.or_assoc]
                              clear hy
                              cases fc with
                              | true =>
                                have HFb3 : Hid (true = (inB O x || inB ((L.take (q + 1)).drop 1) x)) := by show true = _; rw [HFb2.out]; rfl
                                go_wp2_with (fail)
                                go_quiet (fail)
                                go_wp2_with (fail)
                                go_roundw
                                case rel => exact ⟨q + 1, true, by omega, by omega, rfl, by go_num, HFb3, BW.drewN hbk _⟩
                                case measure => simp [intOf]; omega
                              | false =>
                                by_cases he : y = x
                                · have e1 := (bytes_eq' y x).2 he
                                  have e2 : (y.toList == x.toList) = true := by rw [e1]; simp
                                  have HFb3 : Hid (true = (inB O x || inB ((L.take (q + 1)).drop 1) x)) := by show true = _; rw [HFb2.out, decide_eq_true he]; rfl
                                  clear he
                                  go_wp2_with (fail)
                                  go_quiet (fail)
                                  go_wp2_with (fail)
                                  go_roundw
                                  case rel => exact ⟨q + 1, true, by omega, by omega, rfl, by go_num, HFb3, BW.drewN hbk _⟩
                                  case measure => simp [intOf]; omega
                                · have e1 : ¬ y.toList = x.toList := fun e => he ((bytes_eq' y x).1 e)
                                  have e2 : (y.toList == x.toList) = false := by simpa using e1
                                  have HFb3 : Hid (false = (inB O x || inB ((L.take (q + 1)).drop 1) x)) := by show false = _; rw [HFb2.out, decide_eq_false he]; rfl
                                  clear he
                                  go_wp2_with (fail)
                                  go_quiet (fail)
                                  go_wp2_with (fail)
                                  go_roundw
                                  case rel => exact ⟨q + 1, false, by omega, by omega, rfl, by go_num, HFb3, BW.drewN hbk _⟩
                                  case measure => simp [intOf]; omega
                            · obtain rfl : ll = q := by omega
                              obtain rfl : fc = true := by
                                rw [HFb.out, List.take_of_length_le (by have := HL8.out.1; omega)]
                                rcases HPure.out x HX.out with h | h
                                · rw [(inB_mem O x).2 h]; rfl
                                · rw [(inB_mem (L.drop 1) x).2 h]; simp
                              have HBk2 : Hid (BW w8 wr) := hbk
                              clear HFb
                              go_wp2_with (fail)
                              go_roundw
                              case rel => exact ⟨j + 1, by omega, by go_num, HBk2.out⟩
                              case measure => simp [intOf]; omega
                    · have HBz : Hid (BW w wr) := BW.trans HB8.out hb
                      go_wp2_with (first | (go_at_call 8; refine (HA.out _ HBz.out).mono ?_; rintro e wz ⟨rfl, bz⟩))
                      go_ret
                      exact ⟨rfl, BW.trans HBz.out bz⟩

end Go.Proofs.YtijoadkjkbkjgaaDoor
