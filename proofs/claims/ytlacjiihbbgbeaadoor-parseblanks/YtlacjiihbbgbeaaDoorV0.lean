import Derived.Test.YtlacjiihbbgbeaaDoorR10
import Derived.Deep.MidRow
import Derived.Maps.Own
namespace Go.Proofs.YtlacjiihbbgbeaaDoor
open Go.RowKit
set_option linter.unusedVariables false
set_option linter.unusedSimpArgs false

/-- A node over parts of a kind K. -/
structure Nd (K : Type) where
  k : Int
  n : Int
  s : ByteArray
  ns : List ByteArray
  ks : List K
/-- Nodes of at most so many levels. -/
def Tr : Nat → Type
  | 0 => Empty
  | n + 1 => Nd (Tr n)
/-- The slice at ao of length ln holds the strings l. -/
def StrsAt (W : World) (ao : Option Addr) (ln : Nat) (l : List ByteArray) : Prop := l.length = ln ∧ ln ≤ maxLen ∧ (∀ s ∈ l, s.size ≤ maxLen) ∧
  (ln = 0 ∨ ∃ b off, ao = some ⟨b, off, none⟩ ∧ b < W.heap.size ∧ ∀ (i : Nat) s, l[i]? = some s → W.cell? ⟨b, off + i, none⟩ = some (.string s))
/-- A node's value. -/
abbrev ndv (k n : Int) (s : ByteArray) (na : Option Addr) (nl nc : Nat) (ka : Option Addr) (kl kc : Nat) : Value := .agg #[.int .u8 k, .int .i64 n, .string s, .slice na nl nc, .slice ka kl kc]
/-- .. its parts. -/
structure Rw where
  k : Int
  n : Int
  s : ByteArray
  na : Option Addr
  nl : Nat
  nc : Nat
  ka : Option Addr
  kl : Nat
  kc : Nat
abbrev Rw.v (r : Rw) : Value := ndv r.k r.n r.s r.na r.nl r.nc r.ka r.kl r.kc
/-- The five cells of a node. -/
def CellsAt (W : World) (b o : Nat) (r : Rw) : Prop := W.cell? ⟨b, o, none⟩ = some (.int .u8 r.k) ∧ W.cell? ⟨b, o + 1, none⟩ = some (.int .i64 r.n) ∧ W.cell? ⟨b, o + 2, none⟩ = some (.string r.s) ∧ W.cell? ⟨b, o + 3, none⟩ = some (.slice r.na r.nl r.nc) ∧ W.cell? ⟨b, o + 4, none⟩ = some (.slice r.ka r.kl r.kc)
theorem CellsAt.bw {W W' : World} {b o : Nat} {r : Rw} (h : CellsAt W b o r) (k : BW W W') (hb : b < W.heap.size) : CellsAt W' b o r := by
  obtain ⟨d0, d1, d2, d3, d4⟩ := h
  exact ⟨(k.cells b _ hb).trans d0, (k.cells b _ hb).trans d1, (k.cells b _ hb).trans d2, (k.cells b _ hb).trans d3, (k.cells b _ hb).trans d4⟩
/-- The slice at ao of length ln holds nodes that are as At says. -/
def SeqAt {K : Type} (At : Value → K → Prop) (W : World) (ao : Option Addr) (ln : Nat) (l : List K) : Prop := l.length = ln ∧ ln ≤ maxLen ∧
  (ln = 0 ∨ ∃ b off, ao = some ⟨b, off, none⟩ ∧ b < W.heap.size ∧ ∀ (i : Nat) x, l[i]? = some x → ∃ r : Rw, CellsAt W b (off + i * 5) r ∧ At r.v x)
/-- What the kinds say of a node's own fields. -/
structure Wf {K : Type} (t : Nd K) : Prop where
  k0 : 0 ≤ t.k
  k1 : t.k ≤ 255
  n0 : -9223372036854775808 ≤ t.n
  n1 : t.n ≤ 9223372036854775807
  s : t.s.size ≤ maxLen
/-- The value v is the node t. -/
def NodeAt (W : World) : (n : Nat) → Value → Tr n → Prop
  | 0, _, _ => False
  | n + 1, v, t => ∃ na nl nc ka kl kc, v = ndv (Nd.k (K := Tr n) t) (Nd.n (K := Tr n) t) (Nd.s (K := Tr n) t) na nl nc ka kl kc ∧ Wf (K := Tr n) t ∧ nl ≤ nc ∧ nc ≤ maxLen ∧ kl ≤ kc ∧ kc ≤ maxLen ∧ StrsAt W na nl (Nd.ns (K := Tr n) t) ∧ SeqAt (NodeAt W n) W ka kl (Nd.ks (K := Tr n) t)
theorem StrsAt.bw {W W' : World} {ao : Option Addr} {ln : Nat} {l : List ByteArray} (h : StrsAt W ao ln l) (k : BW W W') : StrsAt W' ao ln l := by
  obtain ⟨h1, h2, h3, h4⟩ := h
  refine ⟨h1, h2, h3, ?_⟩
  rcases h4 with h4 | ⟨b, off, e, hb, hc⟩
  · exact .inl h4
  · exact .inr ⟨b, off, e, Nat.lt_of_lt_of_le hb k.size, fun j z hz => (k.cells b _ hb).trans (hc j z hz)⟩
theorem SeqAt.bw {K : Type} {At At' : Value → K → Prop} {W W' : World} {ao : Option Addr} {ln : Nat} {l : List K} (h : SeqAt At W ao ln l) (k : BW W W') (m : ∀ v x, At v x → At' v x) : SeqAt At' W' ao ln l := by
  obtain ⟨h1, h2, h4⟩ := h
  refine ⟨h1, h2, ?_⟩
  rcases h4 with h4 | ⟨b, off, e, hb, hc⟩
  · exact .inl h4
  · refine .inr ⟨b, off, e, Nat.lt_of_lt_of_le hb k.size, fun j z hz => ?_⟩
    obtain ⟨r, hr, ha⟩ := hc j z hz
    exact ⟨r, hr.bw k hb, m _ _ ha⟩
theorem NodeAt.bw {W W' : World} (k : BW W W') : ∀ {n : Nat} {v : Value} {t : Tr n}, NodeAt W n v t → NodeAt W' n v t := by
  intro n
  induction n with
  | zero => intro v t h; exact h
  | succ n ih =>
    intro v t h
    obtain ⟨na, nl, nc, ka, kl, kc, e, wf, a1, a2, a3, a4, s1, s2⟩ := h
    exact ⟨na, nl, nc, ka, kl, kc, e, wf, a1, a2, a3, a4, s1.bw k, s2.bw k (fun v x h => ih h)⟩
/-- A kid of a row of nodes. -/
theorem SeqAt.get {K : Type} {At : Value → K → Prop} {W : World} {ao : Option Addr} {ln : Nat} {l : List K} (h : SeqAt At W ao ln l) {i : Nat} (hi : i < ln) :
    ∃ b off x, ao = some ⟨b, off, none⟩ ∧ b < W.heap.size ∧ l[i]? = some x ∧ ∃ r : Rw, CellsAt W b (off + i * 5) r ∧ At r.v x := by
  obtain ⟨h1, h2, h4⟩ := h
  rcases h4 with h4 | ⟨b, off, e, hb, hc⟩
  · omega
  · obtain ⟨x, hx⟩ : ∃ x, l[i]? = some x := ⟨_, List.getElem?_eq_getElem (by omega)⟩
    exact ⟨b, off, x, e, hb, hx, hc i x hx⟩
theorem cell_new (w : World) (cs : Array Value) (ty : TypeId) (j : Nat) : (w.alloc (.cells cs ty)).cell? ⟨w.heap.size, j, none⟩ = cs[j]? := cell_of_row _ _ j cs ty (0, 0) (heap_alloc_new w _)
/-- The world with a node in a new block. -/
abbrev bx (w : World) (k n : Int) (s : ByteArray) (na : Option Addr) (nl nc : Nat) (ka : Option Addr) (kl kc : Nat) : World := w.alloc (.cells #[.int .u8 k, .int .i64 n, .string s, .slice na nl nc, .slice ka kl kc] 26)
theorem bx_at {w w' : World} {k n : Int} {s : ByteArray} {na : Option Addr} {nl nc : Nat} {ka : Option Addr} {kl kc : Nat} (h : BW (bx w k n s na nl nc ka kl kc) w') : CellsAt w' w.heap.size 0 ⟨k, n, s, na, nl, nc, ka, kl, kc⟩ ∧ w.heap.size < w'.heap.size ∧ BW w w' := by
  have hz := h.size
  have hl : w.heap.size < (bx w k n s na nl nc ka kl kc).heap.size := by simp
  refine ⟨?_, by omega, BW.trans (BW.alloc (BW.refl _) _) h⟩
  refine CellsAt.bw ?_ h hl
  exact ⟨cell_new _ _ _ 0, cell_new _ _ _ 1, cell_new _ _ _ 2, cell_new _ _ _ 3, cell_new _ _ _ 4⟩
theorem StrsAt.get {W : World} {ao : Option Addr} {ln : Nat} {l : List ByteArray} (h : StrsAt W ao ln l) {i : Nat} (hi : i < ln) :
    ∃ b off x, ao = some ⟨b, off, none⟩ ∧ b < W.heap.size ∧ l[i]? = some x ∧ x.size ≤ maxLen ∧ W.cell? ⟨b, off + i, none⟩ = some (.string x) := by
  obtain ⟨h1, h2, h3, h4⟩ := h
  rcases h4 with h4 | ⟨b, off, e, hb, hc⟩
  · omega
  · obtain ⟨x, hx⟩ : ∃ x, l[i]? = some x := ⟨_, List.getElem?_eq_getElem (by omega)⟩
    exact ⟨b, off, x, e, hb, hx, h3 x (List.mem_of_getElem? hx), hc i x hx⟩
theorem bytes_eq (a b : ByteArray) : a.toList = b.toList ↔ a = b := by
  rw [ByteArray.toList_eq, ByteArray.toList_eq]
  exact ⟨fun h => Go.WideShapes.bytes_inj h, fun h => by rw [h]⟩
theorem bx2_at {w w' : World} {k n : Int} {s : ByteArray} {na : Option Addr} {nl nc : Nat} {ka : Option Addr} {kl kc : Nat} {k' n' : Int} {s' : ByteArray} {na' : Option Addr} {nl' nc' : Nat} {ka' : Option Addr} {kl' kc' : Nat} (h : BW (bx (bx w k n s na nl nc ka kl kc) k' n' s' na' nl' nc' ka' kl' kc') w') :
    CellsAt w' w.heap.size 0 ⟨k, n, s, na, nl, nc, ka, kl, kc⟩ ∧ CellsAt w' (w.heap.size + 1) 0 ⟨k', n', s', na', nl', nc', ka', kl', kc'⟩ ∧ w.heap.size + 1 < w'.heap.size ∧ BW w w' := by
  obtain ⟨h1, h2, h3⟩ := bx_at h
  obtain ⟨h4, h5, h6⟩ := bx_at h3
  have e : (bx w k n s na nl nc ka kl kc).heap.size = w.heap.size + 1 := by simp
  rw [e] at h1 h2
  exact ⟨h4, h1, h2, h6⟩
/-- The same. -/
def sm : (n : Nat) → Tr n → Tr n → Bool
  | 0, _, _ => true
  | n + 1, a, b => decide (Nd.k (K := Tr n) a = Nd.k (K := Tr n) b) && decide (Nd.n (K := Tr n) a = Nd.n (K := Tr n) b) && decide (Nd.s (K := Tr n) a = Nd.s (K := Tr n) b) && decide (Nd.ns (K := Tr n) a = Nd.ns (K := Tr n) b) && (decide ((Nd.ks (K := Tr n) a).length = (Nd.ks (K := Tr n) b).length) && ((Nd.ks (K := Tr n) a).zip (Nd.ks (K := Tr n) b)).all (fun p => sm n p.1 p.2))
theorem zip_all_eq {α : Type} (f : α → α → Bool) (hf : ∀ a b, f a b = true ↔ a = b) : ∀ (l m : List α), (decide (l.length = m.length) && (l.zip m).all (fun p => f p.1 p.2)) = true ↔ l = m := by
  intro l
  induction l with
  | nil => intro m; cases m <;> simp
  | cons a r ih =>
    intro m
    cases m with
    | nil => simp
    | cons b q =>
      have := ih q
      simp only [Bool.and_eq_true, decide_eq_true_eq] at this
      simp only [List.length_cons, List.zip_cons_cons, List.all_cons, Bool.and_eq_true, decide_eq_true_eq, List.cons.injEq, hf, Nat.add_right_cancel_iff]
      constructor
      · rintro ⟨h1, h2, h3⟩; exact ⟨h2, this.1 ⟨h1, h3⟩⟩
      · rintro ⟨h1, h2⟩; exact ⟨(this.2 h2).1, h1, (this.2 h2).2⟩
theorem sm_eq : ∀ (n : Nat) (a b : Tr n), sm n a b = true ↔ a = b := by
  intro n
  induction n with
  | zero => intro a; exact a.elim
  | succ n ih =>
    intro a b
    show (_ && _) = true ↔ _
    rw [Bool.and_eq_true, zip_all_eq (sm n) ih]
    simp only [Bool.and_eq_true, decide_eq_true_eq]
    constructor
    · rintro ⟨⟨⟨⟨h1, h2⟩, h3⟩, h4⟩, h5⟩
      show (a : Nd (Tr n)) = b
      obtain ⟨a1, a2, a3, a4, a5⟩ := a
      obtain ⟨b1, b2, b3, b4, b5⟩ := b
      subst h1 h2 h3 h4 h5
      rfl
    · rintro rfl; exact ⟨⟨⟨⟨rfl, rfl⟩, rfl⟩, rfl⟩, rfl⟩
theorem zip_get {α : Type} {l m : List α} {i : Nat} {x y : α} (h : l[i]? = some x) (h' : m[i]? = some y) : (l.zip m)[i]? = some (x, y) := by simp [List.getElem?_zip_eq_some, h, h']
theorem all_snoc {α : Type} (f : α → Bool) {l : List α} {i : Nat} {x : α} (h : l[i]? = some x) : (l.take (i + 1)).all f = ((l.take i).all f && f x) := by
  rw [List.take_add_one, h]; simp
theorem all_miss {α : Type} (f : α → Bool) {l : List α} {i : Nat} {x : α} (h : l[i]? = some x) (hf : f x = false) : l.all f = false := by
  cases hh : l.all f with
  | false => rfl
  | true => rw [List.all_eq_true.1 hh x (List.mem_of_getElem? h)] at hf; cases hf
theorem StrsAt.getBoth {W : World} {ao ao' : Option Addr} {ln : Nat} {l l' : List ByteArray} (h : StrsAt W ao ln l) (h' : StrsAt W ao' ln l') {i : Nat} (hi : i < ln) :
    ∃ b off x b' off' x', ao = some ⟨b, off, none⟩ ∧ ao' = some ⟨b', off', none⟩ ∧ b < W.heap.size ∧ b' < W.heap.size ∧ l[i]? = some x ∧ l'[i]? = some x' ∧ W.cell? ⟨b, off + i, none⟩ = some (.string x) ∧ W.cell? ⟨b', off' + i, none⟩ = some (.string x') := by
  obtain ⟨b, off, x, e1, e2, e3, e4, e5⟩ := h.get hi
  obtain ⟨b', off', x', e1', e2', e3', e4', e5'⟩ := h'.get hi
  exact ⟨b, off, x, b', off', x', e1, e1', e2, e2', e3, e3', e5, e5'⟩
theorem take_all_eq {l m : List ByteArray} (h : l.length = m.length) (k : ∀ (i : Nat) x y, l[i]? = some x → m[i]? = some y → x = y) : l = m := by
  apply List.ext_getElem? 
  intro i
  rcases Nat.lt_or_ge i l.length with hi | hi
  · rw [List.getElem?_eq_getElem hi, List.getElem?_eq_getElem (by omega)]
    exact congrArg some (k i _ _ (List.getElem?_eq_getElem hi) (List.getElem?_eq_getElem (by omega)))
  · rw [List.getElem?_eq_none hi, List.getElem?_eq_none (by omega)]
set_option maxRecDepth 100000 in
set_option maxHeartbeats 4000000 in
theorem refSame_any : ∀ (n : Nat) (v v' : Value) (a b : Tr n) (w : World), NodeAt w n v a → NodeAt w n v' b → Calls Tryd.prog 6 #[v, v'] w fun e w' => e = .returned (.bool (sm n a b)) ∧ BW w w' := by
  intro n
  induction n with
  | zero => intro v v' a b w h; exact h.elim
  | succ n ih =>
    intro v v' a b w h h'
    obtain ⟨na, nl, nc, ka, kl, kc, rfl, wf, a1, a2, a3, a4, s1, s2⟩ := h
    obtain ⟨na', nl', nc', ka', kl', kc', rfl, wf', a1', a2', a3', a4', s1', s2'⟩ := h'
    have HS : Hid (sm (n + 1) a b = (decide (Nd.k (K := Tr n) a = Nd.k (K := Tr n) b) && decide (Nd.n (K := Tr n) a = Nd.n (K := Tr n) b) && decide (Nd.s (K := Tr n) a = Nd.s (K := Tr n) b) && decide (Nd.ns (K := Tr n) a = Nd.ns (K := Tr n) b) && (decide ((Nd.ks (K := Tr n) a).length = (Nd.ks (K := Tr n) b).length) && ((Nd.ks (K := Tr n) a).zip (Nd.ks (K := Tr n) b)).all (fun p => sm n p.1 p.2)))) := rfl
    have IH : Hid _ := ih
    have hml : kl ≤ 9223372036854775807 := by unfold maxLen at a4; omega
    have hmn : nl ≤ 9223372036854775807 := by unfold maxLen at a2; omega
    have hml' : kl' ≤ 9223372036854775807 := by unfold maxLen at a4'; omega
    have hmn' : nl' ≤ 9223372036854775807 := by unfold maxLen at a2'; omega
    have S1 : Hid (StrsAt w na nl (Nd.ns (K := Tr n) a)) := s1
    have S2 : Hid (SeqAt (NodeAt w n) w ka kl (Nd.ks (K := Tr n) a)) := s2
    have S1' : Hid (StrsAt w na' nl' (Nd.ns (K := Tr n) b)) := s1'
    have S2' : Hid (SeqAt (NodeAt w n) w ka' kl' (Nd.ks (K := Tr n) b)) := s2'
    have l1 : Hid _ := s1.1
    have l2 : Hid _ := s2.1
    have l1' : Hid _ := s1'.1
    have l2' : Hid _ := s2'.1
    clear ih s1 s2 wf a1 a2 a4 s1' s2' wf' a1' a2' a4'
    generalize Nd.k (K := Tr n) a = xk at *
    generalize Nd.k (K := Tr n) b = yk at *
    generalize Nd.n (K := Tr n) a = xn at *
    generalize Nd.n (K := Tr n) b = yn at *
    generalize Nd.s (K := Tr n) a = xs at *
    generalize Nd.s (K := Tr n) b = ys at *
    generalize Nd.ns (K := Tr n) a = xl at *
    generalize Nd.ns (K := Tr n) b = yl at *
    generalize Nd.ks (K := Tr n) a = xq at *
    generalize Nd.ks (K := Tr n) b = yq at *
    generalize sm (n + 1) a b = res at *
    by_cases hbad : xk = yk ∧ xn = yn ∧ xs = ys ∧ nl = nl' ∧ kl = kl'
    · obtain ⟨rfl, rfl, rfl, rfl, rfl⟩ := hbad
      go_enter Tryd.func6, Tryd.ntmps6
      go_wp2_with (fail)
      go_loopw [47] (fun i w' => ∃ k : Nat, k ≤ nl ∧ Hid (∀ (i : Nat) x y, i < k → xl[i]? = some x → yl[i]? = some y → x = y) ∧ i = .int .i64 k ∧ BW (bx (bx w xk xn xs na nl nc ka kl kc) xk xn xs na' nl nc' ka' kl kc') w') (fun i _ => nl - (intOf i).toNat)
      case atStart => exact ⟨0, Nat.zero_le _, fun i x y h => by omega, rfl, (by repeat (first | exact BW.refl _ | apply BW.alloc | apply BW.drewN | apply BW.drew))⟩
      case round =>
        obtain ⟨k, hk, HA, rfl, hb1⟩ := hrel
        obtain ⟨⟨_, _, _, p3, p4⟩, ⟨_, _, _, q3, q4⟩, pz, hb⟩ := bx2_at hb1
        by_cases hlt : k < nl
        · obtain ⟨b1, off1, x, b2, off2, x', rfl, rfl, hl1, hl2, hx, hx', hc, hc'⟩ := S1.out.getBoth S1'.out hlt
          rw [← hb.cells b1 _ hl1] at hc
          rw [← hb.cells b2 _ hl2] at hc'
          have HX : Hid _ := hx
          have HX' : Hid _ := hx'
          clear hx hx'
          by_cases he : x = x'
          · have he' := (bytes_eq x x').2 he
            go_wp2_with (fail)
            go_quiet (fail)
            go_wp2_with (fail)
            refine ⟨⟨k + 1, by omega, (fun i z y hi hz hy => ?_ : ∀ (i : Nat) x y, i < k + 1 → xl[i]? = some x → yl[i]? = some y → x = y), by go_num, BW.drewN hb1 _⟩, by simp [intOf]; omega⟩
            rcases Nat.lt_or_ge i k with h | h
            · exact HA.out i z y h hz hy
            · obtain rfl : i = k := by omega
              have e1 := HX.out; have e2 := HX'.out
              rw [hz] at e1; rw [hy] at e2; cases e1; cases e2; exact he
          · have he' : ¬ x.toList = x'.toList := fun e => he ((bytes_eq x x').1 e)
            have he2 : (x.toList == x'.toList) = false := by simpa using he'
            have HR : Hid (res = false) := by
              show res = false
              rw [HS.out]
              have : ¬ xl = yl := fun e => by subst e; have e1 := HX.out; rw [HX'.out] at e1; cases e1; exact he rfl
              simp [this]
            go_wp2_with (fail)
            go_quiet (fail)
            go_wp2_with (fail)
            go_ret
            exact ⟨by rw [HR.out]; rfl, BW.drewN hb _⟩
        · have hkn : nl = k := by omega
          subst hkn
          have HL : Hid (xl = yl) := take_all_eq (by rw [l1.out, l1'.out]) (fun i x y hx hy => HA.out i x y (by have := (List.getElem?_eq_some_iff.1 hx).1; rw [l1.out] at this; exact this) hx hy)
          go_wp2_with (fail)
          go_loopw [65] (fun i w' => ∃ k : Nat, k ≤ kl ∧ Hid (((xq.zip yq).take k).all (fun p => sm n p.1 p.2) = true) ∧ i = .int .i64 k ∧ BW (bx (bx w xk xn xs na nl nc ka kl kc) xk xn xs na' nl nc' ka' kl kc') w') (fun i _ => kl - (intOf i).toNat)
          case atStart => exact ⟨0, Nat.zero_le _, by simp [Hid], rfl, hb1⟩
          case round =>
            clear p3 p4 q3 q4 hb1 pz hb
            obtain ⟨k, hk, HB, rfl, hb1⟩ := hrel
            obtain ⟨⟨_, _, _, p3, p4⟩, ⟨_, _, _, q3, q4⟩, pz, hb⟩ := bx2_at hb1
            by_cases hlt : k < kl
            · obtain ⟨b1, off1, x, rfl, hbl, hx, r, hr, hax⟩ := SeqAt.get S2.out hlt
              obtain ⟨b2, off2, x', rfl, hbl', hx', r', hr', hax'⟩ := SeqAt.get S2'.out hlt
              have HX : Hid (NodeAt w n r.v x) := hax
              have HX' : Hid (NodeAt w n r'.v x') := hax'
              have HZ : Hid _ := zip_get hx hx'
              obtain ⟨d0, d1, d2, d3, d4⟩ := hr.bw hb hbl
              obtain ⟨c0, c1, c2, c3, c4⟩ := hr'.bw hb hbl'
              have hz := hb.size
              clear hax hx hr hax' hx' hr'
              have C := fun w2 (h : BW wr w2) => IH.out r.v r'.v x x' w2 (HX.out.bw (BW.trans hb h)) (HX'.out.bw (BW.trans hb h))
              have C' : Hid _ := C
              clear C
              go_wp2_with (fail)
              go_region_held3 (fun w' => BW wr w' ∧ w'.cell? ⟨w.heap.size, 4, none⟩ = some (.slice (some ⟨b1, off1, none⟩) kl kc) ∧ w'.cell? ⟨w.heap.size + 1, 4, none⟩ = some (.slice (some ⟨b2, off2, none⟩) kl kc') ∧ w'.cell? ⟨b1, off1 + k * 5, none⟩ = some (.int .u8 r.k) ∧ w'.cell? ⟨b1, off1 + k * 5 + 1, none⟩ = some (.int .i64 r.n) ∧ w'.cell? ⟨b1, off1 + k * 5 + 2, none⟩ = some (.string r.s) ∧ w'.cell? ⟨b1, off1 + k * 5 + 3, none⟩ = some (.slice r.na r.nl r.nc) ∧ w'.cell? ⟨b1, off1 + k * 5 + 4, none⟩ = some (.slice r.ka r.kl r.kc) ∧ w'.cell? ⟨b2, off2 + k * 5, none⟩ = some (.int .u8 r'.k) ∧ w'.cell? ⟨b2, off2 + k * 5 + 1, none⟩ = some (.int .i64 r'.n) ∧ w'.cell? ⟨b2, off2 + k * 5 + 2, none⟩ = some (.string r'.s) ∧ w'.cell? ⟨b2, off2 + k * 5 + 3, none⟩ = some (.slice r'.na r'.nl r'.nc) ∧ w'.cell? ⟨b2, off2 + k * 5 + 4, none⟩ = some (.slice r'.ka r'.kl r'.kc)) ((refine ⟨(by repeat (first | exact BW.refl _ | assumption | apply BW.alloc | apply BW.drewN | apply BW.drew | (refine BW.setCell ?_ (by first | omega | (simp; done) | (simp; omega)) _) | (refine BW.trans ?_ (by assumption)))), ?_⟩; go_keep)) (first | (go_at_call 6; refine (C'.out _ (by repeat (first | exact BW.refl _ | assumption | apply BW.alloc | apply BW.drewN | apply BW.drew | (refine BW.setCell ?_ (by first | omega | (simp; done) | (simp; omega)) _) | (refine BW.trans ?_ (by assumption))))).mono ?_; rintro e w2 ⟨rfl, bb⟩; have z1 := fun o => bb.cells b1 o (by simp; omega); have z2 := fun o => bb.cells b2 o (by simp; omega); have z3 := fun o => bb.cells w.heap.size o (by simp; omega); have z4 := fun o => bb.cells (w.heap.size + 1) o (by simp; omega)))
              all_goals clear z1 z2 z3 z4
              all_goals have bw2 : Hid (BW (bx (bx w xk xn xs na nl nc (some ⟨b1, off1, none⟩) kl kc) xk xn xs na' nl nc' (some ⟨b2, off2, none⟩) kl kc') w2) := BW.trans (BW.drew hb1) bb
              all_goals cases hgx : sm n x x'
              · have HG : Hid _ := hgx
                clear hgx
                have HR : Hid (res = false) := by
                  show res = false
                  rw [HS.out, all_miss (fun p : Tr n × Tr n => sm n p.1 p.2) HZ.out HG.out]; simp
                go_wp2_with (fail)
                go_ret
                exact ⟨by rw [HR.out]; rfl, (bx2_at bw2.out).2.2.2⟩
              · have HG : Hid _ := hgx
                clear hgx
                go_wp2_with (fail)
                go_roundw
                case rel => exact ⟨k + 1, by omega, by have := all_snoc (fun p : Tr n × Tr n => sm n p.1 p.2) HZ.out; rw [HB.out, HG.out] at this; exact this, by go_num, bw2.out⟩
                case measure => simp [intOf]; omega
            · have hkn : kl = k := by omega
              subst hkn
              have := HB.out
              rw [List.take_of_length_le (by rw [List.length_zip, l2.out, l2'.out]; omega)] at this
              have HR : Hid (res = true) := by
                show res = true
                rw [HS.out, this, HL.out]; simp [l2.out, l2'.out]
              clear this
              go_wp2_with (fail)
              go_ret
              exact ⟨by rw [HR.out]; rfl, hb⟩
    · have HR : Hid (res = false) := by
        show res = false
        rw [HS.out]
        simp only [l2.out, l2'.out]
        by_cases h1 : xl = yl
        · have : nl = nl' := by rw [← l1.out, ← l1'.out, h1]
          have h2 : ¬ (xk = yk ∧ xn = yn ∧ xs = ys ∧ kl = kl') := fun ⟨p, q, r, s⟩ => hbad ⟨p, q, r, this, s⟩
          by_cases p : xk = yk
          · by_cases q : xn = yn
            · by_cases r : xs = ys
              · have s : ¬ kl = kl' := fun s => h2 ⟨p, q, r, s⟩
                simp [s]
              · simp [r]
            · simp [q]
          · simp [p]
        · simp [h1]
      have hbad' : ¬ (xk = yk ∧ xn = yn ∧ xs.toList = ys.toList ∧ nl = nl' ∧ kl = kl') := by rw [bytes_eq]; exact hbad
      have HBAD : Hid _ := hbad'
      clear hbad hbad'
      go_enter Tryd.func6, Tryd.ntmps6
      go_wp2_with (fail)
      all_goals (first | (go_ret; exact ⟨by rw [HR.out]; rfl, (by repeat (first | exact BW.refl _ | assumption | apply BW.alloc | apply BW.drewN | apply BW.drew | (refine BW.setCell ?_ (by first | omega | (simp; done) | (simp; omega)) _) | (refine BW.trans ?_ (by assumption))))⟩) | (exfalso; have hx := HBAD.out; simp_all; omega))
/-- The words, and how many parts they take. -/
def wtab : List (List UInt8 × Int) := [([105, 110], 0), ([110, 101, 103], 1), ([110, 111, 116], 1), ([108, 101, 110], 1), ([105, 56], 1), ([105, 49, 54], 1), ([105, 51, 50], 1), ([117, 56], 1), ([117, 49, 54], 1), ([117, 51, 50], 1), ([102, 115, 116], 1), ([115, 110, 100], 1), ([99, 101, 108, 108], 1), ([103, 101, 116], 1), ([111, 117, 116], 1), ([43], 2), ([45], 2), ([42], 2), ([47], 2), ([37], 2), ([97, 110, 100], 2), ([111, 114], 2), ([120, 111, 114], 2), ([115, 104, 108], 2), ([115, 104, 114], 2), ([117, 115, 104, 114], 2), ([60], 2), ([61], 2), ([99, 97, 116], 2), ([97, 116], 2), ([112, 97, 105, 114], 2), ([115, 101, 116], 2)]
def wcs : List Value := wtab.flatMap (fun x => [.string ⟨x.1.toArray⟩, .int .i64 x.2])
def wv : Value := .agg wcs.toArray
def wk (k : Nat) : ByteArray := ⟨(wtab.getD k ([], 0)).1.toArray⟩
def wn (k : Nat) : Int := (wtab.getD k ([], 0)).2
/-- The variable words is as the program's text lays it. -/
def Tw (W : World) : Prop := 1 < W.heap.size ∧ W.rangeAt 1 0 wcs
theorem Tw.bw {W W' : World} (h : Tw W) (k : BW W W') : Tw W' := ⟨Nat.lt_of_lt_of_le h.1 k.size, fun j x hx => (k.cells 1 _ h.1).trans (h.2 j x hx)⟩
theorem index_words : ∀ (k : Nat) (w : World), k < 32 → (Instr.index 80 wv (.int .i64 k)).run Tryd.prog w = .ok (.agg #[.string (wk k), .int .i64 (wn k)]) w
  | 0, w, _ => by kernel_rfl
  | 1, w, _ => by kernel_rfl
  | 2, w, _ => by kernel_rfl
  | 3, w, _ => by kernel_rfl
  | 4, w, _ => by kernel_rfl
  | 5, w, _ => by kernel_rfl
  | 6, w, _ => by kernel_rfl
  | 7, w, _ => by kernel_rfl
  | 8, w, _ => by kernel_rfl
  | 9, w, _ => by kernel_rfl
  | 10, w, _ => by kernel_rfl
  | 11, w, _ => by kernel_rfl
  | 12, w, _ => by kernel_rfl
  | 13, w, _ => by kernel_rfl
  | 14, w, _ => by kernel_rfl
  | 15, w, _ => by kernel_rfl
  | 16, w, _ => by kernel_rfl
  | 17, w, _ => by kernel_rfl
  | 18, w, _ => by kernel_rfl
  | 19, w, _ => by kernel_rfl
  | 20, w, _ => by kernel_rfl
  | 21, w, _ => by kernel_rfl
  | 22, w, _ => by kernel_rfl
  | 23, w, _ => by kernel_rfl
  | 24, w, _ => by kernel_rfl
  | 25, w, _ => by kernel_rfl
  | 26, w, _ => by kernel_rfl
  | 27, w, _ => by kernel_rfl
  | 28, w, _ => by kernel_rfl
  | 29, w, _ => by kernel_rfl
  | 30, w, _ => by kernel_rfl
  | 31, w, _ => by kernel_rfl
  | n + 32, w, h => absurd h (by omega)
/-- How many parts a word takes. -/
def tk (l : List UInt8) : Int := ((wtab.find? (fun x => x.1 == l)).map (·.2)).getD (-1)
theorem wtab_get (k : Nat) (h : k < 32) : wtab[k]? = some ((wk k).data.toList, wn k) := by
  have hl : k < wtab.length := h
  rw [List.getElem?_eq_getElem hl]
  simp [wk, wn, List.getD, List.getElem?_eq_getElem hl]
theorem tk_hit {l : List UInt8} {k : Nat} (h : k < 32) (hno : ∀ j, j < k → ¬ (wk j).data.toList = l) (he : (wk k).data.toList = l) : tk l = wn k := by
  have hl : k < wtab.length := h
  unfold tk
  have : wtab.find? (fun x => x.1 == l) = some (l, wn k) := by
    rw [List.find?_eq_some_iff_getElem]
    refine ⟨by simp, k, hl, ?_, fun j hj => ?_⟩
    · have := wtab_get k h; rw [List.getElem?_eq_getElem hl, he] at this; exact Option.some.inj this
    · have h2 := wtab_get j (by omega)
      rw [List.getElem?_eq_getElem (by omega : j < wtab.length)] at h2
      rw [Option.some.inj h2]
      simpa using hno j hj
  rw [this]; rfl
theorem tk_none {l : List UInt8} (hno : ∀ j, j < 32 → ¬ (wk j).data.toList = l) : tk l = -1 := by
  unfold tk
  have : wtab.find? (fun x => x.1 == l) = none := by
    rw [List.find?_eq_none]
    intro x hx
    obtain ⟨j, hj⟩ := List.getElem?_of_mem hx
    have hlt : j < wtab.length := (List.getElem?_eq_some_iff.1 hj).1
    have h2 := wtab_get j hlt
    rw [hj] at h2
    rw [Option.some.inj h2]
    simpa using hno j hlt
  rw [this]; rfl
set_option maxRecDepth 100000 in
set_option maxHeartbeats 4000000 in
theorem takes_any (s : ByteArray) (w : World) (h : Tw w) : Calls Tryd.prog 28 #[.string s] w fun e w' => e = .returned (.int .i64 (tk s.data.toList)) ∧ BW w w' := by
  have HW : Hid (Tw w) := h
  clear h
  go_enter Tryd.func28, Tryd.ntmps28
  go_wp2_with (refine wpList_load_mid rfl 80 (.global 1) rfl 1 0 rfl wcs _ HW.out.2 Tryd.underlying80 rfl (by kernel_rfl) (?_ : wpList _ _ _ _ (Act.put _ (some 5) wv) _))
  go_loopw [6] (fun i w' => ∃ k : Nat, k ≤ 32 ∧ Hid (∀ j, j < k → ¬ (wk j).data.toList = s.data.toList) ∧ i = .int .i64 k ∧ BW w w') (fun i _ => 32 - (intOf i).toNat)
  case atStart => exact ⟨0, Nat.zero_le _, fun j h => by omega, rfl, (by repeat (first | exact BW.refl _ | apply BW.alloc | apply BW.drewN | apply BW.drew))⟩
  case round =>
    obtain ⟨k, hk, HA, rfl, hb⟩ := hrel
    have hz := hb.size
    by_cases hlt : k < 32
    · have hI := fun w' => index_words k w' hlt
      by_cases he : (wk k).data.toList = s.data.toList
      · have HT : Hid _ := tk_hit hlt HA.out he
        have he' : (wk k).toList = s.toList := by rw [ByteArray.toList_eq, ByteArray.toList_eq]; exact he
        clear he
        go_wp2_with (fail)
        go_ret
        exact ⟨by rw [HT.out]; rfl, (by repeat (first | exact BW.refl _ | assumption | apply BW.alloc | apply BW.drewN | apply BW.drew | (refine BW.setCell ?_ (by first | omega | (simp; done) | (simp; omega)) _) | (refine BW.trans ?_ (by assumption))))⟩
      · have HQ : Hid (∀ j, j < k + 1 → ¬ (wk j).data.toList = s.data.toList) := fun j hj => by
          rcases Nat.lt_or_ge j k with h | h
          · exact HA.out j h
          · obtain rfl : j = k := by omega
            exact he
        have he' : ¬ (wk k).toList = s.toList := by rw [ByteArray.toList_eq, ByteArray.toList_eq]; exact he
        have he2 : ((wk k).toList == s.toList) = false := by simpa using he'
        clear he
        go_wp2_with (fail)
        go_roundw
        case rel => exact ⟨k + 1, by omega, HQ.out, by go_num, (by repeat (first | exact BW.refl _ | assumption | apply BW.alloc | apply BW.drewN | apply BW.drew | (refine BW.setCell ?_ (by first | omega | (simp; done) | (simp; omega)) _) | (refine BW.trans ?_ (by assumption))))⟩
        case measure => simp [intOf]; omega
    · have hkn : k = 32 := by omega
      subst hkn
      have HT : Hid _ := tk_none HA.out
      go_wp2_with (fail)
      go_ret
      exact ⟨by rw [HT.out]; rfl, (by repeat (first | exact BW.refl _ | assumption | apply BW.alloc | apply BW.drewN | apply BW.drew | (refine BW.setCell ?_ (by first | omega | (simp; done) | (simp; omega)) _) | (refine BW.trans ?_ (by assumption))))⟩
theorem owns_bw {H : Type} {w w' : World} {k : TypeId} {R : Value → Option (DataW H × List MemPlace)} {b n : Nat} {D : DataW H} (h : w.ownsMap Tryd.prog k R b n D) (hb : BW w w') : w'.ownsMap Tryd.prog k R b n D := by
  obtain ⟨es, cl, h1, h2⟩ := h
  exact ⟨es, cl, (hb.block b (Array.getElem?_eq_some_iff.1 h1).1).trans h1, h2⟩
theorem sameKey_string (a b : List UInt8) : (Lit.string a).sameKey (.string b) = decide (a = b) := by
  simp only [Lit.sameKey]
  by_cases h : a = b <;> simp [h]
/-- What the map knows behind k rounds. -/
def UR {H : Type} (l : List ByteArray) (D : DataW H) : Prop := ∃ ent, D = .map ent ∧ (∀ s : ByteArray, (∃ p ∈ ent, p.1.sameKey (.string s.data.toList) = true) ↔ s ∈ l) ∧ (l.Nodup → ent.length = l.length) ∧ (¬ l.Nodup → ent.length < l.length)
theorem mem_insert {H : Type} (x p : Lit × DataW H) : ∀ l : List (Lit × DataW H), p ∈ DataW.insert x l ↔ p = x ∨ p ∈ l
  | [] => by simp [DataW.insert]
  | y :: r => by
    unfold DataW.insert
    split
    · simp
    · simp only [List.mem_cons, mem_insert x p r]
      constructor
      · rintro (h | h | h)
        · exact .inr (.inl h)
        · exact .inl h
        · exact .inr (.inr h)
      · rintro (h | h | h)
        · exact .inr (.inl h)
        · exact .inl h
        · exact .inr (.inr h)
theorem UR.put {H : Type} {l : List ByteArray} {D : DataW H} (h : UR l D) (s : ByteArray) (d : DataW H) : UR (l ++ [s]) (D.put (.string s.data.toList) d) := by
  obtain ⟨ent, rfl, hk, h1, h2⟩ := h
  refine ⟨_, rfl, fun x => ?_, ?_⟩
  · constructor
    · rintro ⟨p, hp, hs⟩
      rcases (mem_insert _ _ _).1 hp with rfl | hp
      · rw [sameKey_string] at hs
        have := Go.WideShapes.bytes_inj (of_decide_eq_true hs)
        simp [this]
      · have := (hk x).1 ⟨p, (List.mem_filter.1 hp).1, hs⟩
        simp [this]
    · intro hx
      by_cases e : x = s
      · subst e
        exact ⟨_, (mem_insert _ _ _).2 (.inl rfl), by rw [sameKey_string]; simp⟩
      · have hx' : x ∈ l := by simp [e] at hx; exact hx
        obtain ⟨p, hp, hs⟩ := (hk x).2 hx'
        refine ⟨p, (mem_insert _ _ _).2 (.inr (List.mem_filter.2 ⟨hp, ?_⟩)), hs⟩
        cases hc : p.1.sameKey (.string s.data.toList) with
        | false => rfl
        | true =>
          exfalso
          cases hp1 : p.1 with
          | string b =>
            rw [hp1, sameKey_string] at hs hc
            exact e (Go.WideShapes.bytes_inj ((of_decide_eq_true hs).symm.trans (of_decide_eq_true hc)))
          | _ => rw [hp1] at hs; simp [Lit.sameKey] at hs
  · have hins : (DataW.insert ((.string s.data.toList : Lit), d) (ent.filter fun p => !p.1.sameKey (.string s.data.toList))).length = (ent.filter fun p => !p.1.sameKey (.string s.data.toList)).length + 1 := length_insert _ _
    have hfl := List.length_filter_le (fun p : Lit × DataW H => !p.1.sameKey (.string s.data.toList)) ent
    by_cases hm : s ∈ l
    · obtain ⟨p, hp, hs⟩ := (hk s).2 hm
      have hlt : (ent.filter fun p => !p.1.sameKey (.string s.data.toList)).length < ent.length := by
        refine List.length_filter_lt_length_iff_exists.2 ⟨p, hp, by simp [hs]⟩
      have hnd : ¬ (l ++ [s]).Nodup := by
        intro h; rw [List.nodup_append] at h; exact h.2.2 s hm s (by simp) rfl
      refine ⟨fun h => absurd h hnd, fun _ => ?_⟩
      rw [hins, List.length_append]
      by_cases hn : l.Nodup
      · have := h1 hn; simp; omega
      · have := h2 hn; simp; omega
    · have hall : (ent.filter fun p => !p.1.sameKey (.string s.data.toList)) = ent := by
        rw [List.filter_eq_self]
        intro p hp
        cases hc : p.1.sameKey (.string s.data.toList) with
        | false => rfl
        | true => exact absurd ((hk s).1 ⟨p, hp, hc⟩) hm
      have hiff : (l ++ [s]).Nodup ↔ l.Nodup := by
        rw [List.nodup_append]
        constructor
        · exact fun h => h.1
        · exact fun h => ⟨h, by simp, fun a ha b hb => by simp at hb; subst hb; exact fun e => hm (e ▸ ha)⟩
      rw [hins, hall, hiff]
      exact ⟨fun h => by have := h1 h; simp; omega, fun h => by have := h2 h; simp; omega⟩
/-- A node's kind, its text. -/
def knd : (n : Nat) → Tr n → Int
  | 0, _ => 0
  | n + 1, t => Nd.k (K := Tr n) t
def ttx : (n : Nat) → Tr n → ByteArray
  | 0, _ => ⟨#[]⟩
  | n + 1, t => Nd.s (K := Tr n) t
theorem drop_get {α : Type} {l : List α} {j : Nat} {x : α} (h : l[j]? = some x) : l.drop j = x :: l.drop (j + 1) := by
  obtain ⟨hj, rfl⟩ := List.getElem?_eq_some_iff.1 h
  exact List.drop_eq_getElem_cons hj
theorem NodeAt.parts {w : World} {n : Nat} {r : Rw} {x : Tr n} (h : NodeAt w n r.v x) : r.k = knd n x ∧ r.s = ttx n x ∧ 0 ≤ r.k ∧ r.k ≤ 255 ∧ r.s.size ≤ maxLen := by
  cases n with
  | zero => exact h.elim
  | succ n =>
    obtain ⟨na, nl, nc, ka, kl, kc, e, wf, _⟩ := h
    simp only [Rw.v, ndv, Value.agg.injEq, Array.mk.injEq, List.cons.injEq, Value.int.injEq, Value.string.injEq, true_and, and_true] at e
    obtain ⟨e1, e2, e3, _⟩ := e
    exact ⟨e1, e3, by rw [e1]; exact wf.k0, by rw [e1]; exact wf.k1, by rw [e3]; exact wf.s⟩
/-- What a call that may change the cell in block lb leaves of the world. -/
structure Fl (lb : Nat) (w w' : World) : Prop where
  os : w'.os = w.os
  tape : w'.tape = w.tape
  output : w'.output = w.output
  size : w.heap.size ≤ w'.heap.size
  block : ∀ k, k < w.heap.size → ¬ k = lb → w'.heap[k]? = w.heap[k]?
theorem BW.fl {w w' : World} (h : BW w w') (lb : Nat) : Fl lb w w' := ⟨h.os, h.tape, h.output, h.size, fun k hk _ => h.block k hk⟩
theorem Fl.trans {lb : Nat} {a b c : World} (h : Fl lb a b) (k : Fl lb b c) : Fl lb a c := ⟨k.os.trans h.os, k.tape.trans h.tape, k.output.trans h.output, Nat.le_trans h.size k.size, fun j hj hn => (k.block j (Nat.lt_of_lt_of_le hj h.size) hn).trans (h.block j hj hn)⟩
theorem Fl.bw {lb : Nat} {W w w' : World} (h : Fl lb w w') (hb : BW W w) (hl : W.heap.size ≤ lb) : BW W w' := ⟨h.os.trans hb.os, h.tape.trans hb.tape, h.output.trans hb.output, Nat.le_trans hb.size h.size, fun k hk => (h.block k (Nat.lt_of_lt_of_le hk hb.size) (by omega)).trans (hb.block k hk)⟩
theorem cell_block {w w' : World} {b : Nat} (h : w'.heap[b]? = w.heap[b]?) (o : Nat) : w'.cell? ⟨b, o, none⟩ = w.cell? ⟨b, o, none⟩ := by
  unfold World.cell?
  simp only [h]
theorem Fl.cells {lb : Nat} {w w' : World} (h : Fl lb w w') : ∀ b o, b < w.heap.size → ¬ b = lb → w'.cell? ⟨b, o, none⟩ = w.cell? ⟨b, o, none⟩ := fun b o hb hn => cell_block (h.block b hb hn) o
theorem Fl.set {lb : Nat} (w : World) (u : Value) : Fl lb w (w.setCell ⟨lb, 0, none⟩ u) := ⟨rfl, rfl, rfl, by simp [World.setCell], fun k hk hn => Below.heap_setCell _ _ _ _ (fun e => by first | exact hn e | exact hn e.symm)⟩

end Go.Proofs.YtlacjiihbbgbeaaDoor
