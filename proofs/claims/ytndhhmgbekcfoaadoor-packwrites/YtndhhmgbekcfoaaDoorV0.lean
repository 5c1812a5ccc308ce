import Derived.Test.YtndhhmgbekcfoaaDoorProg
import Derived.WalkKit
import Derived.WalkSpells
import Derived.WalkLawsBesides
import Derived.Deep.QuietTactic
import Derived.BigQuiet
import Derived.Deep.RegionLaw
import Derived.Lib.SmallJoins
import Derived.Deep.RegionHeld3
namespace Go.Proofs.YtndhhmgbekcfoaaDoor
open Go.RowKit
set_option linter.unusedVariables false
set_option linter.unusedSimpArgs false

/-- What a walk leaves of the world: nothing that was there has turned. -/
def BW (w w' : World) : Prop := Below w.heap.size w w'
theorem BW.refl (w : World) : BW w w := Below.refl _ _
theorem BW.size {w w' : World} (h : BW w w') : w.heap.size ≤ w'.heap.size := Below.size h
theorem BW.trans {a b c : World} (h : BW a b) (k : BW b c) : BW a c := Below.trans h (Below.mono k (BW.size h))
theorem BW.alloc {a b : World} (h : BW a b) (o : Obj) : BW a (b.alloc o) := Below.alloc h (BW.size h) o
theorem BW.drew {a b : World} (h : BW a b) : BW a b.drew := Below.drew h
theorem BW.drewN {a b : World} (h : BW a b) : (n : Nat) → BW a (b.drewN n) := fun n => ⟨h.os, h.tape, h.output, h.size, h.block⟩
theorem BW.setCell {a b : World} (h : BW a b) {p : Addr} (hp : a.heap.size ≤ p.block) (u : Value) : BW a (b.setCell p u) := Below.setCell h hp u
theorem BW.cells {W w1 : World} (hb : BW W w1) : ∀ b o, b < W.heap.size → w1.cell? ⟨b, o, none⟩ = W.cell? ⟨b, o, none⟩ := fun b o h => Below.cell hb (p := ⟨b, o, none⟩) h
theorem BW.froz {W w1 : World} (hb : BW W w1) : ∀ b o, b < W.heap.size → w1.frozen? ⟨b, o, none⟩ = W.frozen? ⟨b, o, none⟩ := fun b o h => Below.frozen hb (p := ⟨b, o, none⟩) h
theorem u8w (n : Int) (h0 : 0 ≤ n) (h : n < 256) : IntKind.u8.wrap n = n := by
  simp only [IntKind.wrap, show IntKind.u8.bits = 8 from rfl, show IntKind.u8.signed = false from rfl]; simp; omega
theorem u64w (n : Int) (h0 : 0 ≤ n) (h : n ≤ 18446744073709551615) : IntKind.u64.wrap n = n := by
  simp only [IntKind.wrap, show IntKind.u64.bits = 64 from rfl, show IntKind.u64.signed = false from rfl]; simp; omega
theorem i64w (n : Int) (h0 : -9223372036854775808 ≤ n) (h : n ≤ 9223372036854775807) : IntKind.i64.wrap n = n := by
  simp only [IntKind.wrap, show IntKind.i64.bits = 64 from rfl, show IntKind.i64.signed = true from rfl]; simp; omega
/-- The slice at ao of length ln holds the strings l. -/
def StrsAt (W : World) (ao : Option Addr) (ln : Nat) (l : List ByteArray) : Prop := l.length = ln ∧ ln ≤ maxLen ∧ (∀ s ∈ l, s.size ≤ maxLen) ∧
  (ln = 0 ∨ ∃ b off, ao = some ⟨b, off, none⟩ ∧ b < W.heap.size ∧ ∀ (i : Nat) s, l[i]? = some s → W.cell? ⟨b, off + i, none⟩ = some (.string s))
theorem StrsAt.bw {W W' : World} {ao : Option Addr} {ln : Nat} {l : List ByteArray} (h : StrsAt W ao ln l) (k : BW W W') : StrsAt W' ao ln l := by
  obtain ⟨h1, h2, h3, h4⟩ := h
  refine ⟨h1, h2, h3, ?_⟩
  rcases h4 with h4 | ⟨b, off, e, hb, hc⟩
  · exact .inl h4
  · exact .inr ⟨b, off, e, Nat.lt_of_lt_of_le hb k.size, fun j z hz => (k.cells b _ hb).trans (hc j z hz)⟩
theorem bnd64 {n : Int} (h : (Lit.int .i64 n).wf = true) : -9223372036854775808 ≤ n ∧ n ≤ 9223372036854775807 := by
  have hmin : IntKind.i64.min = -9223372036854775808 := rfl
  have hmax : IntKind.i64.max = 9223372036854775807 := rfl
  simp only [Lit.wf, Bool.and_eq_true, decide_eq_true_eq] at h
  omega
theorem bnd8 {n : Int} (h : (Lit.int .u8 n).wf = true) : 0 ≤ n ∧ n ≤ 255 := by
  have hmin : IntKind.u8.min = 0 := rfl
  have hmax : IntKind.u8.max = 255 := rfl
  simp only [Lit.wf, Bool.and_eq_true, decide_eq_true_eq] at h
  omega
theorem pick_all {β : Type} (n : Nat) (R : Nat → β → Prop) (h : ∀ i, i < n → ∃ b, R i b) : ∃ l : List β, l.length = n ∧ ∀ i b, l[i]? = some b → R i b := by
  induction n with
  | zero => exact ⟨[], rfl, by simp⟩
  | succ n ih =>
    obtain ⟨l, hl, hr⟩ := ih (fun i hi => h i (by omega))
    obtain ⟨b, hb⟩ := h n (by omega)
    refine ⟨l ++ [b], by simp [hl], fun i c hc => ?_⟩
    rcases Nat.lt_or_ge i n with hi | hi
    · exact hr i c (by rw [List.getElem?_append_left (by omega)] at hc; exact hc)
    · have : i < n + 1 := by have := (List.getElem?_eq_some_iff.1 hc).1; simp [hl] at this; omega
      obtain rfl : i = n := by omega
      rw [List.getElem?_append_right (by omega)] at hc
      simp [hl] at hc
      subst hc; exact hb
theorem no_spot {W : World} {a : Addr} {v : Value} (h : W.cell? a = some v) : a.spot = none := by
  obtain ⟨b, off, sp⟩ := a
  unfold World.cell? at h
  split at h
  · simp only at h
    split at h
    · cases h
    · rename_i hn; simpa using hn
  · cases h

/-- Within int64. -/
def I64 (n : Int) : Prop := -9223372036854775808 ≤ n ∧ n ≤ 9223372036854775807
/-- The slice at ao of length ln holds the numbers l. -/
def IntsAt (W : World) (ao : Option Addr) (ln : Nat) (l : List Int) : Prop := l.length = ln ∧ ln ≤ maxLen ∧ (∀ n ∈ l, I64 n) ∧
  (ln = 0 ∨ ∃ b off, ao = some ⟨b, off, none⟩ ∧ b < W.heap.size ∧ ∀ (i : Nat) n, l[i]? = some n → W.cell? ⟨b, off + i, none⟩ = some (.int .i64 n))
theorem IntsAt.bw {W W' : World} {ao : Option Addr} {ln : Nat} {l : List Int} (h : IntsAt W ao ln l) (k : BW W W') : IntsAt W' ao ln l := by
  obtain ⟨h1, h2, h3, h4⟩ := h
  refine ⟨h1, h2, h3, ?_⟩
  rcases h4 with h4 | ⟨b, off, e, hb, hc⟩
  · exact .inl h4
  · exact .inr ⟨b, off, e, Nat.lt_of_lt_of_le hb k.size, fun j z hz => (k.cells b _ hb).trans (hc j z hz)⟩
/-- The slice at ao of length ln holds things of c cells that lie as At says. -/
def RowAt {K : Type} (c : Nat) (At : Nat → Nat → K → Prop) (W : World) (ao : Option Addr) (ln : Nat) (l : List K) : Prop := l.length = ln ∧ ln ≤ maxLen ∧
  (ln = 0 ∨ ∃ b off, ao = some ⟨b, off, none⟩ ∧ b < W.heap.size ∧ ∀ (i : Nat) x, l[i]? = some x → At b (off + i * c) x)
theorem RowAt.bw {K : Type} {c : Nat} {At At' : Nat → Nat → K → Prop} {W W' : World} {ao : Option Addr} {ln : Nat} {l : List K} (h : RowAt c At W ao ln l) (k : BW W W') (m : ∀ b o x, b < W.heap.size → At b o x → At' b o x) : RowAt c At' W' ao ln l := by
  obtain ⟨h1, h2, h4⟩ := h
  refine ⟨h1, h2, ?_⟩
  rcases h4 with h4 | ⟨b, off, e, hb, hc⟩
  · exact .inl h4
  · exact .inr ⟨b, off, e, Nat.lt_of_lt_of_le hb k.size, fun j z hz => m _ _ _ hb (hc j z hz)⟩
theorem RowAt.get {K : Type} {c : Nat} {At : Nat → Nat → K → Prop} {W : World} {ao : Option Addr} {ln : Nat} {l : List K} (h : RowAt c At W ao ln l) {i : Nat} (hi : i < ln) :
    ∃ b off x, ao = some ⟨b, off, none⟩ ∧ b < W.heap.size ∧ l[i]? = some x ∧ At b (off + i * c) x := by
  obtain ⟨h1, h2, h4⟩ := h
  rcases h4 with h4 | ⟨b, off, e, hb, hc⟩
  · omega
  · obtain ⟨x, hx⟩ : ∃ x, l[i]? = some x := ⟨_, List.getElem?_eq_getElem (by omega)⟩
    exact ⟨b, off, x, e, hb, hx, hc i x hx⟩
theorem IntsAt.get {W : World} {ao : Option Addr} {ln : Nat} {l : List Int} (h : IntsAt W ao ln l) {i : Nat} (hi : i < ln) :
    ∃ b off x, ao = some ⟨b, off, none⟩ ∧ b < W.heap.size ∧ l[i]? = some x ∧ I64 x ∧ W.cell? ⟨b, off + i, none⟩ = some (.int .i64 x) := by
  obtain ⟨h1, h2, h3, h4⟩ := h
  rcases h4 with h4 | ⟨b, off, e, hb, hc⟩
  · omega
  · obtain ⟨x, hx⟩ : ∃ x, l[i]? = some x := ⟨_, List.getElem?_eq_getElem (by omega)⟩
    exact ⟨b, off, x, e, hb, hx, h3 x (List.mem_of_getElem? hx), hc i x hx⟩
theorem StrsAt.get {W : World} {ao : Option Addr} {ln : Nat} {l : List ByteArray} (h : StrsAt W ao ln l) {i : Nat} (hi : i < ln) :
    ∃ b off x, ao = some ⟨b, off, none⟩ ∧ b < W.heap.size ∧ l[i]? = some x ∧ x.size ≤ maxLen ∧ W.cell? ⟨b, off + i, none⟩ = some (.string x) := by
  obtain ⟨h1, h2, h3, h4⟩ := h
  rcases h4 with h4 | ⟨b, off, e, hb, hc⟩
  · omega
  · obtain ⟨x, hx⟩ : ∃ x, l[i]? = some x := ⟨_, List.getElem?_eq_getElem (by omega)⟩
    exact ⟨b, off, x, e, hb, hx, h3 x (List.mem_of_getElem? hx), hc i x hx⟩
/-- An instruction: its operation and A. -/
structure Ins where
  op : Int
  a : Int
/-- An instruction's cells. -/
def InsC (W : World) (b o : Nat) (x : Ins) : Prop := W.cell? ⟨b, o, none⟩ = some (.int .u8 x.op) ∧ W.cell? ⟨b, o + 1, none⟩ = some (.int .i64 x.a) ∧ (0 ≤ x.op ∧ x.op ≤ 255) ∧ I64 x.a
def CodeAt (W : World) : Option Addr → Nat → List Ins → Prop := RowAt 2 (InsC W) W
/-- A function: Params, Slots, Ups, its code. -/
structure Pro where
  p : Int
  s : Int
  u : Int
  code : List Ins
abbrev prv (p s u : Int) (ca : Option Addr) (cl cc : Nat) : Value := .agg #[.int .i64 p, .int .i64 s, .int .i64 u, .slice ca cl cc]
/-- What a function's value says. -/
def PrV (W : World) (x : Pro) (ca : Option Addr) (cl cc : Nat) : Prop := I64 x.p ∧ I64 x.s ∧ I64 x.u ∧ cl ≤ cc ∧ cc ≤ maxLen ∧ CodeAt W ca cl x.code
/-- A function's cells. -/
def PrK (W : World) (b o : Nat) (x : Pro) (ca : Option Addr) (cl cc : Nat) : Prop := W.cell? ⟨b, o, none⟩ = some (.int .i64 x.p) ∧ W.cell? ⟨b, o + 1, none⟩ = some (.int .i64 x.s) ∧ W.cell? ⟨b, o + 2, none⟩ = some (.int .i64 x.u) ∧ W.cell? ⟨b, o + 3, none⟩ = some (.slice ca cl cc)
def PrC (W : World) (b o : Nat) (x : Pro) : Prop := ∃ ca cl cc, PrK W b o x ca cl cc ∧ PrV W x ca cl cc
def ProsAt (W : World) : Option Addr → Nat → List Pro → Prop := RowAt 4 (PrC W) W
/-- A table: its operations, Return, Finally. -/
structure Tbl where
  ops : List Int
  ret : Bool
  fin : Bool
abbrev tbv (oa : Option Addr) (ol oc : Nat) (r f : Bool) : Value := .agg #[.slice oa ol oc, .bool r, .bool f]
def TbV (W : World) (x : Tbl) (oa : Option Addr) (ol oc : Nat) : Prop := ol ≤ oc ∧ oc ≤ maxLen ∧ ol ≤ 140737488355328 ∧ IntsAt W oa ol x.ops
def TbK (W : World) (b o : Nat) (x : Tbl) (oa : Option Addr) (ol oc : Nat) : Prop := W.cell? ⟨b, o, none⟩ = some (.slice oa ol oc) ∧ W.cell? ⟨b, o + 1, none⟩ = some (.bool x.ret) ∧ W.cell? ⟨b, o + 2, none⟩ = some (.bool x.fin)
def TbC (W : World) (b o : Nat) (x : Tbl) : Prop := ∃ oa ol oc, TbK W b o x oa ol oc ∧ TbV W x oa ol oc
def TbsAt (W : World) : Option Addr → Nat → List Tbl → Prop := RowAt 3 (TbC W) W
/-- A module. -/
structure Mdl where
  ints : List Int
  texts : List ByteArray
  pros : List Pro
  tabs : List Tbl
/-- A module's value. -/
structure Mw where
  ia : Option Addr
  il : Nat
  ic : Nat
  ta : Option Addr
  tl : Nat
  tc : Nat
  pa : Option Addr
  pl : Nat
  pc : Nat
  ha : Option Addr
  hl : Nat
  hc : Nat
abbrev Mw.v (r : Mw) : Value := .agg #[.slice r.ia r.il r.ic, .slice r.ta r.tl r.tc, .slice r.pa r.pl r.pc, .slice r.ha r.hl r.hc]
/-- The value r is the module m. -/
structure ModAt (W : World) (r : Mw) (m : Mdl) : Prop where
  ints : IntsAt W r.ia r.il m.ints
  texts : StrsAt W r.ta r.tl m.texts
  pros : ProsAt W r.pa r.pl m.pros
  tabs : TbsAt W r.ha r.hl m.tabs
  i1 : r.il ≤ r.ic
  i2 : r.ic ≤ maxLen
  t1 : r.tl ≤ r.tc
  t2 : r.tc ≤ maxLen
  p1 : r.pl ≤ r.pc
  p2 : r.pc ≤ maxLen
  h1 : r.hl ≤ r.hc
  h2 : r.hc ≤ maxLen
theorem InsC.bw {W W' : World} (k : BW W W') (b o : Nat) (x : Ins) (hb : b < W.heap.size) (h : InsC W b o x) : InsC W' b o x := ⟨(k.cells b _ hb).trans h.1, (k.cells b _ hb).trans h.2.1, h.2.2⟩
theorem CodeAt.bw {W W' : World} {ao : Option Addr} {ln : Nat} {l : List Ins} (h : CodeAt W ao ln l) (k : BW W W') : CodeAt W' ao ln l := RowAt.bw h k (fun b o x hb hx => hx.bw k b o x hb)
theorem PrV.bw {W W' : World} {x : Pro} {ca : Option Addr} {cl cc : Nat} (h : PrV W x ca cl cc) (k : BW W W') : PrV W' x ca cl cc := ⟨h.1, h.2.1, h.2.2.1, h.2.2.2.1, h.2.2.2.2.1, CodeAt.bw h.2.2.2.2.2 k⟩
theorem PrK.bw {W W' : World} {b o : Nat} {x : Pro} {ca : Option Addr} {cl cc : Nat} (h : PrK W b o x ca cl cc) (k : BW W W') (hb : b < W.heap.size) : PrK W' b o x ca cl cc := ⟨(k.cells b _ hb).trans h.1, (k.cells b _ hb).trans h.2.1, (k.cells b _ hb).trans h.2.2.1, (k.cells b _ hb).trans h.2.2.2⟩
theorem ProsAt.bw {W W' : World} {ao : Option Addr} {ln : Nat} {l : List Pro} (h : ProsAt W ao ln l) (k : BW W W') : ProsAt W' ao ln l :=
  RowAt.bw h k (fun b o x hb ⟨ca, cl, cc, h1, h2⟩ => ⟨ca, cl, cc, h1.bw k hb, h2.bw k⟩)
theorem TbV.bw {W W' : World} {x : Tbl} {oa : Option Addr} {ol oc : Nat} (h : TbV W x oa ol oc) (k : BW W W') : TbV W' x oa ol oc := ⟨h.1, h.2.1, h.2.2.1, h.2.2.2.bw k⟩
theorem TbK.bw {W W' : World} {b o : Nat} {x : Tbl} {oa : Option Addr} {ol oc : Nat} (h : TbK W b o x oa ol oc) (k : BW W W') (hb : b < W.heap.size) : TbK W' b o x oa ol oc := ⟨(k.cells b _ hb).trans h.1, (k.cells b _ hb).trans h.2.1, (k.cells b _ hb).trans h.2.2⟩
theorem TbsAt.bw {W W' : World} {ao : Option Addr} {ln : Nat} {l : List Tbl} (h : TbsAt W ao ln l) (k : BW W W') : TbsAt W' ao ln l :=
  RowAt.bw h k (fun b o x hb ⟨oa, ol, oc, h1, h2⟩ => ⟨oa, ol, oc, h1.bw k hb, h2.bw k⟩)
theorem ModAt.bw {W W' : World} {r : Mw} {m : Mdl} (h : ModAt W r m) (k : BW W W') : ModAt W' r m := ⟨h.ints.bw k, h.texts.bw k, h.pros.bw k, h.tabs.bw k, h.i1, h.i2, h.t1, h.t2, h.p1, h.p2, h.h1, h.h2⟩
theorem cell_new (w : World) (cs : Array Value) (ty : TypeId) (j : Nat) : (w.alloc (.cells cs ty)).cell? ⟨w.heap.size, j, none⟩ = cs[j]? := cell_of_row _ _ j cs ty (0, 0) (heap_alloc_new w _)
/-- A module in a new block. -/
abbrev bxM (w : World) (r : Mw) : World := w.alloc (.cells #[.slice r.ia r.il r.ic, .slice r.ta r.tl r.tc, .slice r.pa r.pl r.pc, .slice r.ha r.hl r.hc] 27)
def MdK (W : World) (b : Nat) (r : Mw) : Prop := W.cell? ⟨b, 0, none⟩ = some (.slice r.ia r.il r.ic) ∧ W.cell? ⟨b, 1, none⟩ = some (.slice r.ta r.tl r.tc) ∧ W.cell? ⟨b, 2, none⟩ = some (.slice r.pa r.pl r.pc) ∧ W.cell? ⟨b, 3, none⟩ = some (.slice r.ha r.hl r.hc)
theorem MdK.bw {W W' : World} {b : Nat} {r : Mw} (h : MdK W b r) (k : BW W W') (hb : b < W.heap.size) : MdK W' b r := ⟨(k.cells b _ hb).trans h.1, (k.cells b _ hb).trans h.2.1, (k.cells b _ hb).trans h.2.2.1, (k.cells b _ hb).trans h.2.2.2⟩
theorem bxM_at {w w' : World} {r : Mw} (h : BW (bxM w r) w') : MdK w' w.heap.size r ∧ w.heap.size < w'.heap.size ∧ BW w w' := by
  have hz := h.size
  have hl : w.heap.size < (bxM w r).heap.size := by simp
  exact ⟨MdK.bw ⟨cell_new _ _ _ 0, cell_new _ _ _ 1, cell_new _ _ _ 2, cell_new _ _ _ 3⟩ h hl, by omega, BW.trans (BW.alloc (BW.refl _) _) h⟩
/-- A function in a new block. -/
abbrev bxP (w : World) (x : Pro) (ca : Option Addr) (cl cc : Nat) : World := w.alloc (.cells #[.int .i64 x.p, .int .i64 x.s, .int .i64 x.u, .slice ca cl cc] 46)
theorem bxP_at {w w' : World} {x : Pro} {ca : Option Addr} {cl cc : Nat} (h : BW (bxP w x ca cl cc) w') : PrK w' w.heap.size 0 x ca cl cc ∧ w.heap.size < w'.heap.size ∧ BW w w' := by
  have hz := h.size
  have hl : w.heap.size < (bxP w x ca cl cc).heap.size := by simp
  exact ⟨PrK.bw ⟨cell_new _ _ _ 0, cell_new _ _ _ 1, cell_new _ _ _ 2, cell_new _ _ _ 3⟩ h hl, by omega, BW.trans (BW.alloc (BW.refl _) _) h⟩
/-- A table in a new block. -/
abbrev bxT (w : World) (x : Tbl) (oa : Option Addr) (ol oc : Nat) : World := w.alloc (.cells #[.slice oa ol oc, .bool x.ret, .bool x.fin] 50)
theorem bxT_at {w w' : World} {x : Tbl} {oa : Option Addr} {ol oc : Nat} (h : BW (bxT w x oa ol oc) w') : TbK w' w.heap.size 0 x oa ol oc ∧ w.heap.size < w'.heap.size ∧ BW w w' := by
  have hz := h.size
  have hl : w.heap.size < (bxT w x oa ol oc).heap.size := by simp
  exact ⟨TbK.bw ⟨cell_new _ _ _ 0, cell_new _ _ _ 1, cell_new _ _ _ 2⟩ h hl, by omega, BW.trans (BW.alloc (BW.refl _) _) h⟩
/-- An instruction in a new block. -/
abbrev bxI (w : World) (x : Ins) : World := w.alloc (.cells #[.int .u8 x.op, .int .i64 x.a] 43)
theorem bxI_at {w w' : World} {x : Ins} (h : BW (bxI w x) w') : (w'.cell? ⟨w.heap.size, 0, none⟩ = some (.int .u8 x.op) ∧ w'.cell? ⟨w.heap.size, 1, none⟩ = some (.int .i64 x.a)) ∧ w.heap.size < w'.heap.size ∧ BW w w' := by
  have hz := h.size
  have hl : w.heap.size < (bxI w x).heap.size := by simp
  exact ⟨⟨(h.cells _ _ hl).trans (cell_new _ _ _ 0), (h.cells _ _ hl).trans (cell_new _ _ _ 1)⟩, by omega, BW.trans (BW.alloc (BW.refl _) _) h⟩
theorem any_snoc {α : Type} (f : α → Bool) {l : List α} {i : Nat} {x : α} (h : l[i]? = some x) : (l.take (i + 1)).any f = ((l.take i).any f || f x) := by
  rw [List.take_add_one, h]; simp
theorem any_hit {α : Type} (f : α → Bool) {l : List α} {i : Nat} {x : α} (h : l[i]? = some x) (hf : f x = true) : l.any f = true := List.any_eq_true.2 ⟨x, List.mem_of_getElem? h, hf⟩
theorem all_snoc {α : Type} (f : α → Bool) {l : List α} {i : Nat} {x : α} (h : l[i]? = some x) : (l.take (i + 1)).all f = ((l.take i).all f && f x) := by
  rw [List.take_add_one, h]; simp
theorem all_miss {α : Type} (f : α → Bool) {l : List α} {i : Nat} {x : α} (h : l[i]? = some x) (hf : f x = false) : l.all f = false := by
  cases hh : l.all f with
  | false => rfl
  | true => rw [List.all_eq_true.1 hh x (List.mem_of_getElem? h)] at hf; cases hf
theorem zip_get {α : Type} {l m : List α} {i : Nat} {x y : α} (h : l[i]? = some x) (h' : m[i]? = some y) : (l.zip m)[i]? = some (x, y) := by simp [List.getElem?_zip_eq_some, h, h']
theorem sum_snoc {l : List Nat} {i : Nat} {x : Nat} (h : l[i]? = some x) : (l.take (i + 1)).sum = (l.take i).sum + x := by
  rw [List.take_add_one, h]; simp
theorem map_get {α β : Type} (f : α → β) {l : List α} {i : Nat} {x : α} (h : l[i]? = some x) : (l.map f)[i]? = some (f x) := by simp [h]
theorem sum_le (c : Nat) : ∀ (l : List Nat), (∀ x ∈ l, x ≤ c) → l.sum ≤ l.length * c := by
  intro l
  induction l with
  | nil => intro h; simp
  | cons a r ih =>
    intro h
    have h1 := h a (by simp)
    have h2 := ih (fun x hx => h x (by simp [hx]))
    simp only [List.sum_cons, List.length_cons, Nat.add_mul, Nat.one_mul]
    omega

end Go.Proofs.YtndhhmgbekcfoaaDoor
