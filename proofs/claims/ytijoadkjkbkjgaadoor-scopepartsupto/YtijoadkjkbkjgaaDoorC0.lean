import Derived.Test.YtijoadkjkbkjgaaDoorT1
import Derived.Test.YtijoadkjkbkjgaaDoorB0
import Derived.Maps.Own
namespace Go.Proofs.YtijoadkjkbkjgaaDoor
open Go.RowKit
set_option linter.unusedVariables false
set_option linter.unusedSimpArgs false

/-- A shape. -/
structure Shp where
  head : ByteArray
  n0 : Int
  n1 : Int
  a0 : Int
  a1 : Int
  p0 : Int
  p1 : Int
  f : Nat
abbrev Shp.v (s : Shp) : Value := .agg #[.string s.head, .int .i64 s.n0, .int .i64 s.n1, .int .i64 s.a0, .int .i64 s.a1, .int .i64 s.p0, .int .i64 s.p1, .func (.func s.f) #[] #[]]
/-- The kinds' shapes. -/
def shp : Nat → Option Shp
  | 1 => some ⟨⟨#[]⟩, -9223372036854775808, 9223372036854775807, 0, 0, 0, 0, 30⟩
  | 2 => some ⟨⟨#[]⟩, 0, 1, 0, 0, 0, 0, 30⟩
  | 3 => some ⟨⟨#[]⟩, 0, 0, 0, 0, 0, 0, 31⟩
  | 4 => some ⟨⟨#[]⟩, 0, 0, 0, 0, 0, 0, 30⟩
  | 5 => some ⟨⟨#[]⟩, 0, 0, 0, 0, 0, 0, 35⟩
  | 6 => some ⟨⟨#[102, 117, 110]⟩, 0, 0, 0, 9223372036854775807, 1, 1, 35⟩
  | 7 => some ⟨⟨#[99, 97, 108, 108]⟩, 0, 0, 0, 0, 1, 9223372036854775807, 30⟩
  | 8 => some ⟨⟨#[108, 101, 116]⟩, 0, 0, 0, 0, 2, 2, 35⟩
  | 9 => some ⟨⟨#[105, 102]⟩, 0, 0, 0, 0, 3, 3, 30⟩
  | 10 => some ⟨⟨#[100, 111]⟩, 0, 0, 0, 0, 1, 9223372036854775807, 30⟩
  | 11 => some ⟨⟨#[]⟩, 0, 0, 0, 0, 0, 9223372036854775807, 32⟩
  | 12 => some ⟨⟨#[112, 101, 114, 102, 111, 114, 109]⟩, 0, 0, 0, 0, 1, 1, 35⟩
  | 13 => some ⟨⟨#[104, 97, 110, 100, 108, 101]⟩, 0, 0, 0, 0, 1, 9223372036854775807, 30⟩
  | 14 => some ⟨⟨#[114, 101, 115, 117, 109, 101]⟩, 0, 0, 0, 0, 2, 2, 30⟩
  | 15 => some ⟨⟨#[100, 114, 111, 112]⟩, 0, 0, 0, 0, 2, 2, 30⟩
  | 16 => some ⟨⟨#[119, 105, 110, 100]⟩, 0, 0, 0, 0, 3, 3, 30⟩
  | 17 => some ⟨⟨#[114, 101, 116, 117, 114, 110]⟩, 0, 0, 1, 1, 1, 1, 30⟩
  | 18 => some ⟨⟨#[111, 110]⟩, 0, 0, 2, 2, 1, 1, 35⟩
  | 19 => some ⟨⟨#[102, 105, 110, 97, 108, 108, 121]⟩, 0, 0, 0, 0, 1, 1, 30⟩
  | _ => none
def Rsh (v : Value) : Option (DataW Value × List MemPlace) := some (.held v, [])
def shD : DataW Value := .map ([1, 2, 3, 4, 5, 6, 7, 8, 9, 10, 11, 12, 13, 14, 15, 16, 17, 18, 19].filterMap fun k => (shp k).map fun s => (Lit.int .u8 k, .held s.v))
/-- The map in block b has the kinds' shapes. -/
def ShapesAt (w : World) (b : Nat) : Prop := w.ownsMap Tryd.prog 5 Rsh b 19 shD
theorem owns_bw {H : Type} {w w' : World} {k : TypeId} {R : Value → Option (DataW H × List MemPlace)} {b n : Nat} {D : DataW H} (h : w.ownsMap Tryd.prog k R b n D) (hb : BW w w') : w'.ownsMap Tryd.prog k R b n D := by
  obtain ⟨es, cl, h1, h2⟩ := h
  exact ⟨es, cl, (hb.block b (Array.getElem?_eq_some_iff.1 h1).1).trans h1, h2⟩
set_option maxRecDepth 100000 in
set_option maxHeartbeats 1000000 in
theorem from_any (n : Int) (w : World) : Calls Tryd.prog 34 #[.int .i64 n] w fun e w' => e = .returned (.agg #[.int .i64 n, .int .i64 9223372036854775807]) ∧ BW w w' := by
  go_enter Tryd.func34, Tryd.ntmps34
  go_wp2_with (fail)
  refine bodyPost_ret (v := .agg #[.int .i64 n, .int .i64 9223372036854775807]) (by simp [results, Tryd.results34, go_sem]) rfl ?_
  exact ⟨rfl, (by repeat (first | exact BW.refl _ | assumption | apply BW.alloc | apply BW.drewN | apply BW.drew | (refine BW.setCell ?_ (by first | omega | (simp; done) | (simp; omega)) _) | (refine BW.trans ?_ (by assumption))))⟩
set_option maxRecDepth 100000 in
set_option maxHeartbeats 1000000 in
theorem exactly_any (n : Int) (w : World) : Calls Tryd.prog 36 #[.int .i64 n] w fun e w' => e = .returned (.agg #[.int .i64 n, .int .i64 n]) ∧ BW w w' := by
  go_enter Tryd.func36, Tryd.ntmps36
  go_wp2_with (fail)
  refine bodyPost_ret (v := .agg #[.int .i64 n, .int .i64 n]) (by simp [results, Tryd.results36, go_sem]) rfl ?_
  exact ⟨rfl, (by repeat (first | exact BW.refl _ | assumption | apply BW.alloc | apply BW.drewN | apply BW.drew | (refine BW.setCell ?_ (by first | omega | (simp; done) | (simp; omega)) _) | (refine BW.trans ?_ (by assumption))))⟩
theorem BW.grownBy {w0 w w' : World} {b : Nat} (h : BW w0 w) (hg : w.grownBy w' (some b)) (hb : w0.heap.size ≤ b) : BW w0 w' := Below.grown h hg h.size (fun k hk => by cases hk; exact hb)
set_option maxRecDepth 100000 in
set_option maxHeartbeats 4000000 in
theorem shapes_any (w : World) : Calls Tryd.prog 19 #[] w fun e w' => e = .returned (.map (some w.heap.size)) ∧ ShapesAt w' w.heap.size ∧ BW w w' := by
  have hmm := @run_makeMap Tryd.prog
  have hown := World.ownsMap_made w Tryd.prog 5 Rsh
  have hbw : BW w (w.alloc (.map #[] 0)) := BW.alloc (BW.refl w) _
  generalize hbb : w.heap.size = bb at hown
  have hb0 : w.heap.size ≤ bb := Nat.le_of_eq hbb
  go_enter Tryd.func19, Tryd.ntmps19
  go_wp2_with (first
    | (go_at_call 34; refine (from_any _ _).mono ?_; rintro e w1 ⟨rfl, b1⟩; replace hown := owns_bw hown b1; replace hbw := BW.trans hbw b1; clear b1)
    | (go_at_call 36; refine (exactly_any _ _).mono ?_; rintro e w1 ⟨rfl, b1⟩; replace hown := owns_bw hown b1; replace hbw := BW.trans hbw b1; clear b1))
  obtain ⟨x1, hrun, r1, r2⟩ := hown.update (Go.Maps.int_keyed Tryd.underlying5) Tryd.underlying38 (by decide) (Go.Maps.keyOf_int_mk Tryd.underlying5 (a := 1) (by decide)) (show Rsh (.agg #[.string ⟨#[]⟩, .int .i64 (-9223372036854775808), .int .i64 9223372036854775807, .int .i64 0, .int .i64 0, .int .i64 0, .int .i64 0, .func (.func 30) #[] #[]]) = some _ from rfl)
  rw [hrun]
  clear hrun
  simp only [Result.andThen]
  first | rw [Oper.upon_skip] | rw [Oper.upon_value] | skip
  replace hbw := BW.grownBy hbw r2 hb0
  replace hown := r1
  clear r1 r2
  go_wp2_with (first
    | (go_at_call 34; refine (from_any _ _).mono ?_; rintro e w1 ⟨rfl, b1⟩; replace hown := owns_bw hown b1; replace hbw := BW.trans hbw b1; clear b1)
    | (go_at_call 36; refine (exactly_any _ _).mono ?_; rintro e w1 ⟨rfl, b1⟩; replace hown := owns_bw hown b1; replace hbw := BW.trans hbw b1; clear b1))
  obtain ⟨x2, hrun, r1, r2⟩ := hown.update (Go.Maps.int_keyed Tryd.underlying5) Tryd.underlying38 (by decide) (Go.Maps.keyOf_int_mk Tryd.underlying5 (a := 2) (by decide)) (show Rsh (.agg #[.string ⟨#[]⟩, .int .i64 (0), .int .i64 1, .int .i64 0, .int .i64 0, .int .i64 0, .int .i64 0, .func (.func 30) #[] #[]]) = some _ from rfl)
  rw [hrun]
  clear hrun
  simp only [Result.andThen]
  first | rw [Oper.upon_skip] | rw [Oper.upon_value] | skip
  replace hbw := BW.grownBy hbw r2 hb0
  replace hown := r1
  clear r1 r2
  go_wp2_with (first
    | (go_at_call 34; refine (from_any _ _).mono ?_; rintro e w1 ⟨rfl, b1⟩; replace hown := owns_bw hown b1; replace hbw := BW.trans hbw b1; clear b1)
    | (go_at_call 36; refine (exactly_any _ _).mono ?_; rintro e w1 ⟨rfl, b1⟩; replace hown := owns_bw hown b1; replace hbw := BW.trans hbw b1; clear b1))
  obtain ⟨x3, hrun, r1, r2⟩ := hown.update (Go.Maps.int_keyed Tryd.underlying5) Tryd.underlying38 (by decide) (Go.Maps.keyOf_int_mk Tryd.underlying5 (a := 3) (by decide)) (show Rsh (.agg #[.string ⟨#[]⟩, .int .i64 (0), .int .i64 0, .int .i64 0, .int .i64 0, .int .i64 0, .int .i64 0, .func (.func 31) #[] #[]]) = some _ from rfl)
  rw [hrun]
  clear hrun
  simp only [Result.andThen]
  first | rw [Oper.upon_skip] | rw [Oper.upon_value] | skip
  replace hbw := BW.grownBy hbw r2 hb0
  replace hown := r1
  clear r1 r2
  go_wp2_with (first
    | (go_at_call 34; refine (from_any _ _).mono ?_; rintro e w1 ⟨rfl, b1⟩; replace hown := owns_bw hown b1; replace hbw := BW.trans hbw b1; clear b1)
    | (go_at_call 36; refine (exactly_any _ _).mono ?_; rintro e w1 ⟨rfl, b1⟩; replace hown := owns_bw hown b1; replace hbw := BW.trans hbw b1; clear b1))
  obtain ⟨x4, hrun, r1, r2⟩ := hown.update (Go.Maps.int_keyed Tryd.underlying5) Tryd.underlying38 (by decide) (Go.Maps.keyOf_int_mk Tryd.underlying5 (a := 4) (by decide)) (show Rsh (.agg #[.string ⟨#[]⟩, .int .i64 (0), .int .i64 0, .int .i64 0, .int .i64 0, .int .i64 0, .int .i64 0, .func (.func 30) #[] #[]]) = some _ from rfl)
  rw [hrun]
  clear hrun
  simp only [Result.andThen]
  first | rw [Oper.upon_skip] | rw [Oper.upon_value] | skip
  replace hbw := BW.grownBy hbw r2 hb0
  replace hown := r1
  clear r1 r2
  go_wp2_with (first
    | (go_at_call 34; refine (from_any _ _).mono ?_; rintro e w1 ⟨rfl, b1⟩; replace hown := owns_bw hown b1; replace hbw := BW.trans hbw b1; clear b1)
    | (go_at_call 36; refine (exactly_any _ _).mono ?_; rintro e w1 ⟨rfl, b1⟩; replace hown := owns_bw hown b1; replace hbw := BW.trans hbw b1; clear b1))
  obtain ⟨x5, hrun, r1, r2⟩ := hown.update (Go.Maps.int_keyed Tryd.underlying5) Tryd.underlying38 (by decide) (Go.Maps.keyOf_int_mk Tryd.underlying5 (a := 5) (by decide)) (show Rsh (.agg #[.string ⟨#[]⟩, .int .i64 (0), .int .i64 0, .int .i64 0, .int .i64 0, .int .i64 0, .int .i64 0, .func (.func 35) #[] #[]]) = some _ from rfl)
  rw [hrun]
  clear hrun
  simp only [Result.andThen]
  first | rw [Oper.upon_skip] | rw [Oper.upon_value] | skip
  replace hbw := BW.grownBy hbw r2 hb0
  replace hown := r1
  clear r1 r2
  go_wp2_with (first
    | (go_at_call 34; refine (from_any _ _).mono ?_; rintro e w1 ⟨rfl, b1⟩; replace hown := owns_bw hown b1; replace hbw := BW.trans hbw b1; clear b1)
    | (go_at_call 36; refine (exactly_any _ _).mono ?_; rintro e w1 ⟨rfl, b1⟩; replace hown := owns_bw hown b1; replace hbw := BW.trans hbw b1; clear b1))
  obtain ⟨x6, hrun, r1, r2⟩ := hown.update (Go.Maps.int_keyed Tryd.underlying5) Tryd.underlying38 (by decide) (Go.Maps.keyOf_int_mk Tryd.underlying5 (a := 6) (by decide)) (show Rsh (.agg #[.string ⟨#[102, 117, 110]⟩, .int .i64 (0), .int .i64 0, .int .i64 0, .int .i64 9223372036854775807, .int .i64 1, .int .i64 1, .func (.func 35) #[] #[]]) = some _ from rfl)
  rw [hrun]
  clear hrun
  simp only [Result.andThen]
  first | rw [Oper.upon_skip] | rw [Oper.upon_value] | skip
  replace hbw := BW.grownBy hbw r2 hb0
  replace hown := r1
  clear r1 r2
  go_wp2_with (first
    | (go_at_call 34; refine (from_any _ _).mono ?_; rintro e w1 ⟨rfl, b1⟩; replace hown := owns_bw hown b1; replace hbw := BW.trans hbw b1; clear b1)
    | (go_at_call 36; refine (exactly_any _ _).mono ?_; rintro e w1 ⟨rfl, b1⟩; replace hown := owns_bw hown b1; replace hbw := BW.trans hbw b1; clear b1))
  obtain ⟨x7, hrun, r1, r2⟩ := hown.update (Go.Maps.int_keyed Tryd.underlying5) Tryd.underlying38 (by decide) (Go.Maps.keyOf_int_mk Tryd.underlying5 (a := 7) (by decide)) (show Rsh (.agg #[.string ⟨#[99, 97, 108, 108]⟩, .int .i64 (0), .int .i64 0, .int .i64 0, .int .i64 0, .int .i64 1, .int .i64 9223372036854775807, .func (.func 30) #[] #[]]) = some _ from rfl)
  rw [hrun]
  clear hrun
  simp only [Result.andThen]
  first | rw [Oper.upon_skip] | rw [Oper.upon_value] | skip
  replace hbw := BW.grownBy hbw r2 hb0
  replace hown := r1
  clear r1 r2
  go_wp2_with (first
    | (go_at_call 34; refine (from_any _ _).mono ?_; rintro e w1 ⟨rfl, b1⟩; replace hown := owns_bw hown b1; replace hbw := BW.trans hbw b1; clear b1)
    | (go_at_call 36; refine (exactly_any _ _).mono ?_; rintro e w1 ⟨rfl, b1⟩; replace hown := owns_bw hown b1; replace hbw := BW.trans hbw b1; clear b1))
  obtain ⟨x8, hrun, r1, r2⟩ := hown.update (Go.Maps.int_keyed Tryd.underlying5) Tryd.underlying38 (by decide) (Go.Maps.keyOf_int_mk Tryd.underlying5 (a := 8) (by decide)) (show Rsh (.agg #[.string ⟨#[108, 101, 116]⟩, .int .i64 (0), .int .i64 0, .int .i64 0, .int .i64 0, .int .i64 2, .int .i64 2, .func (.func 35) #[] #[]]) = some _ from rfl)
  rw [hrun]
  clear hrun
  simp only [Result.andThen]
  first | rw [Oper.upon_skip] | rw [Oper.upon_value] | skip
  replace hbw := BW.grownBy hbw r2 hb0
  replace hown := r1
  clear r1 r2
  go_wp2_with (first
    | (go_at_call 34; refine (from_any _ _).mono ?_; rintro e w1 ⟨rfl, b1⟩; replace hown := owns_bw hown b1; replace hbw := BW.trans hbw b1; clear b1)
    | (go_at_call 36; refine (exactly_any _ _).mono ?_; rintro e w1 ⟨rfl, b1⟩; replace hown := owns_bw hown b1; replace hbw := BW.trans hbw b1; clear b1))
  obtain ⟨x9, hrun, r1, r2⟩ := hown.update (Go.Maps.int_keyed Tryd.underlying5) Tryd.underlying38 (by decide) (Go.Maps.keyOf_int_mk Tryd.underlying5 (a := 9) (by decide)) (show Rsh (.agg #[.string ⟨#[105, 102]⟩, .int .i64 (0), .int .i64 0, .int .i64 0, .int .i64 0, .int .i64 3, .int .i64 3, .func (.func 30) #[] #[]]) = some _ from rfl)
  rw [hrun]
  clear hrun
  simp only [Result.andThen]
  first | rw [Oper.upon_skip] | rw [Oper.upon_value] | skip
  replace hbw := BW.grownBy hbw r2 hb0
  replace hown := r1
  clear r1 r2
  go_wp2_with (first
    | (go_at_call 34; refine (from_any _ _).mono ?_; rintro e w1 ⟨rfl, b1⟩; replace hown := owns_bw hown b1; replace hbw := BW.trans hbw b1; clear b1)
    | (go_at_call 36; refine (exactly_any _ _).mono ?_; rintro e w1 ⟨rfl, b1⟩; replace hown := owns_bw hown b1; replace hbw := BW.trans hbw b1; clear b1))
  obtain ⟨x10, hrun, r1, r2⟩ := hown.update (Go.Maps.int_keyed Tryd.underlying5) Tryd.underlying38 (by decide) (Go.Maps.keyOf_int_mk Tryd.underlying5 (a := 10) (by decide)) (show Rsh (.agg #[.string ⟨#[100, 111]⟩, .int .i64 (0), .int .i64 0, .int .i64 0, .int .i64 0, .int .i64 1, .int .i64 9223372036854775807, .func (.func 30) #[] #[]]) = some _ from rfl)
  rw [hrun]
  clear hrun
  simp only [Result.andThen]
  first | rw [Oper.upon_skip] | rw [Oper.upon_value] | skip
  replace hbw := BW.grownBy hbw r2 hb0
  replace hown := r1
  clear r1 r2
  go_wp2_with (first
    | (go_at_call 34; refine (from_any _ _).mono ?_; rintro e w1 ⟨rfl, b1⟩; replace hown := owns_bw hown b1; replace hbw := BW.trans hbw b1; clear b1)
    | (go_at_call 36; refine (exactly_any _ _).mono ?_; rintro e w1 ⟨rfl, b1⟩; replace hown := owns_bw hown b1; replace hbw := BW.trans hbw b1; clear b1))
  obtain ⟨x11, hrun, r1, r2⟩ := hown.update (Go.Maps.int_keyed Tryd.underlying5) Tryd.underlying38 (by decide) (Go.Maps.keyOf_int_mk Tryd.underlying5 (a := 11) (by decide)) (show Rsh (.agg #[.string ⟨#[]⟩, .int .i64 (0), .int .i64 0, .int .i64 0, .int .i64 0, .int .i64 0, .int .i64 9223372036854775807, .func (.func 32) #[] #[]]) = some _ from rfl)
  rw [hrun]
  clear hrun
  simp only [Result.andThen]
  first | rw [Oper.upon_skip] | rw [Oper.upon_value] | skip
  replace hbw := BW.grownBy hbw r2 hb0
  replace hown := r1
  clear r1 r2
  go_wp2_with (first
    | (go_at_call 34; refine (from_any _ _).mono ?_; rintro e w1 ⟨rfl, b1⟩; replace hown := owns_bw hown b1; replace hbw := BW.trans hbw b1; clear b1)
    | (go_at_call 36; refine (exactly_any _ _).mono ?_; rintro e w1 ⟨rfl, b1⟩; replace hown := owns_bw hown b1; replace hbw := BW.trans hbw b1; clear b1))
  obtain ⟨x12, hrun, r1, r2⟩ := hown.update (Go.Maps.int_keyed Tryd.underlying5) Tryd.underlying38 (by decide) (Go.Maps.keyOf_int_mk Tryd.underlying5 (a := 12) (by decide)) (show Rsh (.agg #[.string ⟨#[112, 101, 114, 102, 111, 114, 109]⟩, .int .i64 (0), .int .i64 0, .int .i64 0, .int .i64 0, .int .i64 1, .int .i64 1, .func (.func 35) #[] #[]]) = some _ from rfl)
  rw [hrun]
  clear hrun
  simp only [Result.andThen]
  first | rw [Oper.upon_skip] | rw [Oper.upon_value] | skip
  replace hbw := BW.grownBy hbw r2 hb0
  replace hown := r1
  clear r1 r2
  go_wp2_with (first
    | (go_at_call 34; refine (from_any _ _).mono ?_; rintro e w1 ⟨rfl, b1⟩; replace hown := owns_bw hown b1; replace hbw := BW.trans hbw b1; clear b1)
    | (go_at_call 36; refine (exactly_any _ _).mono ?_; rintro e w1 ⟨rfl, b1⟩; replace hown := owns_bw hown b1; replace hbw := BW.trans hbw b1; clear b1))
  obtain ⟨x13, hrun, r1, r2⟩ := hown.update (Go.Maps.int_keyed Tryd.underlying5) Tryd.underlying38 (by decide) (Go.Maps.keyOf_int_mk Tryd.underlying5 (a := 13) (by decide)) (show Rsh (.agg #[.string ⟨#[104, 97, 110, 100, 108, 101]⟩, .int .i64 (0), .int .i64 0, .int .i64 0, .int .i64 0, .int .i64 1, .int .i64 9223372036854775807, .func (.func 30) #[] #[]]) = some _ from rfl)
  rw [hrun]
  clear hrun
  simp only [Result.andThen]
  first | rw [Oper.upon_skip] | rw [Oper.upon_value] | skip
  replace hbw := BW.grownBy hbw r2 hb0
  replace hown := r1
  clear r1 r2
  go_wp2_with (first
    | (go_at_call 34; refine (from_any _ _).mono ?_; rintro e w1 ⟨rfl, b1⟩; replace hown := owns_bw hown b1; replace hbw := BW.trans hbw b1; clear b1)
    | (go_at_call 36; refine (exactly_any _ _).mono ?_; rintro e w1 ⟨rfl, b1⟩; replace hown := owns_bw hown b1; replace hbw := BW.trans hbw b1; clear b1))
  obtain ⟨x14, hrun, r1, r2⟩ := hown.update (Go.Maps.int_keyed Tryd.underlying5) Tryd.underlying38 (by decide) (Go.Maps.keyOf_int_mk Tryd.underlying5 (a := 14) (by decide)) (show Rsh (.agg #[.string ⟨#[114, 101, 115, 117, 109, 101]⟩, .int .i64 (0), .int .i64 0, .int .i64 0, .int .i64 0, .int .i64 2, .int .i64 2, .func (.func 30) #[] #[]]) = some _ from rfl)
  rw [hrun]
  clear hrun
  simp only [Result.andThen]
  first | rw [Oper.upon_skip] | rw [Oper.upon_value] | skip
  replace hbw := BW.grownBy hbw r2 hb0
  replace hown := r1
  clear r1 r2
  go_wp2_with (first
    | (go_at_call 34; refine (from_any _ _).mono ?_; rintro e w1 ⟨rfl, b1⟩; replace hown := owns_bw hown b1; replace hbw := BW.trans hbw b1; clear b1)
    | (go_at_call 36; refine (exactly_any _ _).mono ?_; rintro e w1 ⟨rfl, b1⟩; replace hown := owns_bw hown b1; replace hbw := BW.trans hbw b1; clear b1))
  obtain ⟨x15, hrun, r1, r2⟩ := hown.update (Go.Maps.int_keyed Tryd.underlying5) Tryd.underlying38 (by decide) (Go.Maps.keyOf_int_mk Tryd.underlying5 (a := 15) (by decide)) (show Rsh (.agg #[.string ⟨#[100, 114, 111, 112]⟩, .int .i64 (0), .int .i64 0, .int .i64 0, .int .i64 0, .int .i64 2, .int .i64 2, .func (.func 30) #[] #[]]) = some _ from rfl)
  rw [hrun]
  clear hrun
  simp only [Result.andThen]
  first | rw [Oper.upon_skip] | rw [Oper.upon_value] | skip
  replace hbw := BW.grownBy hbw r2 hb0
  replace hown := r1
  clear r1 r2
  go_wp2_with (first
    | (go_at_call 34; refine (from_any _ _).mono ?_; rintro e w1 ⟨rfl, b1⟩; replace hown := owns_bw hown b1; replace hbw := BW.trans hbw b1; clear b1)
    | (go_at_call 36; refine (exactly_any _ _).mono ?_; rintro e w1 ⟨rfl, b1⟩; replace hown := owns_bw hown b1; replace hbw := BW.trans hbw b1; clear b1))
  obtain ⟨x16, hrun, r1, r2⟩ := hown.update (Go.Maps.int_keyed Tryd.underlying5) Tryd.underlying38 (by decide) (Go.Maps.keyOf_int_mk Tryd.underlying5 (a := 16) (by decide)) (show Rsh (.agg #[.string ⟨#[119, 105, 110, 100]⟩, .int .i64 (0), .int .i64 0, .int .i64 0, .int .i64 0, .int .i64 3, .int .i64 3, .func (.func 30) #[] #[]]) = some _ from rfl)
  rw [hrun]
  clear hrun
  simp only [Result.andThen]
  first | rw [Oper.upon_skip] | rw [Oper.upon_value] | skip
  replace hbw := BW.grownBy hbw r2 hb0
  replace hown := r1
  clear r1 r2
  go_wp2_with (first
    | (go_at_call 34; refine (from_any _ _).mono ?_; rintro e w1 ⟨rfl, b1⟩; replace hown := owns_bw hown b1; replace hbw := BW.trans hbw b1; clear b1)
    | (go_at_call 36; refine (exactly_any _ _).mono ?_; rintro e w1 ⟨rfl, b1⟩; replace hown := owns_bw hown b1; replace hbw := BW.trans hbw b1; clear b1))
  obtain ⟨x17, hrun, r1, r2⟩ := hown.update (Go.Maps.int_keyed Tryd.underlying5) Tryd.underlying38 (by decide) (Go.Maps.keyOf_int_mk Tryd.underlying5 (a := 17) (by decide)) (show Rsh (.agg #[.string ⟨#[114, 101, 116, 117, 114, 110]⟩, .int .i64 (0), .int .i64 0, .int .i64 1, .int .i64 1, .int .i64 1, .int .i64 1, .func (.func 30) #[] #[]]) = some _ from rfl)
  rw [hrun]
  clear hrun
  simp only [Result.andThen]
  first | rw [Oper.upon_skip] | rw [Oper.upon_value] | skip
  replace hbw := BW.grownBy hbw r2 hb0
  replace hown := r1
  clear r1 r2
  go_wp2_with (first
    | (go_at_call 34; refine (from_any _ _).mono ?_; rintro e w1 ⟨rfl, b1⟩; replace hown := owns_bw hown b1; replace hbw := BW.trans hbw b1; clear b1)
    | (go_at_call 36; refine (exactly_any _ _).mono ?_; rintro e w1 ⟨rfl, b1⟩; replace hown := owns_bw hown b1; replace hbw := BW.trans hbw b1; clear b1))
  obtain ⟨x18, hrun, r1, r2⟩ := hown.update (Go.Maps.int_keyed Tryd.underlying5) Tryd.underlying38 (by decide) (Go.Maps.keyOf_int_mk Tryd.underlying5 (a := 18) (by decide)) (show Rsh (.agg #[.string ⟨#[111, 110]⟩, .int .i64 (0), .int .i64 0, .int .i64 2, .int .i64 2, .int .i64 1, .int .i64 1, .func (.func 35) #[] #[]]) = some _ from rfl)
  rw [hrun]
  clear hrun
  simp only [Result.andThen]
  first | rw [Oper.upon_skip] | rw [Oper.upon_value] | skip
  replace hbw := BW.grownBy hbw r2 hb0
  replace hown := r1
  clear r1 r2
  go_wp2_with (first
    | (go_at_call 34; refine (from_any _ _).mono ?_; rintro e w1 ⟨rfl, b1⟩; replace hown := owns_bw hown b1; replace hbw := BW.trans hbw b1; clear b1)
    | (go_at_call 36; refine (exactly_any _ _).mono ?_; rintro e w1 ⟨rfl, b1⟩; replace hown := owns_bw hown b1; replace hbw := BW.trans hbw b1; clear b1))
  obtain ⟨x19, hrun, r1, r2⟩ := hown.update (Go.Maps.int_keyed Tryd.underlying5) Tryd.underlying38 (by decide) (Go.Maps.keyOf_int_mk Tryd.underlying5 (a := 19) (by decide)) (show Rsh (.agg #[.string ⟨#[102, 105, 110, 97, 108, 108, 121]⟩, .int .i64 (0), .int .i64 0, .int .i64 0, .int .i64 0, .int .i64 1, .int .i64 1, .func (.func 30) #[] #[]]) = some _ from rfl)
  rw [hrun]
  clear hrun
  simp only [Result.andThen]
  first | rw [Oper.upon_skip] | rw [Oper.upon_value] | skip
  replace hbw := BW.grownBy hbw r2 hb0
  replace hown := r1
  clear r1 r2
  go_wp2
  go_ret
  obtain ⟨es, cl, h1, h2, h3, h4⟩ := hown
  refine ⟨rfl, ⟨es, cl, h1, h2, h3, ?_⟩, hbw⟩
  rw [← h4]
  kernel_rfl
theorem zero64 (w : World) : (zeroValue 56).run Tryd.prog w = .ok (.agg #[.string ⟨#[]⟩, .int .i64 0, .int .i64 0, .int .i64 0, .int .i64 0, .int .i64 0, .int .i64 0, .nilFunc]) w := by kernel_rfl
theorem shD_at : ∀ k : Nat, shD.atKey (.int .u8 k) .nil = match shp k with | some s => .held s.v | none => .nil
  | 0 => by kernel_rfl
  | 1 => by kernel_rfl
  | 2 => by kernel_rfl
  | 3 => by kernel_rfl
  | 4 => by kernel_rfl
  | 5 => by kernel_rfl
  | 6 => by kernel_rfl
  | 7 => by kernel_rfl
  | 8 => by kernel_rfl
  | 9 => by kernel_rfl
  | 10 => by kernel_rfl
  | 11 => by kernel_rfl
  | 12 => by kernel_rfl
  | 13 => by kernel_rfl
  | 14 => by kernel_rfl
  | 15 => by kernel_rfl
  | 16 => by kernel_rfl
  | 17 => by kernel_rfl
  | 18 => by kernel_rfl
  | 19 => by kernel_rfl
  | n + 20 => by
    have e : shp (n + 20) = none := rfl
    rw [e]
    unfold shD DataW.atKey
    have : ∀ m : Nat, m < 20 → (Lit.int .u8 (m : Int)).sameKey (.int .u8 ((n + 20 : Nat) : Int)) = false := by
      intro m hm; simp [Lit.sameKey]; omega
    simp only
    rw [List.find?_eq_none.2]
    intro x hx
    simp only [List.mem_filterMap, Option.map_eq_some_iff] at hx
    obtain ⟨m, hm, s, hs, rfl⟩ := hx
    have hm20 : m < 20 := by simp at hm; omega
    intro hh
    exact absurd (hh.symm.trans (this m hm20)) (by decide)
theorem look_ok {w : World} {b : Nat} (h : ShapesAt w b) (k : Nat) (hk : k ≤ 255) : (Instr.lookup 38 (.map (some b)) (.int .u8 k) true).run Tryd.prog w = .ok (.tuple #[match shp k with | some s => s.v | none => .agg #[.string ⟨#[]⟩, .int .i64 0, .int .i64 0, .int .i64 0, .int .i64 0, .int .i64 0, .int .i64 0, .nilFunc], .bool (shp k).isSome]) w := by
  obtain ⟨es, cl, hb, F, _, hD⟩ := h
  have hat := shD_at k
  rw [hD] at hat
  have hkey : keyOf Tryd.prog 5 (.int .u8 k) = some (.int .u8 k) := Go.Maps.keyOf_int_mk Tryd.underlying5 (by simp only [Lit.wf, show IntKind.u8.min = 0 from rfl, show IntKind.u8.max = 255 from rfl, Bool.and_eq_true, decide_eq_true_eq]; omega)
  rcases Go.Maps.fit_look true (Go.Maps.int_keyed Tryd.underlying5) Tryd.underlying38 (zero64 w) hb F hkey with ⟨hrun, _, ha⟩ | ⟨e0, y, _, _, hrun, hR, ha, _⟩
  · rw [ha .nil] at hat
    cases hs : shp k with
    | none => simpa using hrun
    | some s => rw [hs] at hat; cases hat
  · rw [ha .nil] at hat
    cases hs : shp k with
    | none =>
      rw [hs] at hat
      simp only [Rsh, Option.some.injEq] at hR
      subst hR
      cases hat
    | some s =>
      rw [hs] at hat
      simp only [Rsh, Option.some.injEq] at hR
      subst hR
      have h3 : e0.val = s.v := DataW.held.inj hat
      show _ = Result.ok (Value.tuple #[s.v, .bool true]) w
      rw [← h3]
      simpa using hrun

end Go.Proofs.YtijoadkjkbkjgaaDoor
