import Derived.Test.YtfgnlddfpemblaaDoorS3u
import Derived.Test.YtfgnlddfpemblaaDoorShelf
import Derived.Lib.AppendIntMem
import Derived.Lib.ItoaLen
namespace Go.Proofs.YtfgnlddfpemblaaDoor
open Go.RowKit
set_option linter.unusedVariables false
set_option linter.unusedSimpArgs false

open Go.Sort Go.Lib in
theorem fmt_int (n : Int) (h0 : -9223372036854775808 ≤ n) (h1 : n ≤ 9223372036854775807) (w : World) (htab : Lib.TabIs Tryd.prog w "internal/strconv.uint64pow10" .u64 Lib.pow10Tab) :
    Calls Tryd.prog 24 #[.int .i64 n, .int .i64 10] w fun e w' => e = .returned (.string ⟨(Lib.itoa n).toArray⟩) ∧ BW w w' := by
  refine (Tryd.strconv_FormatInt_10 n h0 h1 w htab).mono ?_
  rintro e w' ⟨rfl, k, os, rfl⟩
  exact ⟨rfl, below_grow _ w (Nat.le_refl _) k os⟩
theorem tab_g : Tryd.prog.globalNamed "internal/strconv.uint64pow10" = some 0 := by kernel_rfl
/-- The table that strconv reads. -/
def Tab (w : World) : Prop := Lib.TabIs Tryd.prog w "internal/strconv.uint64pow10" .u64 Lib.pow10Tab
theorem Tab.lt {w : World} (h : Tab w) : 0 < w.heap.size := by
  unfold Tab Lib.TabIs World.var? at h
  rw [tab_g] at h
  simp only [Option.bind_some] at h
  rcases Nat.lt_or_ge 0 w.heap.size with h' | h'
  · exact h'
  · rw [Array.getElem?_eq_none h'] at h; cases h
theorem Tab.below {B : Nat} {w w' : World} (h : Tab w) (hB : 0 < B) (hs : 0 < w.heap.size) (k : Below B w w') : Tab w' := by
  unfold Tab Lib.TabIs World.var? at h ⊢
  rw [tab_g] at h ⊢
  simp only [Option.bind_some] at h ⊢
  rw [k.block 0 hB]
  exact h
theorem Tab.bw {w w' : World} (h : Tab w) (k : BW w w') : Tab w' := h.below h.lt h.lt k
theorem Sh.fs {B b : Nat} {w w' : World} (h : BW w w') (hB : B ≤ w.heap.size) : Fs B b w w' := h.fs hB
/-- A value. -/
structure Va where
  t : Int
  n : Int
  s : ByteArray
abbrev Va.v (x : Va) : Value := V x.t x.n x.s
def flat (x : Va) : List UInt8 := if x.t = 0 then [40, 41] else if x.t = 1 then Lib.itoa x.n else if x.t = 2 then Lib.formatBool (x.n != 0) else if x.t = 3 then quo x.s.data.toList else if x.t = 4 then [46, 46] else if x.t = 5 then [35, 99, 101, 108, 108] else if x.t = 6 then [35, 102, 117, 110] else [35, 99, 111, 110, 116]

set_option maxRecDepth 100000 in
set_option maxHeartbeats 1000000 in
theorem value_0 (B b : Nat) (pv : Value) (l : List UInt8) (n : Int) (s : ByteArray) (d : Int) (w : World) (h : Sh B b pv l w) (hlen : l.length + 5000 ≤ 140737488355328) (hBw : B ≤ w.heap.size) :
    Calls Tryd.prog 18 #[.pointer (some ⟨b, 0, none⟩), V 0 n s, .int .i64 d] w fun e w' => e = .returned (.tuple #[]) ∧ ShU B b pv (l ++ [40, 41]) w' ∧ Fs B b w w' := by
  have hlt := h.lt
  go_enter Tryd.func18, Tryd.ntmps18
  go_wp2_with (fail)
  refine (writeString_any B b pv l _ _ (h.bw (by repeat (first | exact BW.refl _ | apply BW.alloc | apply BW.drewN | apply BW.drew))) (by show l.length + 2 ≤ _; omega) (by simp; omega)).mono ?_
  rintro e w1 ⟨rfl, h1, f1⟩
  go_wp2_with (fail)
  go_end0
  exact ⟨rfl, by simpa using h1, (Sh.fs (by repeat (first | exact BW.refl _ | apply BW.alloc | apply BW.drewN | apply BW.drew)) hBw).trans f1⟩

set_option maxRecDepth 100000 in
set_option maxHeartbeats 1000000 in
theorem value_5 (B b : Nat) (pv : Value) (l : List UInt8) (n : Int) (s : ByteArray) (d : Int) (w : World) (h : Sh B b pv l w) (hlen : l.length + 5000 ≤ 140737488355328) (hBw : B ≤ w.heap.size) :
    Calls Tryd.prog 18 #[.pointer (some ⟨b, 0, none⟩), V 5 n s, .int .i64 d] w fun e w' => e = .returned (.tuple #[]) ∧ ShU B b pv (l ++ [35, 99, 101, 108, 108]) w' ∧ Fs B b w w' := by
  have hlt := h.lt
  go_enter Tryd.func18, Tryd.ntmps18
  go_wp2_with (fail)
  refine (writeString_any B b pv l _ _ (h.bw (by repeat (first | exact BW.refl _ | apply BW.alloc | apply BW.drewN | apply BW.drew))) (by show l.length + 5 ≤ _; omega) (by simp; omega)).mono ?_
  rintro e w1 ⟨rfl, h1, f1⟩
  go_wp2_with (fail)
  go_end0
  exact ⟨rfl, by simpa using h1, (Sh.fs (by repeat (first | exact BW.refl _ | apply BW.alloc | apply BW.drewN | apply BW.drew)) hBw).trans f1⟩

set_option maxRecDepth 100000 in
set_option maxHeartbeats 1000000 in
theorem value_6 (B b : Nat) (pv : Value) (l : List UInt8) (n : Int) (s : ByteArray) (d : Int) (w : World) (h : Sh B b pv l w) (hlen : l.length + 5000 ≤ 140737488355328) (hBw : B ≤ w.heap.size) :
    Calls Tryd.prog 18 #[.pointer (some ⟨b, 0, none⟩), V 6 n s, .int .i64 d] w fun e w' => e = .returned (.tuple #[]) ∧ ShU B b pv (l ++ [35, 102, 117, 110]) w' ∧ Fs B b w w' := by
  have hlt := h.lt
  go_enter Tryd.func18, Tryd.ntmps18
  go_wp2_with (fail)
  refine (writeString_any B b pv l _ _ (h.bw (by repeat (first | exact BW.refl _ | apply BW.alloc | apply BW.drewN | apply BW.drew))) (by show l.length + 4 ≤ _; omega) (by simp; omega)).mono ?_
  rintro e w1 ⟨rfl, h1, f1⟩
  go_wp2_with (fail)
  go_end0
  exact ⟨rfl, by simpa using h1, (Sh.fs (by repeat (first | exact BW.refl _ | apply BW.alloc | apply BW.drewN | apply BW.drew)) hBw).trans f1⟩

set_option maxRecDepth 100000 in
set_option maxHeartbeats 1000000 in
theorem value_7 (B b : Nat) (pv : Value) (l : List UInt8) (n : Int) (s : ByteArray) (d : Int) (w : World) (h : Sh B b pv l w) (hlen : l.length + 5000 ≤ 140737488355328) (hBw : B ≤ w.heap.size) :
    Calls Tryd.prog 18 #[.pointer (some ⟨b, 0, none⟩), V 7 n s, .int .i64 d] w fun e w' => e = .returned (.tuple #[]) ∧ ShU B b pv (l ++ [35, 99, 111, 110, 116]) w' ∧ Fs B b w w' := by
  have hlt := h.lt
  go_enter Tryd.func18, Tryd.ntmps18
  go_wp2_with (fail)
  refine (writeString_any B b pv l _ _ (h.bw (by repeat (first | exact BW.refl _ | apply BW.alloc | apply BW.drewN | apply BW.drew))) (by show l.length + 5 ≤ _; omega) (by simp; omega)).mono ?_
  rintro e w1 ⟨rfl, h1, f1⟩
  go_wp2_with (fail)
  go_end0
  exact ⟨rfl, by simpa using h1, (Sh.fs (by repeat (first | exact BW.refl _ | apply BW.alloc | apply BW.drewN | apply BW.drew)) hBw).trans f1⟩

set_option maxRecDepth 100000 in
set_option maxHeartbeats 1000000 in
theorem value_3 (B b : Nat) (pv : Value) (l : List UInt8) (n : Int) (s : ByteArray) (hs : s.size ≤ 1000) (d : Int) (w : World) (h : Sh B b pv l w) (hlen : l.length + 5000 ≤ 140737488355328) (hBw : B ≤ w.heap.size) :
    Calls Tryd.prog 18 #[.pointer (some ⟨b, 0, none⟩), V 3 n s, .int .i64 d] w fun e w' => e = .returned (.tuple #[]) ∧ ShU B b pv (l ++ quo s.data.toList) w' ∧ Fs B b w w' := by
  have hlt := h.lt
  go_enter Tryd.func18, Tryd.ntmps18
  go_wp2_with (fail)
  refine (quoted_any B b pv l s _ (h.bw (by repeat (first | exact BW.refl _ | apply BW.alloc | apply BW.drewN | apply BW.drew))) hs hlen (by simp; omega)).mono ?_
  rintro e w1 ⟨rfl, h1, f1⟩
  go_wp2_with (fail)
  go_end0
  exact ⟨rfl, h1, (Sh.fs (by repeat (first | exact BW.refl _ | apply BW.alloc | apply BW.drewN | apply BW.drew)) hBw).trans f1⟩
set_option maxRecDepth 100000 in
set_option maxHeartbeats 1000000 in
theorem value_1 (B b : Nat) (pv : Value) (l : List UInt8) (n : Int) (h0 : -9223372036854775808 ≤ n) (h1 : n ≤ 9223372036854775807) (s : ByteArray) (d : Int) (w : World) (htab : Tab w) (h : Sh B b pv l w) (hlen : l.length + 5000 ≤ 140737488355328) (hBw : B ≤ w.heap.size) :
    Calls Tryd.prog 18 #[.pointer (some ⟨b, 0, none⟩), V 1 n s, .int .i64 d] w fun e w' => e = .returned (.tuple #[]) ∧ ShU B b pv (l ++ Lib.itoa n) w' ∧ Fs B b w w' := by
  have hlt := h.lt
  have hil : Hid ((Lib.itoa n).length ≤ 21) := Lib.itoa_length_le n h0 h1
  go_enter Tryd.func18, Tryd.ntmps18
  go_wp2_with (fail)
  go_region_with (first | (go_at_call 24; refine (fmt_int n h0 h1 _ (htab.bw (by repeat (first | exact BW.refl _ | apply BW.alloc | apply BW.drewN | apply BW.drew)))).mono ?_; rintro e w1 ⟨rfl, hb1⟩; have hz := hb1.size; (try simp at hz)) | (go_at_call 23; refine (writeString_any B b pv l _ _ ((h.bw (by repeat (first | exact BW.refl _ | apply BW.alloc | apply BW.drewN | apply BW.drew))).bw hb1) (by show l.length + (Lib.itoa n).toArray.size ≤ _; rw [List.size_toArray]; have := hil.out; omega) (by omega)).mono ?_; rintro e w2 ⟨rfl, h2, f2⟩))
  all_goals
    go_wp2_with (fail)
    go_end0
    exact ⟨rfl, by simpa using h2, (Sh.fs (BW.trans (by repeat (first | exact BW.refl _ | apply BW.alloc | apply BW.drewN | apply BW.drew)) hb1) hBw).trans f2⟩
set_option maxRecDepth 100000 in
set_option maxHeartbeats 1000000 in
theorem value_2 (B b : Nat) (pv : Value) (l : List UInt8) (n : Int) (s : ByteArray) (d : Int) (w : World) (h : Sh B b pv l w) (hlen : l.length + 5000 ≤ 140737488355328) (hBw : B ≤ w.heap.size) :
    Calls Tryd.prog 18 #[.pointer (some ⟨b, 0, none⟩), V 2 n s, .int .i64 d] w fun e w' => e = .returned (.tuple #[]) ∧ ShU B b pv (l ++ Lib.formatBool (n != 0)) w' ∧ Fs B b w w' := by
  have hlt := h.lt
  have hil : Hid ((Lib.formatBool (n != 0)).length ≤ 21) := by
    show (Lib.formatBool (n != 0)).length ≤ 21
    cases (n != 0) <;> decide
  go_enter Tryd.func18, Tryd.ntmps18
  go_wp2_with (fail)
  go_region_with (first | (go_at_call 25; refine (Tryd.strconv_FormatBool _ _).mono ?_; rintro e w1 ⟨rfl, rfl⟩) | (go_at_call 23; refine (writeString_any B b pv l _ _ (h.bw (by repeat (first | exact BW.refl _ | apply BW.alloc | apply BW.drewN | apply BW.drew))) (by show l.length + (Lib.formatBool (n != 0)).toArray.size ≤ _; rw [List.size_toArray]; have := hil.out; omega) (by simp; omega)).mono ?_; rintro e w2 ⟨rfl, h2, f2⟩))
  all_goals
    go_wp2_with (fail)
    go_end0
    exact ⟨rfl, by simpa using h2, (Sh.fs (by repeat (first | exact BW.refl _ | apply BW.alloc | apply BW.drewN | apply BW.drew)) hBw).trans f2⟩

end Go.Proofs.YtfgnlddfpemblaaDoor
