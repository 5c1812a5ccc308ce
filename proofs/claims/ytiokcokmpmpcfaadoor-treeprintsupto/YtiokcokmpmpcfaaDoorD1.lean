import Derived.Test.YtiokcokmpmpcfaaDoorD0
import Derived.Lib.AppendIntMem
import Derived.Lib.ItoaLen
namespace Go.Proofs.YtiokcokmpmpcfaaDoor
open Go.RowKit
set_option linter.unusedVariables false
set_option linter.unusedSimpArgs false

open Go.Sort Go.Lib in
theorem fmt_int (n : Int) (h0 : -9223372036854775808 ≤ n) (h1 : n ≤ 9223372036854775807) (w : World) (htab : Lib.TabIs Tryd.prog w "internal/strconv.uint64pow10" .u64 Lib.pow10Tab) :
    Calls Tryd.prog 41 #[.int .i64 n, .int .i64 10] w fun e w' => e = .returned (.string ⟨(Lib.itoa n).toArray⟩) ∧ BW w w' := by
  refine (Tryd.strconv_FormatInt_10 n h0 h1 w htab).mono ?_
  rintro e w' ⟨rfl, k, os, rfl⟩
  exact ⟨rfl, below_grow _ w (Nat.le_refl _) k os⟩
theorem tab_g : Tryd.prog.globalNamed "internal/strconv.uint64pow10" = some 1 := by kernel_rfl
/-- The table that strconv reads. -/
def Tab (w : World) : Prop := Lib.TabIs Tryd.prog w "internal/strconv.uint64pow10" .u64 Lib.pow10Tab
theorem Tab.lt {w : World} (h : Tab w) : 1 < w.heap.size := by
  unfold Tab Lib.TabIs World.var? at h
  rw [tab_g] at h
  simp only [Option.bind_some] at h
  rcases Nat.lt_or_ge 1 w.heap.size with h' | h'
  · exact h'
  · rw [Array.getElem?_eq_none h'] at h; cases h
theorem Tab.bw {w w' : World} (h : Tab w) (k : BW w w') : Tab w' := by
  have hl := h.lt
  unfold Tab Lib.TabIs World.var? at h ⊢
  rw [tab_g] at h ⊢
  simp only [Option.bind_some] at h ⊢
  rw [k.block 1 hl]
  exact h
set_option maxRecDepth 100000 in
set_option maxHeartbeats 1000000 in
theorem node_1 (B b mb : Nat) (l : List UInt8) (tn : Int) (ts : ByteArray) (na : Option Addr) (nl nc : Nat) (ka : Option Addr) (kl kc : Nat) (w : World) (h : Sh B b 45 [.map (some mb)] l w) (hBw : B ≤ w.heap.size) (htab : Tab w) (h0 : -9223372036854775808 ≤ tn) (h1 : tn ≤ 9223372036854775807) (hlen : l.length + 100 ≤ 140737488355328) :
    Calls Tryd.prog 21 #[.pointer (some ⟨b, 0, none⟩), ndv 1 tn ts na nl nc ka kl kc] w fun e w' => e = .returned (.tuple #[]) ∧ ShU B b 45 [.map (some mb)] (l ++ Lib.itoa tn) w' ∧ Fs B b w w' := by
  have hlt := h.lt
  have hil : Hid ((Lib.itoa tn).length ≤ 21) := Lib.itoa_length_le tn h0 h1
  go_enter Tryd.func21, Tryd.ntmps21
  go_wp2_with (fail)
  go_region_with (first | (go_at_call 41; refine (fmt_int tn h0 h1 _ (htab.bw (by repeat (first | exact BW.refl _ | apply BW.alloc | apply BW.drewN | apply BW.drew)))).mono ?_; rintro e w1 ⟨rfl, hb1⟩; have hz := hb1.size; (try simp at hz)) | (go_at_call 40; refine (writeString_any B b 45 [.map (some mb)] (hm45 _) l _ _ ((h.bw (by repeat (first | exact BW.refl _ | apply BW.alloc | apply BW.drewN | apply BW.drew))).bw hb1) (by show l.length + (Lib.itoa tn).toArray.size ≤ _; rw [List.size_toArray]; have := hil.out; omega) (by omega)).mono ?_; rintro e w2 ⟨rfl, h2, f2⟩))
  all_goals
    go_wp2_with (fail)
    go_end0
    exact ⟨rfl, by simpa using h2, (BW.fs (BW.trans (by repeat (first | exact BW.refl _ | apply BW.alloc | apply BW.drewN | apply BW.drew)) hb1) hBw).trans f2⟩
set_option maxRecDepth 100000 in
set_option maxHeartbeats 1000000 in
theorem node_2 (B b mb : Nat) (l : List UInt8) (tn : Int) (ts : ByteArray) (na : Option Addr) (nl nc : Nat) (ka : Option Addr) (kl kc : Nat) (w : World) (h : Sh B b 45 [.map (some mb)] l w) (hBw : B ≤ w.heap.size) (hlen : l.length + 100 ≤ 140737488355328) :
    Calls Tryd.prog 21 #[.pointer (some ⟨b, 0, none⟩), ndv 2 tn ts na nl nc ka kl kc] w fun e w' => e = .returned (.tuple #[]) ∧ ShU B b 45 [.map (some mb)] (l ++ Lib.formatBool (tn == 1)) w' ∧ Fs B b w w' := by
  have hlt := h.lt
  have hil : Hid ((Lib.formatBool (tn == 1)).length ≤ 21) := by show (Lib.formatBool (tn == 1)).length ≤ 21; cases (tn == 1) <;> decide
  go_enter Tryd.func21, Tryd.ntmps21
  go_wp2_with (fail)
  go_region_with (first | (go_at_call 42; refine (Tryd.strconv_FormatBool _ _).mono ?_; rintro e w1 ⟨rfl, rfl⟩) | (go_at_call 40; refine (writeString_any B b 45 [.map (some mb)] (hm45 _) l _ _ (h.bw (by repeat (first | exact BW.refl _ | apply BW.alloc | apply BW.drewN | apply BW.drew))) (by show l.length + (Lib.formatBool (tn == 1)).toArray.size ≤ _; rw [List.size_toArray]; have := hil.out; omega) (by show B ≤ _; simp; omega)).mono ?_; rintro e w2 ⟨rfl, h2, f2⟩))
  all_goals
    go_wp2_with (fail)
    go_end0
    exact ⟨rfl, by simpa using h2, (BW.fs (by repeat (first | exact BW.refl _ | apply BW.alloc | apply BW.drewN | apply BW.drew)) hBw).trans f2⟩
set_option maxRecDepth 100000 in
set_option maxHeartbeats 1000000 in
theorem node_3 (B b mb : Nat) (l : List UInt8) (tn : Int) (ts : ByteArray) (na : Option Addr) (nl nc : Nat) (ka : Option Addr) (kl kc : Nat) (w : World) (h : Sh B b 45 [.map (some mb)] l w) (hBw : B ≤ w.heap.size) (hs : ts.size ≤ 70000) (hlen : l.length + 300000 ≤ 140737488355328) :
    Calls Tryd.prog 21 #[.pointer (some ⟨b, 0, none⟩), ndv 3 tn ts na nl nc ka kl kc] w fun e w' => e = .returned (.tuple #[]) ∧ ShU B b 45 [.map (some mb)] (l ++ quo ts.data.toList) w' ∧ Fs B b w w' := by
  have hlt := h.lt
  have hil : Hid ((quo ts.data.toList).length ≤ 290000) := by have := quo_len ts.data.toList; have e : ts.data.toList.length = ts.size := by simp
                                                              show _ ≤ _; omega
  go_enter Tryd.func21, Tryd.ntmps21
  go_wp2_with (fail)
  go_region_with (first | (go_at_call 43; refine (quote_any ts hs _).mono ?_; rintro e w1 ⟨rfl, hb1⟩; have hz := hb1.size; (try simp at hz)) | (go_at_call 40; refine (writeString_any B b 45 [.map (some mb)] (hm45 _) l _ _ ((h.bw (by repeat (first | exact BW.refl _ | apply BW.alloc | apply BW.drewN | apply BW.drew))).bw hb1) (by show l.length + (quo ts.data.toList).toArray.size ≤ _; rw [List.size_toArray]; have := hil.out; omega) (by omega)).mono ?_; rintro e w2 ⟨rfl, h2, f2⟩))
  all_goals
    go_wp2_with (fail)
    go_end0
    exact ⟨rfl, by simpa using h2, (BW.fs (BW.trans (by repeat (first | exact BW.refl _ | apply BW.alloc | apply BW.drewN | apply BW.drew)) hb1) hBw).trans f2⟩
set_option maxRecDepth 100000 in
set_option maxHeartbeats 1000000 in
theorem node_4 (B b mb : Nat) (l : List UInt8) (tn : Int) (ts : ByteArray) (na : Option Addr) (nl nc : Nat) (ka : Option Addr) (kl kc : Nat) (w : World) (h : Sh B b 45 [.map (some mb)] l w) (hBw : B ≤ w.heap.size) (hlen : l.length + 100 ≤ 140737488355328) :
    Calls Tryd.prog 21 #[.pointer (some ⟨b, 0, none⟩), ndv 4 tn ts na nl nc ka kl kc] w fun e w' => e = .returned (.tuple #[]) ∧ ShU B b 45 [.map (some mb)] (l ++ [117, 110, 105, 116]) w' ∧ Fs B b w w' := by
  have hlt := h.lt
  go_enter Tryd.func21, Tryd.ntmps21
  go_wp2_with (go_at_call 40; refine (writeString_any B b 45 [.map (some mb)] (hm45 _) l _ _ (h.bw (by repeat (first | exact BW.refl _ | apply BW.alloc | apply BW.drewN | apply BW.drew))) (by show l.length + 4 ≤ _; omega) (by show B ≤ _; simp; omega)).mono ?_; rintro e w2 ⟨rfl, h2, f2⟩)
  go_end0
  exact ⟨rfl, by simpa using h2, (BW.fs (by repeat (first | exact BW.refl _ | apply BW.alloc | apply BW.drewN | apply BW.drew)) hBw).trans f2⟩
set_option maxRecDepth 100000 in
set_option maxHeartbeats 1000000 in
theorem node_5 (B b mb : Nat) (l : List UInt8) (tn : Int) (ts : ByteArray) (na : Option Addr) (nl nc : Nat) (ka : Option Addr) (kl kc : Nat) (w : World) (h : Sh B b 45 [.map (some mb)] l w) (hBw : B ≤ w.heap.size) (hs : ts.size ≤ 70000) (hlen : l.length + 100000 ≤ 140737488355328) :
    Calls Tryd.prog 21 #[.pointer (some ⟨b, 0, none⟩), ndv 5 tn ts na nl nc ka kl kc] w fun e w' => e = .returned (.tuple #[]) ∧ ShU B b 45 [.map (some mb)] (l ++ ts.data.toList) w' ∧ Fs B b w w' := by
  have hlt := h.lt
  go_enter Tryd.func21, Tryd.ntmps21
  go_wp2_with (fail)
  go_region_with (first | (go_at_call 40; refine (writeString_any B b 45 [.map (some mb)] (hm45 _) l _ _ (h.bw (by repeat (first | exact BW.refl _ | apply BW.alloc | apply BW.drewN | apply BW.drew))) (by omega) (by show B ≤ _; simp; omega)).mono ?_; rintro e w2 ⟨rfl, h2, f2⟩))
  all_goals
    go_wp2_with (fail)
    go_end0
    exact ⟨rfl, by simpa using h2, (BW.fs (by repeat (first | exact BW.refl _ | apply BW.alloc | apply BW.drewN | apply BW.drew)) hBw).trans f2⟩

end Go.Proofs.YtiokcokmpmpcfaaDoor
