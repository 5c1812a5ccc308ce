import Derived.Test.YtfgnlddfpemblaaDoorS1
import Derived.Deep.RegionHeld3
import Derived.Laws.BitsLemmas
namespace Go.Proofs.YtfgnlddfpemblaaDoor
open Go.RowKit
set_option linter.unusedVariables false
set_option linter.unusedSimpArgs false
def hexS : ByteArray := { data := #[48, 49, 50, 51, 52, 53, 54, 55, 56, 57, 97, 98, 99, 100, 101, 102] }
def hexd (k : Nat) : UInt8 := hexS.data.toList.getD k 0
def esc (c : UInt8) : List UInt8 := if c = 34 ∨ c = 92 then [92, c] else if 32 ≤ c.toNat ∧ c.toNat ≤ 126 then [c] else [92, 120, hexd (c.toNat / 16), hexd (c.toNat % 16)]
theorem writeByte_n (n : Int) (c : UInt8) (hn : n = c.toNat) (B b : Nat) (pv : Value) (l : List UInt8) (w : World) (h : Sh B b pv l w) (hlen : l.length + 1 ≤ 140737488355328) (hBw : B ≤ w.heap.size) :
    Calls Tryd.prog 27 #[.pointer (some ⟨b, 0, none⟩), .int .u8 n] w fun e w' => e = .returned .nilIface ∧ ShU B b pv (l ++ [c]) w' ∧ Fs B b w w' := by
  subst hn; exact writeByte_any B b pv l c w h hlen hBw
set_option maxHeartbeats 1000000 in
set_option maxRecDepth 100000 in
theorem letter_two (B b : Nat) (pv : Value) (l : List UInt8) (c : UInt8) (n : Int) (hn : Hid (n = c.toNat)) (hc : n = 34 ∨ n = 92) (w : World) (h : Sh B b pv l w) (hlen : l.length + 4 ≤ 140737488355328) (hBw : B ≤ w.heap.size) :
    Calls Tryd.prog 28 #[.pointer (some ⟨b, 0, none⟩), .int .u8 n] w fun e w' => e = .returned (.tuple #[]) ∧ Sh B b pv (l ++ [92, c]) w' ∧ Fs B b w w' := by
  rcases hc with rfl | rfl
  all_goals
    go_enter Tryd.func28, Tryd.ntmps28
    go_wp2_with (fail)
    refine (writeByte_n 92 92 rfl B b pv l _ h (by omega) hBw).mono ?_
    rintro e w1 ⟨rfl, h1, f1⟩
    have hz := f1.size
    go_wp2_with (fail)
    refine (writeByte_n _ c hn.out B b pv (l ++ [92]) _ h1.sh (by simp; omega) (by omega)).mono ?_
    rintro e w2 ⟨rfl, h2, f2⟩
    go_wp2
    go_end0
    exact ⟨rfl, by simpa using h2.sh, f1.trans f2⟩
set_option maxHeartbeats 1000000 in
set_option maxRecDepth 100000 in
theorem letter_one (B b : Nat) (pv : Value) (l : List UInt8) (c : UInt8) (h34 : ¬ c.toNat = 34) (h92 : ¬ c.toNat = 92) (h1 : 32 ≤ c.toNat) (h2 : c.toNat ≤ 126) (w : World) (h : Sh B b pv l w) (hlen : l.length + 4 ≤ 140737488355328) (hBw : B ≤ w.heap.size) :
    Calls Tryd.prog 28 #[.pointer (some ⟨b, 0, none⟩), .int .u8 c.toNat] w fun e w' => e = .returned (.tuple #[]) ∧ Sh B b pv (l ++ [c]) w' ∧ Fs B b w w' := by
  have e1 : ((c.toNat : Int) == 34) = false := by simp; omega
  have e2 : ((c.toNat : Int) == 92) = false := by simp; omega
  have e3 : decide ((32 : Int) ≤ (c.toNat : Int)) = true := by simp; omega
  have e4 : decide ((c.toNat : Int) ≤ 126) = true := by simp; omega
  go_enter Tryd.func28, Tryd.ntmps28
  go_wp2_with (first | (go_at_call 27; refine (writeByte_any B b pv l c _ h (by omega) hBw).mono ?_; rintro e w1 ⟨rfl, h1, f1⟩; have hz := f1.size))
  go_end0
  exact ⟨rfl, by simpa using h1.sh, f1⟩
abbrev hexA : ByteArray := { data := #[48, 49, 50, 51, 52, 53, 54, 55, 56, 57, 97, 98, 99, 100, 101, 102] }
theorem hexS_get : ∀ (k : Nat) (hk : k < hexA.size), hexA[k] = hexd k := by decide
theorem Sh.drew {B b : Nat} {pv : Value} {l : List UInt8} {w : World} (h : Sh B b pv l w) : Sh B b pv l w.drew := h
theorem Fs.drew {B b : Nat} {w w' : World} (h : Fs B b w w') : Fs B b w w'.drew := ⟨h.bel.drew, h.oth⟩
theorem Fs.drew1 {B b : Nat} {w w' : World} (h : Fs B b w.drew w') : Fs B b w w' := ⟨⟨h.bel.os, h.bel.tape, h.bel.output, h.bel.size, h.bel.block⟩, h.oth⟩
set_option maxHeartbeats 1000000 in
set_option maxRecDepth 100000 in
theorem letter_hex (B b : Nat) (pv : Value) (l : List UInt8) (c : UInt8) (n : Int) (hn : Hid (n = c.toNat)) (h0 : 0 ≤ n) (h1 : n ≤ 255) (e1 : (n == 34) = false) (e2 : (n == 92) = false) (hc : n < 32 ∨ 126 < n) (w : World) (h : Sh B b pv l w) (hlen : l.length + 4 ≤ 140737488355328) (hBw : B ≤ w.heap.size) :
    Calls Tryd.prog 28 #[.pointer (some ⟨b, 0, none⟩), .int .u8 n] w fun e w' => e = .returned (.tuple #[]) ∧ Sh B b pv (l ++ [92, 120, hexd (c.toNat / 16), hexd (c.toNat % 16)]) w' ∧ Fs B b w w' := by
  have hand : bits .and .u8 n 15 = n % 16 := u8_and15 n h0 (by omega)
  have hq : 0 ≤ n / 16 ∧ n / 16 < 16 := by omega
  have hr : 0 ≤ n % 16 ∧ n % 16 < 16 := by omega
  have hh1 : ∀ (hk : (n / 16).toNat < hexA.size), hexA[(n / 16).toNat] = hexd (c.toNat / 16) := by
    intro hk; rw [hexS_get]; congr 1; have := hn.out; omega
  have hh2 : ∀ (hk : (n % 16).toNat < hexA.size), hexA[(n % 16).toNat] = hexd (c.toNat % 16) := by
    intro hk; rw [hexS_get]; congr 1; have := hn.out; omega
  have HH : Hid ((∀ (hk : (n / 16).toNat < hexA.size), hexA[(n / 16).toNat] = hexd (c.toNat / 16)) ∧ (∀ (hk : (n % 16).toNat < hexA.size), hexA[(n % 16).toNat] = hexd (c.toNat % 16))) := ⟨hh1, hh2⟩
  clear hh1 hh2
  have hc' : decide (32 ≤ n) = false ∨ decide (32 ≤ n) = true ∧ decide (n ≤ 126) = false := by
    rcases hc with hc | hc
    · exact .inl (by simp; omega)
    · exact .inr ⟨by simp; omega, by simp; omega⟩
  rcases hc' with e3 | ⟨e3, e4⟩
  all_goals
    go_enter Tryd.func28, Tryd.ntmps28
    go_wp2_with (fail)
    refine (writeString_any B b pv l _ _ h (by show _ + 2 ≤ _; omega) hBw).mono ?_
    rintro e w1 ⟨rfl, h1, f1⟩
    have hz := f1.size
    go_wp2_with (fail)
    go_region_with (first | (go_at_call 27; refine (writeByte_any B b pv _ _ _ h1.sh.drew (by simp; omega) (by show B ≤ w1.heap.size; omega)).mono ?_; rintro e w2 ⟨rfl, h2, f2⟩))
    have hz2 : w1.heap.size ≤ w2.heap.size := f2.size
    go_wp2_with (fail)
    go_region_with (first | (go_at_call 27; refine (writeByte_any B b pv _ _ _ h2.sh.drew (by simp; omega) (by show B ≤ w2.heap.size; omega)).mono ?_; rintro e w3 ⟨rfl, h3, f3⟩))
    go_wp2
    go_end0
    refine ⟨rfl, ?_, f1.trans (f2.drew1.trans f3.drew1)⟩
    have := h3.sh
    rw [HH.out.1, HH.out.2] at this
    simpa using this
theorem letter_any (B b : Nat) (pv : Value) (l : List UInt8) (c : UInt8) (w : World) (h : Sh B b pv l w) (hlen : l.length + 4 ≤ 140737488355328) (hBw : B ≤ w.heap.size) :
    Calls Tryd.prog 28 #[.pointer (some ⟨b, 0, none⟩), .int .u8 c.toNat] w fun e w' => e = .returned (.tuple #[]) ∧ Sh B b pv (l ++ esc c) w' ∧ Fs B b w w' := by
  have hlt := c.toNat_lt
  unfold esc
  by_cases h1 : c = 34 ∨ c = 92
  · rw [if_pos h1]
    exact letter_two B b pv l c _ rfl (by rcases h1 with rfl | rfl <;> simp) w h hlen hBw
  · rw [if_neg h1]
    have n1 : ¬ c.toNat = 34 := fun e => h1 (.inl (UInt8.toNat_inj.1 e))
    have n2 : ¬ c.toNat = 92 := fun e => h1 (.inr (UInt8.toNat_inj.1 e))
    by_cases h2 : 32 ≤ c.toNat ∧ c.toNat ≤ 126
    · rw [if_pos h2]
      exact letter_one B b pv l c n1 n2 h2.1 h2.2 w h hlen hBw
    · rw [if_neg h2]
      exact letter_hex B b pv l c _ rfl (by omega) (by omega) (by simp; omega) (by simp; omega) (by omega) w h hlen hBw
/-- A text, shown. -/
def quo (l : List UInt8) : List UInt8 := 34 :: (l.flatMap esc ++ [34])
theorem esc_len (c : UInt8) : (esc c).length ≤ 4 := by unfold esc; split; · simp
                                                       · split <;> simp
theorem flat_len (l : List UInt8) : (l.flatMap esc).length ≤ 4 * l.length := by
  induction l with
  | nil => simp
  | cons a r ih => have := esc_len a; simp only [List.flatMap_cons, List.length_append, List.length_cons]; omega
theorem quo_len (l : List UInt8) : (quo l).length ≤ 4 * l.length + 2 := by have := flat_len l; simp only [quo, List.length_cons, List.length_append, List.length_nil]; omega
theorem take_snoc' (s : ByteArray) (k : Nat) (h : k < s.size) : s.data.toList.take (k + 1) = s.data.toList.take k ++ [s[k]] := by
  rw [List.take_succ_eq_append_getElem (by simpa using h)]; rfl
theorem flat_snoc (s : ByteArray) (k : Nat) (h : k < s.size) : (s.data.toList.take (k + 1)).flatMap esc = (s.data.toList.take k).flatMap esc ++ esc s[k] := by
  rw [take_snoc' s k h]; simp
set_option maxHeartbeats 1000000 in
set_option maxRecDepth 100000 in
theorem quoted_any (B b : Nat) (pv : Value) (l : List UInt8) (s : ByteArray) (w : World) (h : Sh B b pv l w) (hs : s.size ≤ 1000) (hlen : l.length + 5000 ≤ 140737488355328) (hBw : B ≤ w.heap.size) :
    Calls Tryd.prog 21 #[.pointer (some ⟨b, 0, none⟩), .string s] w fun e w' => e = .returned (.tuple #[]) ∧ ShU B b pv (l ++ quo s.data.toList) w' ∧ Fs B b w w' := by
  go_enter Tryd.func21, Tryd.ntmps21
  go_wp2_with (fail)
  refine (writeByte_n 34 34 rfl B b pv l _ h (by omega) hBw).mono ?_
  rintro e w1 ⟨rfl, h1, f1⟩
  have hz := f1.size
  go_wp2_with (fail)
  go_loopw [11] (fun i w' => ∃ k : Nat, k ≤ s.size ∧ i = .int .i64 k ∧ Sh B b pv (l ++ 34 :: (s.data.toList.take k).flatMap esc) w' ∧ Fs B b w w') (fun i _ => s.size - (intOf i).toNat)
  case atStart => exact ⟨0, Nat.zero_le _, rfl, by simpa using h1.sh, f1⟩
  case round =>
    obtain ⟨k, hk, rfl, hsh, hfs⟩ := hrel
    have hzk := hfs.size
    have hfl := flat_len (s.data.toList.take k)
    have htl : (s.data.toList.take k).length ≤ k := List.length_take_le _ _
    have hlen2 : (l ++ 34 :: (s.data.toList.take k).flatMap esc).length + 4 ≤ 140737488355328 := by simp only [List.length_append, List.length_cons]; omega
    have HL : Hid ((l ++ 34 :: (s.data.toList.take k).flatMap esc).length + 4 ≤ 140737488355328) := hlen2
    clear hfl htl hlen2
    by_cases hlt : k < s.size
    · have HS : Hid ((s.data.toList.take (k + 1)).flatMap esc = (s.data.toList.take k).flatMap esc ++ esc s[k]) := flat_snoc s k hlt
      go_wp2_with (fail)
      refine (letter_any B b pv _ _ _ hsh HL.out (by omega)).mono ?_
      rintro e w2 ⟨rfl, h2, f2⟩
      go_wp2
      go_roundw
      case rel => exact ⟨k + 1, by omega, by go_num, by rw [HS.out]; simpa using h2, hfs.trans f2⟩
      case measure => simp [intOf]; omega
    · obtain rfl : k = s.size := by omega
      go_wp2_with (fail)
      refine (writeByte_n 34 34 rfl B b pv _ _ hsh (by have := HL.out; omega) (by omega)).mono ?_
      rintro e w2 ⟨rfl, h2, f2⟩
      go_wp2
      go_end0
      refine ⟨rfl, ?_, hfs.trans f2⟩
      rw [List.take_of_length_le (by simp)] at h2
      simpa [quo] using h2
end Go.Proofs.YtfgnlddfpemblaaDoor
