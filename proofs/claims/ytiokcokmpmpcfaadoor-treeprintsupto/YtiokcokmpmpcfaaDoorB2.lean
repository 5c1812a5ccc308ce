import Derived.Test.YtiokcokmpmpcfaaDoorQ0
namespace Go.Proofs.YtiokcokmpmpcfaaDoor
open Go.RowKit
set_option linter.unusedVariables false
set_option linter.unusedSimpArgs false
set_option maxHeartbeats 1000000 in
set_option maxRecDepth 100000 in
theorem letter_two (B b : Nat) (T : TypeId) (r : List Value) (hm : Hm T r) (l : List UInt8) (c : UInt8) (n : Int) (hn : Hid (n = c.toNat)) (hc : n = 34 ∨ n = 92) (w : World) (h : Sh B b T r l w) (hlen : l.length + 4 ≤ 140737488355328) (hBw : B ≤ w.heap.size) :
    Calls Tryd.prog 73 #[.pointer (some ⟨b, 0, none⟩), .int .u8 n] w fun e w' => e = .returned (.tuple #[]) ∧ Sh B b T r (l ++ [92, c]) w' ∧ Fs B b w w' := by
  rcases hc with rfl | rfl
  all_goals
    go_enter Tryd.func73, Tryd.ntmps73
    go_wp2_with (fail)
    refine (writeByte_n 92 92 rfl B b T r hm l _ h (by omega) hBw).mono ?_
    rintro e w1 ⟨rfl, h1, f1⟩
    have hz := f1.size
    go_wp2_with (fail)
    refine (writeByte_n _ c hn.out B b T r hm (l ++ [92]) _ h1.sh (by simp; omega) (by omega)).mono ?_
    rintro e w2 ⟨rfl, h2, f2⟩
    go_wp2
    go_end0
    exact ⟨rfl, by simpa using h2.sh, f1.trans f2⟩
set_option maxHeartbeats 1000000 in
set_option maxRecDepth 100000 in
theorem letter_one (B b : Nat) (T : TypeId) (r : List Value) (hm : Hm T r) (l : List UInt8) (c : UInt8) (h34 : ¬ c.toNat = 34) (h92 : ¬ c.toNat = 92) (h1 : 32 ≤ c.toNat) (h2 : c.toNat ≤ 126) (w : World) (h : Sh B b T r l w) (hlen : l.length + 4 ≤ 140737488355328) (hBw : B ≤ w.heap.size) :
    Calls Tryd.prog 73 #[.pointer (some ⟨b, 0, none⟩), .int .u8 c.toNat] w fun e w' => e = .returned (.tuple #[]) ∧ Sh B b T r (l ++ [c]) w' ∧ Fs B b w w' := by
  have e1 : ((c.toNat : Int) == 34) = false := by simp; omega
  have e2 : ((c.toNat : Int) == 92) = false := by simp; omega
  have e3 : decide ((32 : Int) ≤ (c.toNat : Int)) = true := by simp; omega
  have e4 : decide ((c.toNat : Int) ≤ 126) = true := by simp; omega
  go_enter Tryd.func73, Tryd.ntmps73
  go_wp2_with (first | (go_at_call 59; refine (writeByte_any B b T r hm l c _ h (by omega) hBw).mono ?_; rintro e w1 ⟨rfl, h1, f1⟩; have hz := f1.size))
  go_end0
  exact ⟨rfl, by simpa using h1.sh, f1⟩
set_option maxHeartbeats 1000000 in
set_option maxRecDepth 100000 in
theorem letter_hex (B b : Nat) (T : TypeId) (r : List Value) (hm : Hm T r) (l : List UInt8) (c : UInt8) (n : Int) (hn : Hid (n = c.toNat)) (h0 : 0 ≤ n) (h1 : n ≤ 255) (e1 : (n == 34) = false) (e2 : (n == 92) = false) (hc : n < 32 ∨ 126 < n) (w : World) (h : Sh B b T r l w) (hlen : l.length + 4 ≤ 140737488355328) (hBw : B ≤ w.heap.size) :
    Calls Tryd.prog 73 #[.pointer (some ⟨b, 0, none⟩), .int .u8 n] w fun e w' => e = .returned (.tuple #[]) ∧ Sh B b T r (l ++ [92, 120, hexd (c.toNat / 16), hexd (c.toNat % 16)]) w' ∧ Fs B b w w' := by
  have hand : bits .and .u8 n 15 = n % 16 := u8_and15 n h0 (by omega)
  have hq : 0 ≤ n / 16 ∧ n / 16 < 16 := by omega
  have hr : 0 ≤ n % 16 ∧ n % 16 < 16 := by omega
  have hh1 : ∀ (hk : (n / 16).toNat < hexA.size), hexA[(n / 16).toNat] = hexd (c.toNat / 16) := by
    intro hk; rw [hexS_get]; congr 1; have := hn.out; omega
  have hh2 : ∀ (hk : (n % 16).toNat < hexA.size), hexA[(n % 16).toNat] = hexd (c.toNat % 16) := by
    intro hk; rw [hexS_get]; congr 1; have := hn.out; omega
  have HH : Hid ((∀ (hk : (n / 16).toNat < hexA.size), hexA[(n / 16).toNat] = hexd (c.toNat / 16)) ∧ (∀ (hk : (n % 16).toNat < hexA.size), hexA[(n % 16).toNat] = hexd (c.toNat % 16))) := ⟨hh1, hh2⟩
  clear hh1 hh2
  have hc' : decide (32 ≤ n) = false ∨ decide (32 ≤ n) = true ∧ decide (n ≤ 126) = false := by
    rcases hc with hc | hc
    · exact .inl (by simp; omega)
    · exact .inr ⟨by simp; omega, by simp; omega⟩
  rcases hc' with e3 | ⟨e3, e4⟩
  all_goals
    go_enter Tryd.func73, Tryd.ntmps73
    go_wp2_with (fail)
    refine (writeString_any B b T r hm l _ _ h (by show _ + 2 ≤ _; omega) hBw).mono ?_
    rintro e w1 ⟨rfl, h1, f1⟩
    have hz := f1.size
    go_wp2_with (fail)
    go_region_with (first | (go_at_call 59; refine (writeByte_any B b T r hm _ _ _ h1.sh.drew (by simp; omega) (by show B ≤ w1.heap.size; omega)).mono ?_; rintro e w2 ⟨rfl, h2, f2⟩))
    have hz2 : w1.heap.size ≤ w2.heap.size := f2.size
    go_wp2_with (fail)
    go_region_with (first | (go_at_call 59; refine (writeByte_any B b T r hm _ _ _ h2.sh.drew (by simp; omega) (by show B ≤ w2.heap.size; omega)).mono ?_; rintro e w3 ⟨rfl, h3, f3⟩))
    go_wp2
    go_end0
    refine ⟨rfl, ?_, f1.trans (f2.drew1.trans f3.drew1)⟩
    have := h3.sh
    rw [HH.out.1, HH.out.2] at this
    simpa using this
theorem letter_any (B b : Nat) (T : TypeId) (r : List Value) (hm : Hm T r) (l : List UInt8) (c : UInt8) (w : World) (h : Sh B b T r l w) (hlen : l.length + 4 ≤ 140737488355328) (hBw : B ≤ w.heap.size) :
    Calls Tryd.prog 73 #[.pointer (some ⟨b, 0, none⟩), .int .u8 c.toNat] w fun e w' => e = .returned (.tuple #[]) ∧ Sh B b T r (l ++ esc c) w' ∧ Fs B b w w' := by
  have hlt := c.toNat_lt
  unfold esc
  by_cases h1 : c = 34 ∨ c = 92
  · rw [if_pos h1]
    exact letter_two B b T r hm l c _ rfl (by rcases h1 with rfl | rfl <;> simp) w h hlen hBw
  · rw [if_neg h1]
    have n1 : ¬ c.toNat = 34 := fun e => h1 (.inl (UInt8.toNat_inj.1 e))
    have n2 : ¬ c.toNat = 92 := fun e => h1 (.inr (UInt8.toNat_inj.1 e))
    by_cases h2 : 32 ≤ c.toNat ∧ c.toNat ≤ 126
    · rw [if_pos h2]
      exact letter_one B b T r hm l c n1 n2 h2.1 h2.2 w h hlen hBw
    · rw [if_neg h2]
      exact letter_hex B b T r hm l c _ rfl (by omega) (by omega) (by simp; omega) (by simp; omega) (by omega) w h hlen hBw
set_option maxHeartbeats 1000000 in
set_option maxRecDepth 100000 in
theorem quoted_any (B b : Nat) (T : TypeId) (r : List Value) (hm : Hm T r) (l : List UInt8) (s : ByteArray) (w : World) (h : Sh B b T r l w) (hs : s.size ≤ 70000) (hlen : l.length + 300000 ≤ 140737488355328) (hBw : B ≤ w.heap.size) :
    Calls Tryd.prog 58 #[.pointer (some ⟨b, 0, none⟩), .string s] w fun e w' => e = .returned (.tuple #[]) ∧ ShU B b T r (l ++ quo s.data.toList) w' ∧ Fs B b w w' := by
  go_enter Tryd.func58, Tryd.ntmps58
  go_wp2_with (fail)
  refine (writeByte_n 34 34 rfl B b T r hm l _ h (by omega) hBw).mono ?_
  rintro e w1 ⟨rfl, h1, f1⟩
  have hz := f1.size
  go_wp2_with (fail)
  go_loopw [11] (fun i w' => ∃ k : Nat, k ≤ s.size ∧ i = .int .i64 k ∧ Sh B b T r (l ++ 34 :: (s.data.toList.take k).flatMap esc) w' ∧ Fs B b w w') (fun i _ => s.size - (intOf i).toNat)
  case atStart => exact ⟨0, Nat.zero_le _, rfl, by simpa using h1.sh, f1⟩
  case round =>
    obtain ⟨k, hk, rfl, hsh, hfs⟩ := hrel
    have hzk := hfs.size
    have hfl := flat_len (s.data.toList.take k)
    have htl : (s.data.toList.take k).length ≤ k := List.length_take_le _ _
    have hlen2 : (l ++ 34 :: (s.data.toList.take k).flatMap esc).length + 4 ≤ 140737488355328 := by simp only [List.length_append, List.length_cons]; omega
    have HL : Hid ((l ++ 34 :: (s.data.toList.take k).flatMap esc).length + 4 ≤ 140737488355328) := hlen2
    clear hfl htl hlen2
    by_cases hlt : k < s.size
    · have HS : Hid ((s.data.toList.take (k + 1)).flatMap esc = (s.data.toList.take k).flatMap esc ++ esc s[k]) := flat_snoc s k hlt
      go_wp2_with (fail)
      refine (letter_any B b T r hm _ _ _ hsh HL.out (by omega)).mono ?_
      rintro e w2 ⟨rfl, h2, f2⟩
      go_wp2
      go_roundw
      case rel => exact ⟨k + 1, by omega, by go_num, by rw [HS.out]; simpa using h2, hfs.trans f2⟩
      case measure => simp [intOf]; omega
    · obtain rfl : k = s.size := by omega
      go_wp2_with (fail)
      refine (writeByte_n 34 34 rfl B b T r hm _ _ hsh (by have := HL.out; omega) (by omega)).mono ?_
      rintro e w2 ⟨rfl, h2, f2⟩
      go_wp2
      go_end0
      refine ⟨rfl, ?_, hfs.trans f2⟩
      rw [List.take_of_length_le (by simp)] at h2
      simpa [quo] using h2
theorem hm81 (v : Value) : Hm 81 [v] := ⟨by simp only [List.length_cons, List.length_nil]; kernel_rfl, by decide⟩
theorem hm45 (v : Value) : Hm 45 [v] := ⟨by simp only [List.length_cons, List.length_nil]; kernel_rfl, by decide⟩
theorem Sh.new (w : World) (T : TypeId) (r : List Value) : Sh w.heap.size w.heap.size T r [] (w.alloc (.cells (.pointer none :: .slice none 0 0 :: r).toArray T)) :=
  ⟨Nat.le_refl _, _, _, .inl rfl, heap_alloc_new w _, World.ownsRow_nil _ _ _ _⟩
set_option maxRecDepth 100000 in
set_option maxHeartbeats 1000000 in
theorem quote_any (s : ByteArray) (hs : s.size ≤ 70000) (w : World) :
    Calls Tryd.prog 43 #[.string s] w fun e w' => e = .returned (.string ⟨(quo s.data.toList).toArray⟩) ∧ BW w w' := by
  go_enter Tryd.func43, Tryd.ntmps43
  go_wp2_with (fail)
  refine (quoted_any w.heap.size w.heap.size 81 [.nilIface] (hm81 _) [] s _ (Sh.new w 81 [.nilIface]) hs (by simp) (by simp)).mono ?_
  rintro e w1 ⟨rfl, h1, f1⟩
  go_wp2_with (fail)
  refine (string_any w.heap.size w.heap.size 81 [.nilIface] (hm81 _) _ _ h1 (by simp [quo])).mono ?_
  rintro e w2 ⟨rfl, b2⟩
  go_wp2
  go_ret
  refine ⟨by simp, ?_⟩
  exact (((Below.refl w.heap.size w).alloc (Nat.le_refl _) _).trans f1.bel).trans b2

end Go.Proofs.YtiokcokmpmpcfaaDoor
