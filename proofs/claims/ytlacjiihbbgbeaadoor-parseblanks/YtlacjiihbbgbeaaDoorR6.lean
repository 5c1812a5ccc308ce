import Derived.Test.YtlacjiihbbgbeaaDoorR5
namespace Go.Proofs.YtlacjiihbbgbeaaDoor
open Go.RowKit
set_option linter.unusedVariables false
set_option linter.unusedSimpArgs false

/-- At each round of run's loop: pre are the bytes so far, m are left. -/
def RR (b : Nat) (s : ByteArray) (w : World) (p : Nat) (l : List UInt8) (k : Nat) (wr : World) : Prop :=
  ∃ pre m q, k = m.length ∧ At s q m ∧ Rd b s q wr ∧ l = pre ++ m ∧ pre.all plB = true ∧ p ≤ q ∧ Fd b w wr
theorem tw_all {pre : List UInt8} (h : pre.all plB = true) (m : List UInt8) : (pre ++ m).dropWhile plB = m.dropWhile plB ∧ (pre ++ m).takeWhile plB = pre ++ m.takeWhile plB := by
  induction pre with
  | nil => exact ⟨rfl, rfl⟩
  | cons c r ih =>
    simp only [List.all_cons, Bool.and_eq_true] at h
    obtain ⟨h1, h2⟩ := h
    obtain ⟨i1, i2⟩ := ih h2
    simp [List.dropWhile_cons, List.takeWhile_cons, h1, i1, i2]
theorem pl_en {c : UInt8} (h : en c.toNat = true) : plB c = false := by simp [plB, pl, h]
theorem wrd_end {pre : List UInt8} (h : pre.all plB = true) : wrd (pre ++ []) = .ok pre [] := by
  obtain ⟨h1, h2⟩ := tw_all h []
  unfold wrd; rw [h1, h2]; simp
theorem wrd_stop {pre : List UInt8} (h : pre.all plB = true) (c : UInt8) (r : List UInt8) (hc : en c.toNat = true) : wrd (pre ++ c :: r) = .ok pre (c :: r) := by
  obtain ⟨h1, h2⟩ := tw_all h (c :: r)
  unfold wrd; rw [h1, h2]; simp [pl_en hc, enB, hc]
theorem wrd_bad {pre : List UInt8} (h : pre.all plB = true) (c : UInt8) (r : List UInt8) (hc : en c.toNat = false) (hp : pl c.toNat = false) : wrd (pre ++ c :: r) = .error 10 (c :: r) := by
  obtain ⟨h1, h2⟩ := tw_all h (c :: r)
  unfold wrd; rw [h1, h2]; simp [plB, hp, enB, hc]
theorem ext_pre {s : ByteArray} {p q : Nat} {l pre m : List UInt8} (h : At s p l) (e : l = pre ++ m) (k : At s q m) : Value.string (s.extract p q) = sv pre := by
  unfold sv
  congr 1
  apply ByteArray.ext
  apply Array.toList_inj.1
  have h1 := h.2
  have h2 := h.len
  have h3 := k.len
  have h4 := h.1
  have h5 := k.1
  rw [e, List.length_append] at h2
  rw [ByteArray.data_extract]
  simp only [Array.toList_extract, List.extract_eq_take_drop]
  rw [h1, e, show q - p = pre.length by omega]
  simp
set_option maxRecDepth 100000 in
set_option maxHeartbeats 2000000 in
theorem run_any (b : Nat) (s : ByteArray) (hs : s.size ≤ 100000) (p : Nat) (l : List UInt8) (hl : At s p l) (w : World) (h : Rd b s p w) :
    Calls Tryd.prog 23 #[.pointer (some ⟨b, 0, none⟩)] w (Post sv b s w (wrd l)) := by
  have hlt := h.lt
  have H0 : Hid (RR b s w p l l.length w) := ⟨[], l, p, rfl, hl, h, rfl, rfl, Nat.le_refl _, Fd.refl _ _⟩
  have c0 := h.c0
  have c1 := h.c1
  go_enter Tryd.func23, Tryd.ntmps23
  go_wp2_with (fail)
  clear c0 c1 h
  go_loopg [17] l.length (fun k c wr => RR b s w p l k wr)
  case atStart => exact H0.out
  case round =>
    clear H0
    obtain ⟨pre, m, q, rfl, hA, hR, hE, hP, hpq, hF⟩ := hrel
    have c0 := hR.c0
    have c1 := hR.c1
    have hz := hR.z
    cases m with
    | nil =>
      obtain rfl := hA.nil
      have hW : wrd l = .ok pre [] := by rw [hE]; exact wrd_end hP
      have hE' : Hid _ := hE
      clear hE
      go_wp2_with (fail)
      go_quiet (fail)
      go_wp2_with (fail)
      go_quiet (fail)
      go_wp2_with (fail)
      go_ret
      rw [hW]
      exact ⟨by rw [ext_pre hl hE'.out hA]; rfl, _, hA, hR, hF.trans (by repeat (first | exact Fd.refl _ _ | apply Fd.drewN | apply Fd.drew | apply Fd.set))⟩
    | cons c r =>
      obtain ⟨hp, rfl, hA1⟩ := hA.cons
      have hq : (q : Int) < s.size := by omega
      by_cases h1 : en s[q].toNat = true
      · have hC1 : ∀ w, Calls Tryd.prog 35 #[.int .u8 s[q].toNat] w fun e w' => e = .returned (.bool true) ∧ w' = w := fun w => h1 ▸ ends_any _ w
        have hW : wrd l = .ok pre (s[q] :: r) := by rw [hE]; exact wrd_stop hP _ r h1
        have hE' : Hid _ := hE
        clear hE
        go_wp2_with (fail)
        go_quiet ((go_at_call 35; exact Calls.quiet_of_same (hC1 _)))
        go_wp2_with (fail)
        go_quiet (fail)
        go_wp2_with (fail)
        go_ret
        rw [hW]
        exact ⟨by rw [ext_pre hl hE'.out hA]; rfl, _, hA, hR, hF.trans (by repeat (first | exact Fd.refl _ _ | apply Fd.drewN | apply Fd.drew | apply Fd.set))⟩
      · have h1' : en s[q].toNat = false := by simpa using h1
        have hC1 : ∀ w, Calls Tryd.prog 35 #[.int .u8 s[q].toNat] w fun e w' => e = .returned (.bool false) ∧ w' = w := fun w => h1' ▸ ends_any _ w
        by_cases h2 : pl s[q].toNat = true
        · have hC2 : ∀ w, Calls Tryd.prog 36 #[.int .u8 s[q].toNat] w fun e w' => e = .returned (.bool true) ∧ w' = w := fun w => h2 ▸ plain_any _ w
          have hP' : (pre ++ [s[q]]).all plB = true := by simp only [List.all_append, hP]; simp [plB, h2]
          have hE' : Hid (l = (pre ++ [s[q]]) ++ r) := by show _ = _; rw [hE]; simp
          have hP2 : Hid _ := hP'
          clear hE hP hP'
          go_wp2_with (fail)
          go_quiet ((go_at_call 35; exact Calls.quiet_of_same (hC1 _)))
          go_wp2_with (fail)
          obtain ⟨W, hW1⟩ : ∃ W, W = wr.drewN nq := ⟨_, rfl⟩
          rw [← hW1]
          have hRW : Rd b s q W := hW1 ▸ hR
          have hFW : Fd b w W := hW1 ▸ hF.drewN nq
          clear hW1 c0 c1 hz
          have c0 := hRW.c0
          have c1 := hRW.c1
          have hz := hRW.z
          go_quiet ((go_at_call 36; exact Calls.quiet_of_same (hC2 _)))
          go_wp2_with (fail)
          go_roundg r.length
          case measure => simp
          case rel => exact ⟨_, r, q + 1, rfl, hA1, hRW.set (q + 1), hE'.out, hP2.out, by omega, hFW.trans (by repeat (first | exact Fd.refl _ _ | apply Fd.drewN | apply Fd.drew | apply Fd.set))⟩
        · have h2' : pl s[q].toNat = false := by simpa using h2
          have hC2 : ∀ w, Calls Tryd.prog 36 #[.int .u8 s[q].toNat] w fun e w' => e = .returned (.bool false) ∧ w' = w := fun w => h2' ▸ plain_any _ w
          have hW : wrd l = .error 10 (s[q] :: r) := by rw [hE]; exact wrd_bad hP _ r h1' h2'
          have ht : thrown s.size (s[q] :: r) 10 = misf q := by unfold thrown; rw [if_neg (by decide), hA.place]
          have hE' : Hid _ := hE
          clear hE
          go_wp2_with (fail)
          go_quiet ((go_at_call 35; exact Calls.quiet_of_same (hC1 _)))
          go_wp2_with (fail)
          obtain ⟨W, hW1⟩ : ∃ W, W = wr.drewN nq := ⟨_, rfl⟩
          rw [← hW1]
          have hRW : Rd b s q W := hW1 ▸ hR
          have hFW : Fd b w W := hW1 ▸ hF.drewN nq
          clear hW1 c0 c1 hz
          have c0 := hRW.c0
          have c1 := hRW.c1
          have hz := hRW.z
          go_quiet ((go_at_call 36; exact Calls.quiet_of_same (hC2 _)))
          go_wp2_with (fail)
          exact ⟨rfl, by rw [ht], hFW.trans (by repeat (first | exact Fd.refl _ _ | apply Fd.drewN | apply Fd.drew | apply Fd.set))⟩

end Go.Proofs.YtlacjiihbbgbeaaDoor
