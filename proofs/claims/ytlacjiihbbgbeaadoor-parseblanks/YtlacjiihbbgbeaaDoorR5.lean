import Derived.Test.YtlacjiihbbgbeaaDoorR4
namespace Go.Proofs.YtlacjiihbbgbeaaDoor
open Go.RowKit
set_option linter.unusedVariables false
set_option linter.unusedSimpArgs false

theorem Rd.dn {b : Nat} {s : ByteArray} {p : Nat} {w : World} (h : Rd b s p w) (n : Nat) : Rd b s p (w.drewN n) := h
def n10 (c : UInt8) : Bool := !(c == 10)
theorem dw_go {f : UInt8 → Bool} {c : UInt8} (r : List UInt8) (h : f c = true) : (c :: r).dropWhile f = r.dropWhile f := by rw [List.dropWhile_cons, if_pos h]
theorem dw_stop {f : UInt8 → Bool} {c : UInt8} (r : List UInt8) (h : ¬ f c = true) : (c :: r).dropWhile f = c :: r := by rw [List.dropWhile_cons, if_neg h]
/-- What holds at each round of a loop that moves the reader alone: it has come to where m is left, and f of that is D. -/
def MR (b : Nat) (s : ByteArray) (w : World) (f : List UInt8 → List UInt8) (D : List UInt8) (k : Nat) (wr : World) : Prop :=
  ∃ m q, k = m.length ∧ At s q m ∧ Rd b s q wr ∧ f m = D ∧ Fd b w wr
set_option maxRecDepth 100000 in
set_option maxHeartbeats 1000000 in
theorem skipNote_any (b : Nat) (s : ByteArray) (hs : s.size ≤ 100000) (p : Nat) (l : List UInt8) (hl : At s p l) (w : World) (h : Rd b s p w) :
    Calls Tryd.prog 20 #[.pointer (some ⟨b, 0, none⟩)] w fun e w' => e = .returned (.tuple #[]) ∧ ∃ q, At s q (l.dropWhile n10) ∧ Rd b s q w' ∧ Fd b w w' := by
  have hlt := h.lt
  have H0 : Hid (MR b s w (·.dropWhile n10) (l.dropWhile n10) l.length w) := ⟨l, p, rfl, hl, h, rfl, Fd.refl _ _⟩
  generalize l.dropWhile n10 = R at *
  clear h hl
  go_enter Tryd.func20, Tryd.ntmps20
  go_wp2_with (fail)
  go_loopg [11] l.length (fun k c wr => MR b s w (·.dropWhile n10) R k wr)
  case atStart => exact H0.out
  case round =>
    clear H0
    obtain ⟨m, q, rfl, hA, hR, hT, hF⟩ := hrel
    have c0 := hR.c0
    have c1 := hR.c1
    have hz := hR.z
    cases m with
    | nil =>
      obtain rfl := hA.nil
      simp at hT
      subst hT
      go_wp2_with (fail)
      go_quiet (fail)
      go_wp2_with (fail)
      go_end0
      exact ⟨rfl, _, hA, hR, hF.drewN _⟩
    | cons c r =>
      obtain ⟨hp, rfl, hA1⟩ := hA.cons
      have hq : (q : Int) < s.size := by omega
      by_cases h1 : s[q] = 10
      · have hT2 : s[q] :: r = R := hT.symm ▸ (dw_stop r (by simp [n10, h1])).symm
        subst hT2
        clear hT
        have g1 : (s[q].toNat : Int) = 10 := by rw [h1]; rfl
        go_wp2_with (fail)
        go_quiet (fail)
        go_wp2_with (fail)
        go_end0
        exact ⟨rfl, _, hA, hR, hF.drewN _⟩
      · have hT2 : Hid (r.dropWhile n10 = R) := hT ▸ (dw_go r (by simp [n10, h1])).symm
        clear hT
        have g1 : ¬ (s[q].toNat : Int) = 10 := fun e => h1 (UInt8.toNat_inj.1 (by simpa using (by omega : s[q].toNat = 10)))
        go_wp2_with (fail)
        go_quiet (fail)
        go_wp2_with (fail)
        go_roundg r.length
        case measure => simp
        case rel => exact ⟨r, q + 1, rfl, hA1, hR.set (q + 1), hT2.out, hF.trans (by repeat (first | exact Fd.refl _ _ | apply Fd.drewN | apply Fd.drew | apply Fd.set))⟩
theorem skp_note (r : List UInt8) : skp true r = skp false (r.dropWhile n10) := by
  induction r with
  | nil => rfl
  | cons c r ih =>
    by_cases h : c = 10
    · subst h
      rw [dw_stop r (by decide)]
      simp [skp, blB, bl]
    · rw [dw_go r (by simp [n10, h]), ← ih]
      simp [skp, h]
theorem skp_59 (r : List UInt8) : skp false (59 :: r) = skp false ((59 :: r).dropWhile n10) := by
  rw [dw_go r (by decide), ← skp_note]
  simp [skp]
theorem skp_bl (c : UInt8) (r : List UInt8) (h : bl c.toNat = true) : skp false (c :: r) = skp false r := by
  have : ¬ c = 59 := by rintro rfl; simp [bl] at h
  simp [skp, this, blB, h]
theorem skp_stop (c : UInt8) (r : List UInt8) (h1 : ¬ c = 59) (h : ¬ bl c.toNat = true) : skp false (c :: r) = c :: r := by
  simp [skp, h1, blB, h]
theorem dw_len (f : UInt8 → Bool) (l : List UInt8) : (l.dropWhile f).length ≤ l.length := (List.dropWhile_suffix f).length_le
set_option maxRecDepth 100000 in
set_option maxHeartbeats 1000000 in
theorem skip_any (b : Nat) (s : ByteArray) (hs : s.size ≤ 100000) (p : Nat) (l : List UInt8) (hl : At s p l) (w : World) (h : Rd b s p w) :
    Calls Tryd.prog 13 #[.pointer (some ⟨b, 0, none⟩)] w fun e w' => e = .returned (.tuple #[]) ∧ ∃ q, At s q (skp false l) ∧ Rd b s q w' ∧ Fd b w w' := by
  have hlt := h.lt
  have H0 : Hid (MR b s w (skp false) (skp false l) l.length w) := ⟨l, p, rfl, hl, h, rfl, Fd.refl _ _⟩
  generalize skp false l = R at *
  clear h hl
  go_enter Tryd.func13, Tryd.ntmps13
  go_wp2_with (fail)
  go_loopg [12] l.length (fun k c wr => MR b s w (skp false) R k wr)
  case atStart => exact H0.out
  case round =>
    clear H0
    obtain ⟨m, q, rfl, hA, hR, hT, hF⟩ := hrel
    have c0 := hR.c0
    have c1 := hR.c1
    have hz := hR.z
    cases m with
    | nil =>
      obtain rfl := hA.nil
      subst hT
      go_wp2_with (fail)
      go_quiet (fail)
      go_wp2_with (fail)
      go_end0
      exact ⟨rfl, _, hA, hR, hF.drewN _⟩
    | cons c r =>
      obtain ⟨hp, rfl, hA1⟩ := hA.cons
      have hq : (q : Int) < s.size := by omega
      by_cases h1 : s[q] = 59
      · have hT2 : Hid (skp false ((s[q] :: r).dropWhile n10) = R) := hT ▸ (by rw [h1]; exact (skp_59 r).symm)
        clear hT
        have g1 : (s[q].toNat : Int) = 59 := by rw [h1]; rfl
        go_wp2_with (fail)
        go_quiet (fail)
        go_wp2_with (fail)
        go_quiet (fail)
        go_wp2_with (fail)
        refine (skipNote_any b s hs q _ hA _ (Rd.dn hR _)).mono ?_
        rintro e w1 ⟨rfl, q1, hA2, hR2, hf⟩
        go_wp2_with (fail)
        go_roundg ((s[q] :: r).dropWhile n10).length
        case measure => rw [h1, dw_go r (by decide)]; have := dw_len n10 r; simp; omega
        case rel => exact ⟨_, q1, rfl, hA2, hR2, hT2.out, hF.trans (Fd.trans (by repeat (first | exact Fd.refl _ _ | apply Fd.drewN | apply Fd.drew | apply Fd.set)) hf)⟩
      · have g1 : ¬ (s[q].toNat : Int) = 59 := fun e => h1 (UInt8.toNat_inj.1 (by simpa using (by omega : s[q].toNat = 59)))
        by_cases h2 : bl s[q].toNat = true
        · have hT2 : Hid (skp false r = R) := hT ▸ (skp_bl _ r h2).symm
          clear hT
          go_wp2_with (fail)
          go_quiet (fail)
          go_wp2_with (fail)
          go_quiet (fail)
          go_wp2_with (go_at_call 21; refine (blank_any _ _).mono ?_; rw [h2]; rintro e w' ⟨rfl, rfl⟩)
          go_roundg r.length
          case measure => simp
          case rel => exact ⟨r, q + 1, rfl, hA1, hR.set (q + 1), hT2.out, hF.trans (by repeat (first | exact Fd.refl _ _ | apply Fd.drewN | apply Fd.drew | apply Fd.set))⟩
        · have hT2 : s[q] :: r = R := hT ▸ (skp_stop _ r h1 h2).symm
          subst hT2
          clear hT
          have h3 : bl s[q].toNat = false := by simpa using h2
          go_wp2_with (fail)
          go_quiet (fail)
          go_wp2_with (fail)
          go_quiet (fail)
          go_wp2_with (go_at_call 21; refine (blank_any _ _).mono ?_; rw [h3]; rintro e w' ⟨rfl, rfl⟩)
          first | go_end0 | refine bodyPost_ret (results_none rfl _ _ _) rfl ?_
          exact ⟨rfl, _, hA, hR, hF.trans (by repeat (first | exact Fd.refl _ _ | apply Fd.drewN | apply Fd.drew | apply Fd.set))⟩

end Go.Proofs.YtlacjiihbbgbeaaDoor
