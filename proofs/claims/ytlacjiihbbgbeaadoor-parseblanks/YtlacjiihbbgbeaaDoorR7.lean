import Derived.Test.YtlacjiihbbgbeaaDoorR6
import Derived.Lib.ParseIntBMem
namespace Go.Proofs.YtlacjiihbbgbeaaDoor
open Go.RowKit
set_option linter.unusedVariables false
set_option linter.unusedSimpArgs false

theorem val_mono (l : List UInt8) : ∀ acc, acc ≤ val acc l := by
  induction l with
  | nil => intro acc; rw [val_nil]; exact Nat.le_refl _
  | cons c r ih =>
    intro acc
    rw [val_cons]
    generalize c.toNat - 48 = d
    exact Nat.le_trans (by omega) (ih (acc * 10 + d))
theorem parseM2 (M : Nat) (hM : M = 18446744073709551615) (l : List UInt8) (h : l.all dg = true) : ∀ acc, acc ≤ M → (val acc l ≤ M → Lib.parseUintM M acc l = .ok (val acc l)) ∧ (M < val acc l → Lib.parseUintM M acc l = .range) := by
  induction l with
  | nil => 
    intro acc h0
    rw [val_nil]
    exact ⟨fun _ => by rw [Lib.parseUintM], fun h => absurd h0 (Nat.not_le.2 h)⟩
  | cons c r ih =>
    intro acc h0
    simp only [List.all_cons, Bool.and_eq_true] at h
    have hd := h.1
    simp only [dg, Bool.and_eq_true, decide_eq_true_eq] at hd
    have hm := val_mono r (acc * 10 + (c.toNat - 48))
    rw [val_cons, Lib.parseUintM, if_pos hd]
    split
    · exact ⟨fun g => absurd g (by omega), fun _ => rfl⟩
    · split
      · exact ⟨fun g => absurd g (by omega), fun _ => rfl⟩
      · exact ih h.2 _ (by omega)
theorem parseM (l : List UInt8) (h : l.all dg = true) : Lib.parseUintM (2 ^ 64 - 1) 0 l = if val 0 l ≤ 18446744073709551615 then .ok (val 0 l) else .range := by
  obtain ⟨h1, h2⟩ := parseM2 (2 ^ 64 - 1) (by decide) l h 0 (by decide)
  split
  · exact h1 (by omega)
  · exact h2 (by omega)
theorem trim_neg (r : List UInt8) : Lib.trimPrefix (45 :: r) [45] = r := by simp [Lib.trimPrefix, Lib.hasPrefix]
theorem trim_pos {c : UInt8} (r : List UInt8) (h : ¬ c = 45) : Lib.trimPrefix (c :: r) [45] = c :: r := by
  have : ¬ (45 : UInt8) = c := fun e => h e.symm
  simp [Lib.trimPrefix, Lib.hasPrefix, this]
theorem num_nil : num [] = false := by decide
theorem parse_num (l : List UInt8) (h : num l = true) : Lib.parseIntB 64 l = match numv l with | some n => .ok n | none => .range := by
  cases l with
  | nil => rw [num_nil] at h; cases h
  | cons c r =>
    unfold num at h
    simp only [Bool.and_eq_true, Bool.not_eq_true', List.isEmpty_eq_false_iff] at h
    obtain ⟨h1, h2⟩ := h
    by_cases hc : c = 45
    · subst hc
      rw [trim_neg] at h1 h2
      have e : Lib.parseUintB 64 r = if val 0 r ≤ 18446744073709551615 then .ok (val 0 r) else .range := by
        unfold Lib.parseUintB; rw [if_neg h2]; exact parseM r h1
      unfold numv
      rw [trim_neg]
      unfold Lib.parseIntB
      simp only [List.head?_cons, if_true, show (45 : UInt8).toNat = 45 from rfl, or_true, e]
      by_cases g : val 0 r ≤ 18446744073709551615
      · rw [if_pos g]
        by_cases g2 : val 0 r ≤ 9223372036854775808
        · simp [g2]
        · simp [g2]
      · rw [if_neg g, if_neg (by omega)]
    · rw [trim_pos r hc] at h1 h2
      have hd := h1
      simp only [List.all_cons, Bool.and_eq_true] at hd
      have hd := hd.1
      simp only [dg, Bool.and_eq_true, decide_eq_true_eq] at hd
      have e : Lib.parseUintB 64 (c :: r) = if val 0 (c :: r) ≤ 18446744073709551615 then .ok (val 0 (c :: r)) else .range := by
        unfold Lib.parseUintB; rw [if_neg h2]; exact parseM _ h1
      unfold numv
      rw [trim_pos r hc]
      unfold Lib.parseIntB
      have q1 : ¬ c.toNat = 43 := by omega
      have q2 : ¬ c.toNat = 45 := by omega
      simp only [List.head?_cons, Option.some.injEq, hc, q1, q2, or_self, if_false, e]
      by_cases g : val 0 (c :: r) ≤ 18446744073709551615
      · rw [if_pos g]
        by_cases g2 : val 0 (c :: r) < 9223372036854775808
        · simp [g2]
        · simp [g2]
      · rw [if_neg g, if_neg (by omega)]
/-- strconv's ErrRange is an error. -/
def Er (w : World) : Prop := ∃ tp p, w.cell? ⟨4, 0, none⟩ = some (.iface tp p)
theorem Er.lt {w : World} (h : Er w) : 4 < w.heap.size := by obtain ⟨tp, p, h⟩ := h; exact Lib.lt_of_cell h
theorem Er.bw {w w' : World} (h : Er w) (k : BW w w') : Er w' := by
  obtain ⟨tp, p, e⟩ := h; exact ⟨tp, p, (k.cells 4 0 (Lib.lt_of_cell e)).trans e⟩
theorem Er.fd {w w' : World} {b : Nat} (h : Er w) (k : Fd b w w') (hb : 4 < b) : Er w' := by
  obtain ⟨tp, p, e⟩ := h; exact ⟨tp, p, (k.bel.cell (p := ⟨4, 0, none⟩) hb).trans e⟩
theorem bytesW_bw (w : World) (t : ByteArray) : BW w (Lib.bytesWorld w 5 t) := Lib.bytesWorld_below _ _ _
set_option maxRecDepth 100000 in
set_option maxHeartbeats 1000000 in
theorem number_ok (s : ByteArray) (hs : s.size ≤ 100000) (p n : Int) (hn : num s.data.toList = true) (hv : numv s.data.toList = some n) (w : World) :
    Calls Tryd.prog 25 #[.string s, .int .i64 p] w fun e w' => e = .returned (.int .i64 n) ∧ BW w w' := by
  have hp := parse_num _ hn
  rw [hv] at hp
  have hC := fun w => Tryd.strconv_ParseInt_10_at64_ok s (by omega) n hp w
  go_enter Tryd.func25, Tryd.ntmps25
  go_wp2_with (go_at_call 38; refine (hC _).mono ?_; rintro e w' ⟨rfl, hw⟩)
  go_ret
  refine ⟨rfl, ?_⟩
  rcases hw with rfl | ⟨t, rfl⟩
  · exact BW.refl _
  · exact bytesW_bw _ _
set_option maxRecDepth 100000 in
set_option maxHeartbeats 1000000 in
theorem number_no (s : ByteArray) (hs : s.size ≤ 100000) (p : Int) (hn : num s.data.toList = true) (hv : numv s.data.toList = none) (w : World) (hE : Er w) :
    Calls Tryd.prog 25 #[.string s, .int .i64 p] w fun e w' => e = .panicked (misf p) ∧ BW w w' := by
  have hp := parse_num _ hn
  rw [hv] at hp
  obtain ⟨tp, pe, he⟩ := hE
  have hC := Tryd.strconv_ParseInt_10_at64_range s (by omega) hp _ w he (.inr ⟨tp, pe, rfl⟩)
  generalize Lib.intSat 64 s.data.toList = q at hC
  go_enter Tryd.func25, Tryd.ntmps25
  go_wp2_with (go_at_call 38; refine hC.mono ?_; rintro e w' ⟨N, rfl, _, _, hw⟩)
  exact ⟨rfl, rfl, hw⟩
set_option maxRecDepth 100000 in
set_option maxHeartbeats 1000000 in
theorem clone_any (s : ByteArray) (hs : s.size ≤ 100000) (w : World) : Calls Tryd.prog 26 #[.string s] w fun e w' => e = .returned (.string s) ∧ BW w w' := by
  have hC := fun w => Tryd.stringslite_Clone s w (by omega)
  go_enter Tryd.func26, Tryd.ntmps26
  go_wp2_with (go_at_call 39; refine (hC _).mono ?_; rintro e w' ⟨rfl, hw⟩)
  go_ret
  exact ⟨rfl, hw⟩

end Go.Proofs.YtlacjiihbbgbeaaDoor
