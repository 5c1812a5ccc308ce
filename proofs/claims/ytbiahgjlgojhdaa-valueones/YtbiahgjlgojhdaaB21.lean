import Derived.Test.YtbiahgjlgojhdaaB20
namespace Go.Proofs.Ytbiahgjlgojhdaa
open Go.RowKit
set_option linter.unusedVariables false
/-- The document's 'may be'. -/
def mayB (t n : Int) (s : ByteArray) : Bool :=
  if 7 < t then false else if t ≠ 3 ∧ s.toList.isEmpty = false then false else if 65536 < s.size then false
  else if t = 0 ∨ t = 3 then n == 0 else if t = 2 then n == 0 || n == 1 else t == 1 || decide (0 ≤ n)
theorem empty_of {s : ByteArray} (h : s.toList.isEmpty = true) : s = ⟨#[]⟩ := by
  apply toList_inj'
  rw [List.isEmpty_iff] at h
  rw [h, ByteArray.toList_eq]
theorem nilE : (⟨#[]⟩ : ByteArray).toList.isEmpty = true := by rw [ByteArray.toList_eq]; rfl
theorem nilS : (⟨#[]⟩ : ByteArray).size = 0 := rfl
theorem may_any (t n : Int) (s : ByteArray) (t0 : 0 ≤ t) (hs : s.size ≤ maxLen) (w : World) :
    Calls Try.prog 12 #[V t n s] w fun e w' => e = .returned (.bool (mayB t n s)) ∧ BW w w' := by
  by_cases h7 : 7 < t
  · have e : mayB t n s = false := by simp [mayB, h7]
    rw [e]; exact may_big t n s h7 w
  · by_cases h3 : t = 3
    · subst h3
      by_cases hl : 65536 < s.size
      · have e : mayB 3 n s = false := by simp [mayB, hl]
        rw [e]; exact may_long n s hl hs w
      · have e : mayB 3 n s = (n == 0) := by simp [mayB, hl]
        rw [e]; exact may_3 n s (by omega) w
    · cases he : s.toList.isEmpty with
      | false =>
        have e : mayB t n s = false := by simp [mayB, h7, h3, he]
        rw [e]; exact may_str t n s (by omega) (bne_t h3) he w
      | true =>
        obtain rfl := empty_of he
        by_cases h0 : t = 0
        · subst h0
          have e : mayB 0 n ⟨#[]⟩ = (n == 0) := by simp [mayB, nilS]
          rw [e]; exact may_0 n w
        · by_cases h2 : t = 2
          · subst h2
            by_cases hn : n = 0
            · have e : mayB 2 n ⟨#[]⟩ = true := by simp [mayB, nilS, hn]
              rw [e]; exact may_2a n (beq_t hn) w
            · have e : mayB 2 n ⟨#[]⟩ = (n == 1) := by simp [mayB, nilS, hn]
              rw [e]; exact may_2b n (beq_f hn) w
          · by_cases h1 : t = 1
            · subst h1
              have e : mayB 1 n ⟨#[]⟩ = true := by simp [mayB, nilS]
              rw [e]; exact may_1 n w
            · have e : mayB t n ⟨#[]⟩ = decide (0 ≤ n) := by simp [mayB, h7, h3, nilS, h0, h2, h1]
              rw [e]; exact may_4 t n (beq_f h0) (beq_f h1) (beq_f h2) (beq_f h3) (bne_t h3) (by omega) w
/-- What is told where a value may be. -/
theorem may_tells {t n : Int} {s : ByteArray} (h : mayB t n s = true) : t ≤ 7 ∧ s.size ≤ 65536 ∧ (t ≠ 3 → s = ⟨#[]⟩) ∧ (t = 0 ∨ t = 3 → n = 0) ∧ (t = 2 → n = 0 ∨ n = 1) := by
  unfold mayB at h
  by_cases h7 : 7 < t
  · rw [if_pos h7] at h; cases h
  · rw [if_neg h7] at h
    by_cases h3 : t ≠ 3 ∧ s.toList.isEmpty = false
    · rw [if_pos h3] at h; cases h
    · rw [if_neg h3] at h
      by_cases hl : 65536 < s.size
      · rw [if_pos hl] at h; cases h
      · rw [if_neg hl] at h
        refine ⟨by omega, by omega, fun x => ?_, fun x => ?_, fun x => ?_⟩
        · cases he : s.toList.isEmpty with
          | true => exact empty_of he
          | false => exact absurd ⟨x, he⟩ h3
        · rw [if_pos x] at h; simpa using h
        · rw [if_neg (by omega), if_pos x] at h; simpa using h
theorem may_unit : mayB 0 0 ⟨#[]⟩ = true := by simp [mayB, nilS]
theorem may_int (n : Int) : mayB 1 n ⟨#[]⟩ = true := by
  simp [mayB, nilS]
theorem may_bool (b : Bool) : mayB 2 (bN b) ⟨#[]⟩ = true := by cases b <;> simp [mayB, nilS, bN]
theorem may_text (s : ByteArray) (h : s.size ≤ 65536) : mayB 3 0 s = true := by
  have hz : ¬ 65536 < s.size := by omega
  simp [mayB, hz]
/-- At a word and two values the program's answer is the document's, and may be. -/
structure Same (wd : ByteArray) (ta a tb b : Int) (sa sb : ByteArray) (t n x : Int) (s : ByteArray) : Prop where
  val : ∀ w : World, Calls Try.prog 19 #[.string wd, V ta a sa, V tb b sb] w fun e w' => e = .returned (.tuple #[V t n s, .int .i64 x]) ∧ BW w w'
  ref : ∀ w : World, Calls Try.prog 20 #[.string wd, V ta a sa, V tb b sb] w fun e w' => e = .returned (.tuple #[V t n s, .int .i64 x]) ∧ BW w w'
  may : mayB t n s = true
  tag : 0 ≤ t
  siz : s.size ≤ maxLen
theorem nil_siz : (⟨#[]⟩ : ByteArray).size ≤ maxLen := by decide
theorem same_err {wd : ByteArray} {ta a tb b : Int} {sa sb : ByteArray} {x : Int}
    (v : ∀ w : World, Calls Try.prog 19 #[.string wd, V ta a sa, V tb b sb] w fun e w' => e = .returned (.tuple #[V 0 0 ⟨#[]⟩, .int .i64 x]) ∧ BW w w')
    (r : ∀ w : World, Calls Try.prog 20 #[.string wd, V ta a sa, V tb b sb] w fun e w' => e = .returned (.tuple #[V 0 0 ⟨#[]⟩, .int .i64 x]) ∧ BW w w') :
    ∃ t n x s, Same wd ta a tb b sa sb t n x s := ⟨0, 0, x, ⟨#[]⟩, v, r, may_unit, by decide, nil_siz⟩
theorem same_bool {wd : ByteArray} {ta a tb b : Int} {sa sb : ByteArray} {c : Bool}
    (v : ∀ w : World, Calls Try.prog 19 #[.string wd, V ta a sa, V tb b sb] w fun e w' => e = .returned (.tuple #[V 2 (bN c) ⟨#[]⟩, .int .i64 0]) ∧ BW w w')
    (r : ∀ w : World, Calls Try.prog 20 #[.string wd, V ta a sa, V tb b sb] w fun e w' => e = .returned (.tuple #[V 2 (bN c) ⟨#[]⟩, .int .i64 0]) ∧ BW w w') :
    ∃ t n x s, Same wd ta a tb b sa sb t n x s := ⟨2, bN c, 0, ⟨#[]⟩, v, r, may_bool c, by decide, nil_siz⟩
theorem tag1_all (m : Nat) (hm : m < 11) (ta a tb b : Int) (sa sb : ByteArray) (h : (ta != 1) = true) (w : World) :
    Calls Try.prog 19 #[.string (elevenL[m]'hm), V ta a sa, V tb b sb] w fun e w' => e = .returned (.tuple #[V 0 0 ⟨#[]⟩, .int .i64 2]) ∧ BW w w' := by
  obtain rfl | rfl | rfl | rfl | rfl | rfl | rfl | rfl | rfl | rfl | rfl : m = 0 ∨ m = 1 ∨ m = 2 ∨ m = 3 ∨ m = 4 ∨ m = 5 ∨ m = 6 ∨ m = 7 ∨ m = 8 ∨ m = 9 ∨ m = 10 := by omega
  · exact two_add_tag1 ta a tb b sa sb h w
  · exact two_sub_tag1 ta a tb b sa sb h w
  · exact two_mul_tag1 ta a tb b sa sb h w
  · exact two_quo_tag1 ta a tb b sa sb h w
  · exact two_rem_tag1 ta a tb b sa sb h w
  · exact two_and_tag1 ta a tb b sa sb h w
  · exact two_or_tag1 ta a tb b sa sb h w
  · exact two_xor_tag1 ta a tb b sa sb h w
  · exact two_shl_tag1 ta a tb b sa sb h w
  · exact two_shr_tag1 ta a tb b sa sb h w
  · exact two_ushr_tag1 ta a tb b sa sb h w
theorem tag2_all (m : Nat) (hm : m < 11) (ta a tb b : Int) (sa sb : ByteArray) (h : (ta != 1) = false) (h' : (tb != 1) = true) (w : World) :
    Calls Try.prog 19 #[.string (elevenL[m]'hm), V ta a sa, V tb b sb] w fun e w' => e = .returned (.tuple #[V 0 0 ⟨#[]⟩, .int .i64 2]) ∧ BW w w' := by
  obtain rfl | rfl | rfl | rfl | rfl | rfl | rfl | rfl | rfl | rfl | rfl : m = 0 ∨ m = 1 ∨ m = 2 ∨ m = 3 ∨ m = 4 ∨ m = 5 ∨ m = 6 ∨ m = 7 ∨ m = 8 ∨ m = 9 ∨ m = 10 := by omega
  · exact two_add_tag2 ta a tb b sa sb h h' w
  · exact two_sub_tag2 ta a tb b sa sb h h' w
  · exact two_mul_tag2 ta a tb b sa sb h h' w
  · exact two_quo_tag2 ta a tb b sa sb h h' w
  · exact two_rem_tag2 ta a tb b sa sb h h' w
  · exact two_and_tag2 ta a tb b sa sb h h' w
  · exact two_or_tag2 ta a tb b sa sb h h' w
  · exact two_xor_tag2 ta a tb b sa sb h h' w
  · exact two_shl_tag2 ta a tb b sa sb h h' w
  · exact two_shr_tag2 ta a tb b sa sb h h' w
  · exact two_ushr_tag2 ta a tb b sa sb h h' w
theorem same_eleven (m : Nat) (hm : m < 11) (ta a tb b : Int) (sa sb : ByteArray) (ha : InR a) (hb : InR b) :
    ∃ t n x s, Same (elevenL[m]'hm) ta a tb b sa sb t n x s := by
  by_cases h : ta = 1
  · by_cases h' : tb = 1
    · subst h h'
      obtain ⟨t, n, x, hp⟩ := pair_all m hm a b ha hb
      refine ⟨t, n, x, ⟨#[]⟩, hp.val sa sb, fun w => two20 _ m hm rfl a b t n x sa sb hp w, ?_, ?_, nil_siz⟩
      · rcases hp.ok with ⟨_, rfl, _⟩ | ⟨_, rfl, rfl, _⟩
        · exact may_int n
        · exact may_unit
      · rcases hp.ok with ⟨_, rfl, _⟩ | ⟨_, rfl, rfl, _⟩ <;> decide
    · exact same_err (fun w => tag2_all m hm ta a tb b sa sb (bne_f h) (bne_t h') w) (fun w => r20_tag2 _ m hm rfl ta a tb b sa sb (beq_t h) (beq_f h') w)
  · exact same_err (fun w => tag1_all m hm ta a tb b sa sb (bne_t h) w) (fun w => r20_tag1 _ m hm rfl ta a tb b sa sb (beq_f h) w)
theorem same_lt (ta a tb b : Int) (sa sb : ByteArray) : ∃ t n x s, Same ⟨#[60]⟩ ta a tb b sa sb t n x s := by
  by_cases h : ta = 1
  · by_cases h' : tb = 1
    · subst h h'
      exact same_bool (fun w => two_lt (fun w => below_int a b sa sb w) w) (fun w => r20_lt_int a b sa sb w)
    · exact same_err (fun w => two_lt (fun w => below_no2 ta a tb b sa sb (beq_t h) (beq_f h') (beq_f (by omega)) w) w) (fun w => r20_lt_no2 ta a tb b sa sb (beq_t h) (beq_f h') (bne_t (by omega)) w)
  · by_cases h3 : ta = 3
    · by_cases h' : tb = 3
      · subst h3 h'
        exact same_bool (fun w => two_lt (fun w => below_str a b sa sb w) w) (fun w => r20_lt_str a b sa sb w)
      · exact same_err (fun w => two_lt (fun w => below_no3 ta a tb b sa sb (beq_t h3) (beq_f h') (beq_f h) w) w) (fun w => r20_lt_no3 ta a tb b sa sb (beq_f h) (bne_f h3) (bne_t h') w)
    · exact same_err (fun w => two_lt (fun w => below_no1 ta a tb b sa sb (beq_f h) (beq_f h3) w) w) (fun w => r20_lt_no1 ta a tb b sa sb (beq_f h) (bne_t h3) w)
theorem same_eq (ta a tb b : Int) (sa sb : ByteArray) : ∃ t n x s, Same ⟨#[61]⟩ ta a tb b sa sb t n x s := by
  by_cases h : ta = tb
  · subst h
    by_cases h3 : ta ≤ 3
    · by_cases hab : a = b
      · subst hab
        by_cases hs : sa = sb
        · subst hs
          exact same_bool (fun w => two_eq (fun w => same_yes ta a sa h3 w) w) (fun w => r20_eq_yes ta a sa h3 w)
        · have hs' := toList_ne hs
          exact same_bool (fun w => two_eq (fun w => same_not2 ta a sa sb h3 hs' w) w) (fun w => r20_eq_not2 ta a sa sb h3 (by simpa using hs') w)
      · exact same_bool (fun w => two_eq (fun w => same_not1 ta a b sa sb h3 hab w) w) (fun w => r20_eq_not1 ta a b sa sb h3 (beq_f hab) w)
    · exact same_err (fun w => two_eq (fun w => same_no2 ta a b sa sb (by omega) w) w) (fun w => r20_eq_no2 ta a b sa sb (by omega) w)
  · by_cases h1 : ta = 1
    · exact same_err (fun w => two_eq (fun w => same_no1 ta a tb b sa sb (bne_t h) w) w) (fun w => r20_eq_no1b ta a tb b sa sb (bne_t h) (beq_t h1) (beq_f (by omega)) w)
    · exact same_err (fun w => two_eq (fun w => same_no1 ta a tb b sa sb (bne_t h) w) w) (fun w => r20_eq_no1a ta a tb b sa sb (bne_t h) (beq_f h1) w)
theorem same_cat (ta a tb b : Int) (sa sb : ByteArray) (ha : sa.size ≤ 65536) (hb : sb.size ≤ 65536) : ∃ t n x s, Same ⟨#[99, 97, 116]⟩ ta a tb b sa sb t n x s := by
  by_cases h : ta = 3
  · by_cases h' : tb = 3
    · subst h h'
      by_cases hl : sa.size + sb.size ≤ 65536
      · have hz : (sa ++ sb).size ≤ 65536 := by rw [ByteArray.size_append]; exact hl
        exact ⟨3, 0, 0, sa ++ sb, fun w => two_cat (fun w => joined_ok a b sa sb ha hb hl w) w, fun w => r20_cat_ok a b sa sb ha hb hl w, may_text _ hz, by decide, by unfold maxLen; omega⟩
      · exact same_err (fun w => two_cat (fun w => joined_no3 a b sa sb ha hb (by omega) w) w) (fun w => r20_cat_no3 a b sa sb ha hb (by omega) w)
    · exact same_err (fun w => two_cat (fun w => joined_no2 ta a tb b sa sb (bne_f h) (bne_t h') w) w) (fun w => r20_cat_no2 ta a tb b sa sb (bne_f h) (bne_t h') w)
  · exact same_err (fun w => two_cat (fun w => joined_no1 ta a tb b sa sb (bne_t h) w) w) (fun w => r20_cat_no1 ta a tb b sa sb (bne_t h) w)
theorem same_at (ta a tb b : Int) (sa sb : ByteArray) (ha : sa.size ≤ 65536) : ∃ t n x s, Same ⟨#[97, 116]⟩ ta a tb b sa sb t n x s := by
  by_cases h : ta = 3
  · by_cases h' : tb = 1
    · subst h h'
      by_cases h0 : b < 0
      · exact same_err (fun w => two_at (fun w => byteAt_no3 a b sa sb h0 w) w) (fun w => r20_at_no3 a b sa sb h0 w)
      · obtain ⟨k, rfl⟩ := Int.eq_ofNat_of_zero_le (show 0 ≤ b by omega)
        by_cases hk : k < sa.size
        · exact ⟨1, _, 0, ⟨#[]⟩, fun w => two_at (fun w => byteAt_ok a k sa sb ha hk w) w, fun w => r20_at_ok a k sa sb ha hk w, may_int _, by decide, nil_siz⟩
        · exact same_err (fun w => two_at (fun w => byteAt_no4 a k sa sb ha (by omega) (by omega) w) w) (fun w => r20_at_no4 a k sa sb ha (by omega) (by omega) w)
    · exact same_err (fun w => two_at (fun w => byteAt_no2 ta a tb b sa sb (bne_f h) (bne_t h') w) w) (fun w => r20_at_no2 ta a tb b sa sb (bne_f h) (bne_t h') w)
  · exact same_err (fun w => two_at (fun w => byteAt_no1 ta a tb b sa sb (bne_t h) w) w) (fun w => r20_at_no1 ta a tb b sa sb (bne_t h) w)
theorem neq_list {wd : ByteArray} {l : List UInt8} (h : ¬ wd = ⟨l.toArray⟩) : (wd.toList == l) = false := by
  rw [beq_eq_false_iff_ne]
  intro e
  apply h
  apply toList_inj'
  rw [e, ByteArray.toList_eq]
theorem not11_of {wd : ByteArray} (h0 : (wd.toList == [43]) = false) (h1 : (wd.toList == [45]) = false) (h2 : (wd.toList == [42]) = false) (h3 : (wd.toList == [47]) = false) (h4 : (wd.toList == [37]) = false) (h5 : (wd.toList == [97, 110, 100]) = false) (h6 : (wd.toList == [111, 114]) = false) (h7 : (wd.toList == [120, 111, 114]) = false) (h8 : (wd.toList == [115, 104, 108]) = false) (h9 : (wd.toList == [115, 104, 114]) = false) (h10 : (wd.toList == [117, 115, 104, 114]) = false) : Not11 wd := by
  intro i hi
  have hi' : i < 11 := hi
  obtain rfl | rfl | rfl | rfl | rfl | rfl | rfl | rfl | rfl | rfl | rfl : i = 0 ∨ i = 1 ∨ i = 2 ∨ i = 3 ∨ i = 4 ∨ i = 5 ∨ i = 6 ∨ i = 7 ∨ i = 8 ∨ i = 9 ∨ i = 10 := by omega
  · rw [beq_eq_false_iff_ne] at h0 ⊢; exact fun e => h0 (e.symm.trans (ByteArray.toList_eq _))
  · rw [beq_eq_false_iff_ne] at h1 ⊢; exact fun e => h1 (e.symm.trans (ByteArray.toList_eq _))
  · rw [beq_eq_false_iff_ne] at h2 ⊢; exact fun e => h2 (e.symm.trans (ByteArray.toList_eq _))
  · rw [beq_eq_false_iff_ne] at h3 ⊢; exact fun e => h3 (e.symm.trans (ByteArray.toList_eq _))
  · rw [beq_eq_false_iff_ne] at h4 ⊢; exact fun e => h4 (e.symm.trans (ByteArray.toList_eq _))
  · rw [beq_eq_false_iff_ne] at h5 ⊢; exact fun e => h5 (e.symm.trans (ByteArray.toList_eq _))
  · rw [beq_eq_false_iff_ne] at h6 ⊢; exact fun e => h6 (e.symm.trans (ByteArray.toList_eq _))
  · rw [beq_eq_false_iff_ne] at h7 ⊢; exact fun e => h7 (e.symm.trans (ByteArray.toList_eq _))
  · rw [beq_eq_false_iff_ne] at h8 ⊢; exact fun e => h8 (e.symm.trans (ByteArray.toList_eq _))
  · rw [beq_eq_false_iff_ne] at h9 ⊢; exact fun e => h9 (e.symm.trans (ByteArray.toList_eq _))
  · rw [beq_eq_false_iff_ne] at h10 ⊢; exact fun e => h10 (e.symm.trans (ByteArray.toList_eq _))
theorem same_all (wd : ByteArray) (ta a tb b : Int) (sa sb : ByteArray) (ra : InR a) (rb : InR b) (ha : sa.size ≤ 65536) (hb : sb.size ≤ 65536) : ∃ t n x s, Same wd ta a tb b sa sb t n x s := by
  by_cases h0 : wd = ⟨#[43]⟩
  · subst h0; exact same_eleven 0 (by decide) ta a tb b sa sb ra rb
  by_cases h1 : wd = ⟨#[45]⟩
  · subst h1; exact same_eleven 1 (by decide) ta a tb b sa sb ra rb
  by_cases h2 : wd = ⟨#[42]⟩
  · subst h2; exact same_eleven 2 (by decide) ta a tb b sa sb ra rb
  by_cases h3 : wd = ⟨#[47]⟩
  · subst h3; exact same_eleven 3 (by decide) ta a tb b sa sb ra rb
  by_cases h4 : wd = ⟨#[37]⟩
  · subst h4; exact same_eleven 4 (by decide) ta a tb b sa sb ra rb
  by_cases h5 : wd = ⟨#[97, 110, 100]⟩
  · subst h5; exact same_eleven 5 (by decide) ta a tb b sa sb ra rb
  by_cases h6 : wd = ⟨#[111, 114]⟩
  · subst h6; exact same_eleven 6 (by decide) ta a tb b sa sb ra rb
  by_cases h7 : wd = ⟨#[120, 111, 114]⟩
  · subst h7; exact same_eleven 7 (by decide) ta a tb b sa sb ra rb
  by_cases h8 : wd = ⟨#[115, 104, 108]⟩
  · subst h8; exact same_eleven 8 (by decide) ta a tb b sa sb ra rb
  by_cases h9 : wd = ⟨#[115, 104, 114]⟩
  · subst h9; exact same_eleven 9 (by decide) ta a tb b sa sb ra rb
  by_cases h10 : wd = ⟨#[117, 115, 104, 114]⟩
  · subst h10; exact same_eleven 10 (by decide) ta a tb b sa sb ra rb
  by_cases h11 : wd = ⟨#[60]⟩
  · subst h11; exact same_lt ta a tb b sa sb
  by_cases h12 : wd = ⟨#[61]⟩
  · subst h12; exact same_eq ta a tb b sa sb
  by_cases h13 : wd = ⟨#[99, 97, 116]⟩
  · subst h13; exact same_cat ta a tb b sa sb ha hb
  by_cases h14 : wd = ⟨#[97, 116]⟩
  · subst h14; exact same_at ta a tb b sa sb ha
  have n0 : (wd.toList == [43]) = false := neq_list h0
  have n1 : (wd.toList == [45]) = false := neq_list h1
  have n2 : (wd.toList == [42]) = false := neq_list h2
  have n3 : (wd.toList == [47]) = false := neq_list h3
  have n4 : (wd.toList == [37]) = false := neq_list h4
  have n5 : (wd.toList == [97, 110, 100]) = false := neq_list h5
  have n6 : (wd.toList == [111, 114]) = false := neq_list h6
  have n7 : (wd.toList == [120, 111, 114]) = false := neq_list h7
  have n8 : (wd.toList == [115, 104, 108]) = false := neq_list h8
  have n9 : (wd.toList == [115, 104, 114]) = false := neq_list h9
  have n10 : (wd.toList == [117, 115, 104, 114]) = false := neq_list h10
  have n11 : (wd.toList == [60]) = false := neq_list h11
  have n12 : (wd.toList == [61]) = false := neq_list h12
  have n13 : (wd.toList == [99, 97, 116]) = false := neq_list h13
  have n14 : (wd.toList == [97, 116]) = false := neq_list h14
  exact same_err (fun w => two_none wd n0 n1 n2 n3 n4 n5 n6 n7 n8 n9 n10 n11 n12 n13 n14 ta a tb b sa sb w) (fun w => r20_none wd (not11_of n0 n1 n2 n3 n4 n5 n6 n7 n8 n9 n10) n11 n12 n13 n14 ta a tb b sa sb w)
end Go.Proofs.Ytbiahgjlgojhdaa
