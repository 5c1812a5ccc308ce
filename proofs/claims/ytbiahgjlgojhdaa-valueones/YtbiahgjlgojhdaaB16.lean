import Derived.Test.YtbiahgjlgojhdaaM4
import Derived.Test.YtbiahgjlgojhdaaB14
import Derived.Test.YtbiahgjlgojhdaaB15
namespace Go.Proofs.Ytbiahgjlgojhdaa
open Go.RowKit
set_option linter.unusedVariables false
/-- At a word and two numbers the program's answer is the document's. -/
structure Pair (wd : ByteArray) (a b t n x : Int) : Prop where
  val : ∀ (sa sb : ByteArray) (w : World), Calls Try.prog 19 #[.string wd, V 1 a sa, V 1 b sb] w fun e w' => e = .returned (.tuple #[V t n ⟨#[]⟩, .int .i64 x]) ∧ BW w w'
  ref : ∀ w : World, Calls Try.prog 39 #[.string wd, .int .i64 a, .int .i64 b] w fun e w' => e = .returned (.tuple #[V t n ⟨#[]⟩, .int .i64 x]) ∧ BW w w'
  ok : (x = 0 ∧ t = 1 ∧ InR n) ∨ ((x == 0) = false ∧ t = 0 ∧ n = 0 ∧ 0 < x ∧ x ≤ 5)
theorem beq_f {a b : Int} (h : a ≠ b) : (a == b) = false := beq_eq_false_iff_ne.2 h
theorem bne_t {a b : Int} (h : a ≠ b) : (a != b) = true := bne_iff_ne.2 h
theorem beq_t {a b : Int} (h : a = b) : (a == b) = true := beq_iff_eq.2 h
theorem bne_f {a b : Int} (h : a = b) : (a != b) = false := by subst h; simp
theorem err_ok (x : Int) (h0 : 0 < x) (h1 : x ≤ 5) : (x = 0 ∧ (0 : Int) = 1 ∧ InR 0) ∨ ((x == 0) = false ∧ (0 : Int) = 0 ∧ (0 : Int) = 0 ∧ 0 < x ∧ x ≤ 5) := .inr ⟨beq_f (by omega), rfl, rfl, h0, h1⟩
theorem add_in {a b : Int} (ha : InR a) (hb : InR b) (h : InR (a + b)) : Pair ⟨#[43]⟩ a b 1 (a + b) 0 := by
  refine ⟨fun sa sb w => two_add sa sb (reck_add fun w => ?_) w, fun w => ?_, .inl ⟨rfl, rfl, h⟩⟩
  · have := sum_ok a b (sum_in a b ha hb h) w
    rwa [wrap_in h] at this
  · unfold InR at ha hb h
    by_cases p : 0 < b
    · exact ints_add_p a b ha.1 ha.2 hb.1 hb.2 p (by omega) w
    · by_cases q : b < 0
      · exact ints_add_n a b ha.1 ha.2 hb.1 hb.2 q (by omega) w
      · exact ints_add_z a b ha.1 ha.2 hb.1 hb.2 p q w
theorem add_out {a b : Int} (ha : InR a) (hb : InR b) (h : ¬ InR (a + b)) : Pair ⟨#[43]⟩ a b 0 0 3 := by
  refine ⟨fun sa sb w => two_add_err sa sb (reck_add fun w => sum_no a b (sum_out a b ha hb h) w) (by decide) w, fun w => ?_, err_ok 3 (by decide) (by decide)⟩
  unfold InR at ha hb h
  by_cases p : 0 < b
  · exact ints_add_po a b ha.1 ha.2 hb.1 hb.2 p (by omega) w
  · exact ints_add_no a b ha.1 ha.2 hb.1 hb.2 (by omega) (by omega) w
theorem sub_in {a b : Int} (ha : InR a) (hb : InR b) (h : InR (a - b)) : Pair ⟨#[45]⟩ a b 1 (a - b) 0 := by
  refine ⟨fun sa sb w => two_sub sa sb (reck_sub fun w => ?_) w, fun w => ?_, .inl ⟨rfl, rfl, h⟩⟩
  · have := diff_ok a b (diff_in a b ha hb h) w
    rwa [wrap_in h] at this
  · unfold InR at ha hb h
    by_cases p : 0 < b
    · exact ints_sub_p a b ha.1 ha.2 hb.1 hb.2 p (by omega) w
    · by_cases q : b < 0
      · exact ints_sub_n a b ha.1 ha.2 hb.1 hb.2 q (by omega) w
      · exact ints_sub_z a b ha.1 ha.2 hb.1 hb.2 p q w
theorem sub_out {a b : Int} (ha : InR a) (hb : InR b) (h : ¬ InR (a - b)) : Pair ⟨#[45]⟩ a b 0 0 3 := by
  refine ⟨fun sa sb w => two_sub_err sa sb (reck_sub fun w => diff_no a b (diff_out a b ha hb h) w) (by decide) w, fun w => ?_, err_ok 3 (by decide) (by decide)⟩
  unfold InR at ha hb h
  by_cases p : 0 < b
  · exact ints_sub_po a b ha.1 ha.2 hb.1 hb.2 p (by omega) w
  · exact ints_sub_no a b ha.1 ha.2 hb.1 hb.2 (by omega) (by omega) w
theorem prodv_in {a b : Int} (ha : InR a) (hb : InR b) (h : InR (a * b)) : Two2 44 a b (a * b) 0 := by
  intro w
  by_cases z : a = 0
  · subst z; rw [Int.zero_mul]; exact prod_zero b w
  · by_cases m : a = -1
    · have e := prod_ok1 a b (beq_f z) z (prod_yes a b z hb h) (beq_t m) (by subst m; exact neg_in b h) w
      rwa [wrap_in h] at e
    · have e := prod_ok a b (beq_f z) z (prod_yes a b z hb h) (beq_f m) w
      rwa [wrap_in h] at e
theorem prodv_out {a b : Int} (ha : InR a) (hb : InR b) (h : ¬ InR (a * b)) : Two2 44 a b 0 3 := by
  intro w
  have z : a ≠ 0 := fun x => h (by subst x; rw [Int.zero_mul]; exact ⟨by decide, by decide⟩)
  by_cases m : a = -1
  · have bl : b = -9223372036854775808 := by subst m; exact neg_not b hb h
    have : (wrap64 ((wrap64 (a * b)).tdiv a) != b) = false := by subst m bl; decide +kernel
    exact prod_no1 a b (beq_f z) z this (beq_t m) (beq_t bl) w
  · exact prod_no a b (beq_f z) z (prod_not a b z ha hb h m) w
theorem mul_in {a b : Int} (ha : InR a) (hb : InR b) (h : InR (a * b)) : Pair ⟨#[42]⟩ a b 1 (a * b) 0 := by
  refine ⟨fun sa sb w => two_mul sa sb (reck_mul (prodv_in ha hb h)) w, fun w => ?_, .inl ⟨rfl, rfl, h⟩⟩
  have hw := wrap_in h
  by_cases az : a = 0
  · subst az; rw [Int.zero_mul]; exact ints_mul_z1 b hb.1 hb.2 w
  · by_cases bz : b = 0
    · subst bz; rw [Int.mul_zero]; exact ints_mul_z2 a ha.1 ha.2 (beq_f az) w
    · by_cases al : a = -9223372036854775808
      · have b1 : b = 1 := by subst al; unfold InR at h; omega
        have e := ints_mul_l3 a b ha.1 ha.2 hb.1 hb.2 (beq_f az) (beq_f bz) (beq_f (by omega)) (bne_t (by omega)) (beq_f (by omega)) (bne_t (by omega)) (beq_t al) (bne_f al) (beq_t b1) (bne_f b1) (beq_f (by omega)) (bne_t (by omega)) w
        rwa [hw] at e
      · by_cases bl : b = -9223372036854775808
        · have a1 : a = 1 := by subst bl; unfold InR at h; omega
          have e := ints_mul_l5 a b ha.1 ha.2 hb.1 hb.2 (beq_f az) (beq_f bz) (beq_f (by omega)) (bne_t (by omega)) (beq_f (by omega)) (bne_t (by omega)) (beq_f al) (bne_t al) (beq_t a1) (bne_f a1) (beq_t bl) (bne_f bl) w
          rwa [hw] at e
        · have hd : (wrap64 ((wrap64 (a * b)).tdiv b) != a) = false := by
            rw [Int.mul_comm]; exact prod_yes b a bz ha (by rw [Int.mul_comm]; exact h)
          by_cases am : a = -1
          · by_cases bm : b = -1
            · have e := ints_mul_ok_ab a b ha.1 ha.2 hb.1 hb.2 (beq_f az) (beq_f bz) (beq_f al) (bne_t al) (beq_f bl) (bne_t bl) (beq_t am) (bne_f am) (beq_t bm) (bne_f bm) bz hd w
              rwa [hw] at e
            · have e := ints_mul_ok_am a b ha.1 ha.2 hb.1 hb.2 (beq_f az) (beq_f bz) (beq_f al) (bne_t al) (beq_f bl) (bne_t bl) (beq_t am) (bne_f am) (beq_f bm) (bne_t bm) bz hd w
              rwa [hw] at e
          · by_cases bm : b = -1
            · have e := ints_mul_ok_bm a b ha.1 ha.2 hb.1 hb.2 (beq_f az) (beq_f bz) (beq_f al) (bne_t al) (beq_f bl) (bne_t bl) (beq_f am) (bne_t am) (beq_t bm) (bne_f bm) bz hd w
              rwa [hw] at e
            · have e := ints_mul_ok a b ha.1 ha.2 hb.1 hb.2 (beq_f az) (beq_f bz) (beq_f al) (bne_t al) (beq_f bl) (bne_t bl) (beq_f am) (bne_t am) (beq_f bm) (bne_t bm) bz hd w
              rwa [hw] at e
theorem mul_out {a b : Int} (ha : InR a) (hb : InR b) (h : ¬ InR (a * b)) : Pair ⟨#[42]⟩ a b 0 0 3 := by
  refine ⟨fun sa sb w => two_mul_err sa sb (reck_mul (prodv_out ha hb h)) (by decide) w, fun w => ?_, err_ok 3 (by decide) (by decide)⟩
  have az : a ≠ 0 := fun x => h (by subst x; rw [Int.zero_mul]; exact ⟨by decide, by decide⟩)
  have bz : b ≠ 0 := fun x => h (by subst x; rw [Int.mul_zero]; exact ⟨by decide, by decide⟩)
  have a1 : a ≠ 1 := fun x => h (by subst x; rw [Int.one_mul]; exact hb)
  have b1 : b ≠ 1 := fun x => h (by subst x; rw [Int.mul_one]; exact ha)
  by_cases al : a = -9223372036854775808
  · by_cases bm : b = -1
    · exact ints_mul_l2 a b ha.1 ha.2 hb.1 hb.2 (beq_f az) (beq_f bz) (beq_f (by omega)) (bne_t (by omega)) (beq_t bm) (bne_f bm) (beq_t al) (bne_f al) w
    · exact ints_mul_l4 a b ha.1 ha.2 hb.1 hb.2 (beq_f az) (beq_f bz) (beq_f (by omega)) (bne_t (by omega)) (beq_f bm) (bne_t bm) (beq_t al) (bne_f al) (beq_f b1) (bne_t b1) w
  · by_cases bl : b = -9223372036854775808
    · by_cases am : a = -1
      · exact ints_mul_l1 a b ha.1 ha.2 hb.1 hb.2 (beq_f az) (beq_f bz) (beq_t am) (bne_f am) (beq_t bl) (bne_f bl) w
      · exact ints_mul_l6 a b ha.1 ha.2 hb.1 hb.2 (beq_f az) (beq_f bz) (beq_f am) (bne_t am) (beq_f (by omega)) (bne_t (by omega)) (beq_f al) (bne_t al) (beq_f a1) (bne_t a1) (beq_t bl) (bne_f bl) w
    · have bm : b ≠ -1 := fun x => h (by subst x; unfold InR at *; omega)
      have am : a ≠ -1 := fun x => h (by subst x; unfold InR at *; omega)
      have hd : (wrap64 ((wrap64 (a * b)).tdiv b) != a) = true := by
        rw [Int.mul_comm]; exact prod_not b a bz hb ha (by rw [Int.mul_comm]; exact h) bm
      exact ints_mul_no a b ha.1 ha.2 hb.1 hb.2 (beq_f az) (beq_f bz) (beq_f al) (bne_t al) (beq_f bl) (bne_t bl) (beq_f am) (bne_t am) (beq_f bm) (bne_t bm) bz hd w
theorem quo_zero (a : Int) (ha : InR a) : Pair ⟨#[47]⟩ a 0 0 0 4 :=
  ⟨fun sa sb w => two_quo_err sa sb (reck_quo fun w => quot_zero a w) (by decide) w, fun w => ints_quo_z a ha.1 ha.2 w, err_ok 4 (by decide) (by decide)⟩
theorem quo_over (a b : Int) (ha : InR a) (hb : InR b) (al : a = -9223372036854775808) (bm : b = -1) : Pair ⟨#[47]⟩ a b 0 0 3 :=
  ⟨fun sa sb w => two_quo_err sa sb (reck_quo fun w => quot_no a b (beq_f (by omega)) (by omega) (beq_t al) (beq_t bm) w) (by decide) w,
   fun w => ints_quo_no a b ha.1 ha.2 hb.1 hb.2 (beq_f (by omega)) (by omega) (beq_t bm) (bne_f bm) (beq_t al) (bne_f al) w, err_ok 3 (by decide) (by decide)⟩
theorem quo_in (a b : Int) (ha : InR a) (hb : InR b) (bz : b ≠ 0) (h : ¬ (a = -9223372036854775808 ∧ b = -1)) : Pair ⟨#[47]⟩ a b 1 (a.tdiv b) 0 := by
  have hr := tdiv_rng a b ha h
  have hw := wrap_in hr
  refine ⟨fun sa sb w => two_quo sa sb (reck_quo fun w => ?_) w, fun w => ?_, .inl ⟨rfl, rfl, hr⟩⟩
  · by_cases al : a = -9223372036854775808
    · have e := quot_ok1 a b (beq_f bz) bz (beq_t al) (beq_f fun x => h ⟨al, x⟩) w
      rwa [hw] at e
    · have e := quot_ok a b (beq_f bz) bz (beq_f al) w
      rwa [hw] at e
  · by_cases bm : b = -1
    · have al : a ≠ -9223372036854775808 := fun x => h ⟨x, bm⟩
      have e := ints_quo_ok1 a b ha.1 ha.2 hb.1 hb.2 (beq_f bz) bz (beq_t bm) (bne_f bm) (beq_f al) (bne_t al) w
      rwa [hw] at e
    · have e := ints_quo_ok a b ha.1 ha.2 hb.1 hb.2 (beq_f bz) bz (beq_f bm) (bne_t bm) w
      rwa [hw] at e
theorem rem_none (a : Int) (ha : InR a) : Pair ⟨#[37]⟩ a 0 0 0 4 :=
  ⟨fun sa sb w => two_rem_err sa sb (reck_rem fun w => rem_zero a w) (by decide) w, fun w => ints_rem_z a ha.1 ha.2 w, err_ok 4 (by decide) (by decide)⟩
theorem tmod_in (a b : Int) (ha : InR a) (hb : InR b) (bz : b ≠ 0) : InR (a.tmod b) := by
  have := tmod_lt a b bz hb
  unfold InR; omega
theorem rem_in (a b : Int) (ha : InR a) (hb : InR b) (bz : b ≠ 0) : Pair ⟨#[37]⟩ a b 1 (a.tmod b) 0 := by
  refine ⟨fun sa sb w => two_rem sa sb (reck_rem fun w => rem_ok a b (beq_f bz) bz w) w, fun w => ?_, .inl ⟨rfl, rfl, tmod_in a b ha hb bz⟩⟩
  by_cases bm : b = -1
  · have e := ints_rem_m a b ha.1 ha.2 hb.1 hb.2 (beq_f bz) (beq_t bm) (bne_f bm) w
    subst bm
    rw [rem_m1]
    exact e
  · have e := ints_rem_ok a b ha.1 ha.2 hb.1 hb.2 (beq_f bz) bz (beq_f bm) (bne_t bm) w
    rwa [rem_eq a b ha hb bm] at e
theorem and_in (a b : Int) (ha : InR a) (hb : InR b) : Pair ⟨#[97, 110, 100]⟩ a b 1 (bits .and .i64 a b) 0 :=
  ⟨fun sa sb w => two_and sa sb (reck_and a b) w, fun w => ints_and a b ha.1 ha.2 hb.1 hb.2 w, .inl ⟨rfl, rfl, bits_rng _ _ _⟩⟩
theorem or_in (a b : Int) (ha : InR a) (hb : InR b) : Pair ⟨#[111, 114]⟩ a b 1 (bits .or .i64 a b) 0 :=
  ⟨fun sa sb w => two_or sa sb (reck_or a b) w, fun w => ints_or a b ha.1 ha.2 hb.1 hb.2 w, .inl ⟨rfl, rfl, bits_rng _ _ _⟩⟩
theorem xor_in (a b : Int) (ha : InR a) (hb : InR b) : Pair ⟨#[120, 111, 114]⟩ a b 1 (bits .xor .i64 a b) 0 :=
  ⟨fun sa sb w => two_xor sa sb (reck_xor a b) w, fun w => ints_xor a b ha.1 ha.2 hb.1 hb.2 w, .inl ⟨rfl, rfl, bits_rng _ _ _⟩⟩
theorem shr_rng (a : Int) (ha : InR a) (n : Nat) : InR (a / 2 ^ n) := by
  have hp : (0 : Int) < 2 ^ n := Int.pow_pos (by decide)
  unfold InR at *
  refine ⟨Int.le_ediv_of_mul_le hp (by generalize (2 : Int) ^ n = p at hp; omega), ?_⟩
  exact Int.le_trans (Int.ediv_le_ediv hp ha.2) (Int.ediv_le_self _ (by decide))
theorem shl_in (a : Int) (n : Nat) (ha : InR a) (hn : n ≤ 63) : Pair ⟨#[115, 104, 108]⟩ a (n : Int) 1 (wrap64 (a * 2 ^ n)) 0 := by
  refine ⟨fun sa sb w => two_shl sa sb ?_ w, fun w => ints_shl a n hn ha.1 ha.2 w, .inl ⟨rfl, rfl, wrap_inR _⟩⟩
  have h := shl_ok a (n : Int) (by omega) (by omega)
  rwa [Int.toNat_natCast] at h
theorem shl_out (a b : Int) (ha : InR a) (hb : InR b) (h : b < 0 ∨ 63 < b) : Pair ⟨#[115, 104, 108]⟩ a b 0 0 5 := by
  rcases h with h | h
  · exact ⟨fun sa sb w => two_shl_err sa sb (reck_shl fun w => moved_lo _ a b h w) (by decide) w, fun w => ints_shl_lo a b ha.1 ha.2 hb.1 hb.2 h w, err_ok 5 (by decide) (by decide)⟩
  · exact ⟨fun sa sb w => two_shl_err sa sb (reck_shl fun w => moved_hi _ a b h w) (by decide) w, fun w => ints_shl_hi a b ha.1 ha.2 hb.1 hb.2 h w, err_ok 5 (by decide) (by decide)⟩
theorem shl_all (a b : Int) (ha : InR a) (hb : InR b) : ∃ t n x, Pair ⟨#[115, 104, 108]⟩ a b t n x := by
  by_cases h0 : b < 0
  · exact ⟨_, _, _, shl_out a b ha hb (.inl h0)⟩
  · by_cases h1 : 63 < b
    · exact ⟨_, _, _, shl_out a b ha hb (.inr h1)⟩
    · obtain ⟨n, rfl⟩ := Int.eq_ofNat_of_zero_le (show 0 ≤ b by omega)
      exact ⟨_, _, _, shl_in a n ha (by omega)⟩
theorem shr_in (a : Int) (n : Nat) (ha : InR a) (hn : n ≤ 63) : Pair ⟨#[115, 104, 114]⟩ a (n : Int) 1 (a / 2 ^ n) 0 := by
  refine ⟨fun sa sb w => two_shr sa sb ?_ w, fun w => ints_shr a n hn ha.1 ha.2 w, .inl ⟨rfl, rfl, shr_rng a ha n⟩⟩
  have h := shr_ok a (n : Int) (by omega) (by omega)
  rwa [Int.toNat_natCast] at h
theorem shr_out (a b : Int) (ha : InR a) (hb : InR b) (h : b < 0 ∨ 63 < b) : Pair ⟨#[115, 104, 114]⟩ a b 0 0 5 := by
  rcases h with h | h
  · exact ⟨fun sa sb w => two_shr_err sa sb (reck_shr fun w => moved_lo _ a b h w) (by decide) w, fun w => ints_shr_lo a b ha.1 ha.2 hb.1 hb.2 h w, err_ok 5 (by decide) (by decide)⟩
  · exact ⟨fun sa sb w => two_shr_err sa sb (reck_shr fun w => moved_hi _ a b h w) (by decide) w, fun w => ints_shr_hi a b ha.1 ha.2 hb.1 hb.2 h w, err_ok 5 (by decide) (by decide)⟩
theorem shr_all (a b : Int) (ha : InR a) (hb : InR b) : ∃ t n x, Pair ⟨#[115, 104, 114]⟩ a b t n x := by
  by_cases h0 : b < 0
  · exact ⟨_, _, _, shr_out a b ha hb (.inl h0)⟩
  · by_cases h1 : 63 < b
    · exact ⟨_, _, _, shr_out a b ha hb (.inr h1)⟩
    · obtain ⟨n, rfl⟩ := Int.eq_ofNat_of_zero_le (show 0 ≤ b by omega)
      exact ⟨_, _, _, shr_in a n ha (by omega)⟩
theorem ushr_in (a : Int) (n : Nat) (ha : InR a) (hn : n ≤ 63) : Pair ⟨#[117, 115, 104, 114]⟩ a (n : Int) 1 (wrap64 (IntKind.u64.wrap a / 2 ^ n)) 0 := by
  refine ⟨fun sa sb w => two_ushr sa sb ?_ w, fun w => ints_ushr a n hn ha.1 ha.2 w, .inl ⟨rfl, rfl, wrap_inR _⟩⟩
  have h := ushr_ok a (n : Int) (by omega) (by omega)
  rwa [Int.toNat_natCast] at h
theorem ushr_out (a b : Int) (ha : InR a) (hb : InR b) (h : b < 0 ∨ 63 < b) : Pair ⟨#[117, 115, 104, 114]⟩ a b 0 0 5 := by
  rcases h with h | h
  · exact ⟨fun sa sb w => two_ushr_err sa sb (reck_ushr fun w => moved_lo _ a b h w) (by decide) w, fun w => ints_ushr_lo a b ha.1 ha.2 hb.1 hb.2 h w, err_ok 5 (by decide) (by decide)⟩
  · exact ⟨fun sa sb w => two_ushr_err sa sb (reck_ushr fun w => moved_hi _ a b h w) (by decide) w, fun w => ints_ushr_hi a b ha.1 ha.2 hb.1 hb.2 h w, err_ok 5 (by decide) (by decide)⟩
theorem ushr_all (a b : Int) (ha : InR a) (hb : InR b) : ∃ t n x, Pair ⟨#[117, 115, 104, 114]⟩ a b t n x := by
  by_cases h0 : b < 0
  · exact ⟨_, _, _, ushr_out a b ha hb (.inl h0)⟩
  · by_cases h1 : 63 < b
    · exact ⟨_, _, _, ushr_out a b ha hb (.inr h1)⟩
    · obtain ⟨n, rfl⟩ := Int.eq_ofNat_of_zero_le (show 0 ≤ b by omega)
      exact ⟨_, _, _, ushr_in a n ha (by omega)⟩
theorem add_all (a b : Int) (ha : InR a) (hb : InR b) : ∃ t n x, Pair ⟨#[43]⟩ a b t n x := by
  by_cases h : InR (a + b)
  · exact ⟨_, _, _, add_in ha hb h⟩
  · exact ⟨_, _, _, add_out ha hb h⟩
theorem sub_all (a b : Int) (ha : InR a) (hb : InR b) : ∃ t n x, Pair ⟨#[45]⟩ a b t n x := by
  by_cases h : InR (a - b)
  · exact ⟨_, _, _, sub_in ha hb h⟩
  · exact ⟨_, _, _, sub_out ha hb h⟩
theorem mul_all (a b : Int) (ha : InR a) (hb : InR b) : ∃ t n x, Pair ⟨#[42]⟩ a b t n x := by
  by_cases h : InR (a * b)
  · exact ⟨_, _, _, mul_in ha hb h⟩
  · exact ⟨_, _, _, mul_out ha hb h⟩
theorem quo_all (a b : Int) (ha : InR a) (hb : InR b) : ∃ t n x, Pair ⟨#[47]⟩ a b t n x ∧ ((x == 0) = false ∨ (x = 0 ∧ b ≠ 0 ∧ n = a.tdiv b)) := by
  by_cases h : b = 0
  · subst h; exact ⟨_, _, _, quo_zero a ha, .inl (by decide)⟩
  · by_cases h1 : a = -9223372036854775808 ∧ b = -1
    · exact ⟨_, _, _, quo_over a b ha hb h1.1 h1.2, .inl (by decide)⟩
    · exact ⟨_, _, _, quo_in a b ha hb h h1, .inr ⟨rfl, h, rfl⟩⟩
theorem rem_all (a b : Int) (ha : InR a) (hb : InR b) : ∃ t n x, Pair ⟨#[37]⟩ a b t n x ∧ ((x == 0) = false ∨ (x = 0 ∧ n = a.tmod b)) := by
  by_cases h : b = 0
  · subst h; exact ⟨_, _, _, rem_none a ha, .inl (by decide)⟩
  · exact ⟨_, _, _, rem_in a b ha hb h, .inr ⟨rfl, rfl⟩⟩
theorem pair_all (m : Nat) (hm : m < 11) (a b : Int) (ha : InR a) (hb : InR b) : ∃ t n x, Pair (elevenL[m]'hm) a b t n x := by
  obtain rfl | rfl | rfl | rfl | rfl | rfl | rfl | rfl | rfl | rfl | rfl : m = 0 ∨ m = 1 ∨ m = 2 ∨ m = 3 ∨ m = 4 ∨ m = 5 ∨ m = 6 ∨ m = 7 ∨ m = 8 ∨ m = 9 ∨ m = 10 := by omega
  · exact add_all a b ha hb
  · exact sub_all a b ha hb
  · exact mul_all a b ha hb
  · obtain ⟨t, n, x, h, _⟩ := quo_all a b ha hb; exact ⟨t, n, x, h⟩
  · obtain ⟨t, n, x, h, _⟩ := rem_all a b ha hb; exact ⟨t, n, x, h⟩
  · exact ⟨_, _, _, and_in a b ha hb⟩
  · exact ⟨_, _, _, or_in a b ha hb⟩
  · exact ⟨_, _, _, xor_in a b ha hb⟩
  · exact shl_all a b ha hb
  · exact shr_all a b ha hb
  · exact ushr_all a b ha hb
end Go.Proofs.Ytbiahgjlgojhdaa
