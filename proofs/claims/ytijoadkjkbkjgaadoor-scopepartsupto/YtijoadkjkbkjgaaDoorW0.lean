import Derived.Test.YtijoadkjkbkjgaaDoorV0
import Derived.Test.YtijoadkjkbkjgaaDoorShelf
import Derived.Lib.ItoaNum
namespace Go.Proofs.YtijoadkjkbkjgaaDoor
open Go.RowKit
set_option linter.unusedVariables false
set_option linter.unusedSimpArgs false

def bl (n : Int) : Bool := n == 32 || n == 9 || n == 10 || n == 13
def en (n : Int) : Bool := bl n || n == 59 || n == 40 || n == 41 || n == 34
def pl (n : Int) : Bool := decide (33 ≤ n) && decide (n ≤ 126) && !en n
set_option maxRecDepth 100000 in
set_option maxHeartbeats 1000000 in
theorem blank_any (n : Int) (w : World) : Calls Tryd.prog 60 #[.int .u8 n] w fun e w' => e = .returned (.bool (bl n)) ∧ w' = w := by
  go_enter Tryd.func60, Tryd.ntmps60
  go_wp2_with (fail)
  all_goals (go_ret; exact ⟨by simp [bl, *], rfl⟩)
set_option maxRecDepth 100000 in
set_option maxHeartbeats 1000000 in
theorem refBlank_any (n : Int) (w : World) : Calls Tryd.prog 57 #[.int .u8 n] w fun e w' => e = .returned (.bool (bl n)) ∧ w' = w := by
  go_enter Tryd.func57, Tryd.ntmps57
  go_wp2_with (fail)
  all_goals (go_ret; exact ⟨by simp [bl, *], rfl⟩)
set_option maxRecDepth 100000 in
set_option maxHeartbeats 1000000 in
theorem ends_any (n : Int) (w : World) : Calls Tryd.prog 58 #[.int .u8 n] w fun e w' => e = .returned (.bool (en n)) ∧ w' = w := by
  go_enter Tryd.func58, Tryd.ntmps58
  go_wp2_with (go_at_call 60; refine (blank_any _ _).mono ?_; rintro e w' ⟨rfl, rfl⟩)
  all_goals (go_ret; exact ⟨by simp [en, *], rfl⟩)
set_option maxRecDepth 100000 in
set_option maxHeartbeats 1000000 in
theorem refEnds_any (n : Int) (w : World) : Calls Tryd.prog 51 #[.int .u8 n] w fun e w' => e = .returned (.bool (en n)) ∧ w' = w := by
  go_enter Tryd.func51, Tryd.ntmps51
  go_wp2_with (go_at_call 57; refine (refBlank_any _ _).mono ?_; rintro e w' ⟨rfl, rfl⟩)
  all_goals (go_ret; exact ⟨by simp [en, *], rfl⟩)
set_option maxRecDepth 100000 in
set_option maxHeartbeats 1000000 in
theorem plain_any (n : Int) (w : World) : Calls Tryd.prog 53 #[.int .u8 n] w fun e w' => e = .returned (.bool (pl n)) ∧ w' = w := by
  go_enter Tryd.func53, Tryd.ntmps53
  go_wp2_with (go_at_call 58; refine (ends_any _ _).mono ?_; rintro e w' ⟨rfl, rfl⟩)
  all_goals (go_ret; exact ⟨by simp [pl, *] <;> (intros; omega), rfl⟩)
def dg (c : UInt8) : Bool := decide (48 ≤ c.toNat) && decide (c.toNat ≤ 57)
/-- Are bytes a number's? -/
def num (l : List UInt8) : Bool := (Lib.trimPrefix l [45]).all dg && !(Lib.trimPrefix l [45]).isEmpty
theorem trim_len (l p : List UInt8) : (Lib.trimPrefix l p).length ≤ l.length := by
  unfold Lib.trimPrefix; split <;> simp
theorem take_snoc (u : ByteArray) (k : Nat) (h : k < u.size) : u.data.toList.take (k + 1) = u.data.toList.take k ++ [u[k]] := by
  rw [List.take_add_one]
  have : u.data.toList[k]? = some u[k] := by
    rw [List.getElem?_eq_getElem (by simpa using h)]; rfl
  rw [this]; rfl
theorem take_all (u : ByteArray) (k : Nat) (h : ¬ k < u.size) : u.data.toList.take k = u.data.toList := List.take_of_length_le (by simp; omega)
theorem all_mem {u : ByteArray} {p : UInt8 → Bool} (k : Nat) (h : k < u.size) (hp : p u[k] = false) : u.data.toList.all p = false := by
  rw [List.all_eq_false]
  exact ⟨u[k], (List.getElem_mem (l := u.data.toList) (by simpa using h : k < u.data.toList.length)), by simp [hp]⟩
set_option maxRecDepth 100000 in
set_option maxHeartbeats 1000000 in
theorem numeral_any (s : ByteArray) (hs : s.size ≤ 100000) (w : World) : Calls Tryd.prog 54 #[.string s] w fun e w' => e = .returned (.bool (num s.data.toList)) ∧ w' = w := by
  have hl := trim_len s.data.toList [45]
  have hsz : s.data.toList.length = s.size := by simp
  have hc : ∀ w : World, Calls Tryd.prog 59 #[.string s, .string ⟨#[45]⟩] w fun e w' => e = .returned (.string ⟨(Lib.trimPrefix s.data.toList [45]).toArray⟩) ∧ w' = w := fun w => Tryd.strings_TrimPrefix _ _ _
  unfold num
  generalize Lib.trimPrefix s.data.toList [45] = t at *
  obtain ⟨u, rfl⟩ : ∃ u : ByteArray, u.data.toList = t := ⟨⟨t.toArray⟩, rfl⟩
  have hu : u.size ≤ 100000 := by simp at hl; omega
  have hc' : ∀ w : World, Calls Tryd.prog 59 #[.string s, .string ⟨#[45]⟩] w fun e w' => e = .returned (.string u) ∧ w' = w := by simpa using hc
  clear hc hl hsz
  go_enter Tryd.func54, Tryd.ntmps54
  go_wp2_with (go_at_call 59; refine (hc' _).mono ?_; rintro e w' ⟨rfl, rfl⟩)
  go_loop [8] (fun i => ∃ k : Nat, k ≤ u.size ∧ i = .int .i64 k ∧ (u.data.toList.take k).all dg = true) (fun i => u.size - (intOf i).toNat)
  case atStart => exact ⟨0, Nat.zero_le _, rfl, by simp⟩
  case round =>
    obtain ⟨k, hk, rfl, hall⟩ := hrel
    by_cases hlt : k < u.size
    · by_cases hd : dg u[k] = true
      · have HA : Hid ((u.data.toList.take (k + 1)).all dg = true) := by show _ = _; rw [take_snoc u k hlt]; simp only [List.all_append, hall]; simp [hd]
        clear hall
        simp only [dg, Bool.and_eq_true, decide_eq_true_eq] at hd
        obtain ⟨d1, d2⟩ := hd
        have e1 : decide ((u[k].toNat : Int) < 48) = false := by simp; omega
        have e2 : decide ((57 : Int) < (u[k].toNat : Int)) = false := by simp; omega
        go_wp2_with fail
        go_round
        case rel => exact ⟨k + 1, by omega, by go_num, HA.out⟩
        case measure => simp [intOf]; omega
      · have HA : u.data.toList.all dg = false := all_mem k hlt (by simpa using hd)
        simp only [dg, Bool.and_eq_true, decide_eq_true_eq, not_and] at hd
        go_wp2_with fail
        all_goals (go_ret; exact ⟨rfl, rfl⟩)
    · have e : k = u.size := by omega
      subst e
      rw [take_all _ _ (by omega)] at hall
      go_wp2_with fail
      all_goals (go_ret; refine ⟨?_, rfl⟩; rw [ByteArray.toList_eq]; simp)
def plB (c : UInt8) : Bool := pl c.toNat
def val (acc : Nat) (l : List UInt8) : Nat := l.foldl (fun a c => a * 10 + (c.toNat - 48)) acc
/-- A number's bytes as the number, if it isn't too great. -/
def numv (l : List UInt8) : Option Int :=
  if l.head? = some 45 then (if val 0 (Lib.trimPrefix l [45]) ≤ 9223372036854775808 then some (-(val 0 (Lib.trimPrefix l [45]) : Int)) else none)
  else (if val 0 (Lib.trimPrefix l [45]) < 9223372036854775808 then some (val 0 (Lib.trimPrefix l [45]) : Int) else none)
theorem trim_neg (r : List UInt8) : Lib.trimPrefix (45 :: r) [45] = r := by simp [Lib.trimPrefix, Lib.hasPrefix]
theorem trim_pos {c : UInt8} (r : List UInt8) (h : ¬ c = 45) : Lib.trimPrefix (c :: r) [45] = c :: r := by
  have : ¬ (45 : UInt8) = c := fun e => h e.symm
  simp [Lib.trimPrefix, Lib.hasPrefix, this]
theorem num_nil : num [] = false := by decide
/-- What the reference's number has reckoned of digits p: m is below 0; b: it fits. -/
def NR (p : List UInt8) (n f : Value) : Prop :=
  p.all dg = true ∧ ∃ (m : Int) (b : Bool), n = .int .i64 m ∧ f = .bool b ∧ ((b = true ∧ m = -(val 0 p : Int) ∧ val 0 p ≤ 9223372036854775808) ∨ (b = false ∧ 9223372036854775808 < val 0 p ∧ -9223372036854775808 ≤ m ∧ m ≤ 0))
theorem val_snoc (p : List UInt8) (c : UInt8) (acc : Nat) : val acc (p ++ [c]) = val acc p * 10 + (c.toNat - 48) := by
  unfold val; rw [List.foldl_append]; rfl
def numRes (l : List UInt8) (e : Ending) : Prop :=
  (num l = false ∧ e = .returned (.tuple #[.int .i64 0, .bool false, .bool false])) ∨ (num l = true ∧ ∃ m : Int, e = .returned (.tuple #[.int .i64 m, .bool true, .bool (numv l).isSome]) ∧ ∀ n, numv l = some n → m = n)
theorem q10 (d : Int) (h0 : 0 ≤ d) (h9 : d ≤ 9) : (-9223372036854775808 + d).tdiv 10 = if d = 9 then -922337203685477579 else -922337203685477580 := by
  have : d = 0 ∨ d = 1 ∨ d = 2 ∨ d = 3 ∨ d = 4 ∨ d = 5 ∨ d = 6 ∨ d = 7 ∨ d = 8 ∨ d = 9 := by omega
  rcases this with rfl | rfl | rfl | rfl | rfl | rfl | rfl | rfl | rfl | rfl <;> decide
theorem take_drop_snoc (s : ByteArray) (a k : Nat) (ha : a ≤ k) (h : k < s.size) : (s.data.toList.drop a).take (k + 1 - a) = (s.data.toList.drop a).take (k - a) ++ [s[k]] := by
  rw [show k + 1 - a = (k - a) + 1 by omega, List.take_add_one]
  have : (s.data.toList.drop a)[k - a]? = some s[k] := by
    rw [List.getElem?_drop, show a + (k - a) = k by omega, List.getElem?_eq_getElem (by simpa using h)]; rfl
  rw [this]; rfl
theorem take_drop_all (s : ByteArray) (a : Nat) : (s.data.toList.drop a).take (s.size - a) = s.data.toList.drop a := List.take_of_length_le (by simp)
set_option maxRecDepth 100000 in
set_option maxHeartbeats 1000000 in
theorem refNumber_pos (s : ByteArray) (hs : s.size ≤ 100000) (h0 : 0 < s.size) (h45 : ¬ s[0] = 45) (w : World) : Calls Tryd.prog 52 #[.string s] w fun e w' => numRes s.data.toList e ∧ w' = w := by
  obtain ⟨c, r, hl⟩ : ∃ c r, s.data.toList = c :: r := by
    cases h : s.data.toList with
    | nil => have h2 : s.data.toList.length = s.size := by simp
             rw [h] at h2; simp at h2; omega
    | cons c r => exact ⟨c, r, rfl⟩
  have hc : s[0] = c := by
    have : s.data.toList[0]? = some s[0] := by rw [List.getElem?_eq_getElem (by simpa using h0)]; rfl
    rw [hl] at this; simpa using this.symm
  have htr : Lib.trimPrefix s.data.toList [45] = s.data.toList.drop 0 := by rw [hl, trim_pos r (hc ▸ h45)]; rfl
  have hsz : 0 ≤ s.size := Nat.zero_le _
  have hno : ∀ k, 0 ≤ k → (hk : k < s.size) → dg s[k] = false → num s.data.toList = false := by
    intro k _ hk hd
    unfold num; rw [htr]
    rw [List.drop_zero, all_mem k hk hd]; rfl
  have hyes : (s.data.toList.drop 0).all dg = true → num s.data.toList = true := by
    intro h
    unfold num; rw [htr, h, List.drop_zero, hl]; rfl
  have hnv : numv s.data.toList = if val 0 (s.data.toList.drop 0) < 9223372036854775808 then some (val 0 (s.data.toList.drop 0) : Int) else none := by
    unfold numv
    rw [htr, if_neg (by rw [hl]; simp; exact hc ▸ h45)]
  have g0 : ¬ (s[0].toNat : Int) = 45 := fun e => h45 (UInt8.toNat_inj.1 (by simpa using (by omega : s[0].toNat = 45)))
  have g1 : (0 : Int) < s.size := by omega
  have g2 : ¬ (0 : Int) = s.size := by omega
  clear hl hc htr
  go_enter Tryd.func52, Tryd.ntmps52
  go_wp2_with (fail)
  go_loop [6, 7, 8] (fun n f i => ∃ k : Nat, 0 ≤ k ∧ k ≤ s.size ∧ i = .int .i64 k ∧ NR ((s.data.toList.drop 0).take (k - 0)) n f) (fun _ _ i => s.size - (intOf i).toNat)
  case atStart => exact ⟨0, Nat.le_refl _, hsz, rfl, by simp, 0, true, rfl, rfl, .inl ⟨rfl, by simp [val], by simp [val]⟩⟩
  case round =>
    obtain ⟨k, ha, hk, rfl, hall, m, b, rfl, rfl, hN⟩ := hrel
    by_cases hlt : k < s.size
    · by_cases hd : dg s[k] = true
      · have HP : (s.data.toList.drop 0).take (k + 1 - 0) = (s.data.toList.drop 0).take (k - 0) ++ [s[k]] := take_drop_snoc s 0 k ha hlt
        have HA : Hid (((s.data.toList.drop 0).take (k + 1 - 0)).all dg = true) := by show _ = _; rw [HP]; simp only [List.all_append, hall]; simp [hd]
        have HV : val 0 ((s.data.toList.drop 0).take (k + 1 - 0)) = val 0 ((s.data.toList.drop 0).take (k - 0)) * 10 + (s[k].toNat - 48) := by rw [HP, val_snoc]
        clear HP hall
        generalize val 0 ((s.data.toList.drop 0).take (k - 0)) = v at hN HV
        simp only [dg, Bool.and_eq_true, decide_eq_true_eq] at hd
        obtain ⟨d1, d2⟩ := hd
        have e1 : decide ((s[k].toNat : Int) < 48) = false := by simp; omega
        have e2 : decide ((57 : Int) < (s[k].toNat : Int)) = false := by simp; omega
        obtain ⟨d, hd⟩ : ∃ d : Int, d = (s[k].toNat : Int) - 48 := ⟨_, rfl⟩
        have HD : ((s[k].toNat - 48 : Nat) : Int) = d := by omega
        have d3 : 0 ≤ d := by omega
        have d4 : d ≤ 9 := by omega
        have hm : -9223372036854775808 ≤ m ∧ m ≤ 0 := by rcases hN with ⟨_, h1, h2⟩ | ⟨_, _, h1, h2⟩ <;> omega
        have w1 : IntKind.u8.wrap ((s[k].toNat : Int) - 48) = d := by rw [← hd]; exact u8w _ (by omega) (by omega)
        have w2 : IntKind.i64.wrap d = d := i64w _ (by omega) (by omega)
        have w3 : IntKind.i64.wrap (-9223372036854775808 + d) = -9223372036854775808 + d := i64w _ (by omega) (by omega)
        have hq := q10 d d3 d4
        have hqb : -922337203685477580 ≤ (-9223372036854775808 + d).tdiv 10 ∧ (-9223372036854775808 + d).tdiv 10 ≤ -922337203685477579 := by rw [hq]; split <;> omega
        have w4 : IntKind.i64.wrap ((-9223372036854775808 + d).tdiv 10) = (-9223372036854775808 + d).tdiv 10 := i64w _ (by omega) (by omega)
        have HQ : Hid (((-9223372036854775808 + d).tdiv 10 = -922337203685477579 ∧ d = 9) ∨ ((-9223372036854775808 + d).tdiv 10 = -922337203685477580 ∧ d ≤ 8)) := by
          show _ ∨ _
          rw [hq]; split <;> omega
        clear hq
        have HN : Hid _ := hN
        have HV' : Hid _ := HV
        have HD' : Hid _ := HD
        clear hN HV HD hd
        by_cases hmq : m < (-9223372036854775808 + d).tdiv 10
        · go_wp2_with fail
          go_round
          case rel =>
            refine ⟨k + 1, by omega, by omega, by go_num, HA.out, m, false, rfl, rfl, .inr ⟨rfl, ?_, hm⟩⟩
            have h1 := HV'.out
            have h2 := HD'.out
            rcases HQ.out with ⟨h3, h4⟩ | ⟨h3, h4⟩ <;> rcases HN.out with ⟨_, h5, h6⟩ | ⟨_, h5, _, h6⟩ <;> omega
          case measure => simp [intOf]; omega
        · have w5 : IntKind.i64.wrap (10 * m) = 10 * m := i64w _ (by omega) (by omega)
          have w6 : IntKind.i64.wrap (10 * m - d) = 10 * m - d := i64w _ (by rcases HQ.out with ⟨h3, h4⟩ | ⟨h3, h4⟩ <;> omega) (by omega)
          go_wp2_with fail
          go_round
          case rel =>
            refine ⟨k + 1, by omega, by omega, by go_num, HA.out, 10 * m - d, b, rfl, rfl, ?_⟩
            have h1 := HV'.out
            have h2 := HD'.out
            rcases HQ.out with ⟨h3, h4⟩ | ⟨h3, h4⟩ <;> rcases HN.out with ⟨hb, h5, h6⟩ | ⟨hb, h5, h7, h6⟩
            · exact .inl ⟨hb, by omega, by omega⟩
            · exact .inr ⟨hb, by omega, by omega, by omega⟩
            · exact .inl ⟨hb, by omega, by omega⟩
            · exact .inr ⟨hb, by omega, by omega, by omega⟩
          case measure => simp [intOf]; omega
      · have HA : num s.data.toList = false := hno k ha hlt (by simpa using hd)
        simp only [dg, Bool.and_eq_true, decide_eq_true_eq, not_and] at hd
        have HA' : Hid _ := HA
        clear HA hN hall
        go_wp2_with fail
        all_goals (go_ret3; exact ⟨.inl ⟨HA'.out, rfl⟩, rfl⟩)
    · have e : k = s.size := by omega
      subst e
      rw [take_drop_all s 0] at hall hN
      have HY := hyes hall
      have HN : Hid _ := hN
      have HY' : Hid _ := HY
      clear hN HY hall
      generalize val 0 (s.data.toList.drop 0) = v at HN hnv
      by_cases hmin : m = -9223372036854775808
      · have hv : Hid (numv s.data.toList = none) := by
          show _ = _
          rw [hnv]; exact if_neg (by rcases HN.out with ⟨_, h5, h6⟩ | ⟨_, h5, _, h6⟩ <;> omega)
        clear hnv
        go_wp2_with fail
        go_ret3
        exact ⟨.inr ⟨HY'.out, 0, by rw [hv.out]; rfl, fun n hn => by rw [hv.out] at hn; cases hn⟩, rfl⟩
      · have hm : -9223372036854775808 ≤ m ∧ m ≤ 0 := by rcases HN.out with ⟨_, h1, h2⟩ | ⟨_, _, h1, h2⟩ <;> omega
        have w1 : IntKind.i64.wrap (-m) = -m := i64w _ (by omega) (by omega)
        have w2 : IntKind.i64.wrap (0 - m) = -m := by rw [Int.zero_sub]; exact w1
        have hv : Hid ((numv s.data.toList).isSome = b ∧ ∀ n, numv s.data.toList = some n → -m = n) := by
          show _ ∧ _
          rcases HN.out with ⟨hb, h5, h6⟩ | ⟨hb, h5, _, h6⟩
          · rw [hnv, if_pos (by omega)]
            refine ⟨hb.symm, fun n hn => ?_⟩
            injection hn with hn; omega
          · rw [hnv, if_neg (by omega)]
            exact ⟨hb.symm, fun n hn => by cases hn⟩
        clear hnv
        go_wp2_with fail
        go_ret3
        exact ⟨.inr ⟨HY'.out, -m, by rw [hv.out.1]; rfl, hv.out.2⟩, rfl⟩
set_option maxRecDepth 100000 in
set_option maxHeartbeats 1000000 in
theorem refNumber_neg (s : ByteArray) (hs : s.size ≤ 100000) (h0 : 1 < s.size) (h45 : s[0] = 45) (w : World) : Calls Tryd.prog 52 #[.string s] w fun e w' => numRes s.data.toList e ∧ w' = w := by
  obtain ⟨c, r, hl⟩ : ∃ c r, s.data.toList = c :: r := by
    cases h : s.data.toList with
    | nil => have h2 : s.data.toList.length = s.size := by simp
             rw [h] at h2; simp at h2; omega
    | cons c r => exact ⟨c, r, rfl⟩
  have hc : s[0] = c := by
    have : s.data.toList[0]? = some s[0] := by rw [List.getElem?_eq_getElem (by simp; omega)]; rfl
    rw [hl] at this; simpa using this.symm
  have hc45 : c = 45 := hc ▸ h45
  subst hc45
  have hlen : r.length + 1 = s.size := by
    have h2 : s.data.toList.length = s.size := by simp
    rw [hl] at h2; simpa using h2
  have htr : Lib.trimPrefix s.data.toList [45] = s.data.toList.drop 1 := by rw [hl, trim_neg r]; rfl
  have hsz : 1 ≤ s.size := by omega
  have hno : ∀ k, 1 ≤ k → (hk : k < s.size) → dg s[k] = false → num s.data.toList = false := by
    intro k hk1 hk hd
    unfold num; rw [htr]
    have : (s.data.toList.drop 1).all dg = false := by
      rw [List.all_eq_false]
      refine ⟨s[k], ?_, by simp [hd]⟩
      have h3 : (s.data.toList.drop 1)[k - 1]? = some s[k] := by
        rw [List.getElem?_drop, show 1 + (k - 1) = k by omega, List.getElem?_eq_getElem (by simpa using hk)]; rfl
      exact List.mem_of_getElem? h3
    rw [this]; rfl
  have hyes : (s.data.toList.drop 1).all dg = true → num s.data.toList = true := by
    intro h
    unfold num; rw [htr, h, hl]
    cases r with
    | nil => simp at hlen; omega
    | cons a b => rfl
  have hnv : numv s.data.toList = if val 0 (s.data.toList.drop 1) ≤ 9223372036854775808 then some (-(val 0 (s.data.toList.drop 1) : Int)) else none := by
    unfold numv
    rw [htr, if_pos (by rw [hl]; rfl)]
  have g0 : (s[0].toNat : Int) = 45 := by rw [h45]; rfl
  have g1 : (0 : Int) < s.size := by omega
  have g2 : ¬ (1 : Int) = s.size := by omega
  clear hl hc htr hlen
  go_enter Tryd.func52, Tryd.ntmps52
  go_wp2_with (fail)
  go_loop [6, 7, 8] (fun n f i => ∃ k : Nat, 1 ≤ k ∧ k ≤ s.size ∧ i = .int .i64 k ∧ NR ((s.data.toList.drop 1).take (k - 1)) n f) (fun _ _ i => s.size - (intOf i).toNat)
  case atStart => exact ⟨1, Nat.le_refl _, hsz, rfl, by simp, 0, true, rfl, rfl, .inl ⟨rfl, by simp [val], by simp [val]⟩⟩
  case round =>
    obtain ⟨k, ha, hk, rfl, hall, m, b, rfl, rfl, hN⟩ := hrel
    by_cases hlt : k < s.size
    · by_cases hd : dg s[k] = true
      · have HP : (s.data.toList.drop 1).take (k + 1 - 1) = (s.data.toList.drop 1).take (k - 1) ++ [s[k]] := take_drop_snoc s 1 k ha hlt
        have HA : Hid (((s.data.toList.drop 1).take (k + 1 - 1)).all dg = true) := by show _ = _; rw [HP]; simp only [List.all_append, hall]; simp [hd]
        have HV : val 0 ((s.data.toList.drop 1).take (k + 1 - 1)) = val 0 ((s.data.toList.drop 1).take (k - 1)) * 10 + (s[k].toNat - 48) := by rw [HP, val_snoc]
        clear HP hall
        generalize val 0 ((s.data.toList.drop 1).take (k - 1)) = v at hN HV
        simp only [dg, Bool.and_eq_true, decide_eq_true_eq] at hd
        obtain ⟨d1, d2⟩ := hd
        have e1 : decide ((s[k].toNat : Int) < 48) = false := by simp; omega
        have e2 : decide ((57 : Int) < (s[k].toNat : Int)) = false := by simp; omega
        obtain ⟨d, hd⟩ : ∃ d : Int, d = (s[k].toNat : Int) - 48 := ⟨_, rfl⟩
        have HD : ((s[k].toNat - 48 : Nat) : Int) = d := by omega
        have d3 : 0 ≤ d := by omega
        have d4 : d ≤ 9 := by omega
        have hm : -9223372036854775808 ≤ m ∧ m ≤ 0 := by rcases hN with ⟨_, h1, h2⟩ | ⟨_, _, h1, h2⟩ <;> omega
        have w1 : IntKind.u8.wrap ((s[k].toNat : Int) - 48) = d := by rw [← hd]; exact u8w _ (by omega) (by omega)
        have w2 : IntKind.i64.wrap d = d := i64w _ (by omega) (by omega)
        have w3 : IntKind.i64.wrap (-9223372036854775808 + d) = -9223372036854775808 + d := i64w _ (by omega) (by omega)
        have hq := q10 d d3 d4
        have hqb : -922337203685477580 ≤ (-9223372036854775808 + d).tdiv 10 ∧ (-9223372036854775808 + d).tdiv 10 ≤ -922337203685477579 := by rw [hq]; split <;> omega
        have w4 : IntKind.i64.wrap ((-9223372036854775808 + d).tdiv 10) = (-9223372036854775808 + d).tdiv 10 := i64w _ (by omega) (by omega)
        have HQ : Hid (((-9223372036854775808 + d).tdiv 10 = -922337203685477579 ∧ d = 9) ∨ ((-9223372036854775808 + d).tdiv 10 = -922337203685477580 ∧ d ≤ 8)) := by
          show _ ∨ _
          rw [hq]; split <;> omega
        clear hq
        have HN : Hid _ := hN
        have HV' : Hid _ := HV
        have HD' : Hid _ := HD
        clear hN HV HD hd
        by_cases hmq : m < (-9223372036854775808 + d).tdiv 10
        · go_wp2_with fail
          go_round
          case rel =>
            refine ⟨k + 1, by omega, by omega, by go_num, HA.out, m, false, rfl, rfl, .inr ⟨rfl, ?_, hm⟩⟩
            have h1 := HV'.out
            have h2 := HD'.out
            rcases HQ.out with ⟨h3, h4⟩ | ⟨h3, h4⟩ <;> rcases HN.out with ⟨_, h5, h6⟩ | ⟨_, h5, _, h6⟩ <;> omega
          case measure => simp [intOf]; omega
        · have w5 : IntKind.i64.wrap (10 * m) = 10 * m := i64w _ (by omega) (by omega)
          have w6 : IntKind.i64.wrap (10 * m - d) = 10 * m - d := i64w _ (by rcases HQ.out with ⟨h3, h4⟩ | ⟨h3, h4⟩ <;> omega) (by omega)
          go_wp2_with fail
          go_round
          case rel =>
            refine ⟨k + 1, by omega, by omega, by go_num, HA.out, 10 * m - d, b, rfl, rfl, ?_⟩
            have h1 := HV'.out
            have h2 := HD'.out
            rcases HQ.out with ⟨h3, h4⟩ | ⟨h3, h4⟩ <;> rcases HN.out with ⟨hb, h5, h6⟩ | ⟨hb, h5, h7, h6⟩
            · exact .inl ⟨hb, by omega, by omega⟩
            · exact .inr ⟨hb, by omega, by omega, by omega⟩
            · exact .inl ⟨hb, by omega, by omega⟩
            · exact .inr ⟨hb, by omega, by omega, by omega⟩
          case measure => simp [intOf]; omega
      · have HA : num s.data.toList = false := hno k ha hlt (by simpa using hd)
        simp only [dg, Bool.and_eq_true, decide_eq_true_eq, not_and] at hd
        have HA' : Hid _ := HA
        clear HA hN hall
        go_wp2_with fail
        all_goals (go_ret3; exact ⟨.inl ⟨HA'.out, rfl⟩, rfl⟩)
    · have e : k = s.size := by omega
      subst e
      rw [take_drop_all s 1] at hall hN
      have HY := hyes hall
      have HN : Hid _ := hN
      have HY' : Hid _ := HY
      clear hN HY hall
      generalize val 0 (s.data.toList.drop 1) = v at HN hnv
      have hv : Hid ((numv s.data.toList).isSome = b ∧ ∀ n, numv s.data.toList = some n → m = n) := by
        show _ ∧ _
        rcases HN.out with ⟨hb, h5, h6⟩ | ⟨hb, h5, _, h6⟩
        · rw [hnv, if_pos (by omega)]
          refine ⟨hb.symm, fun n hn => ?_⟩
          injection hn with hn; omega
        · rw [hnv, if_neg (by omega)]
          exact ⟨hb.symm, fun n hn => by cases hn⟩
      clear hnv
      go_wp2_with fail
      go_ret3
      exact ⟨.inr ⟨HY'.out, m, by rw [hv.out.1]; rfl, hv.out.2⟩, rfl⟩
set_option maxRecDepth 100000 in
set_option maxHeartbeats 1000000 in
theorem refNumber_none (w : World) : Calls Tryd.prog 52 #[.string ⟨#[]⟩] w fun e w' => numRes [] e ∧ w' = w := by
  have hz : (⟨#[]⟩ : ByteArray).size = 0 := rfl
  go_enter Tryd.func52, Tryd.ntmps52
  go_wp2_with (fail)
  go_ret3
  exact ⟨.inl ⟨num_nil, rfl⟩, rfl⟩
set_option maxRecDepth 100000 in
set_option maxHeartbeats 1000000 in
theorem refNumber_sign (w : World) : Calls Tryd.prog 52 #[.string ⟨#[45]⟩] w fun e w' => numRes [45] e ∧ w' = w := by
  have hz : (⟨#[45]⟩ : ByteArray).size = 1 := rfl
  go_enter Tryd.func52, Tryd.ntmps52
  go_wp2_with (fail)
  go_ret3
  exact ⟨.inl ⟨by decide, rfl⟩, rfl⟩
theorem refNumber_any (s : ByteArray) (hs : s.size ≤ 100000) (w : World) : Calls Tryd.prog 52 #[.string s] w fun e w' => numRes s.data.toList e ∧ w' = w := by
  by_cases h0 : s.size = 0
  · have hs : s = ⟨#[]⟩ := by
      apply ByteArray.ext
      exact Array.eq_empty_of_size_eq_zero h0
    subst hs
    exact refNumber_none w
  · by_cases h45 : s[0]'(by omega) = 45
    · by_cases h1 : s.size = 1
      · have hs : s = ⟨#[45]⟩ := by
          apply ByteArray.ext
          apply Array.ext
          · exact h1
          · intro i hi _
            have : i = 0 := by have : i < s.size := hi; omega
            subst this
            exact h45
        subst hs
        exact refNumber_sign w
      · exact refNumber_neg s hs (by omega) h45 w
    · exact refNumber_pos s hs (by omega) h45 w
/-- Are bytes a word's? (no more than a source may have) -/
def wordB (l : List UInt8) : Bool := !l.isEmpty && l.all plB && !num l
theorem ne_nil {s : ByteArray} (h : ¬ s.size = 0) : ¬ s.data.toList = [] := by
  intro h2
  have h3 : s.data.toList.length = s.size := by simp
  rw [h2] at h3; simp at h3; omega
theorem plB_all {u : ByteArray} (k : Nat) (h : k < u.size) (hp : pl u[k].toNat = false) : wordB u.data.toList = false := by
  unfold wordB
  rw [all_mem (p := plB) k h hp]; simp
theorem word_end {u : ByteArray} (h0 : ¬ u.size = 0) (h : u.data.toList.all plB = true) : wordB u.data.toList = !num u.data.toList := by
  unfold wordB
  rw [h]
  have := ne_nil h0
  cases hl : u.data.toList with
  | nil => exact absurd hl this
  | cons c r => rfl
set_option maxRecDepth 100000 in
set_option maxHeartbeats 1000000 in
theorem word_any (s : ByteArray) (hs : s.size ≤ 65536) (w : World) : Calls Tryd.prog 48 #[.string s] w fun e w' => e = .returned (.bool (wordB s.data.toList)) ∧ w' = w := by
  by_cases h0 : s.size = 0
  · have hs : s = ⟨#[]⟩ := by
      apply ByteArray.ext
      exact Array.eq_empty_of_size_eq_zero h0
    subst hs
    go_enter Tryd.func48, Tryd.ntmps48
    go_wp2_with (fail)
    go_ret
    exact ⟨rfl, rfl⟩
  · have hnil : s.toList.isEmpty = false := by rw [ByteArray.toList_eq]; simpa using ne_nil h0
    have hnil2 := ne_nil h0
    have hq : ¬ (65536 : Int) < s.size := by omega
    have hC := fun w => numeral_any s (by omega) w
    have he : ∀ h : s.data.toList.all plB = true, wordB s.data.toList = !num s.data.toList := word_end h0
    have hb : ∀ (k : Nat) (h : k < s.size), pl s[k].toNat = false → wordB s.data.toList = false := fun k h => plB_all k h
    generalize wordB s.data.toList = R at *
    generalize num s.data.toList = M at *
    go_enter Tryd.func48, Tryd.ntmps48
    go_wp2_with (fail)
    go_loop [13] (fun i => ∃ k : Nat, k ≤ s.size ∧ i = .int .i64 k ∧ (s.data.toList.take k).all plB = true) (fun i => s.size - (intOf i).toNat)
    case atStart => exact ⟨0, Nat.zero_le _, rfl, by simp⟩
    case round =>
      obtain ⟨k, hk, rfl, hall⟩ := hrel
      by_cases hlt : k < s.size
      · by_cases hd : pl s[k].toNat = true
        · have HA : Hid ((s.data.toList.take (k + 1)).all plB = true) := by show _ = _; rw [take_snoc s k hlt]; simp only [List.all_append, hall]; simp [plB, hd]
          clear hall he hb
          go_wp2_with (go_at_call 53; refine (plain_any _ _).mono ?_; rw [hd]; rintro e w' ⟨rfl, rfl⟩)
          go_round
          case rel => exact ⟨k + 1, by omega, by go_num, HA.out⟩
          case measure => simp [intOf]; omega
        · have hd' : pl s[k].toNat = false := by simpa using hd
          have hR := hb k hlt hd'
          subst hR
          clear hall he hb
          go_wp2_with (go_at_call 53; refine (plain_any _ _).mono ?_; rw [hd']; rintro e w' ⟨rfl, rfl⟩)
          go_ret
          exact ⟨rfl, rfl⟩
      · have e : k = s.size := by omega
        subst e
        rw [take_all _ _ (by omega)] at hall
        have hR := he hall
        subst hR
        clear hall he hb
        go_wp2_with (go_at_call 54; refine (hC _).mono ?_; rintro e w' ⟨rfl, rfl⟩)
        go_ret
        exact ⟨rfl, rfl⟩
set_option maxRecDepth 100000 in
set_option maxHeartbeats 1000000 in
theorem refWord_any (s : ByteArray) (hs : s.size ≤ 65536) (w : World) : Calls Tryd.prog 43 #[.string s] w fun e w' => e = .returned (.bool (wordB s.data.toList)) ∧ w' = w := by
  by_cases h0 : s.size = 0
  · have hs : s = ⟨#[]⟩ := by
      apply ByteArray.ext
      exact Array.eq_empty_of_size_eq_zero h0
    subst hs
    go_enter Tryd.func43, Tryd.ntmps43
    go_wp2_with (fail)
    go_ret
    exact ⟨rfl, rfl⟩
  · have hnil : s.toList.isEmpty = false := by rw [ByteArray.toList_eq]; simpa using ne_nil h0
    have hnil2 := ne_nil h0
    have hq : ¬ (65536 : Int) < s.size := by omega
    have hC : ∀ w, Calls Tryd.prog 52 #[.string s] w fun e w' => (∃ m x, e = .returned (.tuple #[m, .bool (num s.data.toList), x])) ∧ w' = w := fun w => (refNumber_any s (by omega) w).mono (by
      rintro e w' ⟨h | ⟨h, m, h2, _⟩, rfl⟩
      · exact ⟨⟨_, _, by rw [h.1]; exact h.2⟩, rfl⟩
      · exact ⟨⟨_, _, by rw [h]; exact h2⟩, rfl⟩)
    have he : ∀ h : s.data.toList.all plB = true, wordB s.data.toList = !num s.data.toList := word_end h0
    have hb : ∀ (k : Nat) (h : k < s.size), pl s[k].toNat = false → wordB s.data.toList = false := fun k h => plB_all k h
    generalize wordB s.data.toList = R at *
    generalize num s.data.toList = M at *
    go_enter Tryd.func43, Tryd.ntmps43
    go_wp2_with (fail)
    go_loop [3] (fun i => ∃ k : Nat, k ≤ s.size ∧ i = .int .i64 k ∧ (s.data.toList.take k).all plB = true) (fun i => s.size - (intOf i).toNat)
    case atStart => exact ⟨0, Nat.zero_le _, rfl, by simp⟩
    case round =>
      obtain ⟨k, hk, rfl, hall⟩ := hrel
      by_cases hlt : k < s.size
      · by_cases hd : pl s[k].toNat = true
        · have HA : Hid ((s.data.toList.take (k + 1)).all plB = true) := by show _ = _; rw [take_snoc s k hlt]; simp only [List.all_append, hall]; simp [plB, hd]
          clear hall he hb
          simp only [pl, Bool.and_eq_true, decide_eq_true_eq, Bool.not_eq_true'] at hd
          obtain ⟨⟨d1, d2⟩, d3⟩ := hd
          have e1 : decide ((s[k].toNat : Int) < 33) = false := by simp; omega
          have e2 : decide ((126 : Int) < (s[k].toNat : Int)) = false := by simp; omega
          go_wp2_with (go_at_call 51; refine (refEnds_any _ _).mono ?_; rw [d3]; rintro e w' ⟨rfl, rfl⟩)
          go_round
          case rel => exact ⟨k + 1, by omega, by go_num, HA.out⟩
          case measure => simp [intOf]; omega
        · have hd' : pl s[k].toNat = false := by simpa using hd
          have hR := hb k hlt hd'
          subst hR
          clear hall he hb
          cases he2 : en s[k].toNat with
          | true =>
            go_wp2_with (go_at_call 51; refine (refEnds_any _ _).mono ?_; rw [he2]; rintro e w' ⟨rfl, rfl⟩)
            go_ret
            exact ⟨rfl, rfl⟩
          | false =>
            have hd2 : (s[k].toNat : Int) < 33 ∨ (126 : Int) < s[k].toNat := by
              simp only [pl, he2, Bool.not_false, Bool.and_true, Bool.and_eq_false_iff, decide_eq_false_iff_not] at hd'
              omega
            go_wp2_with (go_at_call 51; refine (refEnds_any _ _).mono ?_; rw [he2]; rintro e w' ⟨rfl, rfl⟩)
            all_goals first | (go_ret; exact ⟨rfl, rfl⟩) | (exfalso; omega)
      · have e : k = s.size := by omega
        subst e
        rw [take_all _ _ (by omega)] at hall
        have hR := he hall
        subst hR
        clear hall he hb
        go_wp2_with (go_at_call 52; refine (hC _).mono ?_; rintro e w' ⟨⟨m, x, rfl⟩, rfl⟩)
        go_ret
        exact ⟨rfl, rfl⟩

end Go.Proofs.YtijoadkjkbkjgaaDoor
