import Derived.Test.YtinigblglaolmaaDoorR7
namespace Go.Proofs.YtinigblglaolmaaDoor
open Go.RowKit
set_option linter.unusedVariables false
set_option linter.unusedSimpArgs false

/-- What the reference's number has reckoned of digits p: m is below 0; b: it fits. -/
def NR (p : List UInt8) (n f : Value) : Prop :=
  p.all dg = true ∧ ∃ (m : Int) (b : Bool), n = .int .i64 m ∧ f = .bool b ∧ ((b = true ∧ m = -(val 0 p : Int) ∧ val 0 p ≤ 9223372036854775808) ∨ (b = false ∧ 9223372036854775808 < val 0 p ∧ -9223372036854775808 ≤ m ∧ m ≤ 0))
theorem val_snoc (p : List UInt8) (c : UInt8) (acc : Nat) : val acc (p ++ [c]) = val acc p * 10 + (c.toNat - 48) := by
  unfold val; rw [List.foldl_append]; rfl
def numRes (l : List UInt8) (e : Ending) : Prop :=
  (num l = false ∧ e = .returned (.tuple #[.int .i64 0, .bool false, .bool false])) ∨ (num l = true ∧ ∃ m : Int, e = .returned (.tuple #[.int .i64 m, .bool true, .bool (numv l).isSome]) ∧ ∀ n, numv l = some n → m = n)
theorem q10 (d : Int) (h0 : 0 ≤ d) (h9 : d ≤ 9) : (-9223372036854775808 + d).tdiv 10 = if d = 9 then -922337203685477579 else -922337203685477580 := by
  have : d = 0 ∨ d = 1 ∨ d = 2 ∨ d = 3 ∨ d = 4 ∨ d = 5 ∨ d = 6 ∨ d = 7 ∨ d = 8 ∨ d = 9 := by omega
  rcases this with rfl | rfl | rfl | rfl | rfl | rfl | rfl | rfl | rfl | rfl <;> decide

theorem take_drop_snoc (s : ByteArray) (a k : Nat) (ha : a ≤ k) (h : k < s.size) : (s.data.toList.drop a).take (k + 1 - a) = (s.data.toList.drop a).take (k - a) ++ [s[k]] := by
  rw [show k + 1 - a = (k - a) + 1 by omega, List.take_add_one]
  have : (s.data.toList.drop a)[k - a]? = some s[k] := by
    rw [List.getElem?_drop, show a + (k - a) = k by omega, List.getElem?_eq_getElem (by simpa using h)]; rfl
  rw [this]; rfl
theorem take_drop_all (s : ByteArray) (a : Nat) : (s.data.toList.drop a).take (s.size - a) = s.data.toList.drop a := List.take_of_length_le (by simp)
set_option maxRecDepth 100000 in
set_option maxHeartbeats 1000000 in
theorem refNumber_pos (s : ByteArray) (hs : s.size ≤ 100000) (h0 : 0 < s.size) (h45 : ¬ s[0] = 45) (w : World) : Calls Tryd.prog 25 #[.string s] w fun e w' => numRes s.data.toList e ∧ w' = w := by
  obtain ⟨c, r, hl⟩ : ∃ c r, s.data.toList = c :: r := by
    cases h : s.data.toList with
    | nil => have h2 : s.data.toList.length = s.size := by simp
             rw [h] at h2; simp at h2; omega
    | cons c r => exact ⟨c, r, rfl⟩
  have hc : s[0] = c := by
    have : s.data.toList[0]? = some s[0] := by rw [List.getElem?_eq_getElem (by simpa using h0)]; rfl
    rw [hl] at this; simpa using this.symm
  have htr : Lib.trimPrefix s.data.toList [45] = s.data.toList.drop 0 := by rw [hl, trim_pos r (hc ▸ h45)]; rfl
  have hsz : 0 ≤ s.size := Nat.zero_le _
  have hno : ∀ k, 0 ≤ k → (hk : k < s.size) → dg s[k] = false → num s.data.toList = false := by
    intro k _ hk hd
    unfold num; rw [htr]
    rw [List.drop_zero, all_mem k hk hd]; rfl
  have hyes : (s.data.toList.drop 0).all dg = true → num s.data.toList = true := by
    intro h
    unfold num; rw [htr, h, List.drop_zero, hl]; rfl
  have hnv : numv s.data.toList = if val 0 (s.data.toList.drop 0) < 9223372036854775808 then some (val 0 (s.data.toList.drop 0) : Int) else none := by
    unfold numv
    rw [htr, if_neg (by rw [hl]; simp; exact hc ▸ h45)]
  have g0 : ¬ (s[0].toNat : Int) = 45 := fun e => h45 (UInt8.toNat_inj.1 (by simpa using (by omega : s[0].toNat = 45)))
  have g1 : (0 : Int) < s.size := by omega
  have g2 : ¬ (0 : Int) = s.size := by omega
  clear hl hc htr
  go_enter Tryd.func25, Tryd.ntmps25
  go_wp2_with (fail)
  go_loop [6, 7, 8] (fun n f i => ∃ k : Nat, 0 ≤ k ∧ k ≤ s.size ∧ i = .int .i64 k ∧ NR ((s.data.toList.drop 0).take (k - 0)) n f) (fun _ _ i => s.size - (intOf i).toNat)
  case atStart => exact ⟨0, Nat.le_refl _, hsz, rfl, by simp, 0, true, rfl, rfl, .inl ⟨rfl, by simp [val], by simp [val]⟩⟩
  case round =>
    obtain ⟨k, ha, hk, rfl, hall, m, b, rfl, rfl, hN⟩ := hrel
    by_cases hlt : k < s.size
    · by_cases hd : dg s[k] = true
      · have HP : (s.data.toList.drop 0).take (k + 1 - 0) = (s.data.toList.drop 0).take (k - 0) ++ [s[k]] := take_drop_snoc s 0 k ha hlt
        have HA : Hid (((s.data.toList.drop 0).take (k + 1 - 0)).all dg = true) := by show _ = _; rw [HP]; simp only [List.all_append, hall]; simp [hd]
        have HV : val 0 ((s.data.toList.drop 0).take (k + 1 - 0)) = val 0 ((s.data.toList.drop 0).take (k - 0)) * 10 + (s[k].toNat - 48) := by rw [HP, val_snoc]
        clear HP hall
        generalize val 0 ((s.data.toList.drop 0).take (k - 0)) = v at hN HV
        simp only [dg, Bool.and_eq_true, decide_eq_true_eq] at hd
        obtain ⟨d1, d2⟩ := hd
        have e1 : decide ((s[k].toNat : Int) < 48) = false := by simp; omega
        have e2 : decide ((57 : Int) < (s[k].toNat : Int)) = false := by simp; omega
        obtain ⟨d, hd⟩ : ∃ d : Int, d = (s[k].toNat : Int) - 48 := ⟨_, rfl⟩
        have HD : ((s[k].toNat - 48 : Nat) : Int) = d := by omega
        have d3 : 0 ≤ d := by omega
        have d4 : d ≤ 9 := by omega
        have hm : -9223372036854775808 ≤ m ∧ m ≤ 0 := by rcases hN with ⟨_, h1, h2⟩ | ⟨_, _, h1, h2⟩ <;> omega
        have w1 : IntKind.u8.wrap ((s[k].toNat : Int) - 48) = d := by rw [← hd]; exact u8w _ (by omega) (by omega)
        have w2 : IntKind.i64.wrap d = d := i64w _ (by omega) (by omega)
        have w3 : IntKind.i64.wrap (-9223372036854775808 + d) = -9223372036854775808 + d := i64w _ (by omega) (by omega)
        have hq := q10 d d3 d4
        have hqb : -922337203685477580 ≤ (-9223372036854775808 + d).tdiv 10 ∧ (-9223372036854775808 + d).tdiv 10 ≤ -922337203685477579 := by rw [hq]; split <;> omega
        have w4 : IntKind.i64.wrap ((-9223372036854775808 + d).tdiv 10) = (-9223372036854775808 + d).tdiv 10 := i64w _ (by omega) (by omega)
        have HQ : Hid (((-9223372036854775808 + d).tdiv 10 = -922337203685477579 ∧ d = 9) ∨ ((-9223372036854775808 + d).tdiv 10 = -922337203685477580 ∧ d ≤ 8)) := by
          show _ ∨ _
          rw [hq]; split <;> omega
        clear hq
        have HN : Hid _ := hN
        have HV' : Hid _ := HV
        have HD' : Hid _ := HD
        clear hN HV HD hd
        by_cases hmq : m < (-9223372036854775808 + d).tdiv 10
        · go_wp2_with fail
          go_round
          case rel =>
            refine ⟨k + 1, by omega, by omega, by go_num, HA.out, m, false, rfl, rfl, .inr ⟨rfl, ?_, hm⟩⟩
            have h1 := HV'.out
            have h2 := HD'.out
            rcases HQ.out with ⟨h3, h4⟩ | ⟨h3, h4⟩ <;> rcases HN.out with ⟨_, h5, h6⟩ | ⟨_, h5, _, h6⟩ <;> omega
          case measure => simp [intOf]; omega
        · have w5 : IntKind.i64.wrap (10 * m) = 10 * m := i64w _ (by omega) (by omega)
          have w6 : IntKind.i64.wrap (10 * m - d) = 10 * m - d := i64w _ (by rcases HQ.out with ⟨h3, h4⟩ | ⟨h3, h4⟩ <;> omega) (by omega)
          go_wp2_with fail
          go_round
          case rel =>
            refine ⟨k + 1, by omega, by omega, by go_num, HA.out, 10 * m - d, b, rfl, rfl, ?_⟩
            have h1 := HV'.out
            have h2 := HD'.out
            rcases HQ.out with ⟨h3, h4⟩ | ⟨h3, h4⟩ <;> rcases HN.out with ⟨hb, h5, h6⟩ | ⟨hb, h5, h7, h6⟩
            · exact .inl ⟨hb, by omega, by omega⟩
            · exact .inr ⟨hb, by omega, by omega, by omega⟩
            · exact .inl ⟨hb, by omega, by omega⟩
            · exact .inr ⟨hb, by omega, by omega, by omega⟩
          case measure => simp [intOf]; omega
      · have HA : num s.data.toList = false := hno k ha hlt (by simpa using hd)
        simp only [dg, Bool.and_eq_true, decide_eq_true_eq, not_and] at hd
        have HA' : Hid _ := HA
        clear HA hN hall
        go_wp2_with fail
        all_goals (go_ret3; exact ⟨.inl ⟨HA'.out, rfl⟩, rfl⟩)
    · have e : k = s.size := by omega
      subst e
      rw [take_drop_all s 0] at hall hN
      have HY := hyes hall
      have HN : Hid _ := hN
      have HY' : Hid _ := HY
      clear hN HY hall
      generalize val 0 (s.data.toList.drop 0) = v at HN hnv
      by_cases hmin : m = -9223372036854775808
      · have hv : Hid (numv s.data.toList = none) := by
          show _ = _
          rw [hnv]; exact if_neg (by rcases HN.out with ⟨_, h5, h6⟩ | ⟨_, h5, _, h6⟩ <;> omega)
        clear hnv
        go_wp2_with fail
        go_ret3
        exact ⟨.inr ⟨HY'.out, 0, by rw [hv.out]; rfl, fun n hn => by rw [hv.out] at hn; cases hn⟩, rfl⟩
      · have hm : -9223372036854775808 ≤ m ∧ m ≤ 0 := by rcases HN.out with ⟨_, h1, h2⟩ | ⟨_, _, h1, h2⟩ <;> omega
        have w1 : IntKind.i64.wrap (-m) = -m := i64w _ (by omega) (by omega)
        have w2 : IntKind.i64.wrap (0 - m) = -m := by rw [Int.zero_sub]; exact w1
        have hv : Hid ((numv s.data.toList).isSome = b ∧ ∀ n, numv s.data.toList = some n → -m = n) := by
          show _ ∧ _
          rcases HN.out with ⟨hb, h5, h6⟩ | ⟨hb, h5, _, h6⟩
          · rw [hnv, if_pos (by omega)]
            refine ⟨hb.symm, fun n hn => ?_⟩
            injection hn with hn; omega
          · rw [hnv, if_neg (by omega)]
            exact ⟨hb.symm, fun n hn => by cases hn⟩
        clear hnv
        go_wp2_with fail
        go_ret3
        exact ⟨.inr ⟨HY'.out, -m, by rw [hv.out.1]; rfl, hv.out.2⟩, rfl⟩


set_option maxRecDepth 100000 in
set_option maxHeartbeats 1000000 in
theorem refNumber_neg (s : ByteArray) (hs : s.size ≤ 100000) (h0 : 1 < s.size) (h45 : s[0] = 45) (w : World) : Calls Tryd.prog 25 #[.string s] w fun e w' => numRes s.data.toList e ∧ w' = w := by
  obtain ⟨c, r, hl⟩ : ∃ c r, s.data.toList = c :: r := by
    cases h : s.data.toList with
    | nil => have h2 : s.data.toList.length = s.size := by simp
             rw [h] at h2; simp at h2; omega
    | cons c r => exact ⟨c, r, rfl⟩
  have hc : s[0] = c := by
    have : s.data.toList[0]? = some s[0] := by rw [List.getElem?_eq_getElem (by simp; omega)]; rfl
    rw [hl] at this; simpa using this.symm
  have hc45 : c = 45 := hc ▸ h45
  subst hc45
  have hlen : r.length + 1 = s.size := by
    have h2 : s.data.toList.length = s.size := by simp
    rw [hl] at h2; simpa using h2
  have htr : Lib.trimPrefix s.data.toList [45] = s.data.toList.drop 1 := by rw [hl, trim_neg r]; rfl
  have hsz : 1 ≤ s.size := by omega
  have hno : ∀ k, 1 ≤ k → (hk : k < s.size) → dg s[k] = false → num s.data.toList = false := by
    intro k hk1 hk hd
    unfold num; rw [htr]
    have : (s.data.toList.drop 1).all dg = false := by
      rw [List.all_eq_false]
      refine ⟨s[k], ?_, by simp [hd]⟩
      have h3 : (s.data.toList.drop 1)[k - 1]? = some s[k] := by
        rw [List.getElem?_drop, show 1 + (k - 1) = k by omega, List.getElem?_eq_getElem (by simpa using hk)]; rfl
      exact List.mem_of_getElem? h3
    rw [this]; rfl
  have hyes : (s.data.toList.drop 1).all dg = true → num s.data.toList = true := by
    intro h
    unfold num; rw [htr, h, hl]
    cases r with
    | nil => simp at hlen; omega
    | cons a b => rfl
  have hnv : numv s.data.toList = if val 0 (s.data.toList.drop 1) ≤ 9223372036854775808 then some (-(val 0 (s.data.toList.drop 1) : Int)) else none := by
    unfold numv
    rw [htr, if_pos (by rw [hl]; rfl)]
  have g0 : (s[0].toNat : Int) = 45 := by rw [h45]; rfl
  have g1 : (0 : Int) < s.size := by omega
  have g2 : ¬ (1 : Int) = s.size := by omega
  clear hl hc htr hlen
  go_enter Tryd.func25, Tryd.ntmps25
  go_wp2_with (fail)
  go_loop [6, 7, 8] (fun n f i => ∃ k : Nat, 1 ≤ k ∧ k ≤ s.size ∧ i = .int .i64 k ∧ NR ((s.data.toList.drop 1).take (k - 1)) n f) (fun _ _ i => s.size - (intOf i).toNat)
  case atStart => exact ⟨1, Nat.le_refl _, hsz, rfl, by simp, 0, true, rfl, rfl, .inl ⟨rfl, by simp [val], by simp [val]⟩⟩
  case round =>
    obtain ⟨k, ha, hk, rfl, hall, m, b, rfl, rfl, hN⟩ := hrel
    by_cases hlt : k < s.size
    · by_cases hd : dg s[k] = true
      · have HP : (s.data.toList.drop 1).take (k + 1 - 1) = (s.data.toList.drop 1).take (k - 1) ++ [s[k]] := take_drop_snoc s 1 k ha hlt
        have HA : Hid (((s.data.toList.drop 1).take (k + 1 - 1)).all dg = true) := by show _ = _; rw [HP]; simp only [List.all_append, hall]; simp [hd]
        have HV : val 0 ((s.data.toList.drop 1).take (k + 1 - 1)) = val 0 ((s.data.toList.drop 1).take (k - 1)) * 10 + (s[k].toNat - 48) := by rw [HP, val_snoc]
        clear HP hall
        generalize val 0 ((s.data.toList.drop 1).take (k - 1)) = v at hN HV
        simp only [dg, Bool.and_eq_true, decide_eq_true_eq] at hd
        obtain ⟨d1, d2⟩ := hd
        have e1 : decide ((s[k].toNat : Int) < 48) = false := by simp; omega
        have e2 : decide ((57 : Int) < (s[k].toNat : Int)) = false := by simp; omega
        obtain ⟨d, hd⟩ : ∃ d : Int, d = (s[k].toNat : Int) - 48 := ⟨_, rfl⟩
        have HD : ((s[k].toNat - 48 : Nat) : Int) = d := by omega
        have d3 : 0 ≤ d := by omega
        have d4 : d ≤ 9 := by omega
        have hm : -9223372036854775808 ≤ m ∧ m ≤ 0 := by rcases hN with ⟨_, h1, h2⟩ | ⟨_, _, h1, h2⟩ <;> omega
        have w1 : IntKind.u8.wrap ((s[k].toNat : Int) - 48) = d := by rw [← hd]; exact u8w _ (by omega) (by omega)
        have w2 : IntKind.i64.wrap d = d := i64w _ (by omega) (by omega)
        have w3 : IntKind.i64.wrap (-9223372036854775808 + d) = -9223372036854775808 + d := i64w _ (by omega) (by omega)
        have hq := q10 d d3 d4
        have hqb : -922337203685477580 ≤ (-9223372036854775808 + d).tdiv 10 ∧ (-9223372036854775808 + d).tdiv 10 ≤ -922337203685477579 := by rw [hq]; split <;> omega
        have w4 : IntKind.i64.wrap ((-9223372036854775808 + d).tdiv 10) = (-9223372036854775808 + d).tdiv 10 := i64w _ (by omega) (by omega)
        have HQ : Hid (((-9223372036854775808 + d).tdiv 10 = -922337203685477579 ∧ d = 9) ∨ ((-9223372036854775808 + d).tdiv 10 = -922337203685477580 ∧ d ≤ 8)) := by
          show _ ∨ _
          rw [hq]; split <;> omega
        clear hq
        have HN : Hid _ := hN
        have HV' : Hid _ := HV
        have HD' : Hid _ := HD
        clear hN HV HD hd
        by_cases hmq : m < (-9223372036854775808 + d).tdiv 10
        · go_wp2_with fail
          go_round
          case rel =>
            refine ⟨k + 1, by omega, by omega, by go_num, HA.out, m, false, rfl, rfl, .inr ⟨rfl, ?_, hm⟩⟩
            have h1 := HV'.out
            have h2 := HD'.out
            rcases HQ.out with ⟨h3, h4⟩ | ⟨h3, h4⟩ <;> rcases HN.out with ⟨_, h5, h6⟩ | ⟨_, h5, _, h6⟩ <;> omega
          case measure => simp [intOf]; omega
        · have w5 : IntKind.i64.wrap (10 * m) = 10 * m := i64w _ (by omega) (by omega)
          have w6 : IntKind.i64.wrap (10 * m - d) = 10 * m - d := i64w _ (by rcases HQ.out with ⟨h3, h4⟩ | ⟨h3, h4⟩ <;> omega) (by omega)
          go_wp2_with fail
          go_round
          case rel =>
            refine ⟨k + 1, by omega, by omega, by go_num, HA.out, 10 * m - d, b, rfl, rfl, ?_⟩
            have h1 := HV'.out
            have h2 := HD'.out
            rcases HQ.out with ⟨h3, h4⟩ | ⟨h3, h4⟩ <;> rcases HN.out with ⟨hb, h5, h6⟩ | ⟨hb, h5, h7, h6⟩
            · exact .inl ⟨hb, by omega, by omega⟩
            · exact .inr ⟨hb, by omega, by omega, by omega⟩
            · exact .inl ⟨hb, by omega, by omega⟩
            · exact .inr ⟨hb, by omega, by omega, by omega⟩
          case measure => simp [intOf]; omega
      · have HA : num s.data.toList = false := hno k ha hlt (by simpa using hd)
        simp only [dg, Bool.and_eq_true, decide_eq_true_eq, not_and] at hd
        have HA' : Hid _ := HA
        clear HA hN hall
        go_wp2_with fail
        all_goals (go_ret3; exact ⟨.inl ⟨HA'.out, rfl⟩, rfl⟩)
    · have e : k = s.size := by omega
      subst e
      rw [take_drop_all s 1] at hall hN
      have HY := hyes hall
      have HN : Hid _ := hN
      have HY' : Hid _ := HY
      clear hN HY hall
      generalize val 0 (s.data.toList.drop 1) = v at HN hnv
      have hv : Hid ((numv s.data.toList).isSome = b ∧ ∀ n, numv s.data.toList = some n → m = n) := by
        show _ ∧ _
        rcases HN.out with ⟨hb, h5, h6⟩ | ⟨hb, h5, _, h6⟩
        · rw [hnv, if_pos (by omega)]
          refine ⟨hb.symm, fun n hn => ?_⟩
          injection hn with hn; omega
        · rw [hnv, if_neg (by omega)]
          exact ⟨hb.symm, fun n hn => by cases hn⟩
      clear hnv
      go_wp2_with fail
      go_ret3
      exact ⟨.inr ⟨HY'.out, m, by rw [hv.out.1]; rfl, hv.out.2⟩, rfl⟩


set_option maxRecDepth 100000 in
set_option maxHeartbeats 1000000 in
theorem refNumber_none (w : World) : Calls Tryd.prog 25 #[.string ⟨#[]⟩] w fun e w' => numRes [] e ∧ w' = w := by
  have hz : (⟨#[]⟩ : ByteArray).size = 0 := rfl
  go_enter Tryd.func25, Tryd.ntmps25
  go_wp2_with (fail)
  go_ret3
  exact ⟨.inl ⟨num_nil, rfl⟩, rfl⟩
set_option maxRecDepth 100000 in
set_option maxHeartbeats 1000000 in
theorem refNumber_sign (w : World) : Calls Tryd.prog 25 #[.string ⟨#[45]⟩] w fun e w' => numRes [45] e ∧ w' = w := by
  have hz : (⟨#[45]⟩ : ByteArray).size = 1 := rfl
  go_enter Tryd.func25, Tryd.ntmps25
  go_wp2_with (fail)
  go_ret3
  exact ⟨.inl ⟨by decide, rfl⟩, rfl⟩
theorem refNumber_any (s : ByteArray) (hs : s.size ≤ 100000) (w : World) : Calls Tryd.prog 25 #[.string s] w fun e w' => numRes s.data.toList e ∧ w' = w := by
  by_cases h0 : s.size = 0
  · have hs : s = ⟨#[]⟩ := by
      apply ByteArray.ext
      exact Array.eq_empty_of_size_eq_zero h0
    subst hs
    exact refNumber_none w
  · by_cases h45 : s[0]'(by omega) = 45
    · by_cases h1 : s.size = 1
      · have hs : s = ⟨#[45]⟩ := by
          apply ByteArray.ext
          apply Array.ext
          · exact h1
          · intro i hi _
            have : i = 0 := by have : i < s.size := hi; omega
            subst this
            exact h45
        subst hs
        exact refNumber_sign w
      · exact refNumber_neg s hs (by omega) h45 w
    · exact refNumber_pos s hs (by omega) h45 w

end Go.Proofs.YtinigblglaolmaaDoor
