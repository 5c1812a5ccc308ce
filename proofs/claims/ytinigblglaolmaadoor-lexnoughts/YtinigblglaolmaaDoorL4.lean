import Derived.Test.YtinigblglaolmaaDoorL3
namespace Go.Proofs.YtinigblglaolmaaDoor
open Go.RowKit
set_option linter.unusedVariables false
set_option linter.unusedSimpArgs false

theorem drop_itoa (n : Int) (h : n < 0) : (⟨(Lib.itoa n).toArray⟩ : ByteArray).extract 1 (⟨(Lib.itoa n).toArray⟩ : ByteArray).size = ⟨(Lib.decDigits n.natAbs).toArray⟩ := by
  rw [itoa_sgn]
  unfold sgn
  rw [if_pos h]
  apply ByteArray.ext
  apply Array.toList_inj.1
  rw [ByteArray.data_extract]
  simp only [Array.toList_extract, List.extract_eq_take_drop]
  show List.take (([45] ++ Lib.decDigits n.natAbs).toArray.size - 1) (List.drop 1 ([45] ++ Lib.decDigits n.natAbs)) = Lib.decDigits n.natAbs
  rw [List.size_toArray]
  simp
theorem zero_app (k : Nat) (l : List UInt8) : (⟨#[48]⟩ ++ ⟨(List.replicate k 48 ++ l).toArray⟩ : ByteArray) = ⟨(List.replicate (k + 1) 48 ++ l).toArray⟩ := by
  apply ByteArray.ext
  simp [ByteArray.data_append, List.replicate_succ]
theorem three_app (a b : List UInt8) : ((⟨a.toArray⟩ ++ ⟨b.toArray⟩ : ByteArray) ++ ⟨#[41]⟩) = ⟨(a ++ b ++ [41]).toArray⟩ := by
  apply ByteArray.ext
  simp [ByteArray.data_append]
set_option maxRecDepth 100000 in
set_option maxHeartbeats 1000000 in
theorem lexNoughts_neg (n many : Int) (h0 : -9223372036854775808 ≤ n) (h1 : n ≤ 9223372036854775807) (m0 : 0 ≤ many) (m1 : many < 256) (hn : n < 0) (w : World) (hE : Er w) : Calls Tryd.prog 8 #[.int .i64 n, .int .u8 many] w fun e w' => e = .returned (.bool true) ∧ BW w w' := by
  have hE' : Hid (Er w) := hE
  clear hE
  have hx := drop_itoa n hn
  have t1 : many.tmod 51 = many % 51 := Int.tmod_eq_emod_of_nonneg (by omega)
  have t2 : IntKind.u8.wrap (many % 51) = many % 51 := u8w _ (by omega) (by omega)
  have t3 : IntKind.i64.wrap (many % 51) = many % 51 := i64w _ (by omega) (by omega)
  have hlen := itoa_len n h0 h1
  have hsz : (⟨(Lib.itoa n).toArray⟩ : ByteArray).size = (Lib.itoa n).length := by show (Lib.itoa n).toArray.size = _; rw [List.size_toArray]
  have hl1 : (1 : Int) ≤ (⟨(Lib.itoa n).toArray⟩ : ByteArray).size := by rw [hsz, itoa_sgn]; unfold sgn; rw [if_pos hn]; simp; omega
  rw [hsz] at hx
  have hld : (Lib.decDigits n.natAbs).length ≤ 20 := dec_len 19 n.natAbs (by omega)
  have hsg : sgn n = [45] := by unfold sgn; rw [if_pos hn]
  obtain ⟨M, hM⟩ : ∃ M : Nat, (M : Int) = many % 51 := ⟨(many % 51).toNat, by omega⟩
  have hM51 : M < 51 := by omega
  have hlex : ∀ k : Nat, k ≤ 51 → lexAll ([45] ++ (List.replicate k 48 ++ Lib.decDigits n.natAbs) ++ [41]) = .ok [⟨4, [], n, ([45] ++ (List.replicate k 48 ++ Lib.decDigits n.natAbs) ++ [41]).length⟩, ⟨2, [], 0, 1⟩] := fun k hk => by
    have := lex_noughts n h0 h1 k (by rw [hsg]; simp; omega)
    rw [hsg] at this; exact this
  have hN : ∀ w, Calls Tryd.prog 15 #[.int .i64 n] w fun e w' => e = .returned (.string ⟨(Lib.itoa n).toArray⟩) ∧ BW w w' := fun w => number_any n h0 h1 w
  generalize Lib.decDigits n.natAbs = D at *
  have HX : Hid _ := hx
  have HM : Hid _ := hM
  clear hx hM
  go_enter Tryd.func8, Tryd.ntmps8
  go_wp2_with (fail)
  refine (hN _).mono ?_
  rintro e w1 ⟨rfl, hb1⟩
  clear hN
  go_wp2_with (fail)
  clear hsz hl1 hlen
  go_loop [5, 7] (fun s i => ∃ k : Nat, k ≤ M ∧ i = .int .i64 k ∧ s = .string ⟨(List.replicate k 48 ++ D).toArray⟩) (fun _ i => M - (intOf i).toNat)
  case atStart => exact ⟨0, Nat.zero_le _, rfl, by rw [HX.out]; rfl⟩
  case round =>
    obtain ⟨k, hk, rfl, rfl⟩ := hrel
    by_cases hlt : k < M
    · have hlt' : (k : Int) < many % 51 := by have := HM.out; omega
      have hz := zero_app k D
      have hbig : (⟨#[48]⟩ : ByteArray).size + (⟨(List.replicate k 48 ++ D).toArray⟩ : ByteArray).size ≤ 1000 := by
        show 1 + (List.replicate k 48 ++ D).toArray.size ≤ _
        rw [List.size_toArray]; simp; omega
      go_wp2_with fail
      go_round
      case rel => exact ⟨k + 1, by omega, by go_num, rfl⟩
      case measure => simp [intOf]; omega
    · have e : k = M := by omega
      subst e
      have hlt' : ¬ (k : Int) < many % 51 := by have := HM.out; omega
      obtain ⟨F, hF⟩ : ∃ F : ByteArray, F = ⟨([45] ++ (List.replicate k 48 ++ D) ++ [41]).toArray⟩ := ⟨_, rfl⟩
      have e3 : ((⟨#[45]⟩ ++ ⟨(List.replicate k 48 ++ D).toArray⟩ : ByteArray) ++ ⟨#[41]⟩) = F := (three_app [45] _).trans hF.symm
      have hFl : F.data.toList = [45] ++ (List.replicate k 48 ++ D) ++ [41] := by rw [hF]
      have hL := hlex k (by omega)
      rw [← hFl] at hL
      have hDl : (List.replicate k 48 ++ D).length ≤ 80 := by simp; omega
      have hFs : F.size = (List.replicate k 48 ++ D).length + 1 + 1 := by
        have h2 : F.data.toList.length = F.size := by simp
        rw [← h2, hFl]; simp; try omega
      have hFs2 : F.data.toList.length = F.size := by simp
      rw [hFs2] at hL
      clear hlex hF hFl
      generalize List.replicate k 48 ++ D = Z at *
      have hzs : (⟨Z.toArray⟩ : ByteArray).size = Z.length := by show Z.toArray.size = _; rw [List.size_toArray]
      have hL' : Hid _ := hL
      have hFs' : Hid _ := hFs
      clear hL hFs hFs2
      go_wp2_with fail
      refine (lexTokens_any F w1 (hE'.out.bw hb1)).mono ?_
      rw [hL'.out]
      rintro e w2 ⟨ao, m, c, rfl, hown, hb2⟩
      obtain ⟨rfl, h0' | ⟨g, rfl, _, hgl, hc⟩⟩ := row_form hown
      · cases h0'
      obtain ⟨k0, k1, k2, k3⟩ := hc 0 _ rfl
      obtain ⟨_, _, _, k7⟩ := hc 1 _ rfl
      simp only [Nat.zero_mul, Nat.zero_add, Nat.sub_self] at k0 k1 k2 k3
      have k1' : w2.cell? ⟨g, 1, none⟩ = some (.string ⟨#[]⟩) := k1
      clear k1
      have k7' : w2.cell? ⟨g, 7, none⟩ = some (.int .i64 ((1 : Int) + Z.length)) := by
        have e7 : ((F.size - 1 : Nat) : Int) = (1 : Int) + Z.length := by have := hFs'.out; omega
        rw [← e7]; exact k7
      have hs1 : (⟨#[45]⟩ : ByteArray).size = 1 := rfl
      have hw : IntKind.i64.wrap ((1 : Int) + Z.length) = 1 + Z.length := i64w _ (by omega) (by omega)
      clear hc hown k7
      have hE2' : Hid (Er w2) := hE'.out.bw (hb1.trans hb2)
      go_wp2_with (fail)
      refine (awake_any _ hE2'.out).mono ?_
      rintro e w4 ⟨rfl, hw⟩
      go_wp2_with (fail)
      go_ret
      exact ⟨rfl, (hb1.trans hb2).trans hw⟩
set_option maxRecDepth 100000 in
set_option maxHeartbeats 1000000 in
theorem lexNoughts_pos (n many : Int) (h0 : -9223372036854775808 ≤ n) (h1 : n ≤ 9223372036854775807) (m0 : 0 ≤ many) (m1 : many < 256) (hn : ¬ n < 0) (w : World) (hE : Er w) : Calls Tryd.prog 8 #[.int .i64 n, .int .u8 many] w fun e w' => e = .returned (.bool true) ∧ BW w w' := by
  have hE' : Hid (Er w) := hE
  clear hE
  have hx : (⟨(Lib.itoa n).toArray⟩ : ByteArray) = ⟨(Lib.decDigits n.natAbs).toArray⟩ := by rw [itoa_sgn]; unfold sgn; rw [if_neg hn]; rfl
  have t1 : many.tmod 51 = many % 51 := Int.tmod_eq_emod_of_nonneg (by omega)
  have t2 : IntKind.u8.wrap (many % 51) = many % 51 := u8w _ (by omega) (by omega)
  have t3 : IntKind.i64.wrap (many % 51) = many % 51 := i64w _ (by omega) (by omega)
  have hlen := itoa_len n h0 h1
  have hsz : (⟨(Lib.itoa n).toArray⟩ : ByteArray).size = (Lib.itoa n).length := by show (Lib.itoa n).toArray.size = _; rw [List.size_toArray]
  have hld : (Lib.decDigits n.natAbs).length ≤ 20 := dec_len 19 n.natAbs (by omega)
  have hsg : sgn n = [] := by unfold sgn; rw [if_neg hn]
  obtain ⟨M, hM⟩ : ∃ M : Nat, (M : Int) = many % 51 := ⟨(many % 51).toNat, by omega⟩
  have hM51 : M < 51 := by omega
  have hlex : ∀ k : Nat, k ≤ 51 → lexAll ([] ++ (List.replicate k 48 ++ Lib.decDigits n.natAbs) ++ [41]) = .ok [⟨4, [], n, ([] ++ (List.replicate k 48 ++ Lib.decDigits n.natAbs) ++ [41]).length⟩, ⟨2, [], 0, 1⟩] := fun k hk => by
    have := lex_noughts n h0 h1 k (by rw [hsg]; simp; omega)
    rw [hsg] at this; exact this
  have hN : ∀ w, Calls Tryd.prog 15 #[.int .i64 n] w fun e w' => e = .returned (.string ⟨(Lib.itoa n).toArray⟩) ∧ BW w w' := fun w => number_any n h0 h1 w
  generalize Lib.decDigits n.natAbs = D at *
  have HX : Hid _ := hx
  have HM : Hid _ := hM
  clear hx hM
  go_enter Tryd.func8, Tryd.ntmps8
  go_wp2_with (fail)
  refine (hN _).mono ?_
  rintro e w1 ⟨rfl, hb1⟩
  clear hN
  go_wp2_with (fail)
  clear hsz hlen
  go_loop [5, 7] (fun s i => ∃ k : Nat, k ≤ M ∧ i = .int .i64 k ∧ s = .string ⟨(List.replicate k 48 ++ D).toArray⟩) (fun _ i => M - (intOf i).toNat)
  case atStart => exact ⟨0, Nat.zero_le _, rfl, by rw [HX.out]; rfl⟩
  case round =>
    obtain ⟨k, hk, rfl, rfl⟩ := hrel
    by_cases hlt : k < M
    · have hlt' : (k : Int) < many % 51 := by have := HM.out; omega
      have hz := zero_app k D
      have hbig : (⟨#[48]⟩ : ByteArray).size + (⟨(List.replicate k 48 ++ D).toArray⟩ : ByteArray).size ≤ 1000 := by
        show 1 + (List.replicate k 48 ++ D).toArray.size ≤ _
        rw [List.size_toArray]; simp; omega
      go_wp2_with fail
      go_round
      case rel => exact ⟨k + 1, by omega, by go_num, rfl⟩
      case measure => simp [intOf]; omega
    · have e : k = M := by omega
      subst e
      have hlt' : ¬ (k : Int) < many % 51 := by have := HM.out; omega
      obtain ⟨F, hF⟩ : ∃ F : ByteArray, F = ⟨([] ++ (List.replicate k 48 ++ D) ++ [41]).toArray⟩ := ⟨_, rfl⟩
      have e3 : ((⟨#[]⟩ ++ ⟨(List.replicate k 48 ++ D).toArray⟩ : ByteArray) ++ ⟨#[41]⟩) = F := (three_app [] _).trans hF.symm
      have hFl : F.data.toList = [] ++ (List.replicate k 48 ++ D) ++ [41] := by rw [hF]
      have hL := hlex k (by omega)
      rw [← hFl] at hL
      have hDl : (List.replicate k 48 ++ D).length ≤ 80 := by simp; omega
      have hFs : F.size = (List.replicate k 48 ++ D).length + 0 + 1 := by
        have h2 : F.data.toList.length = F.size := by simp
        rw [← h2, hFl]; simp; try omega
      have hFs2 : F.data.toList.length = F.size := by simp
      rw [hFs2] at hL
      clear hlex hF hFl
      generalize List.replicate k 48 ++ D = Z at *
      have hzs : (⟨Z.toArray⟩ : ByteArray).size = Z.length := by show Z.toArray.size = _; rw [List.size_toArray]
      have hL' : Hid _ := hL
      have hFs' : Hid _ := hFs
      clear hL hFs hFs2
      go_wp2_with fail
      refine (lexTokens_any F w1 (hE'.out.bw hb1)).mono ?_
      rw [hL'.out]
      rintro e w2 ⟨ao, m, c, rfl, hown, hb2⟩
      obtain ⟨rfl, h0' | ⟨g, rfl, _, hgl, hc⟩⟩ := row_form hown
      · cases h0'
      obtain ⟨k0, k1, k2, k3⟩ := hc 0 _ rfl
      obtain ⟨_, _, _, k7⟩ := hc 1 _ rfl
      simp only [Nat.zero_mul, Nat.zero_add, Nat.sub_self] at k0 k1 k2 k3
      have k1' : w2.cell? ⟨g, 1, none⟩ = some (.string ⟨#[]⟩) := k1
      clear k1
      have k7' : w2.cell? ⟨g, 7, none⟩ = some (.int .i64 ((0 : Int) + Z.length)) := by
        have e7 : ((F.size - 1 : Nat) : Int) = (0 : Int) + Z.length := by have := hFs'.out; omega
        rw [← e7]; exact k7
      have hs1 : (⟨#[]⟩ : ByteArray).size = 0 := rfl
      have hw : IntKind.i64.wrap ((0 : Int) + Z.length) = 0 + Z.length := i64w _ (by omega) (by omega)
      clear hc hown k7
      have hE2' : Hid (Er w2) := hE'.out.bw (hb1.trans hb2)
      go_wp2_with (fail)
      refine (awake_any _ hE2'.out).mono ?_
      rintro e w4 ⟨rfl, hw⟩
      go_wp2_with (fail)
      go_ret
      exact ⟨rfl, (hb1.trans hb2).trans hw⟩
theorem lexNoughts_any (n many : Int) (h0 : -9223372036854775808 ≤ n) (h1 : n ≤ 9223372036854775807) (m0 : 0 ≤ many) (m1 : many < 256) (w : World) (hE : Er w) : Calls Tryd.prog 8 #[.int .i64 n, .int .u8 many] w fun e w' => e = .returned (.bool true) ∧ BW w w' := by
  by_cases hn : n < 0
  · exact lexNoughts_neg n many h0 h1 m0 m1 hn w hE
  · exact lexNoughts_pos n many h0 h1 m0 m1 hn w hE

end Go.Proofs.YtinigblglaolmaaDoor
