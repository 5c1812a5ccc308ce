import Derived.Test.YtinigblglaolmaaDoorL6
import Derived.Test.YtinigblglaolmaaDoorL5
namespace Go.Proofs.YtinigblglaolmaaDoor
open Go.RowKit
set_option linter.unusedVariables false
set_option linter.unusedSimpArgs false

theorem row_form2 {w : World} {B : Nat} {ao : Option Addr} {n c : Nat} {N : Nat} {ts : List Tok} (h : w.ownsRow B 33 4 (.slice ao n c) ts.length (tc N ts)) : (ao = none ∧ n = 0 ∧ c = 0 ∧ ts = []) ∨ ∃ g, ao = some ⟨g, 0, none⟩ ∧ n = ts.length ∧ B ≤ g ∧ g < w.heap.size ∧ (∀ o, w.frozen? ⟨g, o, none⟩ = false) := by
  rcases h.2 with ⟨hv, h0⟩ | ⟨g, cap, cur, hv, hb, hg, _⟩
  · simp at hv
    obtain ⟨rfl, rfl, rfl⟩ := hv
    exact .inl ⟨rfl, rfl, rfl, List.length_eq_zero_iff.1 h0⟩
  · simp at hv
    obtain ⟨rfl, rfl, rfl⟩ := hv
    exact .inr ⟨g, rfl, rfl, hb, (Array.getElem?_eq_some_iff.1 hg).1, fun o => Lib.frozen_of_heap hg o⟩
theorem own_some {w : World} {B e z : Nat} {v : Value} {n : Nat} {xs : List Value} (h : w.ownsRow B e z v n xs) (hn : ¬ v = .slice none 0 0) : ∃ g c, v = .slice (some ⟨g, 0, none⟩) n c ∧ n ≤ c := by
  rcases h.2 with ⟨rfl, _⟩ | ⟨g, cap, cur, rfl, hb, hg, hc, _⟩
  · exact absurd rfl hn
  · exact ⟨_, _, rfl, hc⟩
theorem own_zero (w : World) : (w.alloc (.cells #[] 33)).ownsRow w.heap.size 33 4 (.slice (some ⟨w.heap.size, 0, none⟩) 0 0) 0 [] :=
  ⟨rfl, .inr ⟨w.heap.size, 0, #[], rfl, Nat.le_refl _, heap_alloc_new _ _, Nat.le_refl _, Nat.zero_le _, rfl, rfl⟩⟩

set_option maxRecDepth 100000 in
set_option maxHeartbeats 2000000 in
theorem lexJoins_ok (a b : ByteArray) (h1 : a.size ≤ 3000) (h2 : b.size ≤ 3000) (ts us : List Tok) (hL : lexAll a.data.toList = .ok ts) (hM : lexAll b.data.toList = .ok us) (w : World) (hE : Er w) : Calls Tryd.prog 6 #[.string a, .string b] w fun e w' => e = .returned (.bool true) ∧ BW w w' := by
  have hE' : Hid (Er w) := hE
  clear hE
  have g1 : decide ((3000 : Int) < a.size) = false := by simp; omega
  have g2 : decide ((3000 : Int) < b.size) = false := by simp; omega
  have hla : a.data.toList.length = a.size := by simp
  have hlb : b.data.toList.length = b.size := by simp
  have hJ := lex_join (by omega) (by omega) hL hM
  rw [hlb] at hJ
  have hGa := good_len (lexAll_good hL)
  have hGb := good_len (lexAll_good hM)
  have hBb : ∀ t ∈ us, t.back ≤ b.size := by have := (lexAll_good hM).back_le; rw [hlb] at this; exact this
  rw [hla] at hGa
  rw [hlb] at hGb
  obtain ⟨F, hF⟩ : ∃ F : ByteArray, F = a ++ ⟨#[10]⟩ ++ b := ⟨_, rfl⟩
  have hFl : F.data.toList = a.data.toList ++ 10 :: b.data.toList := by rw [hF]; exact join_str a b
  have hFs : F.size = a.size + 1 + b.size := by
    have : F.data.toList.length = F.size := by simp
    rw [← this, hFl]; simp; omega
  obtain ⟨i0, hi, hz0, hz1, hz2⟩ := info_parts Tryd.info33
  go_enter Tryd.func6, Tryd.ntmps6
  go_wp2_with (fail)
  refine (lexTokens_any a w hE'.out).mono ?_
  rw [hL]
  rintro e w1 ⟨ao1, n1, c1, rfl, hown1, hb1⟩
  go_wp2_with (fail)
  refine (lexTokens_any b w1 (hE'.out.bw hb1)).mono ?_
  rw [hM]
  rintro e w2 ⟨ao2, n2, c2, rfl, hown2, hb2⟩
  go_wp2_with (fail)
  rw [← hF]
  refine (lexTokens_any F w2 (hE'.out.bw (hb1.trans hb2))).mono ?_
  rw [hFl, hJ]
  rintro e w3 ⟨ao3, n3, c3, rfl, hown3, hb3⟩
  rw [hFs] at hown3
  have R1 : Hid (RowIs w3 ao1 n1 a.size ts) := ((RowIs.of hown1).bw hb2).bw hb3
  have R2 : Hid (RowIs w3 ao2 n2 b.size us) := (RowIs.of hown2).bw hb3
  have R3 : Hid (RowIs w3 ao3 n3 (a.size + 1 + b.size) (ts.map (Tok.up (b.size + 1)) ++ us)) := RowIs.of hown3
  have hn3 : n3 = ts.length + us.length := by rw [R3.out.1]; simp
  have G3 : Hid (∀ x, ao3 = some ⟨x, 0, none⟩ → w2.heap.size ≤ x) := by
    intro x hx
    rcases row_form2 hown3 with ⟨h, _⟩ | ⟨g, h, _, hg, _⟩
    · rw [h] at hx; cases hx
    · rw [h] at hx; cases hx; exact hg
  have C1 := row_form2 hown1
  have C2 := row_form2 hown2
  have hsz2 := hb2.size
  have hsz3 := hb3.size
  have hb12 := hb1.trans hb2
  clear hL hM hJ hown1 hown2 hown3 hF hFl hla hlb
  subst hn3
  rcases C2 with ⟨rfl, rfl, rfl, hus⟩ | ⟨g, rfl, rfl, hg1, hg2, hgz⟩
  · subst hus
    simp only [List.length_nil, Nat.add_zero, List.append_nil] at R3 ⊢
    have hbW : BW w w3 := hb12.trans hb3
    have htl : (tc a.size ts).length = ts.length * 4 := tc_len _ _
    have RA : Hid (RowIs w3 ao3 ts.length (a.size + 1 + b.size) (ts.map (Tok.up (b.size + 1)))) := R3.out
    clear R2 R3 G3
    rcases C1 with ⟨rfl, rfl, rfl, hts0⟩ | ⟨g', rfl, rfl, hg1', hg2', hgz'⟩
    · subst hts0
      simp only [List.length_nil, List.map_nil] at RA ⊢
      go_wp2_with (fail)
      go_loopw [14] (fun i wr => i = .int .i64 0 ∧ wr = w3) (fun i _ => 0)
      case atStart => exact ⟨rfl, rfl⟩
      case round =>
        obtain ⟨rfl, rfl⟩ := hrel
        go_wp2_with (fail)
        refine (same_any ao3 _ _ _ _ _ (a.size + 1 + b.size) [] (by simp) _ (RA.out.bw ((BW.refl _).alloc _)) (row_empty _ _ _)).mono ?_
        rintro e w7 ⟨rfl, hb7⟩
        have hbf := hbW.trans (((BW.refl _).alloc _).trans hb7)
        have hE7 : Hid (Er w7) := hE'.out.bw hbf
        go_wp2_with (go_at_call 9; refine (awake_any _ hE7.out).mono ?_; rintro e w' ⟨rfl, hw⟩)
        go_ret
        exact ⟨rfl, hbf.trans hw⟩
    · go_wp2_with (fail)
      go_loopw [14] (fun i wr => i = .int .i64 0 ∧ wr = w3) (fun i _ => 0)
      case atStart => exact ⟨rfl, rfl⟩
      case round =>
        obtain ⟨rfl, rfl⟩ := hrel
        go_wp2_with (at_builtin; refine wpList_append_own _ rfl _ _ 23 rfl wr.heap.size 33 i0 _ 4 40 Tryd.underlying23 hi hz0 hz1 hz2 rfl (by decide) _ _ _ rfl (own_zero wr) ⟨g', 0, none⟩ ts.length c1 (tc a.size ts) rfl htl (R1.out.bw ((BW.refl _).alloc _)).cells (tc_one _ _) (by unfold maxLen; omega) (by omega) (by simp) ?_)
        intro v6 w6 hown6 hgr6 hnn
        have hbw6 : BW wr w6 := ((Below.refl wr.heap.size wr).alloc (Nat.le_refl _) _).grown hgr6 (by simp) (fun k hk => own_ge (own_zero wr) k hk)
        obtain ⟨g6, c6, rfl, hcap⟩ := own_some hown6 hnn
        have hown7 : w6.ownsRow wr.heap.size 33 4 (.slice (some ⟨g6, 0, none⟩) ts.length c6) (ts.map (Tok.up (b.size + 1))).length (tc (a.size + 1 + b.size) (ts.map (Tok.up (b.size + 1)))) := by
          rw [up_cells, List.length_map]; simpa using hown6
        clear hown6 hgr6 hnn
        go_wp2_with fail
        refine (same_any ao3 _ _ _ _ _ _ _ (by simp; omega) w6 (RA.out.bw hbw6) (RowIs.of hown7)).mono ?_
        rintro e w7 ⟨rfl, hb7⟩
        have hbf := hbW.trans (hbw6.trans hb7)
        have hE7 : Hid (Er w7) := hE'.out.bw hbf
        go_wp2_with (go_at_call 9; refine (awake_any _ hE7.out).mono ?_; rintro e w' ⟨rfl, hw⟩)
        go_ret
        exact ⟨rfl, hbf.trans hw⟩
  · have H0 : Hid (JR w3 g a.size b.size us (.int .i64 0) w3) := by
      refine ⟨0, Nat.zero_le _, rfl, Fd.refl _ _, fun o => (hb3.froz g o hg2).trans (hgz o), fun j t ht => ?_⟩
      obtain ⟨_, h0 | ⟨x, hx, _, hc⟩⟩ := R2.out
      · rw [h0] at ht; simp at ht
      · cases hx
        obtain ⟨q0, q1, q2, q3⟩ := hc j t ht
        exact ⟨q0, q1, q2, by rw [if_neg (by omega)]; exact q3⟩
    rcases C1 with ⟨rfl, rfl, rfl, hts0⟩ | ⟨g', rfl, rfl, hg1', hg2', hgz'⟩
    · subst hts0
      simp only [List.length_nil, Nat.zero_add, List.map_nil, List.nil_append] at R3 ⊢
      go_wp2_with (fail)
      go_loopw [14] (fun i wr => JR w3 g a.size b.size us i wr) (fun i _ => us.length - (intOf i).toNat)
      case atStart => exact H0.out
      case round =>
        clear H0
        obtain ⟨k, hk, rfl, hFd, hzr, hc⟩ := hrel
        by_cases hlt : k < us.length
        · have hlt' : (k : Int) < us.length := by omega
          obtain ⟨t, ht⟩ : ∃ t, us[k]? = some t := ⟨_, List.getElem?_eq_getElem hlt⟩
          have hN : Hid _ := JR.step ht hlt hFd hzr (hBb t (List.mem_of_getElem? ht)) hc
          obtain ⟨q0, q1, q2, q3⟩ := hc k t ht
          rw [if_neg (by omega)] at q3
          clear hc ht q0 q1 q2
          generalize hX : ((b.size - t.back : Nat) : Int) = X at *
          have hX2 : 0 ≤ X ∧ X ≤ 3000 := by omega
          have x1 : IntKind.i64.wrap ((a.size : Int) + 1) = a.size + 1 := i64w _ (by omega) (by omega)
          have x2 : IntKind.i64.wrap (X + ((a.size : Int) + 1)) = X + (a.size + 1) := i64w _ (by omega) (by omega)
          clear hX
          go_wp2_with (fail)
          go_roundw
          case rel => exact hN.out
          case measure => simp [intOf]; omega
        · have hlt' : ¬ (k : Int) < us.length := by omega
          obtain rfl : k = us.length := by omega
          have RM : Hid (RowIs wr (some ⟨g, 0, none⟩) us.length (a.size + 1 + b.size) us) := by
            refine ⟨rfl, .inr ⟨g, rfl, Nat.lt_of_lt_of_le (Nat.lt_of_lt_of_le hg2 hsz3) hFd.size, fun j t ht => ?_⟩⟩
            obtain ⟨q0, q1, q2, q3⟩ := hc j t ht
            rw [if_pos (List.getElem?_eq_some_iff.1 ht).1] at q3
            exact ⟨q0, q1, q2, q3⟩
          have RA : Hid (RowIs wr ao3 (us.length) (a.size + 1 + b.size) us) := R3.out.fd hFd (by intro x hx; have := G3.out x hx; omega)
          have hbW : BW w wr := Below.trans (hb12.trans hb3) (Below.mono hFd.bel (Nat.le_trans hb1.size hg1))
          have hul : (tc (a.size + 1 + b.size) us).length = us.length * 4 := tc_len _ _
          clear hc hzr R1 R2 R3 G3
          go_wp2_with (at_builtin; refine wpList_append_own _ rfl _ _ 23 rfl wr.heap.size 33 i0 _ 4 40 Tryd.underlying23 hi hz0 hz1 hz2 rfl (by decide) _ _ _ rfl (own_zero wr) ⟨g, 0, none⟩ us.length c2 (tc (a.size + 1 + b.size) us) rfl hul (RM.out.bw ((BW.refl _).alloc _)).cells (tc_one _ _) (by unfold maxLen; omega) (by omega) (by simp) ?_)
          intro v6 w6 hown6 hgr6 _
          have hbw6 : BW wr w6 := ((Below.refl wr.heap.size wr).alloc (Nat.le_refl _) _).grown hgr6 (by simp) (fun k hk => own_ge (own_zero wr) k hk)
          obtain ⟨ao6, n6, c6, rfl⟩ := own_slice hown6
          have hown7 : w6.ownsRow wr.heap.size 33 4 (.slice ao6 n6 c6) us.length (tc (a.size + 1 + b.size) us) := by
            simpa using hown6
          clear hown6 hgr6
          go_wp2_with fail
          refine (same_any ao3 ao6 _ _ _ _ _ _ (by omega) w6 (RA.out.bw hbw6) (RowIs.of hown7)).mono ?_
          rintro e w7 ⟨rfl, hb7⟩
          have hbf := hbW.trans (hbw6.trans hb7)
          have hE7 : Hid (Er w7) := hE'.out.bw hbf
          go_wp2_with (go_at_call 9; refine (awake_any _ hE7.out).mono ?_; rintro e w' ⟨rfl, hw⟩)
          go_ret
          exact ⟨rfl, hbf.trans hw⟩
    · go_wp2_with (fail)
      go_loopw [14] (fun i wr => JR w3 g a.size b.size us i wr) (fun i _ => us.length - (intOf i).toNat)
      case atStart => exact H0.out
      case round =>
        clear H0
        obtain ⟨k, hk, rfl, hFd, hzr, hc⟩ := hrel
        by_cases hlt : k < us.length
        · have hlt' : (k : Int) < us.length := by omega
          obtain ⟨t, ht⟩ : ∃ t, us[k]? = some t := ⟨_, List.getElem?_eq_getElem hlt⟩
          have hN : Hid _ := JR.step ht hlt hFd hzr (hBb t (List.mem_of_getElem? ht)) hc
          obtain ⟨q0, q1, q2, q3⟩ := hc k t ht
          rw [if_neg (by omega)] at q3
          clear hc ht q0 q1 q2
          generalize hX : ((b.size - t.back : Nat) : Int) = X at *
          have hX2 : 0 ≤ X ∧ X ≤ 3000 := by omega
          have x1 : IntKind.i64.wrap ((a.size : Int) + 1) = a.size + 1 := i64w _ (by omega) (by omega)
          have x2 : IntKind.i64.wrap (X + ((a.size : Int) + 1)) = X + (a.size + 1) := i64w _ (by omega) (by omega)
          clear hX
          go_wp2_with (fail)
          go_roundw
          case rel => exact hN.out
          case measure => simp [intOf]; omega
        · have hlt' : ¬ (k : Int) < us.length := by omega
          obtain rfl : k = us.length := by omega
          have RM : Hid (RowIs wr (some ⟨g, 0, none⟩) us.length (a.size + 1 + b.size) us) := by
            refine ⟨rfl, .inr ⟨g, rfl, Nat.lt_of_lt_of_le (Nat.lt_of_lt_of_le hg2 hsz3) hFd.size, fun j t ht => ?_⟩⟩
            obtain ⟨q0, q1, q2, q3⟩ := hc j t ht
            rw [if_pos (List.getElem?_eq_some_iff.1 ht).1] at q3
            exact ⟨q0, q1, q2, q3⟩
          have RL : Hid (RowIs wr (some ⟨g', 0, none⟩) ts.length a.size ts) := R1.out.fd hFd (by intro x hx; cases hx; omega)
          have RA : Hid (RowIs wr ao3 (ts.length + us.length) (a.size + 1 + b.size) (ts.map (Tok.up (b.size + 1)) ++ us)) := R3.out.fd hFd (by intro x hx; have := G3.out x hx; omega)
          have hbW : BW w wr := Below.trans (hb12.trans hb3) (Below.mono hFd.bel (Nat.le_trans hb1.size hg1))
          have htl : (tc a.size ts).length = ts.length * 4 := tc_len _ _
          have hul : (tc (a.size + 1 + b.size) us).length = us.length * 4 := tc_len _ _
          clear hc hzr R1 R2 R3 G3
          go_wp2_with (at_builtin; refine wpList_append_own _ rfl _ _ 23 rfl wr.heap.size 33 i0 _ 4 40 Tryd.underlying23 hi hz0 hz1 hz2 rfl (by decide) _ _ _ rfl (own_zero wr) ⟨g', 0, none⟩ ts.length c1 (tc a.size ts) rfl htl (RL.out.bw ((BW.refl _).alloc _)).cells (tc_one _ _) (by unfold maxLen; omega) (by omega) (by simp) ?_)
          intro v5 w5 hown5 hgr5 _
          have hbw5 : BW wr w5 := ((Below.refl wr.heap.size wr).alloc (Nat.le_refl _) _).grown hgr5 (by simp) (fun k hk => own_ge (own_zero wr) k hk)
          obtain ⟨ao5, n5, c5, rfl⟩ := own_slice hown5
          go_wp2_with (at_builtin; refine wpList_append_own _ rfl _ _ 23 rfl wr.heap.size 33 i0 _ 4 40 Tryd.underlying23 hi hz0 hz1 hz2 rfl (by decide) _ _ _ rfl hown5 ⟨g, 0, none⟩ us.length c2 (tc (a.size + 1 + b.size) us) rfl hul (RM.out.bw hbw5).cells (tc_one _ _) (by unfold maxLen; omega) (by omega) hbw5.size ?_)
          intro v6 w6 hown6 hgr6 _
          have hbw6 : BW wr w6 := Below.grown hbw5 hgr6 hbw5.size (fun k hk => own_ge hown5 k hk)
          obtain ⟨ao6, n6, c6, rfl⟩ := own_slice hown6
          have hown7 : w6.ownsRow wr.heap.size 33 4 (.slice ao6 n6 c6) (ts.map (Tok.up (b.size + 1)) ++ us).length (tc (a.size + 1 + b.size) (ts.map (Tok.up (b.size + 1)) ++ us)) := by
            have e1 : tc (a.size + 1 + b.size) (ts.map (Tok.up (b.size + 1)) ++ us) = tc a.size ts ++ tc (a.size + 1 + b.size) us := by
              rw [← up_cells a.size b.size ts]; simp [tc]
            rw [e1, List.length_append, List.length_map]
            simpa using hown6
          clear hown5 hown6 hgr5 hgr6
          go_wp2_with fail
          refine (same_any ao3 ao6 _ _ _ _ _ _ (by simp; omega) w6 (RA.out.bw hbw6) (RowIs.of hown7)).mono ?_
          rintro e w7 ⟨rfl, hb7⟩
          have hbf := hbW.trans (hbw6.trans hb7)
          have hE7 : Hid (Er w7) := hE'.out.bw hbf
          go_wp2_with (go_at_call 9; refine (awake_any _ hE7.out).mono ?_; rintro e w' ⟨rfl, hw⟩)
          go_ret
          exact ⟨rfl, hbf.trans hw⟩
theorem lexJoins_any (a b : ByteArray) (w : World) (hE : Er w) : Calls Tryd.prog 6 #[.string a, .string b] w fun e w' => e = .returned (.bool true) ∧ BW w w' := by
  by_cases h : a.size ≤ 3000 ∧ b.size ≤ 3000
  · cases hL : lexAll a.data.toList with
    | error x => exact lexJoins_no1 a b h.1 h.2 x.1 x.2 hL w hE
    | ok ts =>
      cases hM : lexAll b.data.toList with
      | error x => exact lexJoins_no2 a b h.1 h.2 ts hL x.1 x.2 hM w hE
      | ok us => exact lexJoins_ok a b h.1 h.2 ts us hL hM w hE
  · exact lexJoins_long a b h w hE

end Go.Proofs.YtinigblglaolmaaDoor
