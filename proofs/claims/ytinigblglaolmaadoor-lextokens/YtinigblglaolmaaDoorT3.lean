import Derived.Test.YtinigblglaolmaaDoorT2
import Derived.Test.YtinigblglaolmaaDoorL7
import Derived.Deep.DeepCutAuto
namespace Go.Proofs.YtinigblglaolmaaDoor
open Go.RowKit
set_option linter.unusedVariables false
set_option linter.unusedSimpArgs false

theorem xv_one (N p : Nat) (r : List UInt8) (hp : N - (34 :: r).length = p) : xv N p (txt [] r) = rv N (one (34 :: r)) := by
  rw [one_text]
  cases txt [] r with
  | error e t => rfl
  | ok b t => unfold xv rv; dsimp only; rw [hp]; rfl
theorem lxr_bl (c : UInt8) (r : List UInt8) (h : bl c.toNat = true) : lxr (c :: r) = lxr r := by
  rw [← lxr_skp, skp_bl c r h, lxr_skp]
theorem lxr_59 (r : List UInt8) : lxr (59 :: r) = lxr ((59 :: r).dropWhile n10) := by
  rw [← lxr_skp, skp_59 r, lxr_skp]
theorem at_suf {s : ByteArray} {q : Nat} {l u : List UInt8} (h : At s q l) (hs : u <:+ l) : At s (s.size - u.length) u := by
  have h1 : u <:+ s.data.toList := hs.trans (h.2 ▸ List.drop_suffix q _)
  have hl : s.data.toList.length = s.size := by simp
  refine ⟨by omega, ?_⟩
  rw [← hl]
  exact (List.suffix_iff_eq_drop.1 h1).symm
def PostF (s : ByteArray) (w : World) (R : Lx) (e : Ending) (w' : World) : Prop :=
  match R with
  | .ok ts => ∃ ao n c, e = .returned (.tuple #[.slice ao n c, .int .i64 0, .int .i64 0]) ∧ w'.ownsRow w.heap.size 33 4 (.slice ao n c) ts.length (tc s.size ts) ∧ BW w w'
  | .error (bk, k) => ∃ ao c, e = .returned (.tuple #[.slice ao 0 c, .int .i64 ((s.size - bk : Nat) : Int), .int .i64 k]) ∧ BW w w'
def YR (s : ByteArray) (w : World) (R : Lx) (k : Nat) (v i : Value) (wr : World) : Prop :=
  ∃ (ts : List Tok) (m : List UInt8) (q : Nat), k = m.length ∧ i = .int .i64 q ∧ At s q m ∧ (∃ ao n c, v = .slice ao n c) ∧ wr.ownsRow w.heap.size 33 4 v ts.length (tc s.size ts) ∧ (lxr m).pre ts = R ∧ ts.length + m.length ≤ s.size ∧ w.heap.size ≤ wr.heap.size ∧ BW w wr
theorem YR.next {s : ByteArray} {w W w2 : World} {R : Lx} {ts : List Tok} {t : Tok} {u : List UInt8} {q : Nat} {v v' : Value} {o : Obj} (hA : At s q u) (hown : W.ownsRow w.heap.size 33 4 v ts.length (tc s.size ts)) (hT : (lxr u).pre (ts ++ [t]) = R) (hl : ts.length + u.length + 1 ≤ s.size) (hbw : BW w W)
    (hg : (W.alloc o).grownBy w2 v.ownBlock) (hown' : w2.ownsRow w.heap.size 33 4 v' (ts.length + 1) (tc s.size ts ++ tcs s.size t)) : YR s w R u.length v' (.int .i64 q) w2 := by
  have hbel : Below w.heap.size W w2 := ((Below.refl w.heap.size W).alloc hbw.size _).grown hg (by simp; have := hbw.size; omega) (fun k hk => own_ge hown k hk)
  have e1 : tc s.size (ts ++ [t]) = tc s.size ts ++ tcs s.size t := by simp [tc]
  have e2 : (ts ++ [t]).length = ts.length + 1 := by simp
  exact ⟨ts ++ [t], u, q, rfl, rfl, hA, own_slice hown', by rw [e1, e2]; exact hown', hT, by simp; omega, Nat.le_trans hbw.size hbel.size, Below.trans hbw hbel⟩
theorem Tryd.own46 {w : World} {B : Nat} {v : Value} {n : Nat} {xs : List Value} (h : w.ownsRow B 33 4 v n xs) {w' : World} (k : BW w w') : w'.ownsRow B 33 4 v n xs := own_bw h k
theorem own_lt {w : World} {B e z : Nat} {v : Value} {n : Nat} {xs : List Value} (h : w.ownsRow B e z v n xs) : ∀ k, v.ownBlock = some k → k < w.heap.size := by
  intro k hk
  rcases h.2 with ⟨rfl, _⟩ | ⟨g, cap, cur, rfl, hb, hg, _⟩
  · simp [Value.ownBlock] at hk
  · simp [Value.ownBlock] at hk
    subst hk
    exact (Array.getElem?_eq_some_iff.1 hg).1
/-- The token's record in block G is as it was behind an append. -/
theorem keep_G {W w2 : World} {G : Nat} {v : Value} {o x : Obj} (hG : W.heap[G]? = some x) (hg : (W.alloc o).grownBy w2 v.ownBlock) (hne : ∀ k, v.ownBlock = some k → k < G) : w2.heap[G]? = some x := by
  have hlt := (Array.getElem?_eq_some_iff.1 hG).1
  rw [hg.block G (by simp; omega) (fun e => absurd (hne G e.symm) (Nat.lt_irrefl _)), Lib.alloc_old W o G hlt]
  exact hG
set_option maxRecDepth 100000 in
set_option maxHeartbeats 1000000 in
theorem refTokens_long (s : ByteArray) (hs : 65536 < s.size) (w : World) : Calls Tryd.prog 11 #[.string s] w fun e w' => (∃ ao c, e = .returned (.tuple #[.slice ao 0 c, .int .i64 65536, .int .i64 13])) ∧ BW w w' := by
  have hq : (65536 : Int) < s.size := by omega
  go_enter Tryd.func11, Tryd.ntmps11
  go_wp2_with (fail)
  go_ret3
  exact ⟨⟨_, _, rfl⟩, (by repeat (first | exact BW.refl _ | apply BW.alloc | apply BW.drewN | apply BW.drew))⟩

set_option maxRecDepth 100000 in
set_option maxHeartbeats 4000000 in
theorem refTokens_ok (s : ByteArray) (hs : ¬ 65536 < s.size) (w : World) : Calls Tryd.prog 11 #[.string s] w (PostF s w (lxr s.data.toList)) := by
  obtain ⟨i0, hi, hz0, hz1, hz2⟩ := info_parts Tryd.info33
  have hq : ¬ (65536 : Int) < s.size := by omega
  have hll : s.data.toList.length = s.size := by simp
  generalize hR : lxr s.data.toList = R
  have H0 : Hid (YR s w R s.data.toList.length (.slice (some ⟨w.heap.size, 0, none⟩) 0 0) (.int .i64 0) (w.alloc (.cells #[] 33))) :=
    ⟨[], _, 0, rfl, rfl, ⟨Nat.zero_le _, rfl⟩, ⟨_, _, _, rfl⟩, own_zero w, by rw [hR]; cases R <;> rfl, by simp, by simp, (by repeat (first | exact BW.refl _ | apply BW.alloc | apply BW.drewN | apply BW.drew))⟩
  clear hR
  go_enter Tryd.func11, Tryd.ntmps11
  go_wp2_with (fail)
  go_loopg [5, 6] s.data.toList.length (fun k v i wr => YR s w R k v i wr)
  case atStart => exact H0.out
  case round =>
    clear H0
    obtain ⟨ts, m, q, rfl, rfl, hA, ⟨ao, n, cp, rfl⟩, hown, hT, hn, hzz, hbw⟩ := hrel
    cases m with
    | nil =>
      obtain rfl := hA.nil
      rw [lxr_nil] at hT
      simp only [Lx.pre, List.append_nil] at hT
      subst hT
      have hq' : ¬ (s.size : Int) < s.size := by omega
      go_wp2_with (fail)
      go_ret3
      exact ⟨ao, n, cp, rfl, hown, hbw⟩
    | cons c r =>
      obtain ⟨hq1, hc, hA1⟩ := hA.cons
      have hq' : (q : Int) < s.size := by omega
      simp only [List.length_cons] at hn
      have x1 : IntKind.i64.wrap ((q : Int) + 1) = q + 1 := i64w _ (by omega) (by omega)
      by_cases hb : bl c.toNat = true
      · rw [lxr_bl c r hb] at hT
        have hT' : Hid _ := hT
        clear hT
        go_wp2_with (go_at_call 19; refine (refBlank_any _ _).mono ?_; rw [hb]; rintro e w' ⟨rfl, rfl⟩)
        go_roundg r.length
        case measure => simp
        case rel => exact ⟨ts, r, q + 1, rfl, by go_num, hA1, ⟨_, _, _, rfl⟩, hown, hT'.out, by omega, hzz, hbw⟩
      · have hb' : bl c.toNat = false := by simpa using hb
        by_cases h59 : c = 59
        · subst h59
          rw [lxr_59] at hT
          have hT' : Hid _ := hT
          clear hT
          have e1 : (s[q].toNat : Int) = 59 := by rw [hc]; rfl
          have hC59 : ∀ w, Calls Tryd.prog 19 #[.int .u8 59] w fun e w' => e = .returned (.bool false) ∧ w' = w := fun w => refBlank_any 59 w
          have hDl : Hid (((59 :: r).dropWhile n10).length ≤ r.length) := by
            show _ ≤ _
            rw [dw_go r (by decide)]; exact dw_len n10 r
          generalize hD : (59 :: r).dropWhile n10 = D at *
          have hD' : Hid _ := hD
          clear hD
          go_wp2_with (go_at_call 19; refine (hC59 _).mono ?_; rintro e w' ⟨rfl, rfl⟩)
          go_loop [6] (fun i => ∃ (q' : Nat) (m : List UInt8), i = .int .i64 q' ∧ At s q' m ∧ m.dropWhile n10 = D) (fun i => s.size - (intOf i).toNat)
          case atStart => exact ⟨q, 59 :: r, rfl, hA, hD'.out⟩
          case round =>
            obtain ⟨q', m, rfl, hAm, hm⟩ := hrel
            cases m with
            | nil =>
              obtain rfl := hAm.nil
              have hlt' : ¬ (s.size : Int) < s.size := by omega
              have hm' : Hid ([] = D) := hm
              clear hm
              go_wp2_with (fail)
              go_roundg D.length
              case measure => have := hDl.out; simp; omega
              case rel => exact ⟨ts, D, _, rfl, rfl, hm'.out ▸ hAm, ⟨_, _, _, rfl⟩, hown, hT'.out, by have := hDl.out; omega, hzz, hbw⟩
            | cons a t =>
              obtain ⟨hqm, hca, hAm1⟩ := hAm.cons
              have hlt' : (q' : Int) < s.size := by omega
              have x2 : IntKind.i64.wrap ((q' : Int) + 1) = q' + 1 := i64w _ (by omega) (by omega)
              by_cases h10 : a = 10
              · have hm' : Hid (a :: t = D) := hm ▸ (dw_stop t (by simp [n10, h10])).symm
                clear hm
                subst h10
                have e2 : (s[q'].toNat : Int) = 10 := by rw [hca]; rfl
                go_wp2_with (fail)
                go_roundg D.length
                case measure => have := hDl.out; simp; omega
                case rel => exact ⟨ts, D, _, rfl, rfl, hm'.out ▸ hAm, ⟨_, _, _, rfl⟩, hown, hT'.out, by have := hDl.out; omega, hzz, hbw⟩
              · have hm' : Hid (t.dropWhile n10 = D) := hm ▸ (dw_go t (by simp [n10, h10])).symm
                clear hm
                subst hca
                have e2 : ¬ (s[q'].toNat : Int) = 10 := fun e => h10 (UInt8.toNat_inj.1 (by simpa using (by omega : s[q'].toNat = 10)))
                go_wp2_with (fail)
                go_round
                case rel => exact ⟨q' + 1, t, by go_num, hAm1, hm'.out⟩
                case measure => simp [intOf]; omega
        · have hsk := skp_stop c r h59 hb
          have hG0 : Hid (∀ k, (Value.slice ao n cp).ownBlock = some k → k < wr.heap.size) := own_lt hown
          by_cases d1 : c = 40
          · subst d1
            rw [lxr_ok hsk (one_open r), lxr_skp, pre_cons] at hT
            have hT' : Hid _ := hT
            clear hT
            have hC40 : ∀ w, Calls Tryd.prog 19 #[.int .u8 40] w fun e w' => e = .returned (.bool false) ∧ w' = w := fun w => refBlank_any 40 w
            have e1 : (s[q].toNat : Int) = 40 := by rw [hc]; rfl
            have hpl := hA.place
            go_upto_region 21 with (go_at_call 19; refine (hC40 _).mono ?_; rintro e w' ⟨rfl, rfl⟩)
            obtain ⟨W, hW⟩ : ∃ W, W = w'.alloc (.cells #[.int .u8 1, .string ⟨#[]⟩, .int .i64 0, .int .i64 q, .int .i64 ((q : Int) + 1), .int .i64 0] 46) := ⟨_, rfl⟩
            rw [← hW]
            have hWb : W.heap[w'.heap.size]? = some (.cells #[.int .u8 1, .string ⟨#[]⟩, .int .i64 0, .int .i64 q, .int .i64 ((q : Int) + 1), .int .i64 0] 46 (0, 0)) := by rw [hW]; exact heap_alloc_new _ _
            have hWB : BW w' W := by rw [hW]; exact (BW.refl _).alloc _
            have hA' := hA1
            have k0 : W.cell? ⟨w'.heap.size, 0, none⟩ = some (.int .u8 1) := by simp only [World.cell?, hWb]; rfl
            have k1 : W.cell? ⟨w'.heap.size, 1, none⟩ = some (.string ⟨#[]⟩) := by simp only [World.cell?, hWb]; rfl
            have k2 : W.cell? ⟨w'.heap.size, 2, none⟩ = some (.int .i64 0) := by simp only [World.cell?, hWb]; rfl
            have k3 : W.cell? ⟨w'.heap.size, 3, none⟩ = some (.int .i64 q) := by simp only [World.cell?, hWb]; rfl
            have k4 : W.cell? ⟨w'.heap.size, 4, none⟩ = some (.int .i64 ((q : Int) + 1)) := by simp only [World.cell?, hWb]; rfl
            have k5 : W.cell? ⟨w'.heap.size, 5, none⟩ = some (.int .i64 0) := by simp only [World.cell?, hWb]; rfl
            clear hW
            have hownW := own_bw hown hWB
            have hbW := hbw.trans hWB
            have hsW := hWB.size
            go_wp2_with (at_builtin; refine wpList_append_own _ rfl _ _ 23 rfl w.heap.size 33 i0 _ 4 40 Tryd.underlying23 hi hz0 hz1 hz2 rfl (by decide) _ _ _ rfl (hownW.alloc _) ⟨W.heap.size, 0, none⟩ 1 1 [.int .u8 1, .string ⟨#[]⟩, .int .i64 0, .int .i64 q] rfl rfl (cells_new _ _ _) (by intro x hx; simp only [List.mem_cons, List.not_mem_nil, or_false] at hx; rcases hx with rfl | rfl | rfl | rfl <;> rfl) (by unfold maxLen; omega) (by omega) (by simp; omega) ?_)
            intro v' w2 hown' hgrow _
            have hG := keep_G hWb hgrow hG0.out
            have kk : w2.cell? ⟨w'.heap.size, 4, none⟩ = some (.int .i64 ((q : Int) + 1)) := by simp only [World.cell?, hG]; rfl
            have hN : Hid (YR s w R (r).length v' (.int .i64 ((q : Int) + 1)) w2) := by
              have htcs : tcs s.size ⟨1, [], 0, (40 :: r).length⟩ = [.int .u8 1, .string ⟨#[]⟩, .int .i64 0, .int .i64 q] := by unfold tcs; dsimp only; rw [hpl]; rfl
              have := YR.next (R := R) (t := ⟨1, [], 0, (40 :: r).length⟩) hA' hownW hT'.out (by omega) hbW hgrow (by rw [htcs]; exact hown')
              show YR _ _ _ _ _ _ _
              simpa using this
            obtain ⟨ao', n', c', rfl⟩ := own_slice hown'
            clear hown' hgrow hownW
            go_wp2_with fail
            go_roundg (r).length
            case measure => simp only [List.length_cons]; omega
            case rel => exact hN.out
          · by_cases d2 : c = 41
            · subst d2
              rw [lxr_ok hsk (one_close r), lxr_skp, pre_cons] at hT
              have hT' : Hid _ := hT
              clear hT
              have hC40 : ∀ w, Calls Tryd.prog 19 #[.int .u8 41] w fun e w' => e = .returned (.bool false) ∧ w' = w := fun w => refBlank_any 41 w
              have e1 : (s[q].toNat : Int) = 41 := by rw [hc]; rfl
              have hpl := hA.place
              go_upto_region 21 with (go_at_call 19; refine (hC40 _).mono ?_; rintro e w' ⟨rfl, rfl⟩)
              obtain ⟨W, hW⟩ : ∃ W, W = w'.alloc (.cells #[.int .u8 2, .string ⟨#[]⟩, .int .i64 0, .int .i64 q, .int .i64 ((q : Int) + 1), .int .i64 0] 46) := ⟨_, rfl⟩
              rw [← hW]
              have hWb : W.heap[w'.heap.size]? = some (.cells #[.int .u8 2, .string ⟨#[]⟩, .int .i64 0, .int .i64 q, .int .i64 ((q : Int) + 1), .int .i64 0] 46 (0, 0)) := by rw [hW]; exact heap_alloc_new _ _
              have hWB : BW w' W := by rw [hW]; exact (BW.refl _).alloc _
              have hA' := hA1
              have k0 : W.cell? ⟨w'.heap.size, 0, none⟩ = some (.int .u8 2) := by simp only [World.cell?, hWb]; rfl
              have k1 : W.cell? ⟨w'.heap.size, 1, none⟩ = some (.string ⟨#[]⟩) := by simp only [World.cell?, hWb]; rfl
              have k2 : W.cell? ⟨w'.heap.size, 2, none⟩ = some (.int .i64 0) := by simp only [World.cell?, hWb]; rfl
              have k3 : W.cell? ⟨w'.heap.size, 3, none⟩ = some (.int .i64 q) := by simp only [World.cell?, hWb]; rfl
              have k4 : W.cell? ⟨w'.heap.size, 4, none⟩ = some (.int .i64 ((q : Int) + 1)) := by simp only [World.cell?, hWb]; rfl
              have k5 : W.cell? ⟨w'.heap.size, 5, none⟩ = some (.int .i64 0) := by simp only [World.cell?, hWb]; rfl
              clear hW
              have hownW := own_bw hown hWB
              have hbW := hbw.trans hWB
              have hsW := hWB.size
              go_wp2_with (at_builtin; refine wpList_append_own _ rfl _ _ 23 rfl w.heap.size 33 i0 _ 4 40 Tryd.underlying23 hi hz0 hz1 hz2 rfl (by decide) _ _ _ rfl (hownW.alloc _) ⟨W.heap.size, 0, none⟩ 1 1 [.int .u8 2, .string ⟨#[]⟩, .int .i64 0, .int .i64 q] rfl rfl (cells_new _ _ _) (by intro x hx; simp only [List.mem_cons, List.not_mem_nil, or_false] at hx; rcases hx with rfl | rfl | rfl | rfl <;> rfl) (by unfold maxLen; omega) (by omega) (by simp; omega) ?_)
              intro v' w2 hown' hgrow _
              have hG := keep_G hWb hgrow hG0.out
              have kk : w2.cell? ⟨w'.heap.size, 4, none⟩ = some (.int .i64 ((q : Int) + 1)) := by simp only [World.cell?, hG]; rfl
              have hN : Hid (YR s w R (r).length v' (.int .i64 ((q : Int) + 1)) w2) := by
                have htcs : tcs s.size ⟨2, [], 0, (41 :: r).length⟩ = [.int .u8 2, .string ⟨#[]⟩, .int .i64 0, .int .i64 q] := by unfold tcs; dsimp only; rw [hpl]; rfl
                have := YR.next (R := R) (t := ⟨2, [], 0, (41 :: r).length⟩) hA' hownW hT'.out (by omega) hbW hgrow (by rw [htcs]; exact hown')
                show YR _ _ _ _ _ _ _
                simpa using this
              obtain ⟨ao', n', c', rfl⟩ := own_slice hown'
              clear hown' hgrow hownW
              go_wp2_with fail
              go_roundg (r).length
              case measure => simp only [List.length_cons]; omega
              case rel => exact hN.out
            · by_cases d3 : c = 34
              · subst d3
                have hCb : ∀ w, Calls Tryd.prog 19 #[.int .u8 34] w fun e w' => e = .returned (.bool false) ∧ w' = w := fun w => refBlank_any 34 w
                have e1 : (s[q].toNat : Int) = 34 := by rw [hc]; rfl
                have hCall : ∀ w, Calls Tryd.prog 20 #[.string s, .int .i64 q] w fun e w' => e = .returned (rv s.size (one (34 :: r))) ∧ BW w w' := fun w => by
                  have := refText_l s (by omega) q r hA1 w _ rfl
                  rw [xv_one s.size q r hA.place] at this
                  exact this
                cases hO : one (34 :: r) with
                | error k u =>
                  have hk := one_e hO
                  have hk0 : ¬ (k : Int) = 0 := by rcases hk with ⟨h, _⟩ | h <;> omega
                  rw [lxr_no hsk hO] at hT
                  simp only [Lx.pre] at hT
                  subst hT
                  rw [hO] at hCall
                  go_upto_region 13 with (go_at_call 19; refine (hCb _).mono ?_; rintro e w' ⟨rfl, rfl⟩)
                  go_wp2_with fail
                  refine (hCall _).mono ?_
                  rintro e w1 ⟨rfl, hbw1⟩
                  unfold rv rvv
                  have hb1 : w1.heap[w'.heap.size]? = some (.cells #[.int .u8 0, .string ⟨#[]⟩, .int .i64 0, .int .i64 0, .int .i64 0, .int .i64 0] 46 (0, 0)) := (hbw1.block _ (by simp)).trans (heap_alloc_new _ _)
                  have z0 : w1.cell? ⟨w'.heap.size, 0, none⟩ = some (.int .u8 0) := by simp only [World.cell?, hb1]; rfl
                  have z1 : w1.cell? ⟨w'.heap.size, 1, none⟩ = some (.string ⟨#[]⟩) := by simp only [World.cell?, hb1]; rfl
                  have z2 : w1.cell? ⟨w'.heap.size, 2, none⟩ = some (.int .i64 0) := by simp only [World.cell?, hb1]; rfl
                  have z3 : w1.cell? ⟨w'.heap.size, 3, none⟩ = some (.int .i64 0) := by simp only [World.cell?, hb1]; rfl
                  have z4 : w1.cell? ⟨w'.heap.size, 4, none⟩ = some (.int .i64 0) := by simp only [World.cell?, hb1]; rfl
                  have z5 : w1.cell? ⟨w'.heap.size, 5, none⟩ = some (.int .i64 0) := by simp only [World.cell?, hb1]; rfl
                  have zz : ∀ o, w1.frozen? ⟨w'.heap.size, o, none⟩ = false := fun o => Lib.frozen_of_heap hb1 o
                  go_upto_region 21 with fail
                  obtain ⟨W, hW⟩ : ∃ W, W = ((((((w1.setCell ⟨w'.heap.size, 0, none⟩ (.int .u8 0)).setCell ⟨w'.heap.size, 1, none⟩ (.string ⟨#[]⟩)).setCell ⟨w'.heap.size, 2, none⟩ (.int .i64 0)).setCell ⟨w'.heap.size, 3, none⟩ (.int .i64 0)).setCell ⟨w'.heap.size, 4, none⟩ (.int .i64 ((s.size - u.length : Nat) : Int))).setCell ⟨w'.heap.size, 5, none⟩ (.int .i64 k)) := ⟨_, rfl⟩
                  rw [← hW]
                  have hWb : W.heap[w'.heap.size]? = some (.cells #[.int .u8 0, .string ⟨#[]⟩, .int .i64 0, .int .i64 0, .int .i64 ((s.size - u.length : Nat) : Int), .int .i64 k] 46 (0, 0)) := by rw [hW]; exact set6 hb1
                  have hWB : BW w' W := by rw [hW]; exact (((BW.refl w').alloc _).trans hbw1).set6 (Nat.le_refl _)
                  clear z0 z1 z2 z3 z4 z5 zz
                  have k0 : W.cell? ⟨w'.heap.size, 0, none⟩ = some (.int .u8 0) := by simp only [World.cell?, hWb]; rfl
                  have k1 : W.cell? ⟨w'.heap.size, 1, none⟩ = some (.string ⟨#[]⟩) := by simp only [World.cell?, hWb]; rfl
                  have k2 : W.cell? ⟨w'.heap.size, 2, none⟩ = some (.int .i64 0) := by simp only [World.cell?, hWb]; rfl
                  have k3 : W.cell? ⟨w'.heap.size, 3, none⟩ = some (.int .i64 0) := by simp only [World.cell?, hWb]; rfl
                  have k4 : W.cell? ⟨w'.heap.size, 4, none⟩ = some (.int .i64 ((s.size - u.length : Nat) : Int)) := by simp only [World.cell?, hWb]; rfl
                  have k5 : W.cell? ⟨w'.heap.size, 5, none⟩ = some (.int .i64 k) := by simp only [World.cell?, hWb]; rfl
                  clear hW
                  have hownW := own_bw hown hWB
                  have hbW := hbw.trans hWB
                  have hsW := hWB.size
                  have hGlt : w'.heap.size < W.heap.size := (Array.getElem?_eq_some_iff.1 hWb).1
                  have hGne : ¬ w'.heap.size = W.heap.size := by omega
                  clear hownW hown
                  go_wp2_with fail
                  go_region
                  all_goals
                    go_wp2_with fail
                    go_ret3
                    exact ⟨_, _, rfl, by repeat (first | exact hbW | apply BW.alloc | apply BW.drewN | apply BW.drew)⟩
                | ok t u =>
                  have hul := one_len hsk hO
                  simp only [List.length_cons] at hul
                  have hA' := at_suf hA (one_pl hO).1
                  rw [lxr_ok hsk hO, lxr_skp, pre_cons] at hT
                  have hT' : Hid _ := hT
                  clear hT
                  rw [hO] at hCall
                  obtain ⟨S, hS⟩ : ∃ S : ByteArray, S = ⟨t.s.toArray⟩ := ⟨_, rfl⟩
                  obtain ⟨kd, hkd⟩ : ∃ kd : Int, kd = t.kind := ⟨_, rfl⟩
                  obtain ⟨nn, hnn⟩ : ∃ nn : Int, nn = t.n := ⟨_, rfl⟩
                  obtain ⟨pp, hpp⟩ : ∃ pp : Int, pp = ((s.size - t.back : Nat) : Int) := ⟨_, rfl⟩
                  have htcs : Hid (tcs s.size t = [.int .u8 kd, .string S, .int .i64 nn, .int .i64 pp]) := by show _ = _; rw [hS, hkd, hnn, hpp]; rfl
                  simp only [rv, rvv] at hCall
                  rw [← hS, ← hkd, ← hnn, ← hpp] at hCall
                  clear hS hkd hnn hpp
                  go_upto_region 13 with (go_at_call 19; refine (hCb _).mono ?_; rintro e w' ⟨rfl, rfl⟩)
                  go_wp2_with fail
                  refine (hCall _).mono ?_
                  rintro e w1 ⟨rfl, hbw1⟩
                  have hb1 : w1.heap[w'.heap.size]? = some (.cells #[.int .u8 0, .string ⟨#[]⟩, .int .i64 0, .int .i64 0, .int .i64 0, .int .i64 0] 46 (0, 0)) := (hbw1.block _ (by simp)).trans (heap_alloc_new _ _)
                  have z0 : w1.cell? ⟨w'.heap.size, 0, none⟩ = some (.int .u8 0) := by simp only [World.cell?, hb1]; rfl
                  have z1 : w1.cell? ⟨w'.heap.size, 1, none⟩ = some (.string ⟨#[]⟩) := by simp only [World.cell?, hb1]; rfl
                  have z2 : w1.cell? ⟨w'.heap.size, 2, none⟩ = some (.int .i64 0) := by simp only [World.cell?, hb1]; rfl
                  have z3 : w1.cell? ⟨w'.heap.size, 3, none⟩ = some (.int .i64 0) := by simp only [World.cell?, hb1]; rfl
                  have z4 : w1.cell? ⟨w'.heap.size, 4, none⟩ = some (.int .i64 0) := by simp only [World.cell?, hb1]; rfl
                  have z5 : w1.cell? ⟨w'.heap.size, 5, none⟩ = some (.int .i64 0) := by simp only [World.cell?, hb1]; rfl
                  have zz : ∀ o, w1.frozen? ⟨w'.heap.size, o, none⟩ = false := fun o => Lib.frozen_of_heap hb1 o
                  go_upto_region 21 with fail
                  obtain ⟨W, hW⟩ : ∃ W, W = ((((((w1.setCell ⟨w'.heap.size, 0, none⟩ (.int .u8 kd)).setCell ⟨w'.heap.size, 1, none⟩ (.string S)).setCell ⟨w'.heap.size, 2, none⟩ (.int .i64 nn)).setCell ⟨w'.heap.size, 3, none⟩ (.int .i64 pp)).setCell ⟨w'.heap.size, 4, none⟩ (.int .i64 ((s.size - u.length : Nat) : Int))).setCell ⟨w'.heap.size, 5, none⟩ (.int .i64 0)) := ⟨_, rfl⟩
                  rw [← hW]
                  have hWb : W.heap[w'.heap.size]? = some (.cells #[.int .u8 kd, .string S, .int .i64 nn, .int .i64 pp, .int .i64 ((s.size - u.length : Nat) : Int), .int .i64 0] 46 (0, 0)) := by rw [hW]; exact set6 hb1
                  have hWB : BW w' W := by rw [hW]; exact (((BW.refl w').alloc _).trans hbw1).set6 (Nat.le_refl _)
                  clear z0 z1 z2 z3 z4 z5 zz
                  have k0 : W.cell? ⟨w'.heap.size, 0, none⟩ = some (.int .u8 kd) := by simp only [World.cell?, hWb]; rfl
                  have k1 : W.cell? ⟨w'.heap.size, 1, none⟩ = some (.string S) := by simp only [World.cell?, hWb]; rfl
                  have k2 : W.cell? ⟨w'.heap.size, 2, none⟩ = some (.int .i64 nn) := by simp only [World.cell?, hWb]; rfl
                  have k3 : W.cell? ⟨w'.heap.size, 3, none⟩ = some (.int .i64 pp) := by simp only [World.cell?, hWb]; rfl
                  have k4 : W.cell? ⟨w'.heap.size, 4, none⟩ = some (.int .i64 ((s.size - u.length : Nat) : Int)) := by simp only [World.cell?, hWb]; rfl
                  have k5 : W.cell? ⟨w'.heap.size, 5, none⟩ = some (.int .i64 0) := by simp only [World.cell?, hWb]; rfl
                  clear hW
                  have hownW := own_bw hown hWB
                  have hbW := hbw.trans hWB
                  have hsW := hWB.size
                  go_wp2_with (at_builtin; refine wpList_append_own _ rfl _ _ 23 rfl w.heap.size 33 i0 _ 4 40 Tryd.underlying23 hi hz0 hz1 hz2 rfl (by decide) _ _ _ rfl (hownW.alloc _) ⟨W.heap.size, 0, none⟩ 1 1 [.int .u8 kd, .string S, .int .i64 nn, .int .i64 pp] rfl rfl (cells_new _ _ _) (by intro x hx; simp only [List.mem_cons, List.not_mem_nil, or_false] at hx; rcases hx with rfl | rfl | rfl | rfl <;> rfl) (by unfold maxLen; omega) (by omega) (by simp; omega) ?_)
                  intro v' w2 hown' hgrow _
                  have hG := keep_G hWb hgrow hG0.out
                  have kk : w2.cell? ⟨w'.heap.size, 4, none⟩ = some (.int .i64 ((s.size - u.length : Nat) : Int)) := by simp only [World.cell?, hG]; rfl
                  have hN : Hid (YR s w R u.length v' (.int .i64 ((s.size - u.length : Nat) : Int)) w2) := YR.next (R := R) (t := t) hA' hownW hT'.out (by omega) hbW hgrow (by rw [htcs.out]; exact hown')
                  obtain ⟨ao', n', c', rfl⟩ := own_slice hown'
                  clear hown' hgrow hownW
                  go_wp2_with fail
                  go_roundg u.length
                  case measure => simp only [List.length_cons]; omega
                  case rel => exact hN.out
              · have hCb : ∀ w, Calls Tryd.prog 19 #[.int .u8 c.toNat] w fun e w' => e = .returned (.bool false) ∧ w' = w := fun w => hb' ▸ refBlank_any _ w
                have g1 : ¬ (c.toNat : Int) = 40 := fun e => d1 (UInt8.toNat_inj.1 (by simpa using (by omega : c.toNat = 40)))
                have g2 : ¬ (c.toNat : Int) = 41 := fun e => d2 (UInt8.toNat_inj.1 (by simpa using (by omega : c.toNat = 41)))
                have g3 : ¬ (c.toNat : Int) = 34 := fun e => d3 (UInt8.toNat_inj.1 (by simpa using (by omega : c.toNat = 34)))
                have g4 : ¬ (c.toNat : Int) = 59 := fun e => h59 (UInt8.toNat_inj.1 (by simpa using (by omega : c.toNat = 59)))
                have b1 : ((c.toNat : Int) == 40) = false := by simpa using g1
                have b2 : ((c.toNat : Int) == 41) = false := by simpa using g2
                have b3 : ((c.toNat : Int) == 34) = false := by simpa using g3
                have b4 : ((c.toNat : Int) == 59) = false := by simpa using g4
                have hCall := fun w => refWord21_any s (by omega) q c r hA d1 d2 d3 w
                cases hO : one (c :: r) with
                | error k u =>
                  have hk := one_e hO
                  have hk0 : ¬ (k : Int) = 0 := by rcases hk with ⟨h, _⟩ | h <;> omega
                  rw [lxr_no hsk hO] at hT
                  simp only [Lx.pre] at hT
                  subst hT
                  rw [hO] at hCall
                  go_upto_region 13 with (go_at_call 19; refine (hCb _).mono ?_; rintro e w' ⟨rfl, rfl⟩)
                  go_wp2_with fail
                  refine (hCall _).mono ?_
                  rintro e w1 ⟨rfl, hbw1⟩
                  unfold rv rvv
                  have hb1 : w1.heap[w'.heap.size]? = some (.cells #[.int .u8 0, .string ⟨#[]⟩, .int .i64 0, .int .i64 0, .int .i64 0, .int .i64 0] 46 (0, 0)) := (hbw1.block _ (by simp)).trans (heap_alloc_new _ _)
                  have z0 : w1.cell? ⟨w'.heap.size, 0, none⟩ = some (.int .u8 0) := by simp only [World.cell?, hb1]; rfl
                  have z1 : w1.cell? ⟨w'.heap.size, 1, none⟩ = some (.string ⟨#[]⟩) := by simp only [World.cell?, hb1]; rfl
                  have z2 : w1.cell? ⟨w'.heap.size, 2, none⟩ = some (.int .i64 0) := by simp only [World.cell?, hb1]; rfl
                  have z3 : w1.cell? ⟨w'.heap.size, 3, none⟩ = some (.int .i64 0) := by simp only [World.cell?, hb1]; rfl
                  have z4 : w1.cell? ⟨w'.heap.size, 4, none⟩ = some (.int .i64 0) := by simp only [World.cell?, hb1]; rfl
                  have z5 : w1.cell? ⟨w'.heap.size, 5, none⟩ = some (.int .i64 0) := by simp only [World.cell?, hb1]; rfl
                  have zz : ∀ o, w1.frozen? ⟨w'.heap.size, o, none⟩ = false := fun o => Lib.frozen_of_heap hb1 o
                  go_upto_region 21 with fail
                  obtain ⟨W, hW⟩ : ∃ W, W = ((((((w1.setCell ⟨w'.heap.size, 0, none⟩ (.int .u8 0)).setCell ⟨w'.heap.size, 1, none⟩ (.string ⟨#[]⟩)).setCell ⟨w'.heap.size, 2, none⟩ (.int .i64 0)).setCell ⟨w'.heap.size, 3, none⟩ (.int .i64 0)).setCell ⟨w'.heap.size, 4, none⟩ (.int .i64 ((s.size - u.length : Nat) : Int))).setCell ⟨w'.heap.size, 5, none⟩ (.int .i64 k)) := ⟨_, rfl⟩
                  rw [← hW]
                  have hWb : W.heap[w'.heap.size]? = some (.cells #[.int .u8 0, .string ⟨#[]⟩, .int .i64 0, .int .i64 0, .int .i64 ((s.size - u.length : Nat) : Int), .int .i64 k] 46 (0, 0)) := by rw [hW]; exact set6 hb1
                  have hWB : BW w' W := by rw [hW]; exact (((BW.refl w').alloc _).trans hbw1).set6 (Nat.le_refl _)
                  clear z0 z1 z2 z3 z4 z5 zz
                  have k0 : W.cell? ⟨w'.heap.size, 0, none⟩ = some (.int .u8 0) := by simp only [World.cell?, hWb]; rfl
                  have k1 : W.cell? ⟨w'.heap.size, 1, none⟩ = some (.string ⟨#[]⟩) := by simp only [World.cell?, hWb]; rfl
                  have k2 : W.cell? ⟨w'.heap.size, 2, none⟩ = some (.int .i64 0) := by simp only [World.cell?, hWb]; rfl
                  have k3 : W.cell? ⟨w'.heap.size, 3, none⟩ = some (.int .i64 0) := by simp only [World.cell?, hWb]; rfl
                  have k4 : W.cell? ⟨w'.heap.size, 4, none⟩ = some (.int .i64 ((s.size - u.length : Nat) : Int)) := by simp only [World.cell?, hWb]; rfl
                  have k5 : W.cell? ⟨w'.heap.size, 5, none⟩ = some (.int .i64 k) := by simp only [World.cell?, hWb]; rfl
                  clear hW
                  have hownW := own_bw hown hWB
                  have hbW := hbw.trans hWB
                  have hsW := hWB.size
                  have hGlt : w'.heap.size < W.heap.size := (Array.getElem?_eq_some_iff.1 hWb).1
                  have hGne : ¬ w'.heap.size = W.heap.size := by omega
                  clear hownW hown
                  go_wp2_with fail
                  go_region
                  all_goals
                    go_wp2_with fail
                    go_ret3
                    exact ⟨_, _, rfl, by repeat (first | exact hbW | apply BW.alloc | apply BW.drewN | apply BW.drew)⟩
                | ok t u =>
                  have hul := one_len hsk hO
                  simp only [List.length_cons] at hul
                  have hA' := at_suf hA (one_pl hO).1
                  rw [lxr_ok hsk hO, lxr_skp, pre_cons] at hT
                  have hT' : Hid _ := hT
                  clear hT
                  rw [hO] at hCall
                  obtain ⟨S, hS⟩ : ∃ S : ByteArray, S = ⟨t.s.toArray⟩ := ⟨_, rfl⟩
                  obtain ⟨kd, hkd⟩ : ∃ kd : Int, kd = t.kind := ⟨_, rfl⟩
                  obtain ⟨nn, hnn⟩ : ∃ nn : Int, nn = t.n := ⟨_, rfl⟩
                  obtain ⟨pp, hpp⟩ : ∃ pp : Int, pp = ((s.size - t.back : Nat) : Int) := ⟨_, rfl⟩
                  have htcs : Hid (tcs s.size t = [.int .u8 kd, .string S, .int .i64 nn, .int .i64 pp]) := by show _ = _; rw [hS, hkd, hnn, hpp]; rfl
                  simp only [rv, rvv] at hCall
                  rw [← hS, ← hkd, ← hnn, ← hpp] at hCall
                  clear hS hkd hnn hpp
                  go_upto_region 13 with (go_at_call 19; refine (hCb _).mono ?_; rintro e w' ⟨rfl, rfl⟩)
                  go_wp2_with fail
                  refine (hCall _).mono ?_
                  rintro e w1 ⟨rfl, hbw1⟩
                  have hb1 : w1.heap[w'.heap.size]? = some (.cells #[.int .u8 0, .string ⟨#[]⟩, .int .i64 0, .int .i64 0, .int .i64 0, .int .i64 0] 46 (0, 0)) := (hbw1.block _ (by simp)).trans (heap_alloc_new _ _)
                  have z0 : w1.cell? ⟨w'.heap.size, 0, none⟩ = some (.int .u8 0) := by simp only [World.cell?, hb1]; rfl
                  have z1 : w1.cell? ⟨w'.heap.size, 1, none⟩ = some (.string ⟨#[]⟩) := by simp only [World.cell?, hb1]; rfl
                  have z2 : w1.cell? ⟨w'.heap.size, 2, none⟩ = some (.int .i64 0) := by simp only [World.cell?, hb1]; rfl
                  have z3 : w1.cell? ⟨w'.heap.size, 3, none⟩ = some (.int .i64 0) := by simp only [World.cell?, hb1]; rfl
                  have z4 : w1.cell? ⟨w'.heap.size, 4, none⟩ = some (.int .i64 0) := by simp only [World.cell?, hb1]; rfl
                  have z5 : w1.cell? ⟨w'.heap.size, 5, none⟩ = some (.int .i64 0) := by simp only [World.cell?, hb1]; rfl
                  have zz : ∀ o, w1.frozen? ⟨w'.heap.size, o, none⟩ = false := fun o => Lib.frozen_of_heap hb1 o
                  go_upto_region 21 with fail
                  obtain ⟨W, hW⟩ : ∃ W, W = ((((((w1.setCell ⟨w'.heap.size, 0, none⟩ (.int .u8 kd)).setCell ⟨w'.heap.size, 1, none⟩ (.string S)).setCell ⟨w'.heap.size, 2, none⟩ (.int .i64 nn)).setCell ⟨w'.heap.size, 3, none⟩ (.int .i64 pp)).setCell ⟨w'.heap.size, 4, none⟩ (.int .i64 ((s.size - u.length : Nat) : Int))).setCell ⟨w'.heap.size, 5, none⟩ (.int .i64 0)) := ⟨_, rfl⟩
                  rw [← hW]
                  have hWb : W.heap[w'.heap.size]? = some (.cells #[.int .u8 kd, .string S, .int .i64 nn, .int .i64 pp, .int .i64 ((s.size - u.length : Nat) : Int), .int .i64 0] 46 (0, 0)) := by rw [hW]; exact set6 hb1
                  have hWB : BW w' W := by rw [hW]; exact (((BW.refl w').alloc _).trans hbw1).set6 (Nat.le_refl _)
                  clear z0 z1 z2 z3 z4 z5 zz
                  have k0 : W.cell? ⟨w'.heap.size, 0, none⟩ = some (.int .u8 kd) := by simp only [World.cell?, hWb]; rfl
                  have k1 : W.cell? ⟨w'.heap.size, 1, none⟩ = some (.string S) := by simp only [World.cell?, hWb]; rfl
                  have k2 : W.cell? ⟨w'.heap.size, 2, none⟩ = some (.int .i64 nn) := by simp only [World.cell?, hWb]; rfl
                  have k3 : W.cell? ⟨w'.heap.size, 3, none⟩ = some (.int .i64 pp) := by simp only [World.cell?, hWb]; rfl
                  have k4 : W.cell? ⟨w'.heap.size, 4, none⟩ = some (.int .i64 ((s.size - u.length : Nat) : Int)) := by simp only [World.cell?, hWb]; rfl
                  have k5 : W.cell? ⟨w'.heap.size, 5, none⟩ = some (.int .i64 0) := by simp only [World.cell?, hWb]; rfl
                  clear hW
                  have hownW := own_bw hown hWB
                  have hbW := hbw.trans hWB
                  have hsW := hWB.size
                  go_wp2_with (at_builtin; refine wpList_append_own _ rfl _ _ 23 rfl w.heap.size 33 i0 _ 4 40 Tryd.underlying23 hi hz0 hz1 hz2 rfl (by decide) _ _ _ rfl (hownW.alloc _) ⟨W.heap.size, 0, none⟩ 1 1 [.int .u8 kd, .string S, .int .i64 nn, .int .i64 pp] rfl rfl (cells_new _ _ _) (by intro x hx; simp only [List.mem_cons, List.not_mem_nil, or_false] at hx; rcases hx with rfl | rfl | rfl | rfl <;> rfl) (by unfold maxLen; omega) (by omega) (by simp; omega) ?_)
                  intro v' w2 hown' hgrow _
                  have hG := keep_G hWb hgrow hG0.out
                  have kk : w2.cell? ⟨w'.heap.size, 4, none⟩ = some (.int .i64 ((s.size - u.length : Nat) : Int)) := by simp only [World.cell?, hG]; rfl
                  have hN : Hid (YR s w R u.length v' (.int .i64 ((s.size - u.length : Nat) : Int)) w2) := YR.next (R := R) (t := t) hA' hownW hT'.out (by omega) hbW hgrow (by rw [htcs.out]; exact hown')
                  obtain ⟨ao', n', c', rfl⟩ := own_slice hown'
                  clear hown' hgrow hownW
                  go_wp2_with fail
                  go_roundg u.length
                  case measure => simp only [List.length_cons]; omega
                  case rel => exact hN.out

end Go.Proofs.YtinigblglaolmaaDoor
