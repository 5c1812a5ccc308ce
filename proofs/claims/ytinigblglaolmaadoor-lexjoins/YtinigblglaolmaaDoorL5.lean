import Derived.Test.YtinigblglaolmaaDoorP2
import Derived.Test.YtinigblglaolmaaDoorL1
import Derived.Deep.DeepCutAuto
namespace Go.Proofs.YtinigblglaolmaaDoor
open Go.RowKit
set_option linter.unusedVariables false
set_option linter.unusedSimpArgs false

theorem Pl.pos {l : List UInt8} {t : Tok} (h : Pl l t) : 0 < t.back ∧ t.back ≤ l.length := by
  obtain ⟨c, r, hs, hb, _⟩ := h
  have := hs.length_le
  rw [hb]; simp at *; omega
theorem suf_at {s : ByteArray} {c : UInt8} {r : List UInt8} (h : c :: r <:+ s.data.toList) : At s (s.size - (c :: r).length) (c :: r) := by
  have h1 := h.length_le
  have hl : s.data.toList.length = s.size := by simp
  refine ⟨by omega, ?_⟩
  rw [← hl]
  exact (List.suffix_iff_eq_drop.1 h).symm
theorem good_len {l : List UInt8} {b : Nat} {ts : List Tok} (h : Good l b ts) : ts.length ≤ b := by
  induction ts generalizing b with
  | nil => exact Nat.zero_le _
  | cons t r ih =>
    have h1 := ih h.2.2
    have h2 := h.1
    have h3 := h.2.1.pos.1
    simp; omega
/-- The law's loop: at the k-th token, of those that are left all is good below b. -/
def PR (w : World) (s : ByteArray) (ts : List Tok) (last i : Value) (wr : World) : Prop :=
  ∃ (k b : Nat), k ≤ ts.length ∧ i = .int .i64 k ∧ b ≤ s.size ∧ last = .int .i64 ((s.size : Int) - b - 1) ∧ Good s.data.toList b (ts.drop k) ∧ BW w wr
theorem PR.dn {w : World} {s : ByteArray} {ts : List Tok} {last i : Value} {wr : World} (h : PR w s ts last i wr) (n : Nat) : PR w s ts last i (wr.drewN n) := by
  obtain ⟨k, b, h1, h2, h3, h4, h5, h6⟩ := h
  exact ⟨k, b, h1, h2, h3, h4, h5, h6.drewN n⟩
theorem pre_ext {s : ByteArray} {p : Nat} {c : UInt8} {r t : List UInt8} (h : At s p (c :: r)) (ht : t <+: c :: r) : s.extract p (p + t.length) = ⟨t.toArray⟩ ∧ p + t.length ≤ s.size := by
  obtain ⟨u, hu⟩ := ht
  have hl := h.len
  have hp := h.1
  rw [← hu, List.length_append] at hl
  have hk : At s (p + t.length) u := by
    refine ⟨by omega, ?_⟩
    rw [← List.drop_drop, h.2, ← hu]
    simp
  have := ext_pre h hu.symm hk
  injection this with this
  exact ⟨this, by omega⟩
set_option maxRecDepth 100000 in
set_option maxHeartbeats 2000000 in
theorem lexPlaces_any (s : ByteArray) (w : World) (hE : Er w) : Calls Tryd.prog 7 #[.string s] w fun e w' => e = .returned (.bool true) ∧ BW w w' := by
  have hE' : Hid (Er w) := hE
  clear hE
  by_cases h : s.size ≤ 20000
  · have hq : ¬ (20000 : Int) < s.size := by omega
    cases hL : lexAll s.data.toList with
    | error x =>
      obtain ⟨bk, k⟩ := x
      have hk : ¬ (k : Int) = 0 := by
        have hl : s.data.toList.length = s.size := by simp
        unfold lexAll at hL
        rw [if_neg (by omega)] at hL
        have := lxr_e hL
        omega
      go_enter Tryd.func7, Tryd.ntmps7
      go_wp2_with (fail)
      refine (lexTokens_any s w hE'.out).mono ?_
      rw [hL]
      rintro e w1 ⟨rfl, hb1⟩
      go_wp2_with (go_at_call 9; refine (awake_any _ (hE'.out.bw hb1)).mono ?_; rintro e w' ⟨rfl, hw⟩)
      go_ret
      exact ⟨rfl, hb1.trans hw⟩
    | ok ts =>
      have hG := lexAll_good hL
      have hll : s.data.toList.length = s.size := by simp
      rw [hll] at hG
      go_enter Tryd.func7, Tryd.ntmps7
      go_wp2_with (fail)
      refine (lexTokens_any s w hE'.out).mono ?_
      rw [hL]
      rintro e w1 ⟨ao, n, c, rfl, hown, hb1⟩
      obtain ⟨rfl, hrow⟩ := row_form hown
      have H0 : Hid (PR w1 s ts (.int .i64 (-1)) (.int .i64 0) w1) := ⟨0, s.size, Nat.zero_le _, rfl, Nat.le_refl _, by congr 1; omega, hG, BW.refl _⟩
      have hrow' : Hid _ := hrow
      have htl : ts.length ≤ 20000 := by
        have := good_len hG
        omega
      clear hown hrow hG hL
      go_wp2_with (fail)
      go_loopw [6, 7] (fun last i wr => PR w1 s ts last i wr) (fun _ i _ => ts.length - (intOf i).toNat)
      case atStart => exact H0.out
      case round =>
        clear H0
        obtain ⟨k, b, hk, rfl, hb, rfl, hG, hbw⟩ := hrel
        by_cases hlt : k < ts.length
        · have hlt' : (k : Int) < ts.length := by omega
          obtain ⟨t, ht⟩ : ∃ t, ts[k]? = some t := ⟨_, List.getElem?_eq_getElem hlt⟩
          have hdr : ts.drop k = t :: ts.drop (k + 1) := by
            rw [List.drop_eq_getElem_cons hlt]
            congr 1
            rw [List.getElem?_eq_getElem hlt] at ht
            exact Option.some.inj ht
          rw [hdr] at hG
          obtain ⟨hG1, hG2, hG3⟩ := hG
          obtain ⟨hp1, hp2⟩ := hG2.pos
          obtain ⟨c0, r0, hs0, hb0, hkind⟩ := hG2
          have hA := suf_at hs0
          rw [← hb0] at hA
          have hp2' : t.back ≤ s.size := by simpa using hp2
          obtain ⟨p, hp⟩ : ∃ p, p = s.size - t.back := ⟨_, rfl⟩
          rw [← hp] at hA
          obtain ⟨hps, hsp, _⟩ := hA.cons
          rcases hrow'.out with h0 | ⟨g, rfl, _, hgl, hc⟩
          · rw [h0] at hlt; simp at hlt
          obtain ⟨k0, k1, k2, k3⟩ := hc k t ht
          rw [← hp] at k3
          have q0 := (hbw.cells g (k * 4) hgl).trans k0
          obtain ⟨S, hS⟩ : ∃ S : ByteArray, S = ⟨t.s.toArray⟩ := ⟨_, rfl⟩
          have hSs : S.size = t.s.length := by rw [hS]; show t.s.toArray.size = _; rw [List.size_toArray]
          have q1 : wr.cell? ⟨g, k * 4 + 1, none⟩ = some (.string S) := (hbw.cells g (k * 4 + 1) hgl).trans (by rw [hS]; exact k1)
          have q2 := (hbw.cells g (k * 4 + 2) hgl).trans k2
          have q3 := (hbw.cells g (k * 4 + 3) hgl).trans k3
          clear k0 k1 k2 k3 hc
          have hgr := Nat.lt_of_lt_of_le hgl hbw.size
          have hN : Hid (PR w1 s ts (.int .i64 p) (.int .i64 ((k : Int) + 1)) (wr.alloc (.cells #[.int .u8 t.kind, .string S, .int .i64 t.n, .int .i64 p] 33))) :=
            ⟨k + 1, t.back - 1, by omega, by simp, by omega, by congr 1; omega, hG3, hbw.alloc _⟩
          have f1 : ¬ (p : Int) ≤ (s.size : Int) - b - 1 := by omega
          have f2 : ¬ (s.size : Int) ≤ p := by omega
          have f3 : (p : Int) < s.size := by omega
          have hx : Hid (t.s <+: c0 :: r0 → s.extract p (p + S.size) = S ∧ p + S.size ≤ s.size) := fun hpre => by
            have := pre_ext hA hpre
            rw [hSs, hS]; exact this
          clear hG3 hs0 hb0 hG1 hp hS hSs hA ht hdr
          generalize t.n = tn at *
          rcases hkind with ⟨hk1, rfl⟩ | ⟨hk1, rfl⟩ | ⟨hk1, hpre⟩ | hk1 | ⟨hk1, rfl⟩
          · rw [hk1] at q0 hN
            have g1 : (s[p].toNat : Int) = 40 := by rw [hsp]; rfl
            go_upto_region 14 with fail
            go_quiet (fail)
            go_wp2_with fail
            go_roundw
            case rel => exact hN.out.dn _
            case measure => simp [intOf]; omega
          · rw [hk1] at q0 hN
            have g1 : (s[p].toNat : Int) = 41 := by rw [hsp]; rfl
            go_upto_region 14 with fail
            go_quiet (fail)
            go_wp2_with fail
            go_roundw
            case rel => exact hN.out.dn _
            case measure => simp [intOf]; omega
          · rw [hk1] at q0 hN
            obtain ⟨x1, x2⟩ := hx.out hpre
            clear hpre hx
            have x3 : (p : Int) + S.size ≤ s.size := by omega
            have x4 : IntKind.i64.wrap ((p : Int) + S.size) = p + S.size := i64w _ (by omega) (by omega)
            have x5 : (p : Int) ≤ (p : Int) + S.size := by omega
            go_upto_region 14 with fail
            go_quiet (fail)
            go_wp2_with fail
            go_roundw
            case rel => exact hN.out.dn _
            case measure => simp [intOf]; omega
          · rw [hk1] at q0 hN
            go_upto_region 14 with fail
            go_quiet (fail)
            go_wp2_with fail
            go_roundw
            case rel => exact hN.out.dn _
            case measure => simp [intOf]; omega
          · rw [hk1] at q0 hN
            have g1 : (s[p].toNat : Int) = 34 := by rw [hsp]; rfl
            go_upto_region 14 with fail
            go_quiet (fail)
            go_wp2_with fail
            go_roundw
            case rel => exact hN.out.dn _
            case measure => simp [intOf]; omega
        · have hlt' : ¬ (k : Int) < ts.length := by omega
          go_wp2_with (go_at_call 9; refine (awake_any _ (hE'.out.bw (hb1.trans hbw))).mono ?_; rintro e w' ⟨rfl, hw⟩)
          go_ret
          exact ⟨rfl, (hb1.trans hbw).trans hw⟩
  · have hq : (20000 : Int) < s.size := by omega
    go_enter Tryd.func7, Tryd.ntmps7
    go_wp2_with (go_at_call 9; refine (awake_any _ hE'.out).mono ?_; rintro e w' ⟨rfl, hw⟩)
    go_ret
    exact ⟨rfl, hw⟩

end Go.Proofs.YtinigblglaolmaaDoor
