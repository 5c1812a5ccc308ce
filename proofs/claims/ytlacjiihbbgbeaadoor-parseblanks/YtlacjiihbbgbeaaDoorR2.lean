import Derived.Test.YtlacjiihbbgbeaaDoorR1
namespace Go.Proofs.YtlacjiihbbgbeaaDoor
open Go.RowKit
set_option linter.unusedVariables false
set_option linter.unusedSimpArgs false

theorem esb_x1 {r t : List UInt8} {k : Nat} (h : dig r = .error k t) : esb (120 :: r) = .error k t := by
  rw [esb, if_neg (by decide), if_neg (by decide), if_pos rfl, h]
theorem esb_x2 {r t u : List UInt8} {a : Int} {k : Nat} (h : dig r = .ok a t) (h2 : dig t = .error k u) : esb (120 :: r) = .error k u := by
  rw [esb, if_neg (by decide), if_neg (by decide), if_pos rfl, h]; simp [h2]
theorem esb_x3 {r t u : List UInt8} {a d : Int} (h : dig r = .ok a t) (h2 : dig t = .ok d u) : esb (120 :: r) = .ok (UInt8.ofNat (16 * a.toNat + d.toNat)) u := by
  rw [esb, if_neg (by decide), if_neg (by decide), if_pos rfl, h]; simp [h2]
theorem or16 (a d : Int) (a0 : 0 ≤ a) (a1 : a < 16) (d0 : 0 ≤ d) (d1 : d < 16) : bits .or .u8 (a * 16) d = ((UInt8.ofNat (16 * a.toNat + d.toNat)).toNat : Int) := by
  have H : ∀ x y : Fin 16, bits .or .u8 ((x.val : Int) * 16) (y.val : Int) = ((UInt8.ofNat (16 * x.val + y.val)).toNat : Int) := by decide +kernel
  have := H ⟨a.toNat, by omega⟩ ⟨d.toNat, by omega⟩
  simp only [Int.toNat_of_nonneg a0, Int.toNat_of_nonneg d0] at this
  exact this
theorem dig_lt {l : List UInt8} {a : Int} {t : List UInt8} (h : dig l = .ok a t) : 0 ≤ a ∧ a < 16 := by
  unfold dig at h
  split at h
  · cases h
  · split at h
    · cases h
    · rename_i h1
      cases h
      rcases hx_some h1 with ⟨_, _, rfl⟩ | ⟨_, _, rfl⟩ | ⟨_, _, rfl⟩ <;> omega
set_option maxRecDepth 100000 in
set_option maxHeartbeats 1000000 in
theorem escaped_any (b : Nat) (s : ByteArray) (hs : s.size ≤ 100000) (p : Nat) (l : List UInt8) (hl : At s p l) (w : World) (h : Rd b s p w) :
    Calls Tryd.prog 34 #[.pointer (some ⟨b, 0, none⟩)] w (Post (fun c : UInt8 => .int .u8 c.toNat) b s w (esb l)) := by
  have hC := next_any b s hs p l hl w h
  cases l with
  | nil =>
    go_enter Tryd.func34, Tryd.ntmps34
    go_wp2_with (go_at_call 31; refine hC.mono ?_; rintro e w' ⟨rfl, hf⟩)
    exact ⟨rfl, rfl, hf⟩
  | cons c r =>
    obtain ⟨hp, rfl, hA⟩ := hl.cons
    by_cases h1 : s[p] = 34 ∨ s[p] = 92
    · have hd : esb (s[p] :: r) = .ok s[p] r := by simp [esb, h1]
      rw [hd]
      rcases h1 with h1 | h1
      all_goals
        have h2 : (s[p].toNat : Int) = s[p].toNat := rfl
        rw [h1] at hC ⊢
        go_enter Tryd.func34, Tryd.ntmps34
        go_wp2_with (go_at_call 31; refine hC.mono ?_; rintro e w' ⟨rfl, q, hq, hR, hf⟩)
        go_ret
        exact ⟨rfl, q, hq, hR, hf⟩
    · by_cases h2 : s[p] = 110
      · have hd : esb (s[p] :: r) = .ok 10 r := by rw [h2]; simp [esb]
        rw [hd]
        rw [h2] at hC
        go_enter Tryd.func34, Tryd.ntmps34
        go_wp2_with (go_at_call 31; refine hC.mono ?_; rintro e w' ⟨rfl, q, hq, hR, hf⟩)
        go_ret
        exact ⟨rfl, q, hq, hR, hf⟩
      · by_cases h3 : s[p] = 120
        · rw [h3] at hC ⊢
          cases e1 : dig r with
          | error k t => 
            rw [esb_x1 e1]
            go_enter Tryd.func34, Tryd.ntmps34
            go_wp2_with (go_at_call 31; refine hC.mono ?_; rintro e w' ⟨rfl, q, hq, hR, hf⟩)
            refine (digit_any b s hs q r hq _ hR).mono ?_
            rw [e1]
            rintro e w'' ⟨rfl, hf2⟩
            exact ⟨rfl, rfl, hf.trans hf2⟩
          | ok a t => 
            obtain ⟨a0, a1⟩ := dig_lt e1
            cases e2 : dig t with
            | error k u =>
              rw [esb_x2 e1 e2]
              go_enter Tryd.func34, Tryd.ntmps34
              go_wp2_with (go_at_call 31; refine hC.mono ?_; rintro e w' ⟨rfl, q, hq, hR, hf⟩)
              refine (digit_any b s hs q r hq _ hR).mono ?_
              rw [e1]
              rintro e w'' ⟨rfl, q2, hq2, hR2, hf2⟩
              go_wp2_with fail
              refine (digit_any b s hs q2 t hq2 _ hR2).mono ?_
              rw [e2]
              rintro e w3 ⟨rfl, hf3⟩
              exact ⟨rfl, rfl, (hf.trans hf2).trans hf3⟩
            | ok d u => 
              obtain ⟨d0, d1⟩ := dig_lt e2
              rw [esb_x3 e1 e2]
              have ho := or16 a d a0 a1 d0 d1
              generalize UInt8.ofNat (16 * a.toNat + d.toNat) = c at ho ⊢
              go_enter Tryd.func34, Tryd.ntmps34
              go_wp2_with (go_at_call 31; refine hC.mono ?_; rintro e w' ⟨rfl, q, hq, hR, hf⟩)
              refine (digit_any b s hs q r hq _ hR).mono ?_
              rw [e1]
              rintro e w'' ⟨rfl, q2, hq2, hR2, hf2⟩
              go_wp2_with fail
              refine (digit_any b s hs q2 t hq2 _ hR2).mono ?_
              rw [e2]
              rintro e w3 ⟨rfl, q3, hq3, hR3, hf3⟩
              go_wp2_with fail
              go_ret
              exact ⟨rfl, q3, hq3, hR3, (hf.trans hf2).trans hf3⟩
        · have hd : esb (s[p] :: r) = .error 10 (s[p] :: r) := by rw [esb, if_neg h1, if_neg h2, if_neg h3]
          rw [hd]
          have ht : thrown s.size (s[p] :: r) 10 = misf p := by unfold thrown; rw [if_neg (by decide), hl.place]
          have hw : IntKind.i64.wrap (((p + 1 : Nat) : Int) - 1) = p := by rw [i64w _ (by omega) (by omega)]; omega
          have g1 : ¬ (s[p].toNat : Int) = 34 := fun e => h1 (.inl (UInt8.toNat_inj.1 (by simpa using (by omega : s[p].toNat = 34))))
          have g2 : ¬ (s[p].toNat : Int) = 92 := fun e => h1 (.inr (UInt8.toNat_inj.1 (by simpa using (by omega : s[p].toNat = 92))))
          have g3 : ¬ (s[p].toNat : Int) = 110 := fun e => h2 (UInt8.toNat_inj.1 (by simpa using (by omega : s[p].toNat = 110)))
          have g4 : ¬ (s[p].toNat : Int) = 120 := fun e => h3 (UInt8.toNat_inj.1 (by simpa using (by omega : s[p].toNat = 120)))
          go_enter Tryd.func34, Tryd.ntmps34
          go_wp2_with (go_at_call 31; refine hC.mono ?_; rintro e w' ⟨rfl, q, hq, hR, hf⟩; obtain rfl := hA.uniq hq; have c1 := hR.c1)
          exact ⟨rfl, by rw [ht], hf⟩

end Go.Proofs.YtlacjiihbbgbeaaDoor
