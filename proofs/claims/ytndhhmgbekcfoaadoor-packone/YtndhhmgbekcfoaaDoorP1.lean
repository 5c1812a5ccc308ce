import Derived.Test.YtndhhmgbekcfoaaDoorB1
namespace Go.Proofs.YtndhhmgbekcfoaaDoor
open Go.RowKit
set_option linter.unusedVariables false
set_option linter.unusedSimpArgs false

/-- A number's bytes. -/
def nbF : Nat → Nat → List Nat
  | 0, n => [n]
  | f + 1, n => if n < 128 then [n] else (n % 128 + 128) :: nbF f (n / 128)
def nb (n : Nat) : List Nat := nbF 9 n
theorem nbF_small (f n : Nat) (h : n < 128) : nbF f n = [n] := by cases f <;> simp [nbF, h]
theorem nbF_len (f n : Nat) : (nbF f n).length ≤ f + 1 ∧ 0 < (nbF f n).length := by
  induction f generalizing n with
  | zero => simp [nbF]
  | succ f ih =>
    unfold nbF
    split
    · simp
    · have := ih (n / 128); simp; omega
/-- The contract of a call that puts bytes behind others. -/
abbrev PutC (k : FuncId) (args : Value → Array Value) (new : List Nat) (W0 : World) : Prop :=
  ∀ w' v l, Bf W0 w' v l → l.length + new.length ≤ 1099511627776 → Calls Tryd.prog k (args v) w' fun e w'' => ∃ v', e = .returned v' ∧ Bf W0 w'' v' (l ++ new) ∧ Gd w' w'' v v'
theorem or128 : ∀ x : Fin 256, bits .or .u8 (x.val : Int) 128 = ((x.val % 128 + 128 : Nat) : Int) := by decide +kernel
set_option maxRecDepth 100000 in
set_option maxHeartbeats 4000000 in
theorem putNumber_any (W0 w : World) (v : Value) (l : List Nat) (n : Nat) (hB : Bf W0 w v l) (hn : n ≤ 18446744073709551615) (hl : l.length + (nb n).length ≤ 1099511627776) :
    Calls Tryd.prog 68 #[v, .int .u64 (n : Int)] w fun e w' => ∃ v', e = .returned v' ∧ Bf W0 w' v' (l ++ nb n) ∧ Gd w w' v v' := by
  have HB : Hid (Bf W0 w v l) := hB
  have HL : Hid (l.length + (nb n).length ≤ 1099511627776) := hl
  clear hB hl
  go_enter Tryd.func68, Tryd.ntmps68
  go_wp2_with (fail)
  go_loopw [0, 1] (fun b k w' => ∃ (c f : Nat) (d : List Nat), k = .int .u64 (c : Int) ∧ c ≤ 18446744073709551615 ∧ Hid (d ++ nbF f c = nb n ∧ c < 128 ^ (f + 1)) ∧ Hid (Bf W0 w' b (l ++ d)) ∧ Hid (Gd w w' v b)) (fun b k _ => (intOf k).toNat)
  case atStart => exact ⟨n, 9, [], rfl, hn, ⟨rfl, by omega⟩, by simpa [Hid] using HB, Gd.refl _ _⟩
  case round =>
    obtain ⟨c, f, d, rfl, hc, HD, HW, HG⟩ := hrel
    by_cases hlt : 128 ≤ c
    · have hge : decide ((128 : Int) ≤ (c : Int)) = true := by simp; omega
      have hor : bits .or .u8 ((c : Int) % 256) 128 = ((c % 128 + 128 : Nat) : Int) := by
        have := or128 ⟨c % 256, by omega⟩
        simp only at this
        rw [show ((c % 256 : Nat) : Int) = (c : Int) % 256 by omega] at this
        rw [this]; omega
      obtain ⟨f, rfl⟩ : ∃ f', f = f' + 1 := ⟨f - 1, by
        have := HD.out.2
        cases f with
        | zero => simp at this; omega
        | succ f => rfl⟩
      have HD2 : Hid ((d ++ [c % 128 + 128]) ++ nbF f (c / 128) = nb n ∧ c / 128 < 128 ^ (f + 1)) := by
        obtain ⟨h1, h2⟩ := HD.out
        refine ⟨by rw [← h1]; simp [nbF]; intro h; omega, ?_⟩
        rw [Nat.pow_succ] at h2
        exact (Nat.div_lt_iff_lt_mul (by decide)).2 h2
      have HR : Hid (l.length + d.length + 1 ≤ 1099511627776) := by
        have h1 := congrArg List.length HD2.out.1
        have h2 := HL.out
        have h3 := (nbF_len f (c / 128)).2
        simp at h1
        show _ ≤ _
        omega
      go_wp2_with (first
        | (at_builtin; go_loud (refine wpList_app rfl (.tmp 9) (.tmp 13) rfl W0 _ _ _ 1 1 [c % 128 + 128] rfl rfl (HW.out.alloc _) rfl (by decide) ?nw (by have := HR.out; simp; omega) ?_; (case nw => intro j u hu; rw [Addr.add_mid, Nat.zero_add, cell_new]; simpa [bs] using hu); intro v2 w2 o2 g2; have HW2 : Hid (Bf W0 w2 v2 (l ++ (d ++ [c % 128 + 128]))) := (by rw [← List.append_assoc]; exact o2); have HG2 : Hid (Gd w w2 v v2) := (HG.out.alloc _).trans g2; clear o2 g2)))
      go_roundw
      case rel => exact ⟨c / 128, f, _, by simp, by omega, HD2, HW2, HG2⟩
      case measure => simp [intOf]; omega
    · have hge : decide ((128 : Int) ≤ (c : Int)) = false := by simp; omega
      have hm : (c : Int) % 256 = (c : Int) := by omega
      have HE : Hid (d ++ [c] = nb n) := by have := HD.out.1; rwa [nbF_small _ _ (by omega)] at this
      have HR : Hid (l.length + d.length + 1 ≤ 1099511627776) := by
        have h1 := congrArg List.length HE.out
        have h2 := HL.out
        simp at h1
        show _ ≤ _
        omega
      go_wp2_with (first
        | (at_builtin; go_loud (refine wpList_app rfl (.tmp 15) (.tmp 18) rfl W0 _ _ _ 1 1 [c] rfl rfl (HW.out.alloc _) rfl (by decide) ?nw (by have := HR.out; simp; omega) ?_; (case nw => intro j u hu; rw [Addr.add_mid, Nat.zero_add, cell_new]; simpa [bs, hm] using hu); intro v2 w2 o2 g2; have HW2 : Hid (Bf W0 w2 v2 (l ++ nb n)) := (by rw [← HE.out, ← List.append_assoc]; exact o2); have HG2 : Hid (Gd w w2 v v2) := (HG.out.alloc _).trans g2; clear o2 g2)))
      go_ret
      exact ⟨_, rfl, HW2, HG2⟩
theorem putNumber_c (W0 : World) (n : Nat) (hn : n ≤ 18446744073709551615) : PutC 68 (fun v => #[v, .int .u64 (n : Int)]) (nb n) W0 := fun w' v l hB hl => putNumber_any W0 w' v l n hB hn hl
/-- A size's number. -/
def szn (n : Int) : Nat := (n % 18446744073709551616).toNat
theorem szn_of (n : Int) : IntKind.u64.wrap n = (szn n : Int) ∧ szn n ≤ 18446744073709551615 := by
  simp only [IntKind.wrap, show IntKind.u64.bits = 64 from rfl, show IntKind.u64.signed = false from rfl]; unfold szn; simp; omega
/-- A number with a sign, as one without. -/
def zz (n : Int) : Nat := if n < 0 then (2 * (-(n + 1)) + 1).toNat else (2 * n).toNat

end Go.Proofs.YtndhhmgbekcfoaaDoor
