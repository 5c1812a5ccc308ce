import Derived.Test.YtndhhmgbekcfoaaDoorB1
namespace Go.Proofs.YtndhhmgbekcfoaaDoor
open Go.RowKit
set_option linter.unusedVariables false
set_option linter.unusedSimpArgs false

/-- A number's bytes. -/
def nbF : Nat → Nat → List Nat
  | 0, n => [n]
  | f + 1, n => if n < 128 then [n] else (n % 128 + 128) :: nbF f (n / 128)
def nb (n : Nat) : List Nat := nbF 9 n
theorem nbF_small (f n : Nat) (h : n < 128) : nbF f n = [n] := by cases f <;> simp [nbF, h]
theorem nbF_len (f n : Nat) : (nbF f n).length ≤ f + 1 ∧ 0 < (nbF f n).length := by
  induction f generalizing n with
  | zero => simp [nbF]
  | succ f ih =>
    unfold nbF
    split
    · simp
    · have := ih (n / 128); simp; omega
/-- The contract of a call that puts bytes behind others. -/
abbrev PutC (k : FuncId) (args : Value → Array Value) (new : List Nat) (W0 : World) : Prop :=
  ∀ w' v l, Bf W0 w' v l → l.length + new.length ≤ 1099511627776 → Calls Tryd.prog k (args v) w' fun e w'' => ∃ v', e = .returned v' ∧ Bf W0 w'' v' (l ++ new) ∧ Gd w' w'' v v'
theorem or128 : ∀ x : Fin 256, bits .or .u8 (x.val : Int) 128 = ((x.val % 128 + 128 : Nat) : Int) := by decide +kernel
set_option maxRecDepth 100000 in
set_option maxHeartbeats 4000000 in
theorem putNumber_any (W0 w : World) (v : Value) (l : List Nat) (n : Nat) (hB : Bf W0 w v l) (hn : n ≤ 18446744073709551615) (hl : l.length + (nb n).length ≤ 1099511627776) :
    Calls Tryd.prog 68 #[v, .int .u64 (n : Int)] w fun e w' => ∃ v', e = .returned v' ∧ Bf W0 w' v' (l ++ nb n) ∧ Gd w w' v v' := by
  have HB : Hid (Bf W0 w v l) := hB
  have HL : Hid (l.length + (nb n).length ≤ 1099511627776) := hl
  clear hB hl
  go_enter Tryd.func68, Tryd.ntmps68
  go_wp2_with (fail)
  go_loopw [0, 1] (fun b k w' => ∃ (c f : Nat) (d : List Nat), k = .int .u64 (c : Int) ∧ c ≤ 18446744073709551615 ∧ Hid (d ++ nbF f c = nb n ∧ c < 128 ^ (f + 1)) ∧ Hid (Bf W0 w' b (l ++ d)) ∧ Hid (Gd w w' v b)) (fun b k _ => (intOf k).toNat)
  case atStart => exact ⟨n, 9, [], rfl, hn, ⟨rfl, by omega⟩, by simpa [Hid] using HB, Gd.refl _ _⟩
  case round =>
    obtain ⟨c, f, d, rfl, hc, HD, HW, HG⟩ := hrel
    by_cases hlt : 128 ≤ c
    · have hge : decide ((128 : Int) ≤ (c : Int)) = true := by simp; omega
      have hor : bits .or .u8 ((c : Int) % 256) 128 = ((c % 128 + 128 : Nat) : Int) := by
        have := or128 ⟨c % 256, by omega⟩
        simp only at this
        rw [show ((c % 256 : Nat) : Int) = (c : Int) % 256 by omega] at this
        rw [this]; omega
      obtain ⟨f, rfl⟩ : ∃ f', f = f' + 1 := ⟨f - 1, by
        have := HD.out.2
        cases f with
        | zero => simp at this; omega
        | succ f => rfl⟩
      have HD2 : Hid ((d ++ [c % 128 + 128]) ++ nbF f (c / 128) = nb n ∧ c / 128 < 128 ^ (f + 1)) := by
        obtain ⟨h1, h2⟩ := HD.out
        refine ⟨by rw [← h1]; simp [nbF]; intro h; omega, ?_⟩
        rw [Nat.pow_succ] at h2
        exact (Nat.div_lt_iff_lt_mul (by decide)).2 h2
      have HR : Hid (l.length + d.length + 1 ≤ 1099511627776) := by
        have h1 := congrArg List.length HD2.out.1
        have h2 := HL.out
        have h3 := (nbF_len f (c / 128)).2
        simp at h1
        show _ ≤ _
        omega
      go_wp2_with (first
        | (at_builtin; go_loud (refine wpList_app rfl (.tmp 9) (.tmp 13) rfl W0 _ _ _ 1 1 [c % 128 + 128] rfl rfl (HW.out.alloc _) rfl (by decide) ?nw (by have := HR.out; simp; omega) ?_; (case nw => intro j u hu; rw [Addr.add_mid, Nat.zero_add, cell_new]; simpa [bs] using hu); intro v2 w2 o2 g2; have HW2 : Hid (Bf W0 w2 v2 (l ++ (d ++ [c % 128 + 128]))) := (by rw [← List.append_assoc]; exact o2); have HG2 : Hid (Gd w w2 v v2) := (HG.out.alloc _).trans g2; clear o2 g2)))
      go_roundw
      case rel => exact ⟨c / 128, f, _, by simp, by omega, HD2, HW2, HG2⟩
      case measure => simp [intOf]; omega
    · have hge : decide ((128 : Int) ≤ (c : Int)) = false := by simp; omega
      have hm : (c : Int) % 256 = (c : Int) := by omega
      have HE : Hid (d ++ [c] = nb n) := by have := HD.out.1; rwa [nbF_small _ _ (by omega)] at this
      have HR : Hid (l.length + d.length + 1 ≤ 1099511627776) := by
        have h1 := congrArg List.length HE.out
        have h2 := HL.out
        simp at h1
        show _ ≤ _
        omega
      go_wp2_with (first
        | (at_builtin; go_loud (refine wpList_app rfl (.tmp 15) (.tmp 18) rfl W0 _ _ _ 1 1 [c] rfl rfl (HW.out.alloc _) rfl (by decide) ?nw (by have := HR.out; simp; omega) ?_; (case nw => intro j u hu; rw [Addr.add_mid, Nat.zero_add, cell_new]; simpa [bs, hm] using hu); intro v2 w2 o2 g2; have HW2 : Hid (Bf W0 w2 v2 (l ++ nb n)) := (by rw [← HE.out, ← List.append_assoc]; exact o2); have HG2 : Hid (Gd w w2 v v2) := (HG.out.alloc _).trans g2; clear o2 g2)))
      go_ret
      exact ⟨_, rfl, HW2, HG2⟩
theorem putNumber_c (W0 : World) (n : Nat) (hn : n ≤ 18446744073709551615) : PutC 68 (fun v => #[v, .int .u64 (n : Int)]) (nb n) W0 := fun w' v l hB hl => putNumber_any W0 w' v l n hB hn hl
/-- A size's number. -/
def szn (n : Int) : Nat := (n % 18446744073709551616).toNat
theorem szn_of (n : Int) : IntKind.u64.wrap n = (szn n : Int) ∧ szn n ≤ 18446744073709551615 := by
  simp only [IntKind.wrap, show IntKind.u64.bits = 64 from rfl, show IntKind.u64.signed = false from rfl]; unfold szn; simp; omega
/-- A number with a sign, as one without. -/
def zz (n : Int) : Nat := if n < 0 then (2 * (-(n + 1)) + 1).toNat else (2 * n).toNat

set_option maxRecDepth 100000 in
set_option maxHeartbeats 4000000 in
theorem putSize_c (W0 : World) (n : Int) (hn : I64 n) : PutC 67 (fun v => #[v, .int .i64 n]) (nb (szn n)) W0 := by
  intro w' v l hB hl
  have HC : Hid (PutC 68 (fun v => #[v, .int .u64 (szn n : Int)]) (nb (szn n)) W0) := putNumber_c W0 _ (szn_of n).2
  have HB : Hid (Bf W0 w' v l) := hB
  have he : IntKind.u64.wrap n = (szn n : Int) := (szn_of n).1
  generalize szn n = q at *
  generalize hN : nb q = nw at *
  have HL : Hid (l.length + nw.length ≤ 1099511627776) := hl
  clear hB hl hn
  go_enter Tryd.func67, Tryd.ntmps67
  go_wp2_with (first | (go_at_call 68; go_loud (refine (HC.out _ _ _ HB.out HL.out).mono ?_; rintro e w1 ⟨v1, rfl, b1, g1⟩; have B1 : Hid _ := b1; have G1 : Hid _ := g1; clear b1 g1)))
  go_ret
  exact ⟨_, rfl, B1.out, G1.out⟩
theorem not_neg (n : Int) (h1 : -9223372036854775808 ≤ n) (h2 : n < 0) : bits .xor .i64 (-1) n = -n - 1 := by
  show IntKind.i64.wrap ((BitVec.ofInt 64 (-1) ^^^ BitVec.ofInt 64 n).toNat : Int) = _
  have e1 : BitVec.ofInt 64 (-1) = BitVec.allOnes 64 := by decide
  have e2 : ((BitVec.ofInt 64 n).toNat : Int) = n + 18446744073709551616 := by rw [BitVec.toNat_ofInt]; omega
  rw [e1, BitVec.allOnes_xor, BitVec.toNat_not]
  have e3 : ((2 ^ 64 - 1 - (BitVec.ofInt 64 n).toNat : Nat) : Int) = -n - 1 := by omega
  rw [e3, i64w _ (by omega) (by omega)]
set_option maxRecDepth 100000 in
set_option maxHeartbeats 4000000 in
theorem putSigned_c (W0 : World) (n : Int) (hn : I64 n) : PutC 42 (fun v => #[v, .int .i64 n]) (nb (zz n)) W0 := by
  intro w' v l hB hl
  have hz : zz n ≤ 18446744073709551615 := by unfold I64 at hn; unfold zz; split <;> omega
  have HC : Hid (PutC 68 (fun v => #[v, .int .u64 (zz n : Int)]) (nb (zz n)) W0) := putNumber_c W0 _ hz
  have HB : Hid (Bf W0 w' v l) := hB
  by_cases h0 : n < 0
  · have hm : ((-n - 1).toNat : Int) = -n - 1 := by unfold I64 at hn; omega
    have hx : bits .xor .i64 (if IntKind.i64.signed = true then -1 else 9223372036854775807) n = ((-n - 1).toNat : Int) := by
      rw [if_pos (by decide : IntKind.i64.signed = true), hm]; exact not_neg n hn.1 h0
    have hq : zz n = 2 * (-n - 1).toNat + 1 := by unfold zz; rw [if_pos h0]; unfold I64 at hn; omega
    have hb : (-n - 1).toNat ≤ 9223372036854775807 := by unfold I64 at hn; omega
    have hl0 : decide (n < 0) = true := by simp [h0]
    clear hm
    generalize (-n - 1).toNat = m at *
    have w1 : IntKind.u64.wrap (m : Int) = (m : Int) := u64w _ (by omega) (by omega)
    have w2 : IntKind.u64.wrap (2 * (m : Int)) = 2 * (m : Int) := u64w _ (by omega) (by omega)
    have w3 : IntKind.u64.wrap (2 * (m : Int) + 1) = (zz n : Int) := by rw [u64w _ (by omega) (by omega)]; omega
    clear hq hb
    generalize zz n = q at *
    generalize hN : nb q = nw at *
    have HL : Hid (l.length + nw.length ≤ 1099511627776) := hl
    clear hB hl hz hn
    go_enter Tryd.func42, Tryd.ntmps42
    go_wp2_with (first | (go_at_call 68; go_loud (refine (HC.out _ _ _ HB.out HL.out).mono ?_; rintro e w1 ⟨v1, rfl, b1, g1⟩; have B1 : Hid _ := b1; have G1 : Hid _ := g1; clear b1 g1)))
    go_ret
    exact ⟨_, rfl, B1.out, G1.out⟩
  · have hl0 : decide (n < 0) = false := by simp [h0]
    have hl1 : ¬ n < 0 := h0
    have w2 : IntKind.u64.wrap n = n := u64w _ (by omega) (by unfold I64 at hn; omega)
    have w3 : IntKind.u64.wrap (2 * n) = (zz n : Int) := by rw [u64w _ (by omega) (by unfold I64 at hn; omega)]; unfold zz; rw [if_neg h0]; omega
    generalize zz n = q at *
    generalize hN : nb q = nw at *
    have HL : Hid (l.length + nw.length ≤ 1099511627776) := hl
    clear hB hl hz hn h0
    go_enter Tryd.func42, Tryd.ntmps42
    go_wp2_with (first | (go_at_call 68; go_loud (refine (HC.out _ _ _ HB.out HL.out).mono ?_; rintro e w1 ⟨v1, rfl, b1, g1⟩; have B1 : Hid _ := b1; have G1 : Hid _ := g1; clear b1 g1)))
    go_ret
    exact ⟨_, rfl, B1.out, G1.out⟩
set_option maxRecDepth 100000 in
set_option maxHeartbeats 4000000 in
theorem putText_c (W0 : World) (s : ByteArray) (hs : s.size ≤ 1099511627776) : PutC 44 (fun v => #[v, .string s]) (nb s.size ++ sb s) W0 := by
  intro w' v l hB hl
  have HC : Hid (PutC 67 (fun v => #[v, .int .i64 (s.size : Int)]) (nb s.size) W0) := by
    have := putSize_c W0 (s.size : Int) (by unfold I64; omega)
    rw [show szn (s.size : Int) = s.size by unfold szn; omega] at this
    exact this
  have HB : Hid (Bf W0 w' v l) := hB
  have HL : Hid (l.length + (nb s.size).length ≤ 1099511627776) := by show _ ≤ _; simp at hl; omega
  have HL2 : Hid ((l ++ nb s.size).length + s.size ≤ 70368744177664) := by show _ ≤ _; simp [sb_len] at hl ⊢; omega
  clear hB hl
  go_enter Tryd.func44, Tryd.ntmps44
  go_wp2_with (first
    | (go_at_call 67; go_loud (refine (HC.out _ _ _ HB.out HL.out).mono ?_; rintro e w1 ⟨v1, rfl, b1, g1⟩; have B1 : Hid _ := b1; have G1 : Hid _ := g1; clear b1 g1))
    | (at_builtin; go_loud (refine wpList_apps rfl (.tmp 8) (.tmp 9) rfl W0 _ _ s rfl rfl B1.out HL2.out ?_; intro v2 w2 o2 g2; have B2 : Hid (Bf W0 w2 v2 (l ++ (nb s.size ++ sb s))) := (by rw [← List.append_assoc]; exact o2); have G2 : Hid (Gd w' w2 v v2) := Gd.trans G1.out g2; clear o2 g2)))
  go_ret
  exact ⟨_, rfl, B2.out, G2.out⟩
set_option maxRecDepth 100000 in
set_option maxHeartbeats 4000000 in
theorem putInstr_c (W0 : World) (x : Ins) (hop : 0 ≤ x.op ∧ x.op ≤ 255) (hx : I64 x.a) : PutC 70 (fun v => #[v, .agg #[.int .u8 x.op, .int .i64 x.a]]) (x.op.toNat :: nb (szn x.a)) W0 := by
  intro w' v l hB hl
  obtain ⟨op, a⟩ := x
  dsimp only at hop hx hl ⊢
  obtain ⟨k, rfl⟩ : ∃ k : Nat, op = (k : Int) := ⟨op.toNat, by omega⟩
  simp only [Int.toNat_natCast] at hl ⊢
  have HC : Hid (PutC 67 (fun v => #[v, .int .i64 a]) (nb (szn a)) W0) := putSize_c W0 a hx
  have HB : Hid (Bf W0 w' v l) := hB
  have HL : Hid ((l ++ [k]).length + (nb (szn a)).length ≤ 1099511627776) := by show _ ≤ _; simp at hl ⊢; omega
  have HL2 : Hid (l.length + 1 ≤ 70368744177664) := by show _ ≤ _; simp at hl ⊢; omega
  clear hB hl
  go_enter Tryd.func70, Tryd.ntmps70
  go_wp2_with (fail)
  obtain ⟨d0, d1, hBz⟩ : (w'.alloc (.cells #[.int .u8 (k : Int), .int .i64 a] 43)).cell? ⟨w'.heap.size, 0, none⟩ = some (.int .u8 (k : Int)) ∧ (w'.alloc (.cells #[.int .u8 (k : Int), .int .i64 a] 43)).cell? ⟨w'.heap.size, 1, none⟩ = some (.int .i64 a) ∧ w'.heap.size < (w'.alloc (.cells #[.int .u8 (k : Int), .int .i64 a] 43)).heap.size := ⟨cell_new _ _ _ 0, cell_new _ _ _ 1, by simp⟩
  have HX : Hid (Bf W0 (w'.alloc (.cells #[.int .u8 (k : Int), .int .i64 a] 43)) v l) := HB.out.alloc _
  have GX : Hid (Gd w' (w'.alloc (.cells #[.int .u8 (k : Int), .int .i64 a] 43)) v v) := (Gd.refl _ _).alloc _
  have NX : Hid (v.ownBlock ≠ some w'.heap.size) := HB.out.lt
  clear HB
  generalize w'.heap.size = B at *
  obtain ⟨x, hx⟩ : ∃ x, x = w'.alloc (.cells #[.int .u8 (k : Int), .int .i64 a] 43) := ⟨_, rfl⟩
  rw [← hx] at d0 d1 hBz HX GX ⊢
  clear hx
  refine wp_region_held_drew (S := fun W => W.cell? ⟨B, 0, none⟩ = some (.int .u8 (k : Int)) ∧ W.cell? ⟨B, 1, none⟩ = some (.int .i64 a)) (by kernel_rfl) ⟨d0, d1⟩ (fun hHeld => ?_)
  refine wpAnyH_take (i := 0) (v := ?va0) rfl (by kernel_rfl) (by kernel_rfl) (by kernel_rfl) (fun _ _ _ h => h) (Or.inl ⟨by kernel_rfl, ?hya0⟩) (by trivial) ?resta0
  case hya0 => (intro w hSw; obtain ⟨s0, s1⟩ := hSw; go_simp; first | done | with_reducible rfl | (simp [s0]; done) | (simp [s1]; done))
  try simp only [Act.put, List.setIfInBounds_toArray, List.set_cons_zero, List.set_cons_succ]
  refine wpAnyH_take (i := 1) (v := ?va1) rfl (by kernel_rfl) (by kernel_rfl) (by kernel_rfl) (fun _ _ _ h => h) (Or.inl ⟨by kernel_rfl, ?hya1⟩) (by trivial) ?resta1
  case hya1 => (intro w hSw; obtain ⟨s0, s1⟩ := hSw; go_simp; first | done | with_reducible rfl | (simp [s0]; done) | (simp [s1]; done))
  try simp only [Act.put, List.setIfInBounds_toArray, List.set_cons_zero, List.set_cons_succ]
  refine wpAnyH_take (i := 2) (v := ?va2) rfl (by kernel_rfl) (by kernel_rfl) (by kernel_rfl) (fun _ _ _ h => h) (Or.inl ⟨by kernel_rfl, ?hya2⟩) (by trivial) ?resta2
  case hya2 => (intro w hSw; obtain ⟨s0, s1⟩ := hSw; go_simp; first | done | with_reducible rfl | (simp [s0]; done) | (simp [s1]; done))
  try simp only [Act.put, List.setIfInBounds_toArray, List.set_cons_zero, List.set_cons_succ]
  refine wpAnyH_take (i := 5) (v := ?va5) rfl (by kernel_rfl) (by kernel_rfl) (by kernel_rfl) (fun _ _ _ h => h) (Or.inl ⟨by kernel_rfl, ?hya5⟩) (by trivial) ?resta5
  case hya5 => (intro w hSw; obtain ⟨s0, s1⟩ := hSw; go_simp; first | done | with_reducible rfl | (simp [s0]; done) | (simp [s1]; done))
  try simp only [Act.put, List.setIfInBounds_toArray, List.set_cons_zero, List.set_cons_succ]
  refine wpAnyH_take (i := 6) (v := ?va6) rfl (by kernel_rfl) (by kernel_rfl) (by kernel_rfl) (fun _ _ _ h => h) (Or.inl ⟨by kernel_rfl, ?hya6⟩) (by trivial) ?resta6
  case hya6 => (intro w hSw; obtain ⟨s0, s1⟩ := hSw; go_simp; first | done | with_reducible rfl | (simp [s0]; done) | (simp [s1]; done))
  try simp only [Act.put, List.setIfInBounds_toArray, List.set_cons_zero, List.set_cons_succ]
  refine wpAnyH_ready (rs := [3]) (by kernel_rfl) (by simp) ?_
  refine AllReadyH.cons rfl (fun K hK => ?_) AllReadyH.nil
  go_simp
  refine hK.out _ _ ⟨(World.cell?_alloc_some _ _ _ (by rw [d0]; rfl)).trans d0, (World.cell?_alloc_some _ _ _ (by rw [d1]; rfl)).trans d1⟩ (fun _ => ?_)
  clear hK K
  try simp only [Act.put, List.setIfInBounds_toArray, List.set_cons_zero, List.set_cons_succ]
  refine wpAnyH_ready (rs := [4]) (by kernel_rfl) (by simp) ?_
  refine AllReadyH.cons rfl (fun K hK => ?_) AllReadyH.nil
  refine if_w (by kernel_rfl) ?_
  refine wp_appo _ _ rfl W0 v l ⟨x.heap.size, 0, none⟩ 1 1 [k] rfl rfl (HX.out.drew.alloc _) rfl (by decide) (fun j u hu => by rw [Addr.add_mid, Nat.zero_add]; exact (cell_new x.drew _ _ _).trans (by simpa [bs] using hu)) HL2.out ?_
  intro v2 w2 b2 g2
  have B2 : Hid (Bf W0 w2 v2 (l ++ [k])) := b2
  have G2 : Hid (Gd x w2 v v2) := Gd.trans ((Gd.refl x v).drew.alloc _) g2
  obtain ⟨c2, z2, n2⟩ := G2.out.at hBz NX.out
  clear b2 g2
  refine hK.out _ _ ⟨(c2 0).trans d0, (c2 1).trans d1⟩ (fun hh2 => ?_)
  clear hK K
  try simp only [Act.put, List.setIfInBounds_toArray, List.set_cons_zero, List.set_cons_succ]
  refine wpAnyH_ready (rs := [7]) (by kernel_rfl) (by simp) ?_
  refine AllReadyH.cons rfl (fun K hK => ?_) AllReadyH.nil
  go_simp
  refine (HC.out _ _ _ B2.out HL.out).mono ?_
  rintro e w3 ⟨v3, rfl, b3, g3⟩
  have B3 : Hid (Bf W0 w3 v3 (l ++ k :: nb (szn a))) := by rw [show l ++ k :: nb (szn a) = (l ++ [k]) ++ nb (szn a) by simp]; exact b3
  have G3 : Hid (Gd w' w3 v v3) := Gd.trans GX.out (Gd.trans G2.out g3)
  obtain ⟨c3, z3, n3⟩ := g3.at z2 n2
  clear b3 g3
  refine hK.out _ _ ⟨(c3 0).trans hh2.1, (c3 1).trans hh2.2⟩ (fun _ => ?_)
  clear hK K
  try simp only [Act.put, List.setIfInBounds_toArray, List.set_cons_zero, List.set_cons_succ]
  refine wpAnyH_ready (rs := [8]) (by kernel_rfl) (by simp) ?_
  refine AllReadyH.cons rfl (fun K hK => ?_) AllReadyH.nil
  go_simp
  refine hK.out _ _ ⟨(c3 0).trans hh2.1, (c3 1).trans hh2.2⟩ (fun _ => ?_)
  clear hK K
  try simp only [Act.put, List.setIfInBounds_toArray, List.set_cons_zero, List.set_cons_succ]
  refine wpAnyH_done (by kernel_rfl) ?_ _
  go_wp2_with (fail)
  go_ret
  exact ⟨_, rfl, B3.out, G3.out⟩

set_option maxRecDepth 100000 in
set_option maxHeartbeats 4000000 in
theorem putInts_c (W0 : World) (ao : Option Addr) (ln lc : Nat) (xs : List Int) (enc : Int → List Nat) (hA : IntsAt W0 ao ln xs) (hn : ln ≤ 9223372036854775807)
    (hf : ∀ (y : Int) , y ∈ xs → I64 y → PutC 42 (fun v => #[v, .int .i64 y]) (enc y) W0) : PutC 41 (fun v => #[v, .slice ao ln lc, .func (.func 42) #[] #[]]) (nb ln ++ xs.flatMap enc) W0 := by
  intro w v l hB hl
  have HA : Hid (IntsAt W0 ao ln xs) := hA
  have HF : Hid _ := hf
  have HLn : Hid (xs.length = ln) := hA.1
  have HC : Hid (PutC 67 (fun v => #[v, .int .i64 (ln : Int)]) (nb ln) W0) := by
    have := putSize_c W0 (ln : Int) (by unfold I64; omega)
    rw [show szn (ln : Int) = ln by unfold szn; omega] at this
    exact this
  have HB : Hid (Bf W0 w v l) := hB
  have HL : Hid (l.length + (nb ln ++ xs.flatMap enc).length ≤ 1099511627776) := hl
  have HL1 : Hid (l.length + (nb ln).length ≤ 1099511627776) := by show _ ≤ _; simp at hl; omega
  clear hA hf hB hl
  go_enter Tryd.func41, Tryd.ntmps41
  go_wp2_with (first | (go_at_call 67; go_loud (refine (HC.out _ _ _ HB.out HL1.out).mono ?_; rintro e w1 ⟨v1, rfl, b1, g1⟩; have B1 : Hid _ := b1; have G1 : Hid _ := g1; clear b1 g1)))
  go_loopw [0, 15] (fun b i w' => ∃ k : Nat, k ≤ ln ∧ i = .int .i64 k ∧ Hid (Bf W0 w' b (l ++ nb ln ++ (xs.take k).flatMap enc)) ∧ Hid (Gd w w' v b)) (fun b i _ => ln - (intOf i).toNat)
  case atStart => exact ⟨0, Nat.zero_le _, rfl, by (show Bf _ _ _ _); rw [List.take_zero, List.flatMap_nil, List.append_nil]; exact B1.out, G1⟩
  case round =>
    obtain ⟨k, hk, rfl, HW, HG⟩ := hrel
    by_cases hlt : k < ln
    · have hb : BW W0 wr := HW.out.1
      obtain ⟨b, off, y, rfl, hbl, hx, hy, hc0⟩ := IntsAt.get HA.out hlt
      have d1 := (hb.cells b (off + k) hbl).trans hc0
      have hbw : b < wr.heap.size := by have := hb.size; omega
      have e1 : (xs.take (k + 1)).flatMap enc = (xs.take k).flatMap enc ++ enc y := by rw [List.take_add_one, hx]; simp
      have HR : Hid ((l ++ nb ln ++ (xs.take k).flatMap enc).length + (enc y).length ≤ 1099511627776) := by
        have h1 := HL.out
        have h2 : xs.flatMap enc = (xs.take (k + 1)).flatMap enc ++ (xs.drop (k + 1)).flatMap enc := by rw [← List.flatMap_append, List.take_append_drop]
        rw [h2, e1] at h1
        show _ ≤ _
        simp only [List.length_append] at h1 ⊢
        omega
      have E1 : Hid (l ++ nb ln ++ (xs.take (k + 1)).flatMap enc = (l ++ nb ln ++ (xs.take k).flatMap enc) ++ enc y) := by show _ = _; rw [e1]; simp
      have HE : Hid (PutC 42 (fun v => #[v, .int .i64 y]) (enc y) W0) := HF.out y (List.mem_of_getElem? hx) hy
      clear hx e1 hb
      go_wp2_with (first | (go_at_call 42; go_loud (refine (HE.out _ _ _ (by first | exact HW.out | exact HW.out.alloc _) HR.out).mono ?_; rintro e w2 ⟨v2, rfl, b2, g2⟩; have B2 : Hid _ := b2; have G2 : Hid (Gd w w2 v v2) := (by first | exact Gd.trans HG.out g2 | exact Gd.trans (HG.out.alloc _) g2); clear b2 g2)))
      go_roundw
      case rel => exact ⟨k + 1, by omega, by go_num, by rw [Hid, E1.out]; exact B2.out, G2⟩
      case measure => simp [intOf]; omega
    · have HE : Hid (Bf W0 wr u0 (l ++ (nb ln ++ xs.flatMap enc))) := by
        have h1 := HW.out
        rw [List.take_of_length_le (by have := HLn.out; omega), List.append_assoc] at h1
        exact h1
      obtain rfl : k = ln := by omega
      go_wp2_with (fail)
      go_ret
      exact ⟨_, rfl, HE.out, HG.out⟩
set_option maxRecDepth 100000 in
set_option maxHeartbeats 4000000 in
theorem putOps_c (W0 : World) (ao : Option Addr) (ln lc : Nat) (xs : List Int) (enc : Int → List Nat) (hA : IntsAt W0 ao ln xs) (hn : ln ≤ 9223372036854775807)
    (hf : ∀ (y : Int) , y ∈ xs → I64 y → PutC 67 (fun v => #[v, .int .i64 y]) (enc y) W0) : PutC 71 (fun v => #[v, .slice ao ln lc, .func (.func 67) #[] #[]]) (nb ln ++ xs.flatMap enc) W0 := by
  intro w v l hB hl
  have HA : Hid (IntsAt W0 ao ln xs) := hA
  have HF : Hid _ := hf
  have HLn : Hid (xs.length = ln) := hA.1
  have HC : Hid (PutC 67 (fun v => #[v, .int .i64 (ln : Int)]) (nb ln) W0) := by
    have := putSize_c W0 (ln : Int) (by unfold I64; omega)
    rw [show szn (ln : Int) = ln by unfold szn; omega] at this
    exact this
  have HB : Hid (Bf W0 w v l) := hB
  have HL : Hid (l.length + (nb ln ++ xs.flatMap enc).length ≤ 1099511627776) := hl
  have HL1 : Hid (l.length + (nb ln).length ≤ 1099511627776) := by show _ ≤ _; simp at hl; omega
  clear hA hf hB hl
  go_enter Tryd.func71, Tryd.ntmps71
  go_wp2_with (first | (go_at_call 67; go_loud (refine (HC.out _ _ _ HB.out HL1.out).mono ?_; rintro e w1 ⟨v1, rfl, b1, g1⟩; have B1 : Hid _ := b1; have G1 : Hid _ := g1; clear b1 g1)))
  go_loopw [0, 15] (fun b i w' => ∃ k : Nat, k ≤ ln ∧ i = .int .i64 k ∧ Hid (Bf W0 w' b (l ++ nb ln ++ (xs.take k).flatMap enc)) ∧ Hid (Gd w w' v b)) (fun b i _ => ln - (intOf i).toNat)
  case atStart => exact ⟨0, Nat.zero_le _, rfl, by (show Bf _ _ _ _); rw [List.take_zero, List.flatMap_nil, List.append_nil]; exact B1.out, G1⟩
  case round =>
    obtain ⟨k, hk, rfl, HW, HG⟩ := hrel
    by_cases hlt : k < ln
    · have hb : BW W0 wr := HW.out.1
      obtain ⟨b, off, y, rfl, hbl, hx, hy, hc0⟩ := IntsAt.get HA.out hlt
      have d1 := (hb.cells b (off + k) hbl).trans hc0
      have hbw : b < wr.heap.size := by have := hb.size; omega
      have e1 : (xs.take (k + 1)).flatMap enc = (xs.take k).flatMap enc ++ enc y := by rw [List.take_add_one, hx]; simp
      have HR : Hid ((l ++ nb ln ++ (xs.take k).flatMap enc).length + (enc y).length ≤ 1099511627776) := by
        have h1 := HL.out
        have h2 : xs.flatMap enc = (xs.take (k + 1)).flatMap enc ++ (xs.drop (k + 1)).flatMap enc := by rw [← List.flatMap_append, List.take_append_drop]
        rw [h2, e1] at h1
        show _ ≤ _
        simp only [List.length_append] at h1 ⊢
        omega
      have E1 : Hid (l ++ nb ln ++ (xs.take (k + 1)).flatMap enc = (l ++ nb ln ++ (xs.take k).flatMap enc) ++ enc y) := by show _ = _; rw [e1]; simp
      have HE : Hid (PutC 67 (fun v => #[v, .int .i64 y]) (enc y) W0) := HF.out y (List.mem_of_getElem? hx) hy
      clear hx e1 hb
      go_wp2_with (first | (go_at_call 67; go_loud (refine (HE.out _ _ _ (by first | exact HW.out | exact HW.out.alloc _) HR.out).mono ?_; rintro e w2 ⟨v2, rfl, b2, g2⟩; have B2 : Hid _ := b2; have G2 : Hid (Gd w w2 v v2) := (by first | exact Gd.trans HG.out g2 | exact Gd.trans (HG.out.alloc _) g2); clear b2 g2)))
      go_roundw
      case rel => exact ⟨k + 1, by omega, by go_num, by rw [Hid, E1.out]; exact B2.out, G2⟩
      case measure => simp [intOf]; omega
    · have HE : Hid (Bf W0 wr u0 (l ++ (nb ln ++ xs.flatMap enc))) := by
        have h1 := HW.out
        rw [List.take_of_length_le (by have := HLn.out; omega), List.append_assoc] at h1
        exact h1
      obtain rfl : k = ln := by omega
      go_wp2_with (fail)
      go_ret
      exact ⟨_, rfl, HE.out, HG.out⟩
set_option maxRecDepth 100000 in
set_option maxHeartbeats 4000000 in
theorem putTexts_c (W0 : World) (ao : Option Addr) (ln lc : Nat) (xs : List ByteArray) (enc : ByteArray → List Nat) (hA : StrsAt W0 ao ln xs) (hn : ln ≤ 9223372036854775807)
    (hf : ∀ (y : ByteArray) , y ∈ xs → y.size ≤ maxLen → PutC 44 (fun v => #[v, .string y]) (enc y) W0) : PutC 43 (fun v => #[v, .slice ao ln lc, .func (.func 44) #[] #[]]) (nb ln ++ xs.flatMap enc) W0 := by
  intro w v l hB hl
  have HA : Hid (StrsAt W0 ao ln xs) := hA
  have HF : Hid _ := hf
  have HLn : Hid (xs.length = ln) := hA.1
  have HC : Hid (PutC 67 (fun v => #[v, .int .i64 (ln : Int)]) (nb ln) W0) := by
    have := putSize_c W0 (ln : Int) (by unfold I64; omega)
    rw [show szn (ln : Int) = ln by unfold szn; omega] at this
    exact this
  have HB : Hid (Bf W0 w v l) := hB
  have HL : Hid (l.length + (nb ln ++ xs.flatMap enc).length ≤ 1099511627776) := hl
  have HL1 : Hid (l.length + (nb ln).length ≤ 1099511627776) := by show _ ≤ _; simp at hl; omega
  clear hA hf hB hl
  go_enter Tryd.func43, Tryd.ntmps43
  go_wp2_with (first | (go_at_call 67; go_loud (refine (HC.out _ _ _ HB.out HL1.out).mono ?_; rintro e w1 ⟨v1, rfl, b1, g1⟩; have B1 : Hid _ := b1; have G1 : Hid _ := g1; clear b1 g1)))
  go_loopw [0, 15] (fun b i w' => ∃ k : Nat, k ≤ ln ∧ i = .int .i64 k ∧ Hid (Bf W0 w' b (l ++ nb ln ++ (xs.take k).flatMap enc)) ∧ Hid (Gd w w' v b)) (fun b i _ => ln - (intOf i).toNat)
  case atStart => exact ⟨0, Nat.zero_le _, rfl, by (show Bf _ _ _ _); rw [List.take_zero, List.flatMap_nil, List.append_nil]; exact B1.out, G1⟩
  case round =>
    obtain ⟨k, hk, rfl, HW, HG⟩ := hrel
    by_cases hlt : k < ln
    · have hb : BW W0 wr := HW.out.1
      obtain ⟨b, off, y, rfl, hbl, hx, hy, hc0⟩ := StrsAt.get HA.out hlt
      have d1 := (hb.cells b (off + k) hbl).trans hc0
      have hbw : b < wr.heap.size := by have := hb.size; omega
      have e1 : (xs.take (k + 1)).flatMap enc = (xs.take k).flatMap enc ++ enc y := by rw [List.take_add_one, hx]; simp
      have HR : Hid ((l ++ nb ln ++ (xs.take k).flatMap enc).length + (enc y).length ≤ 1099511627776) := by
        have h1 := HL.out
        have h2 : xs.flatMap enc = (xs.take (k + 1)).flatMap enc ++ (xs.drop (k + 1)).flatMap enc := by rw [← List.flatMap_append, List.take_append_drop]
        rw [h2, e1] at h1
        show _ ≤ _
        simp only [List.length_append] at h1 ⊢
        omega
      have E1 : Hid (l ++ nb ln ++ (xs.take (k + 1)).flatMap enc = (l ++ nb ln ++ (xs.take k).flatMap enc) ++ enc y) := by show _ = _; rw [e1]; simp
      have HE : Hid (PutC 44 (fun v => #[v, .string y]) (enc y) W0) := HF.out y (List.mem_of_getElem? hx) hy
      clear hx e1 hb
      go_wp2_with (first | (go_at_call 44; go_loud (refine (HE.out _ _ _ (by first | exact HW.out | exact HW.out.alloc _) HR.out).mono ?_; rintro e w2 ⟨v2, rfl, b2, g2⟩; have B2 : Hid _ := b2; have G2 : Hid (Gd w w2 v v2) := (by first | exact Gd.trans HG.out g2 | exact Gd.trans (HG.out.alloc _) g2); clear b2 g2)))
      go_roundw
      case rel => exact ⟨k + 1, by omega, by go_num, by rw [Hid, E1.out]; exact B2.out, G2⟩
      case measure => simp [intOf]; omega
    · have HE : Hid (Bf W0 wr u0 (l ++ (nb ln ++ xs.flatMap enc))) := by
        have h1 := HW.out
        rw [List.take_of_length_le (by have := HLn.out; omega), List.append_assoc] at h1
        exact h1
      obtain rfl : k = ln := by omega
      go_wp2_with (fail)
      go_ret
      exact ⟨_, rfl, HE.out, HG.out⟩

end Go.Proofs.YtndhhmgbekcfoaaDoor
