import Derived.Test.YtndhhmgbekcfoaaDoorP1
namespace Go.Proofs.YtndhhmgbekcfoaaDoor
open Go.RowKit
set_option linter.unusedVariables false
set_option linter.unusedSimpArgs false

set_option maxRecDepth 100000 in
set_option maxHeartbeats 4000000 in
theorem putSize_c (W0 : World) (n : Int) (hn : I64 n) : PutC 67 (fun v => #[v, .int .i64 n]) (nb (szn n)) W0 := by
  intro w' v l hB hl
  have HC : Hid (PutC 68 (fun v => #[v, .int .u64 (szn n : Int)]) (nb (szn n)) W0) := putNumber_c W0 _ (szn_of n).2
  have HB : Hid (Bf W0 w' v l) := hB
  have he : IntKind.u64.wrap n = (szn n : Int) := (szn_of n).1
  generalize szn n = q at *
  generalize hN : nb q = nw at *
  have HL : Hid (l.length + nw.length ≤ 1099511627776) := hl
  clear hB hl hn
  go_enter Tryd.func67, Tryd.ntmps67
  go_wp2_with (first | (go_at_call 68; go_loud (refine (HC.out _ _ _ HB.out HL.out).mono ?_; rintro e w1 ⟨v1, rfl, b1, g1⟩; have B1 : Hid _ := b1; have G1 : Hid _ := g1; clear b1 g1)))
  go_ret
  exact ⟨_, rfl, B1.out, G1.out⟩
theorem not_neg (n : Int) (h1 : -9223372036854775808 ≤ n) (h2 : n < 0) : bits .xor .i64 (-1) n = -n - 1 := by
  show IntKind.i64.wrap ((BitVec.ofInt 64 (-1) ^^^ BitVec.ofInt 64 n).toNat : Int) = _
  have e1 : BitVec.ofInt 64 (-1) = BitVec.allOnes 64 := by decide
  have e2 : ((BitVec.ofInt 64 n).toNat : Int) = n + 18446744073709551616 := by rw [BitVec.toNat_ofInt]; omega
  rw [e1, BitVec.allOnes_xor, BitVec.toNat_not]
  have e3 : ((2 ^ 64 - 1 - (BitVec.ofInt 64 n).toNat : Nat) : Int) = -n - 1 := by omega
  rw [e3, i64w _ (by omega) (by omega)]
set_option maxRecDepth 100000 in
set_option maxHeartbeats 4000000 in
theorem putSigned_c (W0 : World) (n : Int) (hn : I64 n) : PutC 42 (fun v => #[v, .int .i64 n]) (nb (zz n)) W0 := by
  intro w' v l hB hl
  have hz : zz n ≤ 18446744073709551615 := by unfold I64 at hn; unfold zz; split <;> omega
  have HC : Hid (PutC 68 (fun v => #[v, .int .u64 (zz n : Int)]) (nb (zz n)) W0) := putNumber_c W0 _ hz
  have HB : Hid (Bf W0 w' v l) := hB
  by_cases h0 : n < 0
  · have hm : ((-n - 1).toNat : Int) = -n - 1 := by unfold I64 at hn; omega
    have hx : bits .xor .i64 (if IntKind.i64.signed = true then -1 else 9223372036854775807) n = ((-n - 1).toNat : Int) := by
      rw [if_pos (by decide : IntKind.i64.signed = true), hm]; exact not_neg n hn.1 h0
    have hq : zz n = 2 * (-n - 1).toNat + 1 := by unfold zz; rw [if_pos h0]; unfold I64 at hn; omega
    have hb : (-n - 1).toNat ≤ 9223372036854775807 := by unfold I64 at hn; omega
    have hl0 : decide (n < 0) = true := by simp [h0]
    clear hm
    generalize (-n - 1).toNat = m at *
    have w1 : IntKind.u64.wrap (m : Int) = (m : Int) := u64w _ (by omega) (by omega)
    have w2 : IntKind.u64.wrap (2 * (m : Int)) = 2 * (m : Int) := u64w _ (by omega) (by omega)
    have w3 : IntKind.u64.wrap (2 * (m : Int) + 1) = (zz n : Int) := by rw [u64w _ (by omega) (by omega)]; omega
    clear hq hb
    generalize zz n = q at *
    generalize hN : nb q = nw at *
    have HL : Hid (l.length + nw.length ≤ 1099511627776) := hl
    clear hB hl hz hn
    go_enter Tryd.func42, Tryd.ntmps42
    go_wp2_with (first | (go_at_call 68; go_loud (refine (HC.out _ _ _ HB.out HL.out).mono ?_; rintro e w1 ⟨v1, rfl, b1, g1⟩; have B1 : Hid _ := b1; have G1 : Hid _ := g1; clear b1 g1)))
    go_ret
    exact ⟨_, rfl, B1.out, G1.out⟩
  · have hl0 : decide (n < 0) = false := by simp [h0]
    have hl1 : ¬ n < 0 := h0
    have w2 : IntKind.u64.wrap n = n := u64w _ (by omega) (by unfold I64 at hn; omega)
    have w3 : IntKind.u64.wrap (2 * n) = (zz n : Int) := by rw [u64w _ (by omega) (by unfold I64 at hn; omega)]; unfold zz; rw [if_neg h0]; omega
    generalize zz n = q at *
    generalize hN : nb q = nw at *
    have HL : Hid (l.length + nw.length ≤ 1099511627776) := hl
    clear hB hl hz hn h0
    go_enter Tryd.func42, Tryd.ntmps42
    go_wp2_with (first | (go_at_call 68; go_loud (refine (HC.out _ _ _ HB.out HL.out).mono ?_; rintro e w1 ⟨v1, rfl, b1, g1⟩; have B1 : Hid _ := b1; have G1 : Hid _ := g1; clear b1 g1)))
    go_ret
    exact ⟨_, rfl, B1.out, G1.out⟩
set_option maxRecDepth 100000 in
set_option maxHeartbeats 4000000 in
theorem putText_c (W0 : World) (s : ByteArray) (hs : s.size ≤ 1099511627776) : PutC 44 (fun v => #[v, .string s]) (nb s.size ++ sb s) W0 := by
  intro w' v l hB hl
  have HC : Hid (PutC 67 (fun v => #[v, .int .i64 (s.size : Int)]) (nb s.size) W0) := by
    have := putSize_c W0 (s.size : Int) (by unfold I64; omega)
    rw [show szn (s.size : Int) = s.size by unfold szn; omega] at this
    exact this
  have HB : Hid (Bf W0 w' v l) := hB
  have HL : Hid (l.length + (nb s.size).length ≤ 1099511627776) := by show _ ≤ _; simp at hl; omega
  have HL2 : Hid ((l ++ nb s.size).length + s.size ≤ 70368744177664) := by show _ ≤ _; simp [sb_len] at hl ⊢; omega
  clear hB hl
  go_enter Tryd.func44, Tryd.ntmps44
  go_wp2_with (first
    | (go_at_call 67; go_loud (refine (HC.out _ _ _ HB.out HL.out).mono ?_; rintro e w1 ⟨v1, rfl, b1, g1⟩; have B1 : Hid _ := b1; have G1 : Hid _ := g1; clear b1 g1))
    | (at_builtin; go_loud (refine wpList_apps rfl (.tmp 8) (.tmp 9) rfl W0 _ _ s rfl rfl B1.out HL2.out ?_; intro v2 w2 o2 g2; have B2 : Hid (Bf W0 w2 v2 (l ++ (nb s.size ++ sb s))) := (by rw [← List.append_assoc]; exact o2); have G2 : Hid (Gd w' w2 v v2) := Gd.trans G1.out g2; clear o2 g2)))
  go_ret
  exact ⟨_, rfl, B2.out, G2.out⟩
set_option maxRecDepth 100000 in
set_option maxHeartbeats 4000000 in
theorem putInstr_c (W0 : World) (x : Ins) (hop : 0 ≤ x.op ∧ x.op ≤ 255) (hx : I64 x.a) : PutC 70 (fun v => #[v, .agg #[.int .u8 x.op, .int .i64 x.a]]) (x.op.toNat :: nb (szn x.a)) W0 := by
  intro w' v l hB hl
  obtain ⟨op, a⟩ := x
  dsimp only at hop hx hl ⊢
  obtain ⟨k, rfl⟩ : ∃ k : Nat, op = (k : Int) := ⟨op.toNat, by omega⟩
  simp only [Int.toNat_natCast] at hl ⊢
  have HC : Hid (PutC 67 (fun v => #[v, .int .i64 a]) (nb (szn a)) W0) := putSize_c W0 a hx
  have HB : Hid (Bf W0 w' v l) := hB
  have HL : Hid ((l ++ [k]).length + (nb (szn a)).length ≤ 1099511627776) := by show _ ≤ _; simp at hl ⊢; omega
  have HL2 : Hid (l.length + 1 ≤ 70368744177664) := by show _ ≤ _; simp at hl ⊢; omega
  clear hB hl
  go_enter Tryd.func70, Tryd.ntmps70
  go_wp2_with (fail)
  obtain ⟨d0, d1, hBz⟩ : (w'.alloc (.cells #[.int .u8 (k : Int), .int .i64 a] 43)).cell? ⟨w'.heap.size, 0, none⟩ = some (.int .u8 (k : Int)) ∧ (w'.alloc (.cells #[.int .u8 (k : Int), .int .i64 a] 43)).cell? ⟨w'.heap.size, 1, none⟩ = some (.int .i64 a) ∧ w'.heap.size < (w'.alloc (.cells #[.int .u8 (k : Int), .int .i64 a] 43)).heap.size := ⟨cell_new _ _ _ 0, cell_new _ _ _ 1, by simp⟩
  have HX : Hid (Bf W0 (w'.alloc (.cells #[.int .u8 (k : Int), .int .i64 a] 43)) v l) := HB.out.alloc _
  have GX : Hid (Gd w' (w'.alloc (.cells #[.int .u8 (k : Int), .int .i64 a] 43)) v v) := (Gd.refl _ _).alloc _
  have NX : Hid (v.ownBlock ≠ some w'.heap.size) := HB.out.lt
  clear HB
  generalize w'.heap.size = B at *
  obtain ⟨x, hx⟩ : ∃ x, x = w'.alloc (.cells #[.int .u8 (k : Int), .int .i64 a] 43) := ⟨_, rfl⟩
  rw [← hx] at d0 d1 hBz HX GX ⊢
  clear hx
  refine wp_region_held_drew (S := fun W => W.cell? ⟨B, 0, none⟩ = some (.int .u8 (k : Int)) ∧ W.cell? ⟨B, 1, none⟩ = some (.int .i64 a)) (by kernel_rfl) ⟨d0, d1⟩ (fun hHeld => ?_)
  refine wpAnyH_take (i := 0) (v := ?va0) rfl (by kernel_rfl) (by kernel_rfl) (by kernel_rfl) (fun _ _ _ h => h) (Or.inl ⟨by kernel_rfl, ?hya0⟩) (by trivial) ?resta0
  case hya0 => (intro w hSw; obtain ⟨s0, s1⟩ := hSw; go_simp; first | done | with_reducible rfl | (simp [s0]; done) | (simp [s1]; done))
  try simp only [Act.put, List.setIfInBounds_toArray, List.set_cons_zero, List.set_cons_succ]
  refine wpAnyH_take (i := 1) (v := ?va1) rfl (by kernel_rfl) (by kernel_rfl) (by kernel_rfl) (fun _ _ _ h => h) (Or.inl ⟨by kernel_rfl, ?hya1⟩) (by trivial) ?resta1
  case hya1 => (intro w hSw; obtain ⟨s0, s1⟩ := hSw; go_simp; first | done | with_reducible rfl | (simp [s0]; done) | (simp [s1]; done))
  try simp only [Act.put, List.setIfInBounds_toArray, List.set_cons_zero, List.set_cons_succ]
  refine wpAnyH_take (i := 2) (v := ?va2) rfl (by kernel_rfl) (by kernel_rfl) (by kernel_rfl) (fun _ _ _ h => h) (Or.inl ⟨by kernel_rfl, ?hya2⟩) (by trivial) ?resta2
  case hya2 => (intro w hSw; obtain ⟨s0, s1⟩ := hSw; go_simp; first | done | with_reducible rfl | (simp [s0]; done) | (simp [s1]; done))
  try simp only [Act.put, List.setIfInBounds_toArray, List.set_cons_zero, List.set_cons_succ]
  refine wpAnyH_take (i := 5) (v := ?va5) rfl (by kernel_rfl) (by kernel_rfl) (by kernel_rfl) (fun _ _ _ h => h) (Or.inl ⟨by kernel_rfl, ?hya5⟩) (by trivial) ?resta5
  case hya5 => (intro w hSw; obtain ⟨s0, s1⟩ := hSw; go_simp; first | done | with_reducible rfl | (simp [s0]; done) | (simp [s1]; done))
  try simp only [Act.put, List.setIfInBounds_toArray, List.set_cons_zero, List.set_cons_succ]
  refine wpAnyH_take (i := 6) (v := ?va6) rfl (by kernel_rfl) (by kernel_rfl) (by kernel_rfl) (fun _ _ _ h => h) (Or.inl ⟨by kernel_rfl, ?hya6⟩) (by trivial) ?resta6
  case hya6 => (intro w hSw; obtain ⟨s0, s1⟩ := hSw; go_simp; first | done | with_reducible rfl | (simp [s0]; done) | (simp [s1]; done))
  try simp only [Act.put, List.setIfInBounds_toArray, List.set_cons_zero, List.set_cons_succ]
  refine wpAnyH_ready (rs := [3]) (by kernel_rfl) (by simp) ?_
  refine AllReadyH.cons rfl (fun K hK => ?_) AllReadyH.nil
  go_simp
  refine hK.out _ _ ⟨(World.cell?_alloc_some _ _ _ (by rw [d0]; rfl)).trans d0, (World.cell?_alloc_some _ _ _ (by rw [d1]; rfl)).trans d1⟩ (fun _ => ?_)
  clear hK K
  try simp only [Act.put, List.setIfInBounds_toArray, List.set_cons_zero, List.set_cons_succ]
  refine wpAnyH_ready (rs := [4]) (by kernel_rfl) (by simp) ?_
  refine AllReadyH.cons rfl (fun K hK => ?_) AllReadyH.nil
  refine if_w (by kernel_rfl) ?_
  refine wp_appo _ _ rfl W0 v l ⟨x.heap.size, 0, none⟩ 1 1 [k] rfl rfl (HX.out.drew.alloc _) rfl (by decide) (fun j u hu => by rw [Addr.add_mid, Nat.zero_add]; exact (cell_new x.drew _ _ _).trans (by simpa [bs] using hu)) HL2.out ?_
  intro v2 w2 b2 g2
  have B2 : Hid (Bf W0 w2 v2 (l ++ [k])) := b2
  have G2 : Hid (Gd x w2 v v2) := Gd.trans ((Gd.refl x v).drew.alloc _) g2
  obtain ⟨c2, z2, n2⟩ := G2.out.at hBz NX.out
  clear b2 g2
  refine hK.out _ _ ⟨(c2 0).trans d0, (c2 1).trans d1⟩ (fun hh2 => ?_)
  clear hK K
  try simp only [Act.put, List.setIfInBounds_toArray, List.set_cons_zero, List.set_cons_succ]
  refine wpAnyH_ready (rs := [7]) (by kernel_rfl) (by simp) ?_
  refine AllReadyH.cons rfl (fun K hK => ?_) AllReadyH.nil
  go_simp
  refine (HC.out _ _ _ B2.out HL.out).mono ?_
  rintro e w3 ⟨v3, rfl, b3, g3⟩
  have B3 : Hid (Bf W0 w3 v3 (l ++ k :: nb (szn a))) := by rw [show l ++ k :: nb (szn a) = (l ++ [k]) ++ nb (szn a) by simp]; exact b3
  have G3 : Hid (Gd w' w3 v v3) := Gd.trans GX.out (Gd.trans G2.out g3)
  obtain ⟨c3, z3, n3⟩ := g3.at z2 n2
  clear b3 g3
  refine hK.out _ _ ⟨(c3 0).trans hh2.1, (c3 1).trans hh2.2⟩ (fun _ => ?_)
  clear hK K
  try simp only [Act.put, List.setIfInBounds_toArray, List.set_cons_zero, List.set_cons_succ]
  refine wpAnyH_ready (rs := [8]) (by kernel_rfl) (by simp) ?_
  refine AllReadyH.cons rfl (fun K hK => ?_) AllReadyH.nil
  go_simp
  refine hK.out _ _ ⟨(c3 0).trans hh2.1, (c3 1).trans hh2.2⟩ (fun _ => ?_)
  clear hK K
  try simp only [Act.put, List.setIfInBounds_toArray, List.set_cons_zero, List.set_cons_succ]
  refine wpAnyH_done (by kernel_rfl) ?_ _
  go_wp2_with (fail)
  go_ret
  exact ⟨_, rfl, B3.out, G3.out⟩

end Go.Proofs.YtndhhmgbekcfoaaDoor
