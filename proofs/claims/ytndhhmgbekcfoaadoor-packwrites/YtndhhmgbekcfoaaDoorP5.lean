import Derived.Test.YtndhhmgbekcfoaaDoorP3
import Derived.Test.YtndhhmgbekcfoaaDoorE1
namespace Go.Proofs.YtndhhmgbekcfoaaDoor
open Go.RowKit
set_option linter.unusedVariables false
set_option linter.unusedSimpArgs false

set_option maxRecDepth 100000 in
set_option maxHeartbeats 4000000 in
theorem putCode_c (W0 : World) (ao : Option Addr) (ln lc : Nat) (xs : List Ins) (enc : Ins → List Nat) (hA : CodeAt W0 ao ln xs) (hn : ln ≤ 9223372036854775807)
    (hf : ∀ (y : Ins) , y ∈ xs → (0 ≤ y.op ∧ y.op ≤ 255) ∧ I64 y.a → PutC 70 (fun v => #[v, .agg #[.int .u8 y.op, .int .i64 y.a]]) (enc y) W0) : PutC 69 (fun v => #[v, .slice ao ln lc, .func (.func 70) #[] #[]]) (nb ln ++ xs.flatMap enc) W0 := by
  intro w v l hB hl
  have HA : Hid (CodeAt W0 ao ln xs) := hA
  have HF : Hid _ := hf
  have HLn : Hid (xs.length = ln) := hA.1
  have HC : Hid (PutC 67 (fun v => #[v, .int .i64 (ln : Int)]) (nb ln) W0) := by
    have := putSize_c W0 (ln : Int) (by unfold I64; omega)
    rw [show szn (ln : Int) = ln by unfold szn; omega] at this
    exact this
  have HB : Hid (Bf W0 w v l) := hB
  have HL : Hid (l.length + (nb ln ++ xs.flatMap enc).length ≤ 1099511627776) := hl
  have HL1 : Hid (l.length + (nb ln).length ≤ 1099511627776) := by show _ ≤ _; simp at hl; omega
  clear hA hf hB hl
  go_enter Tryd.func69, Tryd.ntmps69
  go_wp2_with (first | (go_at_call 67; go_loud (refine (HC.out _ _ _ HB.out HL1.out).mono ?_; rintro e w1 ⟨v1, rfl, b1, g1⟩; have B1 : Hid _ := b1; have G1 : Hid _ := g1; clear b1 g1)))
  go_loopw [0, 15] (fun b i w' => ∃ k : Nat, k ≤ ln ∧ i = .int .i64 k ∧ Hid (Bf W0 w' b (l ++ nb ln ++ (xs.take k).flatMap enc)) ∧ Hid (Gd w w' v b)) (fun b i _ => ln - (intOf i).toNat)
  case atStart => exact ⟨0, Nat.zero_le _, rfl, by (show Bf _ _ _ _); rw [List.take_zero, List.flatMap_nil, List.append_nil]; exact B1.out, G1⟩
  case round =>
    obtain ⟨k, hk, rfl, HW, HG⟩ := hrel
    by_cases hlt : k < ln
    · have hb : BW W0 wr := HW.out.1
      obtain ⟨b, off, y, rfl, hbl, hx, hc1⟩ := RowAt.get HA.out hlt
      obtain ⟨d1, d2, hi⟩ := hc1.bw hb _ _ _ hbl
      clear hc1
      have hbw : b < wr.heap.size := by have := hb.size; omega
      have e1 : (xs.take (k + 1)).flatMap enc = (xs.take k).flatMap enc ++ enc y := by rw [List.take_add_one, hx]; simp
      have HR : Hid ((l ++ nb ln ++ (xs.take k).flatMap enc).length + (enc y).length ≤ 1099511627776) := by
        have h1 := HL.out
        have h2 : xs.flatMap enc = (xs.take (k + 1)).flatMap enc ++ (xs.drop (k + 1)).flatMap enc := by rw [← List.flatMap_append, List.take_append_drop]
        rw [h2, e1] at h1
        show _ ≤ _
        simp only [List.length_append] at h1 ⊢
        omega
      have E1 : Hid (l ++ nb ln ++ (xs.take (k + 1)).flatMap enc = (l ++ nb ln ++ (xs.take k).flatMap enc) ++ enc y) := by show _ = _; rw [e1]; simp
      have HE : Hid (PutC 70 (fun v => #[v, .agg #[.int .u8 y.op, .int .i64 y.a]]) (enc y) W0) := HF.out y (List.mem_of_getElem? hx) hi
      clear hx e1 hb
      go_wp2_with (first | (go_at_call 70; go_loud (refine (HE.out _ _ _ (by first | exact HW.out | exact HW.out.alloc _) HR.out).mono ?_; rintro e w2 ⟨v2, rfl, b2, g2⟩; have B2 : Hid _ := b2; have G2 : Hid (Gd w w2 v v2) := (by first | exact Gd.trans HG.out g2 | exact Gd.trans (HG.out.alloc _) g2); clear b2 g2)))
      go_roundw
      case rel => exact ⟨k + 1, by omega, by go_num, by rw [Hid, E1.out]; exact B2.out, G2⟩
      case measure => simp [intOf]; omega
    · have HE : Hid (Bf W0 wr u0 (l ++ (nb ln ++ xs.flatMap enc))) := by
        have h1 := HW.out
        rw [List.take_of_length_le (by have := HLn.out; omega), List.append_assoc] at h1
        exact h1
      obtain rfl : k = ln := by omega
      go_wp2_with (fail)
      go_ret
      exact ⟨_, rfl, HE.out, HG.out⟩
/-- An instruction's bytes. -/
def enI (x : Ins) : List Nat := x.op.toNat :: nb (szn x.a)
/-- A function's bytes. -/
def enP (x : Pro) : List Nat := nb (szn x.p) ++ nb (szn x.s) ++ nb (szn x.u) ++ (nb x.code.length ++ x.code.flatMap enI)
/-- A table's last byte. -/
def flg (x : Tbl) : Nat := (if x.ret then 1 else 0) + (if x.fin then 2 else 0)
/-- A table's bytes. -/
def enT (x : Tbl) : List Nat := nb x.ops.length ++ x.ops.flatMap (fun n => nb (szn n)) ++ [flg x]
set_option maxRecDepth 100000 in
set_option maxHeartbeats 4000000 in
theorem putProto_c (W0 : World) (x : Pro) (ca : Option Addr) (cl cc : Nat) (hx : PrV W0 x ca cl cc) : PutC 46 (fun v => #[v, prv x.p x.s x.u ca cl cc]) (enP x) W0 := by
  intro w v l hB hl
  have hcl : x.code.length = cl := hx.2.2.2.2.2.1
  have hlen : cl ≤ 9223372036854775807 := by have := hx.2.2.2.2.2.2.1; unfold maxLen at this; omega
  have HS : Hid (∀ n, I64 n → PutC 67 (fun v => #[v, .int .i64 n]) (nb (szn n)) W0) := fun n hn => putSize_c W0 n hn
  have HC : Hid (PutC 69 (fun v => #[v, .slice ca cl cc, .func (.func 70) #[] #[]]) (nb cl ++ x.code.flatMap enI) W0) := putCode_c W0 ca cl cc x.code enI hx.2.2.2.2.2 hlen (fun y _ h => putInstr_c W0 y h.1 h.2)
  have HB : Hid (Bf W0 w v l) := hB
  have HL : Hid (l.length + (enP x).length ≤ 1099511627776) := hl
  have HE : Hid (enP x = nb (szn x.p) ++ nb (szn x.s) ++ nb (szn x.u) ++ (nb cl ++ x.code.flatMap enI)) := by show _ = _; rw [enP, hcl]
  have HI : Hid (I64 x.p ∧ I64 x.s ∧ I64 x.u) := ⟨hx.1, hx.2.1, hx.2.2.1⟩
  clear hx hB hl hcl
  go_enter Tryd.func46, Tryd.ntmps46
  go_wp2_with (fail)
  obtain ⟨X, hX⟩ : ∃ X, X = (w.alloc (.cells #[.int .i64 x.p, .int .i64 x.s, .int .i64 x.u, .slice ca cl cc] 46)).alloc (.cells #[.int .i64 x.p, .int .i64 x.s, .int .i64 x.u] 3) := ⟨_, rfl⟩
  rw [← hX]
  have HG0 : Hid (Gd w X v v) := by rw [hX]; exact ((Gd.refl _ _).alloc _).alloc _
  have HB0 : Hid (Bf W0 X v l) := by rw [hX]; exact (HB.out.alloc _).alloc _
  have hz : X.heap.size = w.heap.size + 2 := by rw [hX]; simp
  have HN : Hid (v.ownBlock ≠ some w.heap.size ∧ v.ownBlock ≠ some (w.heap.size + 1)) := ⟨HB.out.lt, fun e => by have := World.ownsRow.lt HB.out.2 _ e; omega⟩
  have HQ : Hid (∀ k n, [x.p, x.s, x.u][k]? = some n → X.cell? ⟨w.heap.size + 1, k, none⟩ = some (.int .i64 n)) := fun k n hk => by
    rw [hX]
    have := cell_new (w.alloc (.cells #[.int .i64 x.p, .int .i64 x.s, .int .i64 x.u, .slice ca cl cc] 46)) #[.int .i64 x.p, .int .i64 x.s, .int .i64 x.u] 3 k
    rw [show (w.alloc (.cells #[.int .i64 x.p, .int .i64 x.s, .int .i64 x.u, .slice ca cl cc] 46)).heap.size = w.heap.size + 1 by simp] at this
    rw [this]
    match k, hk with
    | 0, hk => simp at hk; subst hk; rfl
    | 1, hk => simp at hk; subst hk; rfl
    | 2, hk => simp at hk; subst hk; rfl
  have HQ3 : Hid (X.cell? ⟨w.heap.size, 3, none⟩ = some (.slice ca cl cc)) := by
    show _ = _
    rw [hX, World.cell?_alloc_lt _ _ _ (by simp)]
    exact cell_new _ _ _ 3
  clear hX HB
  go_loopw [0, 15] (fun b i w' => ∃ k : Nat, k ≤ 3 ∧ i = .int .i64 k ∧ Hid (Bf W0 w' b (l ++ ([x.p, x.s, x.u].take k).flatMap (fun n => nb (szn n)))) ∧ Hid (Gd X w' v b)) (fun b i _ => 3 - (intOf i).toNat)
  case atStart => exact ⟨0, Nat.zero_le _, rfl, by (show Bf _ _ _ _); rw [List.take_zero, List.flatMap_nil, List.append_nil]; exact HB0.out, Gd.refl _ _⟩
  case round =>
    obtain ⟨k, hk, rfl, HW, HG⟩ := hrel
    by_cases hlt : k < 3
    · obtain ⟨n, hx, hn⟩ : ∃ n, [x.p, x.s, x.u][k]? = some n ∧ I64 n := by
        obtain ⟨i1, i2, i3⟩ := HI.out
        match k, hlt with
        | 0, _ => exact ⟨_, rfl, i1⟩
        | 1, _ => exact ⟨_, rfl, i2⟩
        | 2, _ => exact ⟨_, rfl, i3⟩
      obtain ⟨c1, z1, n1⟩ := HG.out.at (B := w.heap.size + 1) (by omega) HN.out.2
      have d1 : wr.cell? ⟨w.heap.size + 1, k, none⟩ = some (.int .i64 n) := (c1 k).trans (HQ.out k n hx)
      have e1 : ([x.p, x.s, x.u].take (k + 1)).flatMap (fun n => nb (szn n)) = ([x.p, x.s, x.u].take k).flatMap (fun n => nb (szn n)) ++ nb (szn n) := by rw [List.take_add_one, hx]; simp
      have HR : Hid ((l ++ ([x.p, x.s, x.u].take k).flatMap (fun n => nb (szn n))).length + (nb (szn n)).length ≤ 1099511627776) := by
        have h1 := HL.out
        rw [HE.out] at h1
        have h2 : nb (szn x.p) ++ nb (szn x.s) ++ nb (szn x.u) = ([x.p, x.s, x.u].take (k + 1)).flatMap (fun n => nb (szn n)) ++ ([x.p, x.s, x.u].drop (k + 1)).flatMap (fun n => nb (szn n)) := by rw [← List.flatMap_append, List.take_append_drop]; simp
        rw [h2, e1] at h1
        show _ ≤ _
        simp only [List.length_append] at h1 ⊢
        omega
      have E1 : Hid (l ++ ([x.p, x.s, x.u].take (k + 1)).flatMap (fun n => nb (szn n)) = (l ++ ([x.p, x.s, x.u].take k).flatMap (fun n => nb (szn n))) ++ nb (szn n)) := by show _ = _; rw [e1]; simp
      have HP : Hid (PutC 67 (fun v => #[v, .int .i64 n]) (nb (szn n)) W0) := HS.out n hn
      clear hx e1 hn c1
      go_wp2_with (first | (go_at_call 67; go_loud (refine (HP.out _ _ _ HW.out HR.out).mono ?_; rintro e w2 ⟨v2, rfl, b2, g2⟩; have B2 : Hid _ := b2; have G2 : Hid (Gd X w2 v v2) := Gd.trans HG.out g2; clear b2 g2)))
      go_roundw
      case rel => exact ⟨k + 1, by omega, by go_num, by rw [Hid, E1.out]; exact B2.out, G2⟩
      case measure => simp [intOf]; omega
    · obtain rfl : k = 3 := by omega
      obtain ⟨c1, z1, n1⟩ := HG.out.at (B := w.heap.size) (by omega) HN.out.1
      have d1 : wr.cell? ⟨w.heap.size, 3, none⟩ = some (.slice ca cl cc) := (c1 3).trans HQ3.out
      have HW3 : Hid (Bf W0 wr u0 (l ++ (nb (szn x.p) ++ nb (szn x.s) ++ nb (szn x.u)))) := by (show Bf _ _ _ _); have := HW.out; simpa using this
      have HL3 : Hid ((l ++ (nb (szn x.p) ++ nb (szn x.s) ++ nb (szn x.u))).length + (nb cl ++ x.code.flatMap enI).length ≤ 1099511627776) := by
        have h1 := HL.out
        rw [HE.out] at h1
        show _ ≤ _
        simp only [List.length_append] at h1 ⊢
        omega
      have E1 : Hid (l ++ enP x = (l ++ (nb (szn x.p) ++ nb (szn x.s) ++ nb (szn x.u))) ++ (nb cl ++ x.code.flatMap enI)) := by show _ = _; rw [HE.out, ← List.append_assoc]
      clear HW c1
      go_wp2_with (first | (go_at_call 69; go_loud (refine (HC.out _ _ _ HW3.out HL3.out).mono ?_; rintro e w2 ⟨v2, rfl, b2, g2⟩; have B2 : Hid _ := b2; have G2 : Hid (Gd w w2 v v2) := Gd.trans HG0.out (Gd.trans HG.out g2); clear b2 g2)))
      go_ret
      exact ⟨_, rfl, by rw [E1.out]; exact B2.out, G2.out⟩
set_option maxRecDepth 100000 in
set_option maxHeartbeats 4000000 in
theorem putTable_ff (W0 : World) (ops : List Int) (oa : Option Addr) (ol oc : Nat) (hx : TbV W0 ⟨ops, false, false⟩ oa ol oc) : PutC 48 (fun v => #[v, tbv oa ol oc false false]) (enT ⟨ops, false, false⟩) W0 := by
  intro w v l hB hl
  have hlen : ol ≤ 9223372036854775807 := by have := hx.2.2.1; omega
  have hol : ops.length = ol := hx.2.2.2.1
  have HC : Hid (PutC 71 (fun v => #[v, .slice oa ol oc, .func (.func 67) #[] #[]]) (nb ol ++ ops.flatMap (fun n => nb (szn n))) W0) := putOps_c W0 oa ol oc ops (fun n => nb (szn n)) hx.2.2.2 hlen (fun y _ h => putSize_c W0 y h)
  have HB : Hid (Bf W0 w v l) := hB
  have HE : Hid (enT ⟨ops, false, false⟩ = (nb ol ++ ops.flatMap (fun n => nb (szn n))) ++ [0]) := by show _ = _; rw [enT, hol]; rfl
  have HL : Hid (l.length + (nb ol ++ ops.flatMap (fun n => nb (szn n))).length ≤ 1099511627776) := by
    rw [HE.out] at hl; show _ ≤ _; simp only [List.length_append] at hl ⊢; omega
  have HL2 : Hid ((l ++ (nb ol ++ ops.flatMap (fun n => nb (szn n)))).length + 1 ≤ 70368744177664) := by
    rw [HE.out] at hl; show _ ≤ _; simp only [List.length_append, List.length_singleton] at hl ⊢; omega
  have q1 : bits .or .u8 0 1 = 1 := by decide +kernel
  have q2 : bits .or .u8 0 2 = 2 := by decide +kernel
  have q3 : bits .or .u8 1 2 = 3 := by decide +kernel
  clear hx hB hl hol
  go_enter Tryd.func48, Tryd.ntmps48
  go_wp2_with (first
    | (go_at_call 71; go_loud (refine (HC.out _ _ _ (HB.out.alloc _) HL.out).mono ?_; rintro e w1 ⟨v1, rfl, b1, g1⟩; have B1 : Hid _ := b1; have G1 : Hid (Gd w w1 v v1) := Gd.trans ((Gd.refl _ _).alloc _) g1; clear b1 g1))
    | (at_builtin; go_loud (refine wpList_app rfl (.tmp 17) (.tmp 19) rfl W0 _ _ _ 1 1 [0] rfl rfl (Bf.alloc B1.out _) rfl (by decide) ?nw HL2.out ?_; (case nw => intro j u hu; rw [Addr.add_mid, Nat.zero_add, cell_new]; simpa [bs, q1, q2, q3] using hu); intro v2 w2 o2 g2; have B2 : Hid (Bf W0 w2 v2 (l ++ enT ⟨ops, false, false⟩)) := (by rw [HE.out, ← List.append_assoc]; exact o2); have G2 : Hid (Gd w w2 v v2) := Gd.trans (Gd.alloc G1.out _) g2; clear o2 g2)))
  go_ret
  exact ⟨_, rfl, B2.out, G2.out⟩
set_option maxRecDepth 100000 in
set_option maxHeartbeats 4000000 in
theorem putTable_tf (W0 : World) (ops : List Int) (oa : Option Addr) (ol oc : Nat) (hx : TbV W0 ⟨ops, true, false⟩ oa ol oc) : PutC 48 (fun v => #[v, tbv oa ol oc true false]) (enT ⟨ops, true, false⟩) W0 := by
  intro w v l hB hl
  have hlen : ol ≤ 9223372036854775807 := by have := hx.2.2.1; omega
  have hol : ops.length = ol := hx.2.2.2.1
  have HC : Hid (PutC 71 (fun v => #[v, .slice oa ol oc, .func (.func 67) #[] #[]]) (nb ol ++ ops.flatMap (fun n => nb (szn n))) W0) := putOps_c W0 oa ol oc ops (fun n => nb (szn n)) hx.2.2.2 hlen (fun y _ h => putSize_c W0 y h)
  have HB : Hid (Bf W0 w v l) := hB
  have HE : Hid (enT ⟨ops, true, false⟩ = (nb ol ++ ops.flatMap (fun n => nb (szn n))) ++ [1]) := by show _ = _; rw [enT, hol]; rfl
  have HL : Hid (l.length + (nb ol ++ ops.flatMap (fun n => nb (szn n))).length ≤ 1099511627776) := by
    rw [HE.out] at hl; show _ ≤ _; simp only [List.length_append] at hl ⊢; omega
  have HL2 : Hid ((l ++ (nb ol ++ ops.flatMap (fun n => nb (szn n)))).length + 1 ≤ 70368744177664) := by
    rw [HE.out] at hl; show _ ≤ _; simp only [List.length_append, List.length_singleton] at hl ⊢; omega
  have q1 : bits .or .u8 0 1 = 1 := by decide +kernel
  have q2 : bits .or .u8 0 2 = 2 := by decide +kernel
  have q3 : bits .or .u8 1 2 = 3 := by decide +kernel
  clear hx hB hl hol
  go_enter Tryd.func48, Tryd.ntmps48
  go_wp2_with (first
    | (go_at_call 71; go_loud (refine (HC.out _ _ _ (HB.out.alloc _) HL.out).mono ?_; rintro e w1 ⟨v1, rfl, b1, g1⟩; have B1 : Hid _ := b1; have G1 : Hid (Gd w w1 v v1) := Gd.trans ((Gd.refl _ _).alloc _) g1; clear b1 g1))
    | (at_builtin; go_loud (refine wpList_app rfl (.tmp 17) (.tmp 19) rfl W0 _ _ _ 1 1 [1] rfl rfl (Bf.alloc B1.out _) rfl (by decide) ?nw HL2.out ?_; (case nw => intro j u hu; rw [Addr.add_mid, Nat.zero_add, cell_new]; simpa [bs, q1, q2, q3] using hu); intro v2 w2 o2 g2; have B2 : Hid (Bf W0 w2 v2 (l ++ enT ⟨ops, true, false⟩)) := (by rw [HE.out, ← List.append_assoc]; exact o2); have G2 : Hid (Gd w w2 v v2) := Gd.trans (Gd.alloc G1.out _) g2; clear o2 g2)))
  go_ret
  exact ⟨_, rfl, B2.out, G2.out⟩
set_option maxRecDepth 100000 in
set_option maxHeartbeats 4000000 in
theorem putTable_ft (W0 : World) (ops : List Int) (oa : Option Addr) (ol oc : Nat) (hx : TbV W0 ⟨ops, false, true⟩ oa ol oc) : PutC 48 (fun v => #[v, tbv oa ol oc false true]) (enT ⟨ops, false, true⟩) W0 := by
  intro w v l hB hl
  have hlen : ol ≤ 9223372036854775807 := by have := hx.2.2.1; omega
  have hol : ops.length = ol := hx.2.2.2.1
  have HC : Hid (PutC 71 (fun v => #[v, .slice oa ol oc, .func (.func 67) #[] #[]]) (nb ol ++ ops.flatMap (fun n => nb (szn n))) W0) := putOps_c W0 oa ol oc ops (fun n => nb (szn n)) hx.2.2.2 hlen (fun y _ h => putSize_c W0 y h)
  have HB : Hid (Bf W0 w v l) := hB
  have HE : Hid (enT ⟨ops, false, true⟩ = (nb ol ++ ops.flatMap (fun n => nb (szn n))) ++ [2]) := by show _ = _; rw [enT, hol]; rfl
  have HL : Hid (l.length + (nb ol ++ ops.flatMap (fun n => nb (szn n))).length ≤ 1099511627776) := by
    rw [HE.out] at hl; show _ ≤ _; simp only [List.length_append] at hl ⊢; omega
  have HL2 : Hid ((l ++ (nb ol ++ ops.flatMap (fun n => nb (szn n)))).length + 1 ≤ 70368744177664) := by
    rw [HE.out] at hl; show _ ≤ _; simp only [List.length_append, List.length_singleton] at hl ⊢; omega
  have q1 : bits .or .u8 0 1 = 1 := by decide +kernel
  have q2 : bits .or .u8 0 2 = 2 := by decide +kernel
  have q3 : bits .or .u8 1 2 = 3 := by decide +kernel
  clear hx hB hl hol
  go_enter Tryd.func48, Tryd.ntmps48
  go_wp2_with (first
    | (go_at_call 71; go_loud (refine (HC.out _ _ _ (HB.out.alloc _) HL.out).mono ?_; rintro e w1 ⟨v1, rfl, b1, g1⟩; have B1 : Hid _ := b1; have G1 : Hid (Gd w w1 v v1) := Gd.trans ((Gd.refl _ _).alloc _) g1; clear b1 g1))
    | (at_builtin; go_loud (refine wpList_app rfl (.tmp 17) (.tmp 19) rfl W0 _ _ _ 1 1 [2] rfl rfl (Bf.alloc B1.out _) rfl (by decide) ?nw HL2.out ?_; (case nw => intro j u hu; rw [Addr.add_mid, Nat.zero_add, cell_new]; simpa [bs, q1, q2, q3] using hu); intro v2 w2 o2 g2; have B2 : Hid (Bf W0 w2 v2 (l ++ enT ⟨ops, false, true⟩)) := (by rw [HE.out, ← List.append_assoc]; exact o2); have G2 : Hid (Gd w w2 v v2) := Gd.trans (Gd.alloc G1.out _) g2; clear o2 g2)))
  go_ret
  exact ⟨_, rfl, B2.out, G2.out⟩
set_option maxRecDepth 100000 in
set_option maxHeartbeats 4000000 in
theorem putTable_tt (W0 : World) (ops : List Int) (oa : Option Addr) (ol oc : Nat) (hx : TbV W0 ⟨ops, true, true⟩ oa ol oc) : PutC 48 (fun v => #[v, tbv oa ol oc true true]) (enT ⟨ops, true, true⟩) W0 := by
  intro w v l hB hl
  have hlen : ol ≤ 9223372036854775807 := by have := hx.2.2.1; omega
  have hol : ops.length = ol := hx.2.2.2.1
  have HC : Hid (PutC 71 (fun v => #[v, .slice oa ol oc, .func (.func 67) #[] #[]]) (nb ol ++ ops.flatMap (fun n => nb (szn n))) W0) := putOps_c W0 oa ol oc ops (fun n => nb (szn n)) hx.2.2.2 hlen (fun y _ h => putSize_c W0 y h)
  have HB : Hid (Bf W0 w v l) := hB
  have HE : Hid (enT ⟨ops, true, true⟩ = (nb ol ++ ops.flatMap (fun n => nb (szn n))) ++ [3]) := by show _ = _; rw [enT, hol]; rfl
  have HL : Hid (l.length + (nb ol ++ ops.flatMap (fun n => nb (szn n))).length ≤ 1099511627776) := by
    rw [HE.out] at hl; show _ ≤ _; simp only [List.length_append] at hl ⊢; omega
  have HL2 : Hid ((l ++ (nb ol ++ ops.flatMap (fun n => nb (szn n)))).length + 1 ≤ 70368744177664) := by
    rw [HE.out] at hl; show _ ≤ _; simp only [List.length_append, List.length_singleton] at hl ⊢; omega
  have q1 : bits .or .u8 0 1 = 1 := by decide +kernel
  have q2 : bits .or .u8 0 2 = 2 := by decide +kernel
  have q3 : bits .or .u8 1 2 = 3 := by decide +kernel
  clear hx hB hl hol
  go_enter Tryd.func48, Tryd.ntmps48
  go_wp2_with (first
    | (go_at_call 71; go_loud (refine (HC.out _ _ _ (HB.out.alloc _) HL.out).mono ?_; rintro e w1 ⟨v1, rfl, b1, g1⟩; have B1 : Hid _ := b1; have G1 : Hid (Gd w w1 v v1) := Gd.trans ((Gd.refl _ _).alloc _) g1; clear b1 g1))
    | (at_builtin; go_loud (refine wpList_app rfl (.tmp 17) (.tmp 19) rfl W0 _ _ _ 1 1 [3] rfl rfl (Bf.alloc B1.out _) rfl (by decide) ?nw HL2.out ?_; (case nw => intro j u hu; rw [Addr.add_mid, Nat.zero_add, cell_new]; simpa [bs, q1, q2, q3] using hu); intro v2 w2 o2 g2; have B2 : Hid (Bf W0 w2 v2 (l ++ enT ⟨ops, true, true⟩)) := (by rw [HE.out, ← List.append_assoc]; exact o2); have G2 : Hid (Gd w w2 v v2) := Gd.trans (Gd.alloc G1.out _) g2; clear o2 g2)))
  go_ret
  exact ⟨_, rfl, B2.out, G2.out⟩
theorem putTable_c (W0 : World) (x : Tbl) (oa : Option Addr) (ol oc : Nat) (hx : TbV W0 x oa ol oc) : PutC 48 (fun v => #[v, tbv oa ol oc x.ret x.fin]) (enT x) W0 := by
  obtain ⟨ops, r, f⟩ := x
  cases r <;> cases f
  · exact putTable_ff W0 ops oa ol oc hx
  · exact putTable_ft W0 ops oa ol oc hx
  · exact putTable_tf W0 ops oa ol oc hx
  · exact putTable_tt W0 ops oa ol oc hx

set_option maxRecDepth 100000 in
set_option maxHeartbeats 4000000 in
theorem putPros_c (W0 : World) (ao : Option Addr) (ln lc : Nat) (xs : List Pro) (enc : Pro → List Nat) (hA : ProsAt W0 ao ln xs) (hn : ln ≤ 9223372036854775807)
    (hf : ∀ (y : Pro) (ca : Option Addr) (cl cc : Nat), y ∈ xs → PrV W0 y ca cl cc → PutC 46 (fun v => #[v, prv y.p y.s y.u ca cl cc]) (enc y) W0) : PutC 45 (fun v => #[v, .slice ao ln lc, .func (.func 46) #[] #[]]) (nb ln ++ xs.flatMap enc) W0 := by
  intro w v l hB hl
  have HA : Hid (ProsAt W0 ao ln xs) := hA
  have HF : Hid _ := hf
  have HLn : Hid (xs.length = ln) := hA.1
  have HC : Hid (PutC 67 (fun v => #[v, .int .i64 (ln : Int)]) (nb ln) W0) := by
    have := putSize_c W0 (ln : Int) (by unfold I64; omega)
    rw [show szn (ln : Int) = ln by unfold szn; omega] at this
    exact this
  have HB : Hid (Bf W0 w v l) := hB
  have HL : Hid (l.length + (nb ln ++ xs.flatMap enc).length ≤ 1099511627776) := hl
  have HL1 : Hid (l.length + (nb ln).length ≤ 1099511627776) := by show _ ≤ _; simp at hl; omega
  clear hA hf hB hl
  go_enter Tryd.func45, Tryd.ntmps45
  go_wp2_with (first | (go_at_call 67; go_loud (refine (HC.out _ _ _ HB.out HL1.out).mono ?_; rintro e w1 ⟨v1, rfl, b1, g1⟩; have B1 : Hid _ := b1; have G1 : Hid _ := g1; clear b1 g1)))
  go_loopw [0, 15] (fun b i w' => ∃ k : Nat, k ≤ ln ∧ i = .int .i64 k ∧ Hid (Bf W0 w' b (l ++ nb ln ++ (xs.take k).flatMap enc)) ∧ Hid (Gd w w' v b)) (fun b i _ => ln - (intOf i).toNat)
  case atStart => exact ⟨0, Nat.zero_le _, rfl, by (show Bf _ _ _ _); rw [List.take_zero, List.flatMap_nil, List.append_nil]; exact B1.out, G1⟩
  case round =>
    obtain ⟨k, hk, rfl, HW, HG⟩ := hrel
    by_cases hlt : k < ln
    · have hb : BW W0 wr := HW.out.1
      obtain ⟨b, off, y, rfl, hbl, hx, ca, cl, cc, hK, hV⟩ := RowAt.get HA.out hlt
      obtain ⟨d0, d1, d2, d3⟩ := hK.bw hb hbl
      have hbw : b < wr.heap.size := by have := hb.size; omega
      have e1 : (xs.take (k + 1)).flatMap enc = (xs.take k).flatMap enc ++ enc y := by rw [List.take_add_one, hx]; simp
      have HR : Hid ((l ++ nb ln ++ (xs.take k).flatMap enc).length + (enc y).length ≤ 1099511627776) := by
        have h1 := HL.out
        have h2 : xs.flatMap enc = (xs.take (k + 1)).flatMap enc ++ (xs.drop (k + 1)).flatMap enc := by rw [← List.flatMap_append, List.take_append_drop]
        rw [h2, e1] at h1
        show _ ≤ _
        simp only [List.length_append] at h1 ⊢
        omega
      have E1 : Hid (l ++ nb ln ++ (xs.take (k + 1)).flatMap enc = (l ++ nb ln ++ (xs.take k).flatMap enc) ++ enc y) := by show _ = _; rw [e1]; simp
      have HE : Hid (PutC 46 (fun v => #[v, prv y.p y.s y.u ca cl cc]) (enc y) W0) := HF.out y ca cl cc (List.mem_of_getElem? hx) hV
      clear hx e1 hb
      go_wp2_with (first | (go_at_call 46; go_loud (refine (HE.out _ _ _ (by first | exact HW.out | exact HW.out.alloc _) HR.out).mono ?_; rintro e w2 ⟨v2, rfl, b2, g2⟩; have B2 : Hid _ := b2; have G2 : Hid (Gd w w2 v v2) := (by first | exact Gd.trans HG.out g2 | exact Gd.trans (HG.out.alloc _) g2); clear b2 g2)))
      go_roundw
      case rel => exact ⟨k + 1, by omega, by go_num, by rw [Hid, E1.out]; exact B2.out, G2⟩
      case measure => simp [intOf]; omega
    · have HE : Hid (Bf W0 wr u0 (l ++ (nb ln ++ xs.flatMap enc))) := by
        have h1 := HW.out
        rw [List.take_of_length_le (by have := HLn.out; omega), List.append_assoc] at h1
        exact h1
      obtain rfl : k = ln := by omega
      go_wp2_with (fail)
      go_ret
      exact ⟨_, rfl, HE.out, HG.out⟩
set_option maxRecDepth 100000 in
set_option maxHeartbeats 4000000 in
theorem putTabs_c (W0 : World) (ao : Option Addr) (ln lc : Nat) (xs : List Tbl) (enc : Tbl → List Nat) (hA : TbsAt W0 ao ln xs) (hn : ln ≤ 9223372036854775807)
    (hf : ∀ (y : Tbl) (oa : Option Addr) (ol oc : Nat), y ∈ xs → TbV W0 y oa ol oc → PutC 48 (fun v => #[v, tbv oa ol oc y.ret y.fin]) (enc y) W0) : PutC 47 (fun v => #[v, .slice ao ln lc, .func (.func 48) #[] #[]]) (nb ln ++ xs.flatMap enc) W0 := by
  intro w v l hB hl
  have HA : Hid (TbsAt W0 ao ln xs) := hA
  have HF : Hid _ := hf
  have HLn : Hid (xs.length = ln) := hA.1
  have HC : Hid (PutC 67 (fun v => #[v, .int .i64 (ln : Int)]) (nb ln) W0) := by
    have := putSize_c W0 (ln : Int) (by unfold I64; omega)
    rw [show szn (ln : Int) = ln by unfold szn; omega] at this
    exact this
  have HB : Hid (Bf W0 w v l) := hB
  have HL : Hid (l.length + (nb ln ++ xs.flatMap enc).length ≤ 1099511627776) := hl
  have HL1 : Hid (l.length + (nb ln).length ≤ 1099511627776) := by show _ ≤ _; simp at hl; omega
  clear hA hf hB hl
  go_enter Tryd.func47, Tryd.ntmps47
  go_wp2_with (first | (go_at_call 67; go_loud (refine (HC.out _ _ _ HB.out HL1.out).mono ?_; rintro e w1 ⟨v1, rfl, b1, g1⟩; have B1 : Hid _ := b1; have G1 : Hid _ := g1; clear b1 g1)))
  go_loopw [0, 15] (fun b i w' => ∃ k : Nat, k ≤ ln ∧ i = .int .i64 k ∧ Hid (Bf W0 w' b (l ++ nb ln ++ (xs.take k).flatMap enc)) ∧ Hid (Gd w w' v b)) (fun b i _ => ln - (intOf i).toNat)
  case atStart => exact ⟨0, Nat.zero_le _, rfl, by (show Bf _ _ _ _); rw [List.take_zero, List.flatMap_nil, List.append_nil]; exact B1.out, G1⟩
  case round =>
    obtain ⟨k, hk, rfl, HW, HG⟩ := hrel
    by_cases hlt : k < ln
    · have hb : BW W0 wr := HW.out.1
      obtain ⟨b, off, y, rfl, hbl, hx, oa, ol, oc, hK, hT⟩ := RowAt.get HA.out hlt
      obtain ⟨d0, d1, d2⟩ := hK.bw hb hbl
      have hbw : b < wr.heap.size := by have := hb.size; omega
      have e1 : (xs.take (k + 1)).flatMap enc = (xs.take k).flatMap enc ++ enc y := by rw [List.take_add_one, hx]; simp
      have HR : Hid ((l ++ nb ln ++ (xs.take k).flatMap enc).length + (enc y).length ≤ 1099511627776) := by
        have h1 := HL.out
        have h2 : xs.flatMap enc = (xs.take (k + 1)).flatMap enc ++ (xs.drop (k + 1)).flatMap enc := by rw [← List.flatMap_append, List.take_append_drop]
        rw [h2, e1] at h1
        show _ ≤ _
        simp only [List.length_append] at h1 ⊢
        omega
      have E1 : Hid (l ++ nb ln ++ (xs.take (k + 1)).flatMap enc = (l ++ nb ln ++ (xs.take k).flatMap enc) ++ enc y) := by show _ = _; rw [e1]; simp
      have HE : Hid (PutC 48 (fun v => #[v, tbv oa ol oc y.ret y.fin]) (enc y) W0) := HF.out y oa ol oc (List.mem_of_getElem? hx) hT
      clear hx e1 hb
      go_wp2_with (first | (go_at_call 48; go_loud (refine (HE.out _ _ _ (by first | exact HW.out | exact HW.out.alloc _) HR.out).mono ?_; rintro e w2 ⟨v2, rfl, b2, g2⟩; have B2 : Hid _ := b2; have G2 : Hid (Gd w w2 v v2) := (by first | exact Gd.trans HG.out g2 | exact Gd.trans (HG.out.alloc _) g2); clear b2 g2)))
      go_roundw
      case rel => exact ⟨k + 1, by omega, by go_num, by rw [Hid, E1.out]; exact B2.out, G2⟩
      case measure => simp [intOf]; omega
    · have HE : Hid (Bf W0 wr u0 (l ++ (nb ln ++ xs.flatMap enc))) := by
        have h1 := HW.out
        rw [List.take_of_length_le (by have := HLn.out; omega), List.append_assoc] at h1
        exact h1
      obtain rfl : k = ln := by omega
      go_wp2_with (fail)
      go_ret
      exact ⟨_, rfl, HE.out, HG.out⟩
/-- A module's bytes. -/
def enInts (l : List Int) : List Nat := nb l.length ++ l.flatMap (fun n => nb (zz n))
def enTexts (l : List ByteArray) : List Nat := nb l.length ++ l.flatMap (fun s => nb s.size ++ sb s)
def enPros (l : List Pro) : List Nat := nb l.length ++ l.flatMap enP
def enTabs (l : List Tbl) : List Nat := nb l.length ++ l.flatMap enT
def en (m : Mdl) : List Nat := [69, 70, 70, 49] ++ enInts m.ints ++ enTexts m.texts ++ enPros m.pros ++ enTabs m.tabs
theorem fm_len {K : Type} {l : List K} {e : K → List Nat} {x : K} (h : x ∈ l) : (e x).length ≤ (l.flatMap e).length := by
  induction l with
  | nil => cases h
  | cons a r ih =>
    simp only [List.flatMap_cons, List.length_append]
    rcases List.mem_cons.1 h with rfl | h
    · omega
    · have := ih h; omega
set_option maxRecDepth 100000 in
set_option maxHeartbeats 4000000 in
theorem putModule_c (W0 : World) (r : Mw) (m : Mdl) (h : ModAt W0 r m) : PutC 17 (fun v => #[v, r.v]) (en m) W0 := by
  intro w v l hB hl
  obtain ⟨l1, l2, l3, l4, b1, b2, b3, b4⟩ := h.lens
  have HL : Hid (l.length + (en m).length ≤ 1099511627776) := hl
  have H1 : Hid (PutC 41 (fun v => #[v, .slice r.ia r.il r.ic, .func (.func 42) #[] #[]]) (enInts m.ints) W0) := by
    show PutC _ _ _ _; rw [enInts, l1]; exact putInts_c W0 _ _ _ _ _ h.ints b1 (fun y _ hy => putSigned_c W0 y hy)
  have H2 : Hid (PutC 43 (fun v => #[v, .slice r.ta r.tl r.tc, .func (.func 44) #[] #[]]) (enTexts m.texts) W0) := by
    show PutC _ _ _ _; rw [enTexts, l2]; exact putTexts_c W0 _ _ _ _ _ h.texts b2 (fun y hm hy => putText_c W0 y (by
      have h1 := fm_len (e := fun s => nb s.size ++ sb s) hm
      simp only [en, enTexts, List.length_append, sb_len] at hl h1
      omega))
  have H3 : Hid (PutC 45 (fun v => #[v, .slice r.pa r.pl r.pc, .func (.func 46) #[] #[]]) (enPros m.pros) W0) := by
    show PutC _ _ _ _; rw [enPros, l3]; exact putPros_c W0 _ _ _ _ _ h.pros b3 (fun y ca cl cc _ hy => putProto_c W0 y ca cl cc hy)
  have H4 : Hid (PutC 47 (fun v => #[v, .slice r.ha r.hl r.hc, .func (.func 48) #[] #[]]) (enTabs m.tabs) W0) := by
    show PutC _ _ _ _; rw [enTabs, l4]; exact putTabs_c W0 _ _ _ _ _ h.tabs b4 (fun y oa ol oc _ hy => putTable_c W0 y oa ol oc hy)
  have HB : Hid (Bf W0 w v l) := hB
  have HE : Hid (l ++ en m = l ++ [69, 70, 70, 49] ++ enInts m.ints ++ enTexts m.texts ++ enPros m.pros ++ enTabs m.tabs) := by show _ = _; simp [en]
  have L0 : Hid (l.length + 4 ≤ 70368744177664) := by show _ ≤ _; simp only [en, List.length_append, List.length_cons, List.length_nil] at hl; omega
  have L1 : Hid ((l ++ [69, 70, 70, 49]).length + (enInts m.ints).length ≤ 1099511627776) := by show _ ≤ _; simp only [en, List.length_append] at hl ⊢; omega
  have L2 : Hid ((l ++ [69, 70, 70, 49] ++ enInts m.ints).length + (enTexts m.texts).length ≤ 1099511627776) := by show _ ≤ _; simp only [en, List.length_append] at hl ⊢; omega
  have L3 : Hid ((l ++ [69, 70, 70, 49] ++ enInts m.ints ++ enTexts m.texts).length + (enPros m.pros).length ≤ 1099511627776) := by show _ ≤ _; simp only [en, List.length_append] at hl ⊢; omega
  have L4 : Hid ((l ++ [69, 70, 70, 49] ++ enInts m.ints ++ enTexts m.texts ++ enPros m.pros).length + (enTabs m.tabs).length ≤ 1099511627776) := by show _ ≤ _; simp only [en, List.length_append] at hl ⊢; omega
  clear h hB hl l1 l2 l3 l4 b1 b2 b3 b4
  obtain ⟨ia, il, ic, ta, tl, tc, pa, pl, pc, ha, hl, hc⟩ := r
  dsimp only at H1 H2 H3 H4
  go_enter Tryd.func17, Tryd.ntmps17
  go_wp2_with (first
    | (at_builtin; go_loud (refine wpList_apps rfl (.tmp 5) (.const (.string ⟨#[69, 70, 70, 49]⟩)) rfl W0 _ _ ⟨#[69, 70, 70, 49]⟩ rfl rfl (HB.out.alloc _) L0.out ?_; intro v0 w0 o0 g0; have B0 : Hid (Bf W0 w0 v0 (l ++ [69, 70, 70, 49])) := o0; have G0 : Hid (Gd w w0 v v0) := Gd.trans (Gd.alloc (Gd.refl _ _) _) g0; obtain ⟨f0, z0, n0⟩ := Gd.at g0 (B := w.heap.size) (by simp) HB.out.lt; have q00 := (f0 0).trans (cell_new w _ _ 0); have q01 := (f0 1).trans (cell_new w _ _ 1); have q02 := (f0 2).trans (cell_new w _ _ 2); have q03 := (f0 3).trans (cell_new w _ _ 3); clear o0 g0 f0))
    | (go_at_call 41; go_loud (refine (H1.out _ _ _ B0.out L1.out).mono ?_; rintro e w1 ⟨v1, rfl, b1, g1⟩; have B1 : Hid _ := b1; have G1 : Hid (Gd w w1 v v1) := Gd.trans G0.out g1; obtain ⟨c1, z1, n1⟩ := Gd.at g1 z0 n0; have q11 := (c1 1).trans q01; have q12 := (c1 2).trans q02; have q13 := (c1 3).trans q03; clear b1 g1 c1))
    | (go_at_call 43; go_loud (refine (H2.out _ _ _ B1.out L2.out).mono ?_; rintro e w2 ⟨v2, rfl, b2, g2⟩; have B2 : Hid _ := b2; have G2 : Hid (Gd w w2 v v2) := Gd.trans G1.out g2; obtain ⟨c2, z2, n2⟩ := Gd.at g2 z1 n1; have q21 := (c2 1).trans q11; have q22 := (c2 2).trans q12; have q23 := (c2 3).trans q13; clear b2 g2 c2))
    | (go_at_call 45; go_loud (refine (H3.out _ _ _ B2.out L3.out).mono ?_; rintro e w3 ⟨v3, rfl, b3, g3⟩; have B3 : Hid _ := b3; have G3 : Hid (Gd w w3 v v3) := Gd.trans G2.out g3; obtain ⟨c3, z3, n3⟩ := Gd.at g3 z2 n2; have q31 := (c3 1).trans q21; have q32 := (c3 2).trans q22; have q33 := (c3 3).trans q23; clear b3 g3 c3))
    | (go_at_call 47; go_loud (refine (H4.out _ _ _ B3.out L4.out).mono ?_; rintro e w4 ⟨v4, rfl, b4, g4⟩; have B4 : Hid _ := b4; have G4 : Hid (Gd w w4 v v4) := Gd.trans G3.out g4; obtain ⟨c4, z4, n4⟩ := Gd.at g4 z3 n3; have q41 := (c4 1).trans q31; have q42 := (c4 2).trans q32; have q43 := (c4 3).trans q33; clear b4 g4 c4)))
  go_ret
  exact ⟨_, rfl, by rw [HE.out]; exact B4.out, G4.out⟩

end Go.Proofs.YtndhhmgbekcfoaaDoor
