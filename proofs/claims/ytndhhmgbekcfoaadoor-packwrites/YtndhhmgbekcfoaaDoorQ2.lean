import Derived.Test.YtndhhmgbekcfoaaDoorD2
import Derived.Lib.SmallJoins
namespace Go.Proofs.YtndhhmgbekcfoaaDoor
open Go.RowKit
set_option linter.unusedVariables false
set_option linter.unusedSimpArgs false

/-- A world without one block. -/
def hid (rb : Nat) (w : World) : World := { w with heap := w.heap.setIfInBounds rb (.cells #[] 0 (0, 0)) }
theorem hid_size (rb : Nat) (w : World) : (hid rb w).heap.size = w.heap.size := by simp [hid]
theorem hid_ne {rb k : Nat} (w : World) (h : k ≠ rb) : (hid rb w).heap[k]? = w.heap[k]? := by simp only [hid]; rw [Array.getElem?_setIfInBounds_ne (by omega)]
theorem hid_cell {rb b : Nat} (w : World) (h : b ≠ rb) (j : Nat) : (hid rb w).cell? ⟨b, j, none⟩ = w.cell? ⟨b, j, none⟩ := World.cell?_of_block (hid_ne w h)
theorem hid_at {rb : Nat} (w : World) : (hid rb w).heap[rb]? = if rb < w.heap.size then some (.cells #[] 0 (0, 0)) else none := by simp [hid, Array.getElem?_setIfInBounds]
theorem hid_bw {rb : Nat} {w w' : World} (h : w.grownBy w' (some rb)) : BW (hid rb w) (hid rb w') := by
  refine ⟨h.os, h.tape, h.output, by rw [hid_size, hid_size]; exact h.size, fun k hk => ?_⟩
  rw [hid_size] at hk
  by_cases e : k = rb
  · subst e
    rw [hid_at, hid_at, if_pos hk, if_pos (by have := h.size; omega)]
  · rw [hid_ne _ e, hid_ne _ e]
    exact h.block k hk (fun x => e (Option.some.inj x))
theorem hid_sub {rb b j : Nat} {w : World} {v : Value} (h : (hid rb w).cell? ⟨b, j, none⟩ = some v) : w.cell? ⟨b, j, none⟩ = some v := by
  by_cases e : b = rb
  · subst e
    have : (hid b w).heap[b]? = _ := hid_at w
    unfold World.cell? at h
    rw [this] at h
    split at h <;> simp_all
  · rwa [hid_cell w e] at h
/-- What one world has, the other one has. -/
def Sub (w w' : World) : Prop := w.heap.size ≤ w'.heap.size ∧ ∀ b j v, w.cell? ⟨b, j, none⟩ = some v → w'.cell? ⟨b, j, none⟩ = some v
theorem hid_Sub (rb : Nat) (w : World) : Sub (hid rb w) w := ⟨by rw [hid_size]; exact Nat.le_refl _, fun _ _ _ h => hid_sub h⟩
theorem Sub.ints {w w' : World} (k : Sub w w') {ao : Option Addr} {ln : Nat} {l : List Int} (h : IntsAt w ao ln l) : IntsAt w' ao ln l := by
  obtain ⟨h1, h2, h3, h4⟩ := h
  refine ⟨h1, h2, h3, ?_⟩
  rcases h4 with h4 | ⟨b, off, e, hb, hc⟩
  · exact .inl h4
  · exact .inr ⟨b, off, e, Nat.lt_of_lt_of_le hb k.1, fun j z hz => k.2 _ _ _ (hc j z hz)⟩
theorem Sub.strs {w w' : World} (k : Sub w w') {ao : Option Addr} {ln : Nat} {l : List ByteArray} (h : StrsAt w ao ln l) : StrsAt w' ao ln l := by
  obtain ⟨h1, h2, h3, h4⟩ := h
  refine ⟨h1, h2, h3, ?_⟩
  rcases h4 with h4 | ⟨b, off, e, hb, hc⟩
  · exact .inl h4
  · exact .inr ⟨b, off, e, Nat.lt_of_lt_of_le hb k.1, fun j z hz => k.2 _ _ _ (hc j z hz)⟩
theorem Sub.row {w w' : World} (k : Sub w w') {K : Type} {c : Nat} {At At' : Nat → Nat → K → Prop} {ao : Option Addr} {ln : Nat} {l : List K} (h : RowAt c At w ao ln l) (m : ∀ b o x, At b o x → At' b o x) : RowAt c At' w' ao ln l := by
  obtain ⟨h1, h2, h4⟩ := h
  refine ⟨h1, h2, ?_⟩
  rcases h4 with h4 | ⟨b, off, e, hb, hc⟩
  · exact .inl h4
  · exact .inr ⟨b, off, e, Nat.lt_of_lt_of_le hb k.1, fun j z hz => m _ _ _ (hc j z hz)⟩
theorem Sub.code {w w' : World} (k : Sub w w') {ao : Option Addr} {ln : Nat} {l : List Ins} (h : CodeAt w ao ln l) : CodeAt w' ao ln l :=
  k.row h (fun b o x hx => ⟨k.2 _ _ _ hx.1, k.2 _ _ _ hx.2.1, hx.2.2⟩)
theorem Sub.prv {w w' : World} (k : Sub w w') {x : Pro} {ca : Option Addr} {cl cc : Nat} (h : PrV w x ca cl cc) : PrV w' x ca cl cc := ⟨h.1, h.2.1, h.2.2.1, h.2.2.2.1, h.2.2.2.2.1, k.code h.2.2.2.2.2⟩
theorem Sub.tbv {w w' : World} (k : Sub w w') {x : Tbl} {oa : Option Addr} {ol oc : Nat} (h : TbV w x oa ol oc) : TbV w' x oa ol oc := ⟨h.1, h.2.1, h.2.2.1, k.ints h.2.2.2⟩
theorem Sub.mod {w w' : World} (k : Sub w w') {r : Mw} {m : Mdl} (h : ModAt w r m) : ModAt w' r m :=
  ⟨k.ints h.ints, k.strs h.texts, k.row h.pros (fun b o x ⟨ca, cl, cc, ⟨a1, a2, a3, a4⟩, h2⟩ => ⟨ca, cl, cc, ⟨k.2 _ _ _ a1, k.2 _ _ _ a2, k.2 _ _ _ a3, k.2 _ _ _ a4⟩, k.prv h2⟩),
    k.row h.tabs (fun b o x ⟨oa, ol, oc, ⟨a1, a2, a3⟩, h2⟩ => ⟨oa, ol, oc, ⟨k.2 _ _ _ a1, k.2 _ _ _ a2, k.2 _ _ _ a3⟩, k.tbv h2⟩), h.i1, h.i2, h.t1, h.t2, h.p1, h.p2, h.h1, h.h2⟩
/-- The reader in block rb has the bytes l before it; W0: the world where the bytes lie. -/
def Rd (W0 w : World) (rb : Nat) (l : List Nat) : Prop := BW W0 w ∧ W0.heap.size ≤ rb ∧ l.length ≤ 1048576 ∧ Byt l ∧ ∃ ao c, w.heap[rb]? = some (.cells #[.slice ao l.length c] 58 (0, 0)) ∧ l.length ≤ c ∧ c ≤ maxLen ∧
  (l.length = 0 ∨ ∃ b off, ao = some ⟨b, off, none⟩ ∧ b < W0.heap.size ∧ ByAt W0 b off l)
theorem Rd.lt {W0 w : World} {rb : Nat} {l : List Nat} (h : Rd W0 w rb l) : rb < w.heap.size := by
  obtain ⟨_, _, _, _, ao, c, h, _⟩ := h
  exact (Array.getElem?_eq_some_iff.1 h).1
theorem gb_refl (w : World) (r : Option Nat) : w.grownBy w r := ⟨rfl, rfl, rfl, Nat.le_refl _, fun _ _ _ => rfl⟩
theorem gb_trans {a b c : World} {r : Option Nat} (h : a.grownBy b r) (k : b.grownBy c r) : a.grownBy c r :=
  ⟨k.os.trans h.os, k.tape.trans h.tape, k.output.trans h.output, Nat.le_trans h.size k.size, fun j hj hn => (k.block j (by have := h.size; omega) hn).trans (h.block j hj hn)⟩
theorem gb_bw {a b : World} {r : Option Nat} (h : BW a b) : a.grownBy b r := ⟨h.os, h.tape, h.output, h.size, fun j hj _ => h.block j hj⟩
/-- Memory that a reader doesn't see: new blocks. -/
theorem Rd.bw {W0 w w' : World} {rb : Nat} {l : List Nat} (h : Rd W0 w rb l) (k : BW w w') : Rd W0 w' rb l := by
  have hz := h.lt
  obtain ⟨h1, h2, h3, h4, ao, c, h5, h6⟩ := h
  exact ⟨h1.trans k, h2, h3, h4, ao, c, (k.block rb hz).trans h5, h6⟩
/-- A reader that has read some. -/
theorem Rd.set {W0 w : World} {rb : Nat} {l l' : List Nat} (h : Rd W0 w rb l) (hl : l'.length ≤ l.length) (hb : Byt l') {ao : Option Addr} {c : Nat} (hc : l'.length ≤ c) (hm : c ≤ maxLen) (hw : l'.length = 0 ∨ ∃ b off, ao = some ⟨b, off, none⟩ ∧ b < W0.heap.size ∧ ByAt W0 b off l') :
    Rd W0 (w.setCell ⟨rb, 0, none⟩ (.slice ao l'.length c)) rb l' ∧ w.grownBy (w.setCell ⟨rb, 0, none⟩ (.slice ao l'.length c)) (some rb) := by
  obtain ⟨h1, h2, h3, h4, ao0, c0, h5, h6⟩ := h
  refine ⟨⟨BW.setCell h1 h2 _, h2, by omega, hb, ao, c, ?_, hc, hm, hw⟩, ⟨rfl, rfl, rfl, by simp, fun k hk hn => heap_setCell_other w _ k _ (fun e => hn (by rw [e]))⟩⟩
  have := heap_setCell_same w rb 0 _ 58 (.slice ao l'.length c) h5
  simpa using this
theorem ByAt.drop {W : World} {b off : Nat} {l : List Nat} (h : ByAt W b off l) (n : Nat) : ByAt W b (off + n) (l.drop n) := fun i hi => by
  simp only [List.length_drop] at hi
  rw [Nat.add_assoc, h (n + i) (by omega)]
  simp [List.getD]
/-- What a method of the reader answers. -/
def PQ {K : Type} (W0 : World) (rb : Nat) (w : World) (Val : World → Value → K → Prop) (res : Option (K × List Nat)) (e : Ending) (w' : World) : Prop :=
  w.grownBy w' (some rb) ∧ match res with
  | some x => ∃ v, e = .returned v ∧ Val w' v x.1 ∧ Rd W0 w' rb x.2
  | none => e = .panicked [{ v := .iface 55 (.agg #[]), recovered := false }]
set_option maxRecDepth 100000 in
set_option maxHeartbeats 4000000 in
theorem next_any (W0 w : World) (rb : Nat) (l : List Nat) (h : Rd W0 w rb l) : Calls Tryd.prog 80 #[.pointer (some ⟨rb, 0, none⟩)] w (PQ W0 rb w (fun (_ : World) (v : Value) (k : Nat) => v = .int .u8 (k : Int)) (dByte l)) := by
  have H : Hid (Rd W0 w rb l) := h
  obtain ⟨h1, h2, h3, h4, ao, c, h5, h6, h7, h8⟩ := h
  have d0 : w.cell? ⟨rb, 0, none⟩ = some (.slice ao l.length c) := by rw [Lib.cell_of_heap h5]; rfl
  have dz := Lib.frozen_of_heap h5
  have hz := H.out.lt
  cases l with
  | nil =>
    clear h1 h2 h3 h4 h5 h6 h8
    simp only [List.length_nil] at d0
    go_enter Tryd.func80, Tryd.ntmps80
    go_wp2_with (fail)
    exact ⟨rfl, gb_refl _ _, rfl⟩
  | cons k r =>
    rcases h8 with h8 | ⟨b, off, rfl, hb, hB⟩
    · simp at h8
    have e0 : w.cell? ⟨b, off, none⟩ = some (.int .u8 (k : Int)) := by
      have := (h1.cells b (off + 0) hb).trans (hB 0 (by simp))
      simpa using this
    have hk : k ≤ 255 := h4 k (by simp)
    have HB : Hid (ByAt W0 b (off + 1) r) := hB.drop 1
    have HB4 : Hid (Byt r) := fun x hx => h4 x (by simp [hx])
    simp only [List.length_cons] at d0 h3 h6 h7
    generalize hn : r.length = n at *
    have hc7 : c ≤ 9223372036854775807 := by unfold maxLen at h7; exact h7
    clear h1 h2 h4 h5 hB
    by_cases hc1 : c = 1
    · obtain rfl : n = 0 := by omega
      obtain rfl : r = [] := List.length_eq_zero_iff.1 hn
      subst hc1
      go_enter Tryd.func80, Tryd.ntmps80
      go_wp2_with (fail)
      go_ret
      obtain ⟨s1, s2⟩ := Rd.set H.out (l' := []) (by simp) (by intro x hx; cases hx) (ao := some ⟨b, off, none⟩) (c := 0) (Nat.le_refl _) (Nat.zero_le _) (.inl rfl)
      exact ⟨s2, _, rfl, rfl, s1⟩
    · go_enter Tryd.func80, Tryd.ntmps80
      go_wp2_with (fail)
      go_ret
      obtain ⟨s1, s2⟩ := Rd.set H.out (l' := r) (by simp) HB4.out (ao := some ⟨b, off + 1, none⟩) (c := c - 1) (by omega) (by omega) (.inr ⟨b, off + 1, rfl, hb, HB.out⟩)
      rw [hn] at s1 s2
      exact ⟨s2, _, rfl, rfl, s1⟩

theorem not128 : ∀ x : Fin 256, bits .andNot .u8 (x.val : Int) 128 = ((x.val % 128 : Nat) : Int) := by decide +kernel
theorem min_pow {b sh : Nat} (h : b * 2 ^ sh < 18446744073709551616) : (b : Int) * 2 ^ min sh 64 = ((b * 2 ^ sh : Nat) : Int) ∧ ((b * 2 ^ sh : Nat) : Int) / 2 ^ min sh 64 = (b : Int) := by
  rcases Nat.lt_or_ge sh 64 with hs | hs
  · rw [Nat.min_eq_left (by omega)]
    refine ⟨by push_cast; rfl, ?_⟩
    push_cast
    exact Int.mul_ediv_cancel _ (by have : (0 : Int) < 2 ^ sh := Int.pow_pos (by decide); omega)
  · have : 2 ^ 64 ≤ 2 ^ sh := Nat.pow_le_pow_right (by decide) hs
    have hb : b = 0 := by
      rcases Nat.eq_zero_or_pos b with h0 | h0
      · exact h0
      · have : 1 * 2 ^ sh ≤ b * 2 ^ sh := Nat.mul_le_mul_right _ h0
        omega
    subst hb
    simp
theorem min_pow_no {b sh : Nat} (hb : b < 128) (h : 18446744073709551616 ≤ b * 2 ^ sh) : ¬ IntKind.u64.wrap ((b : Int) * 2 ^ min sh 64) / 2 ^ min sh 64 = (b : Int) := by
  have hb0 : 0 < b := by
    rcases Nat.eq_zero_or_pos b with h0 | h0
    · subst h0; simp at h
    · exact h0
  have hP : (2 : Int) ^ min sh 64 = ((2 ^ min sh 64 : Nat) : Int) := by push_cast; rfl
  rw [hP]
  intro e
  have e2 : b * 2 ^ min sh 64 % 18446744073709551616 / 2 ^ min sh 64 = b := by
    generalize 2 ^ min sh 64 = P at e
    rw [IntKind.wrap_u64, ← Int.natCast_mul] at e
    generalize b * P = bp at e
    have e5 : (((bp % 18446744073709551616) / P : Nat) : Int) = (b : Int) := by
      rw [← e, Int.natCast_ediv]
      rfl
    omega
  rcases Nat.lt_or_ge sh 64 with hs | hs
  · rw [Nat.min_eq_left (by omega)] at e2
    have h1 : b * 2 ^ sh % 18446744073709551616 < b * 2 ^ sh := by
      have := Nat.mod_lt (b * 2 ^ sh) (show 18446744073709551616 > 0 by decide)
      omega
    have h2 := (Nat.div_lt_iff_lt_mul (Nat.pow_pos (by decide) : 0 < 2 ^ sh)).2 h1
    omega
  · rw [Nat.min_eq_right (by omega)] at e2
    rw [show (18446744073709551616 : Nat) = 2 ^ 64 from rfl, Nat.mul_mod_left, Nat.zero_div] at e2
    omega
theorem or_add {acc b sh : Nat} (ha : acc < 2 ^ sh) (ha2 : acc ≤ 18446744073709551615) (hq : b * 2 ^ sh < 18446744073709551616) (hb : b < 128) : bits .or .u64 (acc : Int) ((b * 2 ^ sh : Nat) : Int) = ((acc + b * 2 ^ sh : Nat) : Int) := by
  rw [bits_or_u64_nat _ _ (by omega) (by omega)]
  congr 1
  rw [← Nat.shiftLeft_eq, Nat.or_comm, ← Nat.shiftLeft_add_eq_or_of_lt ha, Nat.add_comm]
theorem acc_lt {acc b sh : Nat} (ha : acc < 2 ^ sh) (hb : b < 128) : acc + b * 2 ^ sh < 2 ^ (sh + 7) := by
  have h1 : b * 2 ^ sh ≤ 127 * 2 ^ sh := Nat.mul_le_mul_right _ (by omega)
  have h2 : 2 ^ (sh + 7) = 128 * 2 ^ sh := by rw [Nat.pow_add]; omega
  omega
theorem acc_64 {acc b sh : Nat} (ha : acc < 2 ^ sh) (ha2 : acc ≤ 18446744073709551615) (hq : b * 2 ^ sh < 18446744073709551616) : acc + b * 2 ^ sh ≤ 18446744073709551615 := by
  rcases Nat.lt_or_ge sh 65 with hs | hs
  · obtain ⟨d, hd⟩ : ∃ d, 2 ^ sh * d = 18446744073709551616 := ⟨2 ^ (64 - sh), by rw [← Nat.pow_add, show sh + (64 - sh) = 64 by omega]⟩
    have hlt : b < d := by
      rcases Nat.lt_or_ge b d with h | h
      · exact h
      · have : 2 ^ sh * d ≤ 2 ^ sh * b := Nat.mul_le_mul_left _ h
        rw [Nat.mul_comm b] at hq
        omega
    have : 2 ^ sh * (b + 1) ≤ 2 ^ sh * d := Nat.mul_le_mul_left _ hlt
    rw [Nat.mul_add, Nat.mul_one, Nat.mul_comm (2 ^ sh) b] at this
    omega
  · have : 2 ^ 65 ≤ 2 ^ sh := Nat.pow_le_pow_right (by decide) hs
    have hb : b = 0 := by
      rcases Nat.eq_zero_or_pos b with h0 | h0
      · exact h0
      · have : 1 * 2 ^ sh ≤ b * 2 ^ sh := Nat.mul_le_mul_right _ h0
        omega
    subst hb
    omega
set_option maxRecDepth 100000 in
set_option maxHeartbeats 4000000 in
theorem number_any (W0 w : World) (rb : Nat) (l : List Nat) (h : Rd W0 w rb l) : Calls Tryd.prog 76 #[.pointer (some ⟨rb, 0, none⟩)] w (PQ W0 rb w (fun (_ : World) (v : Value) (k : Nat) => v = .int .u64 (k : Int) ∧ k ≤ 18446744073709551615) (dNum l)) := by
  have H : Hid (Rd W0 w rb l) := h
  have hl : l.length ≤ 1048576 := h.2.2.1
  clear h
  go_enter Tryd.func76, Tryd.ntmps76
  go_wp2_with (fail)
  go_loopw [3, 4] (fun n s w' => ∃ (acc sh : Nat) (r : List Nat), n = .int .u64 (acc : Int) ∧ s = .int .i64 (sh : Int) ∧ acc ≤ 18446744073709551615 ∧ Hid (acc < 2 ^ sh ∧ sh + 7 * r.length ≤ 7340032) ∧ sh ≤ 7340032 ∧ Hid (dNumF r sh acc = dNum l) ∧ Hid (Rd W0 w' rb r) ∧ Hid (w.grownBy w' (some rb))) (fun n s _ => 7340040 - (intOf s).toNat)
  case atStart => exact ⟨0, 0, l, rfl, rfl, by omega, ⟨by decide, by omega⟩, by omega, rfl, H, gb_refl _ _⟩
  case round =>
    obtain ⟨acc, sh, r, rfl, rfl, ha, HA, hs, HD, HR, HG⟩ := hrel
    have HN : Hid (Calls Tryd.prog 80 #[.pointer (some ⟨rb, 0, none⟩)] wr (PQ W0 rb wr (fun (_ : World) (v : Value) (k : Nat) => v = .int .u8 (k : Int)) (dByte r))) := next_any W0 wr rb r HR.out
    cases r with
    | nil =>
      have HX : Hid (dNum l = none) := HD.out.symm
      go_wp2_with (first | (go_at_call 80; go_loud (refine Calls.mono HN.out ?_; rintro e w1 ⟨g1, hp⟩; obtain rfl := hp)))
      exact ⟨rfl, gb_trans HG.out g1, by rw [HX.out]⟩
    | cons c r =>
      have hc : c ≤ 255 := HR.out.2.2.2.1 c (by simp)
      have hb1 : bits .andNot .u8 (c : Int) 128 = ((c % 128 : Nat) : Int) := not128 ⟨c, by omega⟩
      have hb2 : IntKind.u64.wrap ((c % 128 : Nat) : Int) = ((c % 128 : Nat) : Int) := u64w _ (by omega) (by omega)
      have HC : Hid (dNumF (c :: r) sh acc = if 18446744073709551616 ≤ c % 128 * 2 ^ sh then none else if c = 0 ∧ 0 < sh then none else if c < 128 then some (acc + c % 128 * 2 ^ sh, r) else dNumF r (sh + 7) (acc + c % 128 * 2 ^ sh)) := by show _ = _; rw [dNumF]
      have hb3 : c % 128 < 128 := by omega
      generalize hq : c % 128 = b at *
      clear hq
      by_cases h1 : 18446744073709551616 ≤ b * 2 ^ sh
      · have hne : (IntKind.u64.wrap ((b : Int) * 2 ^ min sh 64) / 2 ^ min sh 64 != (b : Int)) = true := by simpa using min_pow_no hb3 h1
        have HX : Hid (dNum l = none) := by
          show _ = _
          rw [← HD.out, HC.out, if_pos h1]
        clear h1
        go_wp2_with (first | (go_at_call 80; go_loud (refine Calls.mono HN.out ?_; rintro e w1 ⟨g1, v1, rfl, hv1, R1⟩; obtain rfl := hv1; have G1 : Hid _ := gb_trans HG.out g1; have RR1 : Hid (Rd W0 w1 rb r) := R1; clear g1 R1)))
        exact ⟨rfl, G1.out, by rw [HX.out]⟩
      · obtain ⟨m1, m2⟩ := min_pow (Nat.lt_of_not_le h1)
        have hw : IntKind.u64.wrap ((b : Int) * 2 ^ min sh 64) = ((b * 2 ^ sh : Nat) : Int) := by rw [m1, u64w _ (by omega) (by omega)]
        have hor := or_add HA.out.1 ha (Nat.lt_of_not_le h1) hb3
        have HL1 : Hid (acc + b * 2 ^ sh < 2 ^ (sh + 7)) := acc_lt HA.out.1 hb3
        have hl2 := acc_64 HA.out.1 ha (Nat.lt_of_not_le h1)
        have HC2 : Hid (dNumF (c :: r) sh acc = if c = 0 ∧ 0 < sh then none else if c < 128 then some (acc + b * 2 ^ sh, r) else dNumF r (sh + 7) (acc + b * 2 ^ sh)) := by
          show _ = _
          rw [HC.out, if_neg h1]
        have hw2 : IntKind.u64.wrap ((b : Int) * 2 ^ sh) = ((b * 2 ^ sh : Nat) : Int) := by
          rw [show (b : Int) * 2 ^ sh = ((b * 2 ^ sh : Nat) : Int) by push_cast; rfl, u64w _ (by omega) (by omega)]
        have HQB : Hid (sh = 0 → b * 2 ^ sh = b) := by rintro rfl; simp
        clear h1 m1 HC
        generalize b * 2 ^ sh = q at *
        by_cases h2 : c = 0 ∧ 0 < sh
        · have HX : Hid (dNum l = none) := by
            show _ = _
            rw [← HD.out, HC2.out, if_pos h2]
          have e0 : ((c : Int) == 0) = true := by simp; omega
          replace h2 : 0 < sh := h2.2
          go_wp2_with (first | (go_at_call 80; go_loud (refine Calls.mono HN.out ?_; rintro e w1 ⟨g1, v1, rfl, hv1, R1⟩; obtain rfl := hv1; have G1 : Hid _ := gb_trans HG.out g1; have RR1 : Hid (Rd W0 w1 rb r) := R1; clear g1 R1)))
          exact ⟨rfl, G1.out, by rw [HX.out]⟩
        · have HC3 : Hid (dNumF (c :: r) sh acc = if c < 128 then some (acc + q, r) else dNumF r (sh + 7) (acc + q)) := by
            show _ = _
            rw [HC2.out, if_neg h2]
          clear HC2
          have hg : (((c : Int) == 0) = false) ∨ (((c : Int) == 0) = true ∧ sh = 0 ∧ q = b) := by
            by_cases h0 : c = 0
            · exact .inr ⟨by simp; omega, by omega, HQB.out (by omega)⟩
            · left; simp; omega
          clear h2
          by_cases h3 : c < 128
          · have e3 : decide ((c : Int) < 128) = true := by simp; omega
            have HX : Hid (dNum l = some (acc + q, r)) := by
              show _ = _
              rw [← HD.out, HC3.out, if_pos h3]
            rcases hg with e0 | ⟨e0, rfl, rfl⟩
            · go_wp2_with (first | (go_at_call 80; go_loud (refine Calls.mono HN.out ?_; rintro e w1 ⟨g1, v1, rfl, hv1, R1⟩; obtain rfl := hv1; have G1 : Hid _ := gb_trans HG.out g1; have RR1 : Hid (Rd W0 w1 rb r) := R1; clear g1 R1)))
              go_ret
              exact ⟨G1.out, by rw [HX.out]; exact ⟨_, rfl, ⟨by simp, hl2⟩, RR1.out⟩⟩
            · go_wp2_with (first | (go_at_call 80; go_loud (refine Calls.mono HN.out ?_; rintro e w1 ⟨g1, v1, rfl, hv1, R1⟩; obtain rfl := hv1; have G1 : Hid _ := gb_trans HG.out g1; have RR1 : Hid (Rd W0 w1 rb r) := R1; clear g1 R1)))
              go_ret
              exact ⟨G1.out, by rw [HX.out]; exact ⟨_, rfl, ⟨by simp, hl2⟩, RR1.out⟩⟩
          · have e3 : decide ((c : Int) < 128) = false := by simp; omega
            have e0 : ((c : Int) == 0) = false := by simp; omega
            have HX : Hid (dNumF r (sh + 7) (acc + q) = dNum l) := by
              show _ = _
              rw [← HD.out, HC3.out, if_neg h3]
            have hsh : IntKind.i64.wrap ((sh : Int) + 7) = ((sh + 7 : Nat) : Int) := by rw [i64w _ (by omega) (by omega)]; omega
            clear hg
            go_wp2_with (first | (go_at_call 80; go_loud (refine Calls.mono HN.out ?_; rintro e w1 ⟨g1, v1, rfl, hv1, R1⟩; obtain rfl := hv1; have G1 : Hid _ := gb_trans HG.out g1; have RR1 : Hid (Rd W0 w1 rb r) := R1; clear g1 R1)))
            go_roundw
            case rel =>
              have h5 := HA.out.2
              simp only [List.length_cons] at h5
              exact ⟨acc + q, sh + 7, r, by simp, by simp, hl2, ⟨HL1.out, by omega⟩, by omega, HX, RR1, G1⟩
            case measure => simp [intOf]; omega

end Go.Proofs.YtndhhmgbekcfoaaDoor
