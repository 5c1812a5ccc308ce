import Derived.Test.YtndhhmgbekcfoaaDoorQ2
import Derived.Lib.SlBytesConst
namespace Go.Proofs.YtndhhmgbekcfoaaDoor
open Go.RowKit
set_option linter.unusedVariables false
set_option linter.unusedSimpArgs false

theorem PQ.map {K L : Type} {W0 w w' : World} {rb : Nat} {V : World → Value → K → Prop} {U : World → Value → L → Prop} {res : Option (K × List Nat)} {e : Ending} (f : K → L) (h : PQ W0 rb w V res e w') (hv : ∀ v x, V w' v x → U w' v (f x)) : PQ W0 rb w U (res.map fun x => (f x.1, x.2)) e w' := by
  obtain ⟨h1, h2⟩ := h
  refine ⟨h1, ?_⟩
  cases res with
  | none => exact h2
  | some x => obtain ⟨v, e1, e2, e3⟩ := h2; exact ⟨v, e1, hv v _ e2, e3⟩
theorem not_pos (n : Nat) (h : n ≤ 9223372036854775807) : bits .xor .i64 (-1) (n : Int) = -(n : Int) - 1 := by
  show IntKind.i64.wrap ((BitVec.ofInt 64 (-1) ^^^ BitVec.ofInt 64 (n : Int)).toNat : Int) = _
  have e1 : BitVec.ofInt 64 (-1) = BitVec.allOnes 64 := by decide
  have e2 : (BitVec.ofInt 64 (n : Int)).toNat = n := by rw [BitVec.ofInt_natCast, BitVec.toNat_ofNat]; omega
  rw [e1, BitVec.allOnes_xor, BitVec.toNat_not, e2]
  have e3 : ((2 ^ 64 - 1 - n : Nat) : Int) = 18446744073709551615 - (n : Int) := by omega
  rw [e3, IntKind.wrap_i64]
  omega
set_option maxRecDepth 100000 in
set_option maxHeartbeats 4000000 in
theorem size_any (W0 w : World) (rb : Nat) (l : List Nat) (h : Rd W0 w rb l) : Calls Tryd.prog 75 #[.pointer (some ⟨rb, 0, none⟩)] w (PQ W0 rb w (fun (_ : World) (v : Value) (k : Nat) => v = .int .i64 (k : Int) ∧ k ≤ 9223372036854775807) (dSize l)) := by
  have HN : Hid (Calls Tryd.prog 76 #[.pointer (some ⟨rb, 0, none⟩)] w (PQ W0 rb w (fun (_ : World) (v : Value) (k : Nat) => v = .int .u64 (k : Int) ∧ k ≤ 18446744073709551615) (dNum l))) := number_any W0 w rb l h
  unfold dSize
  cases hd : dNum l with
  | none =>
    rw [hd] at HN
    clear hd h
    go_enter Tryd.func75, Tryd.ntmps75
    go_wp2_with (first | (go_at_call 76; go_loud (refine Calls.mono HN.out ?_; rintro e w1 ⟨g1, hp⟩; obtain rfl := hp; have G1 : Hid _ := g1; clear g1)))
    exact ⟨rfl, G1.out, rfl⟩
  | some x =>
    obtain ⟨k, r⟩ := x
    rw [hd] at HN
    clear hd h
    by_cases hk : 9223372036854775807 < k
    · have HX : Hid ((some (k, r) : Option (Nat × List Nat)).bind (fun x => if 9223372036854775807 < x.1 then none else some x) = none) := by show _ = _; simp [hk]
      have e1 : decide ((9223372036854775807 : Int) < (k : Int)) = true := by simp; omega
      clear hk
      go_enter Tryd.func75, Tryd.ntmps75
      go_wp2_with (first | (go_at_call 76; go_loud (refine Calls.mono HN.out ?_; rintro e w1 ⟨g1, v1, rfl, ⟨hv1, hk1⟩, R1⟩; obtain rfl := hv1; have G1 : Hid _ := g1; have RR1 : Hid (Rd W0 w1 rb r) := R1; clear g1 R1)))
      exact ⟨rfl, G1.out, by rw [HX.out]⟩
    · have HX : Hid ((some (k, r) : Option (Nat × List Nat)).bind (fun x => if 9223372036854775807 < x.1 then none else some x) = some (k, r)) := by show _ = _; simp [hk]
      have e1 : decide ((9223372036854775807 : Int) < (k : Int)) = false := by simp; omega
      have hw : IntKind.i64.wrap (k : Int) = (k : Int) := i64w _ (by omega) (by omega)
      have hk2 : k ≤ 9223372036854775807 := by omega
      clear hk
      go_enter Tryd.func75, Tryd.ntmps75
      go_wp2_with (first | (go_at_call 76; go_loud (refine Calls.mono HN.out ?_; rintro e w1 ⟨g1, v1, rfl, ⟨hv1, hk1⟩, R1⟩; obtain rfl := hv1; have G1 : Hid _ := g1; have RR1 : Hid (Rd W0 w1 rb r) := R1; clear g1 R1)))
      go_ret
      exact ⟨G1.out, by rw [HX.out]; exact ⟨_, rfl, ⟨rfl, hk2⟩, RR1.out⟩⟩
theorem dplace_any (W0 w : World) (rb : Nat) (l : List Nat) (h : Rd W0 w rb l) : Calls Tryd.prog 75 #[.pointer (some ⟨rb, 0, none⟩)] w (PQ W0 rb w (fun (_ : World) (v : Value) (n : Int) => v = .int .i64 n ∧ I64 n) (dPlace l)) :=
  (size_any W0 w rb l h).mono fun e w' hp => PQ.map (fun k : Nat => (k : Int)) hp (fun v x hx => ⟨hx.1, by unfold I64; omega⟩)
set_option maxRecDepth 100000 in
set_option maxHeartbeats 4000000 in
theorem signed_any (W0 w : World) (rb : Nat) (l : List Nat) (h : Rd W0 w rb l) : Calls Tryd.prog 53 #[.pointer (some ⟨rb, 0, none⟩)] w (PQ W0 rb w (fun (_ : World) (v : Value) (n : Int) => v = .int .i64 n ∧ I64 n) (dSign l)) := by
  have HN : Hid (Calls Tryd.prog 76 #[.pointer (some ⟨rb, 0, none⟩)] w (PQ W0 rb w (fun (_ : World) (v : Value) (k : Nat) => v = .int .u64 (k : Int) ∧ k ≤ 18446744073709551615) (dNum l))) := number_any W0 w rb l h
  unfold dSign
  cases hd : dNum l with
  | none =>
    rw [hd] at HN
    clear hd h
    go_enter Tryd.func53, Tryd.ntmps53
    go_wp2_with (first | (go_at_call 76; go_loud (refine Calls.mono HN.out ?_; rintro e w1 ⟨g1, hp⟩; obtain rfl := hp; have G1 : Hid _ := g1; clear g1)))
    exact ⟨rfl, G1.out, rfl⟩
  | some x =>
    obtain ⟨k, r⟩ := x
    have hK : k ≤ 18446744073709551615 := (dNum_back h.2.2.2.1 hd).2
    rw [hd] at HN
    clear hd h
    by_cases hk : k % 2 = 1
    · have HX : Hid ((some (k, r) : Option (Nat × List Nat)).map (fun x => (if x.1 % 2 = 1 then -((x.1 / 2 : Nat) : Int) - 1 else ((x.1 / 2 : Nat) : Int), x.2)) = some (-((k / 2 : Nat) : Int) - 1, r)) := by show _ = _; simp [hk]
      have e1 : decide ((0 : Int) < (k : Int) % 2) = true := by simp; omega
      have hk2 : k ≤ 18446744073709551615 := hK
      have hw : IntKind.i64.wrap ((k : Int) / 2) = (k : Int) / 2 := i64w _ (by omega) (by omega)
      have hx : bits .xor .i64 (if IntKind.i64.signed = true then -1 else 9223372036854775807) ((k : Int) / 2) = -((k : Int) / 2) - 1 := by
        rw [if_pos (by decide : IntKind.i64.signed = true)]
        have := not_pos (k / 2) (by omega)
        rw [show ((k / 2 : Nat) : Int) = (k : Int) / 2 by omega] at this
        exact this
      have hi : I64 (-((k / 2 : Nat) : Int) - 1) := by unfold I64; omega
      clear hk hk2 hK
      go_enter Tryd.func53, Tryd.ntmps53
      go_wp2_with (first | (go_at_call 76; go_loud (refine Calls.mono HN.out ?_; rintro e w1 ⟨g1, v1, rfl, ⟨hv1, hk1⟩, R1⟩; obtain rfl := hv1; have G1 : Hid _ := g1; have RR1 : Hid (Rd W0 w1 rb r) := R1; clear g1 R1)))
      go_ret
      exact ⟨G1.out, by rw [HX.out]; exact ⟨_, rfl, ⟨by simp, hi⟩, RR1.out⟩⟩
    · have HX : Hid ((some (k, r) : Option (Nat × List Nat)).map (fun x => (if x.1 % 2 = 1 then -((x.1 / 2 : Nat) : Int) - 1 else ((x.1 / 2 : Nat) : Int), x.2)) = some (((k / 2 : Nat) : Int), r)) := by show _ = _; simp [hk]
      have e1 : decide ((0 : Int) < (k : Int) % 2) = false := by simp; omega
      have hw : IntKind.i64.wrap ((k : Int) / 2) = (k : Int) / 2 := i64w _ (by omega) (by omega)
      have hi : I64 ((k / 2 : Nat) : Int) := by unfold I64; omega
      clear hk hK
      go_enter Tryd.func53, Tryd.ntmps53
      go_wp2_with (first | (go_at_call 76; go_loud (refine Calls.mono HN.out ?_; rintro e w1 ⟨g1, v1, rfl, ⟨hv1, hk1⟩, R1⟩; obtain rfl := hv1; have G1 : Hid _ := g1; have RR1 : Hid (Rd W0 w1 rb r) := R1; clear g1 R1)))
      go_ret
      exact ⟨G1.out, by rw [HX.out]; exact ⟨_, rfl, ⟨by simp, hi⟩, RR1.out⟩⟩

theorem cv_none (ao : Option Addr) (c : Nat) (w : World) : (convert 30 9 (.slice ao 0 c)).run Tryd.prog w = .ok (.string ByteArray.empty) w := by
  cases ao with
  | none => exact run_convert_bytes_nil w 30 5 Tryd.underlying30 Tryd.underlying5 0 c 9 Tryd.underlying9
  | some a =>
    obtain ⟨b, off, sp⟩ := a
    have hl : (loadCells ⟨b, off, sp⟩ 0).run Tryd.prog w = .ok (([] : List Int).map (Value.int .u8)).toArray w := by simp [loadCells, loadCellsFrom]
    rw [run_convert_bytes_string w 30 9 5 _ 0 c Tryd.underlying30 Tryd.underlying5 Tryd.underlying9, run_bytesToString w _ 0 c [] hl]
    rfl
set_option maxRecDepth 100000 in
set_option maxHeartbeats 4000000 in
theorem text_any (W0 w : World) (rb : Nat) (l : List Nat) (h : Rd W0 w rb l) : Calls Tryd.prog 55 #[.pointer (some ⟨rb, 0, none⟩)] w (PQ W0 rb w (fun (_ : World) (v : Value) (s : ByteArray) => v = .string s ∧ s.size ≤ 1048576) (dText l)) := by
  have HN : Hid (Calls Tryd.prog 75 #[.pointer (some ⟨rb, 0, none⟩)] w (PQ W0 rb w (fun (_ : World) (v : Value) (k : Nat) => v = .int .i64 (k : Int) ∧ k ≤ 9223372036854775807) (dSize l))) := size_any W0 w rb l h
  unfold dText
  cases hd : dSize l with
  | none =>
    rw [hd] at HN
    clear hd h
    go_enter Tryd.func55, Tryd.ntmps55
    go_wp2_with (first | (go_at_call 75; go_loud (refine Calls.mono HN.out ?_; rintro e w1 ⟨g1, hp⟩; obtain rfl := hp; have G1 : Hid _ := g1; clear g1)))
    exact ⟨rfl, G1.out, rfl⟩
  | some x =>
    obtain ⟨k, r⟩ := x
    rw [hd] at HN
    clear hd h
    by_cases hk : r.length < k
    · have HX : Hid ((some (k, r) : Option (Nat × List Nat)).bind (fun x => if x.2.length < x.1 then none else some (st (x.2.take x.1), x.2.drop x.1)) = none) := by show _ = _; simp [hk]
      go_enter Tryd.func55, Tryd.ntmps55
      go_wp2_with (first | (go_at_call 75; go_loud (refine Calls.mono HN.out ?_; rintro e w1 ⟨g1, v1, rfl, ⟨hv1, hk1⟩, R1⟩; obtain rfl := hv1; have G1 : Hid _ := g1; have RR1 : Hid (Rd W0 w1 rb r) := R1; have R2 : Rd W0 w1 rb r := R1; clear R1; obtain ⟨p1, p2, p3, p4, ao, c, p5, p6, p7, p8⟩ := R2; have d0 : w1.cell? ⟨rb, 0, none⟩ = some (.slice ao r.length c) := (by rw [Lib.cell_of_heap p5]; rfl); have dz := Lib.frozen_of_heap p5; have hrz := RR1.out.lt; have hc7 : c ≤ 9223372036854775807 := (by unfold maxLen at p7; exact p7); clear p3 p6 p7 p8; clear g1 p1 p2 p4 p5)))
      exact ⟨rfl, G1.out, by rw [HX.out]⟩
    · have HX : Hid ((some (k, r) : Option (Nat × List Nat)).bind (fun x => if x.2.length < x.1 then none else some (st (x.2.take x.1), x.2.drop x.1)) = some (st (r.take k), r.drop k)) := by show _ = _; simp [hk]
      by_cases hr : r.length = 0
      · obtain rfl : r = [] := List.length_eq_zero_iff.1 hr
        obtain rfl : k = 0 := by simp at hk; omega
        clear hk hr
        go_enter Tryd.func55, Tryd.ntmps55
        go_wp2_with (first | (go_at_call 75; go_loud (refine Calls.mono HN.out ?_; rintro e w1 ⟨g1, v1, rfl, ⟨hv1, hk1⟩, R1⟩; obtain rfl := hv1; have G1 : Hid _ := g1; have RR1 : Hid (Rd W0 w1 rb []) := R1; have R2 : Rd W0 w1 rb [] := R1; clear R1; obtain ⟨p1, p2, p3, p4, ao, c, p5, p6, p7, p8⟩ := R2; have d0 : w1.cell? ⟨rb, 0, none⟩ = some (.slice ao 0 c) := (by rw [Lib.cell_of_heap p5]; rfl); have dz := Lib.frozen_of_heap p5; have hrz := RR1.out.lt; have hc7 : c ≤ 9223372036854775807 := (by unfold maxLen at p7; exact p7); (try simp only [List.length_nil] at d0); have hcv : (convert 30 9 (.slice ao 0 c)).run Tryd.prog w1 = .ok (.string ByteArray.empty) w1 := cv_none ao c w1; clear p3 p6 p8; clear g1 p1 p2 p4 p5)))
        go_ret
        obtain ⟨s1, s2⟩ := Rd.set RR1.out (l' := []) (by simp) (by intro x hx; cases hx) (ao := ao) (c := c) (Nat.zero_le _) p7 (.inl rfl)
        exact ⟨gb_trans G1.out s2, _, rfl, ⟨rfl, by decide⟩, s1⟩
      · have e1 : decide ((r.length : Int) < (k : Int)) = false := by simp; omega
        have hk2 : k ≤ r.length := by omega
        have hlen : (r.take k).length = k := by rw [List.length_take]; omega
        have hdl : (r.drop k).length = r.length - k := by simp
        have hk3 : ¬ r.length < k := hk
        go_enter Tryd.func55, Tryd.ntmps55
        go_wp2_with (first | (go_at_call 75; go_loud (refine Calls.mono HN.out ?_; rintro e w1 ⟨g1, v1, rfl, ⟨hv1, hk1⟩, R1⟩; obtain rfl := hv1; have G1 : Hid _ := g1; have RR1 : Hid (Rd W0 w1 rb r) := R1; have R2 : Rd W0 w1 rb r := R1; clear R1; obtain ⟨p1, p2, p3, p4, ao, c, p5, p6, p7, p8⟩ := R2; have d0 : w1.cell? ⟨rb, 0, none⟩ = some (.slice ao r.length c) := (by rw [Lib.cell_of_heap p5]; rfl); have dz := Lib.frozen_of_heap p5; have hrz := RR1.out.lt; have hc7 : c ≤ 9223372036854775807 := (by unfold maxLen at p7; exact p7); obtain ⟨b, off, rfl, hb, hB⟩ := p8.resolve_left hr; have hcv := (ByAt.bw hB RR1.out.1 hb).take k |>.cv c; rw [hlen] at hcv; have HBB : Hid (ByAt W0 b off r) := hB; clear hB p8; clear g1 p1 p2 p4 p5)))
        · have hbd : Byt (r.drop k) := fun x hx => RR1.out.2.2.2.1 x (List.mem_of_mem_drop hx)
          go_ret
          obtain ⟨s1, s2⟩ := Rd.set RR1.out (l' := r.drop k) (by simp) hbd (ao := some ⟨b, off, none⟩) (c := 0) (by omega) (Nat.zero_le _) (.inl (by omega))
          rw [hdl] at s1 s2
          exact ⟨gb_trans G1.out s2, _, rfl, ⟨rfl, by rw [st_size, hlen]; omega⟩, s1⟩
        · have hbd : Byt (r.drop k) := fun x hx => RR1.out.2.2.2.1 x (List.mem_of_mem_drop hx)
          go_ret
          obtain ⟨s1, s2⟩ := Rd.set RR1.out (l' := r.drop k) (by simp) hbd (ao := some ⟨b, off + k, none⟩) (c := c - k) (by omega) (by omega) (.inr ⟨b, off + k, rfl, hb, HBB.out.drop k⟩)
          rw [hdl] at s1 s2
          exact ⟨gb_trans G1.out s2, _, rfl, ⟨rfl, by rw [st_size, hlen]; omega⟩, s1⟩

set_option maxRecDepth 100000 in
set_option maxHeartbeats 4000000 in
theorem equal_any (x y : Value) (s t : ByteArray) (w : World) (hx : (convert 30 9 x).run Tryd.prog w = .ok (.string s) w) (hy : (convert 30 9 y).run Tryd.prog w = .ok (.string t) w) : Calls Tryd.prog 92 #[x, y] w fun e w' => e = .returned (.bool (s.toList == t.toList)) ∧ w' = w := by
  go_enter Tryd.func92, Tryd.ntmps92
  go_wp2_with (fail)
  go_ret
  exact ⟨rfl, rfl⟩
theorem st_eq {a b : List Nat} (ha : Byt a) (hb : Byt b) : ((st a).toList == (st b).toList) = decide (a = b) := by
  rw [ByteArray.toList_eq, ByteArray.toList_eq]
  apply Bool.eq_iff_iff.2
  simp only [beq_iff_eq, decide_eq_true_eq]
  constructor
  · intro h
    refine st_inj ha hb ?_
    generalize st a = u at *
    generalize st b = v at *
    obtain ⟨⟨u⟩⟩ := u
    obtain ⟨⟨v⟩⟩ := v
    simpa using h
  · rintro rfl; rfl
/-- The letters that a module's bytes begin with. -/
abbrev ltr : List Nat := [69, 70, 70, 49]
theorem ltr_byt : Byt ltr := by intro k hk; simp at hk; omega
set_option maxRecDepth 100000 in
set_option maxHeartbeats 4000000 in
theorem hasPrefix_any (ao : Option Addr) (c Y : Nat) (l : List Nat) (w : World) (hc : l.length ≤ c) (hcm : c ≤ 9223372036854775807) (hl : l.length = 0 ∨ ∃ b off, ao = some ⟨b, off, none⟩ ∧ ByAt w b off l) (hb : Byt l) (hY : ByAt w Y 0 ltr) : Calls Tryd.prog 88 #[.slice ao l.length c, .slice (some ⟨Y, 0, none⟩) 4 4] w fun e w' => e = .returned (.bool (decide (l.take 4 = ltr))) ∧ w' = w := by
  have hy : (convert 30 9 (.slice (some ⟨Y, 0, none⟩) 4 4)).run Tryd.prog w = .ok (.string (st ltr)) w := hY.cv 4
  by_cases h4 : l.length < 4
  · have HX : Hid (decide (l.take 4 = ltr) = false) := by
      show _ = _
      apply decide_eq_false
      intro e
      have := congrArg List.length e
      simp at this
      omega
    have e1 : decide ((4 : Int) ≤ (l.length : Int)) = false := by simp; omega
    have e2 : ¬ 4 ≤ l.length := by omega
    clear hl hY
    go_enter Tryd.func88, Tryd.ntmps88
    go_wp2_with (fail)
    go_ret
    exact ⟨by rw [HX.out]; rfl, rfl⟩
  · obtain ⟨b, off, rfl, hB⟩ := hl.resolve_left (by omega)
    have hlen : (l.take 4).length = 4 := by rw [List.length_take]; omega
    have hx : (convert 30 9 (.slice (some ⟨b, off, none⟩) 4 c)).run Tryd.prog w = .ok (.string (st (l.take 4))) w := by
      have := (hB.take 4).cv c
      rwa [hlen] at this
    have HE : Hid (Calls Tryd.prog 92 #[.slice (some ⟨b, off, none⟩) 4 c, .slice (some ⟨Y, 0, none⟩) 4 4] w fun e w' => e = .returned (.bool (decide (l.take 4 = ltr))) ∧ w' = w) := by
      have := equal_any _ _ _ _ w hx hy
      rw [st_eq (fun k hk => hb k (List.mem_of_mem_take hk)) ltr_byt] at this
      exact this
    have e1 : decide ((4 : Int) ≤ (l.length : Int)) = true := by simp; omega
    have e2 : 4 ≤ l.length := by omega
    have e3 : 4 ≤ c := by omega
    clear hl hY hB hx hy
    generalize decide (l.take 4 = ltr) = q at *
    go_enter Tryd.func88, Tryd.ntmps88
    go_wp2_with (first | (go_at_call 92; go_loud (refine Calls.mono HE.out ?_; rintro e w1 ⟨rfl, rfl⟩)))
    go_ret
    exact ⟨rfl, rfl⟩
set_option maxRecDepth 100000 in
set_option maxHeartbeats 4000000 in
theorem cutPrefix_any (ao : Option Addr) (c Y : Nat) (l : List Nat) (w : World) (hc : l.length ≤ c) (hcm : c ≤ 9223372036854775807) (hl : l.length = 0 ∨ ∃ b off, ao = some ⟨b, off, none⟩ ∧ ByAt w b off l) (hb : Byt l) (hY : ByAt w Y 0 ltr) : Calls Tryd.prog 74 #[.slice ao l.length c, .slice (some ⟨Y, 0, none⟩) 4 4] w fun e w' => w' = w ∧ (if l.take 4 = ltr then ∃ b off ao' c', ao = some ⟨b, off, none⟩ ∧ ByAt w b off l ∧ e = .returned (.tuple #[.slice ao' (l.drop 4).length c', .bool true]) ∧ (l.drop 4).length ≤ c' ∧ c' ≤ c ∧ ((l.drop 4).length = 0 ∨ ao' = some ⟨b, off + 4, none⟩) else e = .returned (.tuple #[.slice ao l.length c, .bool false])) := by
  have HP : Hid (Calls Tryd.prog 88 #[.slice ao l.length c, .slice (some ⟨Y, 0, none⟩) 4 4] w fun e w' => e = .returned (.bool (decide (l.take 4 = ltr))) ∧ w' = w) := hasPrefix_any ao c Y l w hc hcm hl hb hY
  by_cases h : l.take 4 = ltr
  · have h4 : 4 ≤ l.length := by
      have := congrArg List.length h
      simp at this
      omega
    obtain ⟨b, off, rfl, hB⟩ := hl.resolve_left (by omega)
    have HB : Hid (ByAt w b off l) := hB
    simp only [if_pos h]
    rw [decide_eq_true h] at HP
    have hd : (l.drop 4).length = l.length - 4 := by simp
    rw [hd]
    clear hl hB hY h
    by_cases hc4 : c = 4
    · subst hc4
      simp only [show l.length - 4 = 0 by omega]
      go_enter Tryd.func74, Tryd.ntmps74
      go_wp2_with (first | (go_at_call 88; go_loud (refine Calls.mono HP.out ?_; rintro e w1 ⟨rfl, rfl⟩)))
      go_ret2
      exact ⟨rfl, b, off, some ⟨b, off, none⟩, 0, rfl, HB.out, rfl, Nat.zero_le _, Nat.zero_le _, .inl (by trivial)⟩
    · go_enter Tryd.func74, Tryd.ntmps74
      go_wp2_with (first | (go_at_call 88; go_loud (refine Calls.mono HP.out ?_; rintro e w1 ⟨rfl, rfl⟩)))
      go_ret2
      exact ⟨rfl, b, off, some ⟨b, off + 4, none⟩, c - 4, rfl, HB.out, rfl, by omega, by omega, .inr rfl⟩
  · simp only [if_neg h]
    rw [decide_eq_false h] at HP
    clear hl hY h
    go_enter Tryd.func74, Tryd.ntmps74
    go_wp2_with (first | (go_at_call 88; go_loud (refine Calls.mono HP.out ?_; rintro e w1 ⟨rfl, rfl⟩)))
    go_ret2
    exact ⟨rfl, rfl⟩
set_option maxRecDepth 100000 in
set_option maxHeartbeats 4000000 in
theorem begin_any (W0 w : World) (rb : Nat) (l : List Nat) (h : Rd W0 w rb l) : Calls Tryd.prog 51 #[.pointer (some ⟨rb, 0, none⟩)] w fun e w' => w.grownBy w' (some rb) ∧ (match dHead l with | some r => e = .returned (.tuple #[]) ∧ Rd W0 w' rb r | none => e = .panicked [{ v := .iface 55 (.agg #[]), recovered := false }]) := by
  have H : Hid (Rd W0 w rb l) := h
  obtain ⟨h1, h2, h3, h4, ao, c, h5, h6, h7, h8⟩ := h
  have d0 : w.cell? ⟨rb, 0, none⟩ = some (.slice ao l.length c) := by rw [Lib.cell_of_heap h5]; rfl
  have hz := H.out.lt
  have hcm : c ≤ 9223372036854775807 := by unfold maxLen at h7; exact h7
  obtain ⟨x, hx⟩ : ∃ x, x = w.alloc (.cells #[.int .u8 69, .int .u8 70, .int .u8 70, .int .u8 49] 5 (4, 5)) := ⟨_, rfl⟩
  have HX : Hid (x = w.alloc (.cells #[.int .u8 69, .int .u8 70, .int .u8 70, .int .u8 49] 5 (4, 5))) := hx
  have hB : BW w x := by rw [hx]; exact BW.alloc (BW.refl _) _
  have HRX : Hid (Rd W0 x rb l) := H.out.bw hB
  have HGX : Hid (w.grownBy x (some rb)) := gb_bw hB
  have hY : ByAt x w.heap.size 0 ltr := fun i hi => by
    rw [hx, Nat.zero_add, cell_of_row _ _ i #[.int .u8 69, .int .u8 70, .int .u8 70, .int .u8 49] 5 (4, 5) (heap_alloc_new w _)]
    match i, hi with
    | 0, _ => rfl
    | 1, _ => rfl
    | 2, _ => rfl
    | 3, _ => rfl
  have HC : Hid (Calls Tryd.prog 74 #[.slice ao l.length c, .slice (some ⟨w.heap.size, 0, none⟩) 4 4] x fun e w' => w' = x ∧ (if l.take 4 = ltr then ∃ b off ao' c', ao = some ⟨b, off, none⟩ ∧ ByAt x b off l ∧ e = .returned (.tuple #[.slice ao' (l.drop 4).length c', .bool true]) ∧ (l.drop 4).length ≤ c' ∧ c' ≤ c ∧ ((l.drop 4).length = 0 ∨ ao' = some ⟨b, off + 4, none⟩) else e = .returned (.tuple #[.slice ao l.length c, .bool false]))) :=
    cutPrefix_any ao c w.heap.size l x h6 hcm (h8.imp id (fun ⟨b, off, e, hb, hB2⟩ => ⟨b, off, e, (hB2.bw h1 hb).bw hB (by have := h1.size; omega)⟩)) h4 hY
  have H8 : Hid (l.length = 0 ∨ ∃ b off, ao = some ⟨b, off, none⟩ ∧ b < W0.heap.size ∧ ByAt W0 b off l) := h8
  have H4 : Hid (Byt l) := h4
  have H7 : Hid (c ≤ maxLen) := h7
  have hzx : rb < x.heap.size := HRX.out.lt
  have dzx : ∀ j, x.frozen? ⟨rb, j, none⟩ = false := by
    obtain ⟨_, _, _, _, ao1, c1, q5, _⟩ := HRX.out
    exact Lib.frozen_of_heap q5
  have dxx : x.cell? ⟨rb, 0, none⟩ = some (.slice ao l.length c) := (hB.cells rb 0 hz).trans d0
  have kc := fun (w : World) (C : Array Value) (n c : Nat) => Lib.run_convert_bytes_const (P := Tryd.prog) w 30 5 C n c Tryd.underlying30 Tryd.underlying5
  clear hY hB h1 h2 h3 h4 h5 h8 hx
  unfold dHead
  by_cases hl : l.take 4 = ltr
  · rw [if_pos hl]
    simp only [if_pos hl] at HC
    clear hl
    go_enter Tryd.func51, Tryd.ntmps51
    go_wp2_with (first | (go_at_call 74; go_loud (rw [← HX.out]; refine Calls.mono HC.out ?_; rintro e w1 ⟨rfl, b, off, ao', c', rfl, hB1, rfl, k1, k2, k3⟩; have K3 : Hid _ := k3; clear k3 hB1)))
    first | go_end0 | refine bodyPost_ret (results_none rfl _ _ _) rfl ?_
    have hd : (l.drop 4).length = l.length - 4 := by simp
    obtain ⟨s1, s2⟩ := Rd.set HRX.out (l' := l.drop 4) (by simp) (fun k hk => H4.out k (List.mem_of_mem_drop hk)) (ao := ao') (c := c') k1 (Nat.le_trans k2 H7.out) (by
      rcases K3.out with k | rfl
      · exact .inl k
      · rcases H8.out with k | ⟨b', off', e, hb, hB⟩
        · left; omega
        · cases e; exact .inr ⟨b, off + 4, rfl, hb, hB.drop 4⟩)
    rw [hd] at s1 s2
    exact ⟨gb_trans HGX.out s2, rfl, s1⟩
  · rw [if_neg hl]
    simp only [if_neg hl] at HC
    clear hl
    go_enter Tryd.func51, Tryd.ntmps51
    go_wp2_with (first | (go_at_call 74; go_loud (rw [← HX.out]; refine Calls.mono HC.out ?_; rintro e w1 ⟨rfl, rfl⟩)))
    exact ⟨rfl, HGX.out, rfl⟩

end Go.Proofs.YtndhhmgbekcfoaaDoor
