import Derived.Test.YtfgnlddfpemblaaDoorS5
namespace Go.Proofs.YtfgnlddfpemblaaDoor
open Go.RowKit
set_option linter.unusedVariables false
set_option linter.unusedSimpArgs false

set_option maxRecDepth 100000 in
set_option maxHeartbeats 1000000 in
theorem pair_deep (B b : Nat) (pv : Value) (l : List UInt8) (x : Va) (w : World) (h : Sh B b pv l w) (hlen : l.length + 5000 ≤ 140737488355328) (hBw : B ≤ w.heap.size) :
    Calls Tryd.prog 26 #[.pointer (some ⟨b, 0, none⟩), x.v, .int .i64 0] w fun e w' => e = .returned (.tuple #[]) ∧ ShU B b pv (l ++ [46, 46]) w' ∧ Fs B b w w' := by
  have hlt := h.lt
  obtain ⟨t, n, s⟩ := x
  go_enter Tryd.func26, Tryd.ntmps26
  go_wp2_with (fail)
  refine (writeString_any B b pv l _ _ (h.bw (by repeat (first | exact BW.refl _ | apply BW.alloc | apply BW.drewN | apply BW.drew))) (by show l.length + 2 ≤ _; omega) (by simp; omega)).mono ?_
  rintro e w1 ⟨rfl, h1, f1⟩
  go_wp2_with (fail)
  refine bodyPost_ret (results_none rfl _ _ _) rfl ?_
  exact ⟨rfl, by simpa using h1, (Sh.fs (by repeat (first | exact BW.refl _ | apply BW.alloc | apply BW.drewN | apply BW.drew)) hBw).trans f1⟩
set_option maxRecDepth 100000 in
set_option maxHeartbeats 1000000 in
theorem pair_none (B b : Nat) (pv : Value) (f : Va → Option (Va × Va)) (l : List UInt8) (x : Va) (hx : x.t = 4) (hf : f x = none) (k : Int) (hk : (k == 0) = false) (w : World) (h : Sh B b pv l w) (hE : Env B pv f w) (hlen : l.length + 5000 ≤ 140737488355328) :
    Calls Tryd.prog 26 #[.pointer (some ⟨b, 0, none⟩), x.v, .int .i64 k] w fun e w' => e = .returned (.tuple #[]) ∧ ShU B b pv (l ++ [46, 46]) w' ∧ Fs B b w w' := by
  have hlt := h.lt
  have hBw := hE.le
  have hP : Hid (∀ w1, BW w w1 → Calls Tryd.prog 32 #[.pointer (some ⟨b, 0, none⟩), x.v] w1 fun e w' => e = .returned (.tuple #[Z, Z, .bool false]) ∧ BW w1 w') := fun w1 hb => parts_nope B b pv f l x hx hf w1 (h.bw hb) (hE.bw hb)
  clear hf hx
  obtain ⟨t, n, s⟩ := x
  go_enter Tryd.func26, Tryd.ntmps26
  go_wp2_with (fail)
  refine (hP.out _ (by repeat (first | exact BW.refl _ | apply BW.alloc | apply BW.drewN | apply BW.drew))).mono ?_
  rintro e w1 ⟨rfl, hb1⟩
  have hz := hb1.size
  simp at hz
  go_wp2_with (fail)
  refine (writeString_any B b pv l _ _ (((h.bw (by repeat (first | exact BW.refl _ | apply BW.alloc | apply BW.drewN | apply BW.drew))).bw hb1).bw (by repeat (first | exact BW.refl _ | apply BW.alloc | apply BW.drewN | apply BW.drew))) (by show l.length + 2 ≤ _; omega) (by simp; omega)).mono ?_
  rintro e w2 ⟨rfl, h2, f2⟩
  go_wp2_with (fail)
  refine bodyPost_ret (results_none rfl _ _ _) rfl ?_
  exact ⟨rfl, by simpa using h2, (Sh.fs (BW.trans (by repeat (first | exact BW.refl _ | apply BW.alloc | apply BW.drewN | apply BW.drew)) (hb1.trans (by repeat (first | exact BW.refl _ | apply BW.alloc | apply BW.drewN | apply BW.drew)))) hBw).trans f2⟩
set_option maxRecDepth 100000 in
set_option maxHeartbeats 1000000 in
theorem pair_some (B b : Nat) (pv : Value) (f : Va → Option (Va × Va)) (l ly lz : List UInt8) (x y z : Va) (hx : x.t = 4) (hf : f x = some (y, z)) (k : Int) (hk : (k == 0) = false) (hw : IntKind.i64.wrap (k - 1) = k - 1) (K : Nat)
    (hy : ∀ (l : List UInt8) (w : World), Sh B b pv l w → Env B pv f w → l.length + K ≤ 140737488355328 → Calls Tryd.prog 18 #[.pointer (some ⟨b, 0, none⟩), y.v, .int .i64 (k - 1)] w fun e w' => e = .returned (.tuple #[]) ∧ ShU B b pv (l ++ ly) w' ∧ Fs B b w w')
    (hz : ∀ (l : List UInt8) (w : World), Sh B b pv l w → Env B pv f w → l.length + K ≤ 140737488355328 → Calls Tryd.prog 18 #[.pointer (some ⟨b, 0, none⟩), z.v, .int .i64 (k - 1)] w fun e w' => e = .returned (.tuple #[]) ∧ ShU B b pv (l ++ lz) w' ∧ Fs B b w w')
    (w : World) (h : Sh B b pv l w) (hE : Env B pv f w) (hlen : l.length + ly.length + lz.length + 10 + K ≤ 140737488355328) :
    Calls Tryd.prog 26 #[.pointer (some ⟨b, 0, none⟩), x.v, .int .i64 k] w fun e w' => e = .returned (.tuple #[]) ∧ ShU B b pv (l ++ 40 :: (ly ++ [32, 46, 32] ++ lz ++ [41])) w' ∧ Fs B b w w' := by
  have hlt := h.lt
  have hBw := hE.le
  have hP : Hid (∀ w1, BW w w1 → Calls Tryd.prog 32 #[.pointer (some ⟨b, 0, none⟩), x.v] w1 fun e w' => e = .returned (.tuple #[y.v, z.v, .bool true]) ∧ BW w1 w') := fun w1 hb => parts_some B b pv f l x y z hx hf w1 (h.bw hb) (hE.bw hb)
  have hy' : Hid _ := hy
  have hz' : Hid _ := hz
  clear hf hx hy hz
  obtain ⟨t, n, s⟩ := x
  obtain ⟨ty, ny, sy⟩ := y
  obtain ⟨tz, nz, sz⟩ := z
  go_enter Tryd.func26, Tryd.ntmps26
  go_wp2_with (fail)
  refine (hP.out _ (by repeat (first | exact BW.refl _ | apply BW.alloc | apply BW.drewN | apply BW.drew))).mono ?_
  rintro e w1 ⟨rfl, hb1⟩
  have hz := hb1.size
  simp at hz
  go_wp2_with (fail)
  have hB2 : BW w ((w1.alloc (.cells #[.int .u8 ty, .int .i64 ny, .string sy] 24)).alloc (.cells #[.int .u8 tz, .int .i64 nz, .string sz] 24)) := BW.trans (by repeat (first | exact BW.refl _ | apply BW.alloc | apply BW.drewN | apply BW.drew)) (hb1.trans (by repeat (first | exact BW.refl _ | apply BW.alloc | apply BW.drewN | apply BW.drew)))
  have A1 : ((w1.alloc (.cells #[.int .u8 ty, .int .i64 ny, .string sy] 24)).alloc (.cells #[.int .u8 tz, .int .i64 nz, .string sz] 24)).heap[w1.heap.size]? = some (.cells #[.int .u8 ty, .int .i64 ny, .string sy] 24 (0, 0)) := by
    rw [Below.heap_alloc _ _ _ (by simp)]; exact heap_alloc_new _ _
  have A2 : ((w1.alloc (.cells #[.int .u8 ty, .int .i64 ny, .string sy] 24)).alloc (.cells #[.int .u8 tz, .int .i64 nz, .string sz] 24)).heap[w1.heap.size + 1]? = some (.cells #[.int .u8 tz, .int .i64 nz, .string sz] 24 (0, 0)) := new_at _ _ _ (by simp)
  refine (writeByte_n 40 40 rfl B b pv l _ (h.bw hB2) (by omega) (by simp; omega)).mono ?_
  rintro e w2 ⟨rfl, h2, f2⟩
  have F2 := (Sh.fs (b := b) hB2 hBw).trans f2
  have E2 := hE.fs F2
  have C1 := f2.at24 A1 (by omega)
  have C2 := f2.at24 A2 (by omega)
  clear A1 A2 hB2 f2
  have k0 : w2.cell? ⟨w1.heap.size, 0, none⟩ = some (.int .u8 ty) := (by simp only [World.cell?, C1]; rfl)
  have k1 : w2.cell? ⟨w1.heap.size, 1, none⟩ = some (.int .i64 ny) := (by simp only [World.cell?, C1]; rfl)
  have k2 : w2.cell? ⟨w1.heap.size, 2, none⟩ = some (.string sy) := (by simp only [World.cell?, C1]; rfl)
  go_wp2_with (fail)
  refine (hy'.out _ _ h2.sh E2 (by simp; omega)).mono ?_
  rintro e w3 ⟨rfl, h3, f3⟩
  have D2 := f3.at24 C2 (by omega)
  have F3 := F2.trans f3
  have E3 := E2.fs f3
  clear k0 k1 k2 C1 C2 f3 E2 F2 h2
  go_wp2_with (fail)
  refine (writeString_any B b pv _ _ _ h3.sh (by show (l ++ [40] ++ ly).length + 3 ≤ _; simp; omega) E3.le).mono ?_
  rintro e w4 ⟨rfl, h4, f4⟩
  have G2 := f4.at24 D2 (by omega)
  have F4 := F3.trans f4
  have E4 := E3.fs f4
  clear D2 f4 E3 F3 h3
  have k0 : w4.cell? ⟨w1.heap.size + 1, 0, none⟩ = some (.int .u8 tz) := (by simp only [World.cell?, G2]; rfl)
  have k1 : w4.cell? ⟨w1.heap.size + 1, 1, none⟩ = some (.int .i64 nz) := (by simp only [World.cell?, G2]; rfl)
  have k2 : w4.cell? ⟨w1.heap.size + 1, 2, none⟩ = some (.string sz) := (by simp only [World.cell?, G2]; rfl)
  go_wp2_with (fail)
  refine (hz'.out _ _ h4.sh E4 (by simp; omega)).mono ?_
  rintro e w5 ⟨rfl, h5, f5⟩
  have F5 := F4.trans f5
  have E5 := E4.fs f5
  clear k0 k1 k2 G2 f5 E4 F4 h4
  go_wp2_with (fail)
  refine (writeByte_n 41 41 rfl B b pv _ _ h5.sh (by simp; omega) E5.le).mono ?_
  rintro e w6 ⟨rfl, h6, f6⟩
  go_wp2_with (fail)
  go_end0
  exact ⟨rfl, by simpa using h6, F5.trans f6⟩

theorem value_pair (B b : Nat) (pv : Value) (l q : List UInt8) (x : Va) (hx : x.t = 4) (k : Int) (w : World) (h : Sh B b pv l w) (hBw : B ≤ w.heap.size)
    (hp : ∀ w1, BW w w1 → Calls Tryd.prog 26 #[.pointer (some ⟨b, 0, none⟩), x.v, .int .i64 k] w1 fun e w' => e = .returned (.tuple #[]) ∧ ShU B b pv (l ++ q) w' ∧ Fs B b w1 w') :
    Calls Tryd.prog 18 #[.pointer (some ⟨b, 0, none⟩), x.v, .int .i64 k] w fun e w' => e = .returned (.tuple #[]) ∧ ShU B b pv (l ++ q) w' ∧ Fs B b w w' := by
  obtain ⟨t, n, s⟩ := x
  simp only at hx
  subst hx
  have hp' : Hid _ := hp
  clear hp
  go_enter Tryd.func18, Tryd.ntmps18
  go_wp2_with (fail)
  refine (hp'.out _ (by repeat (first | exact BW.refl _ | apply BW.alloc | apply BW.drewN | apply BW.drew))).mono ?_
  rintro e w1 ⟨rfl, h1, f1⟩
  go_wp2_with (fail)
  go_end0
  exact ⟨rfl, h1, (Sh.fs (by repeat (first | exact BW.refl _ | apply BW.alloc | apply BW.drewN | apply BW.drew)) hBw).trans f1⟩
theorem value_flat (B b : Nat) (pv : Value) (f : Va → Option (Va × Va)) (l : List UInt8) (x : Va) (hF : Fine x) (h4 : ¬ x.t = 4) (k : Int) (w : World) (h : Sh B b pv l w) (hE : Env B pv f w) (hlen : l.length + 5000 ≤ 140737488355328) :
    Calls Tryd.prog 18 #[.pointer (some ⟨b, 0, none⟩), x.v, .int .i64 k] w fun e w' => e = .returned (.tuple #[]) ∧ ShU B b pv (l ++ flat x) w' ∧ Fs B b w w' := by
  have := hF.t0
  have := hF.t7
  have := hF.n0
  have := hF.n1
  have := hF.s
  obtain ⟨t, n, s⟩ := x
  simp only at *
  rcases (by omega : t = 0 ∨ t = 1 ∨ t = 2 ∨ t = 3 ∨ t = 5 ∨ t = 6 ∨ t = 7) with rfl | rfl | rfl | rfl | rfl | rfl | rfl
  · exact value_0 B b pv l n s k w h hlen hE.le
  · exact value_1 B b pv l n (by omega) (by omega) s k w hE.tab h hlen hE.le
  · exact value_2 B b pv l n s k w h hlen hE.le
  · exact value_3 B b pv l n s (by omega) k w h hlen hE.le
  · exact value_5 B b pv l n s k w h hlen hE.le
  · exact value_6 B b pv l n s k w h hlen hE.le
  · exact value_7 B b pv l n s k w h hlen hE.le
theorem value_any (B b : Nat) (pv : Value) (f : Va → Option (Va × Va)) (hf : ∀ x y z, f x = some (y, z) → Fine y ∧ Fine z) :
    ∀ (d : Nat), d ≤ 6 → ∀ (x : Va), Fine x → ∀ (l : List UInt8) (w : World), Sh B b pv l w → Env B pv f w → l.length + 10000 * 2 ^ d ≤ 140737488355328 →
    Calls Tryd.prog 18 #[.pointer (some ⟨b, 0, none⟩), x.v, .int .i64 d] w fun e w' => e = .returned (.tuple #[]) ∧ ShU B b pv (l ++ sho f d x) w' ∧ Fs B b w w' := by
  intro d
  induction d with
  | zero =>
    intro _ x hF l w h hE hlen
    by_cases h4 : x.t = 4
    · have e : sho f 0 x = [46, 46] := by simp [sho, flat, h4]
      rw [e]
      exact value_pair B b pv l _ x h4 0 w h hE.le fun w1 hb => pair_deep B b pv l x w1 (h.bw hb) (by omega) (Nat.le_trans hE.le hb.size)
    · exact value_flat B b pv f l x hF h4 0 w h hE (by omega)
  | succ d ih =>
    intro hd x hF l w h hE hlen
    have hp : 10000 * 2 ^ (d + 1) = 2 * (10000 * 2 ^ d) := by rw [Nat.pow_succ]; omega
    have hp1 : 1 ≤ 2 ^ d := Nat.one_le_two_pow
    by_cases h4 : x.t = 4
    · have hk : (((d + 1 : Nat) : Int) == 0) = false := by simp; omega
      have hw : IntKind.i64.wrap (((d + 1 : Nat) : Int) - 1) = ((d + 1 : Nat) : Int) - 1 := by
        rcases (by omega : d = 0 ∨ d = 1 ∨ d = 2 ∨ d = 3 ∨ d = 4 ∨ d = 5) with rfl | rfl | rfl | rfl | rfl | rfl <;> decide
      have hk1 : ((d + 1 : Nat) : Int) - 1 = (d : Int) := by omega
      cases e : f x with
      | none =>
        have e2 : sho f (d + 1) x = [46, 46] := by simp [sho, h4, e]
        rw [e2]
        exact value_pair B b pv l _ x h4 _ w h hE.le fun w1 hb => pair_none B b pv f l x h4 e _ hk w1 (h.bw hb) (hE.bw hb) (by omega)
      | some yz =>
        obtain ⟨y, z⟩ := yz
        have e2 : sho f (d + 1) x = 40 :: (sho f d y ++ [32, 46, 32] ++ sho f d z ++ [41]) := by simp [sho, h4, e]
        have ly := sho_len f hf d y (hf _ _ _ e).1
        have lz := sho_len f hf d z (hf _ _ _ e).2
        rw [e2]
        exact value_pair B b pv l _ x h4 _ w h hE.le fun w1 hb => pair_some B b pv f l _ _ x y z h4 e _ hk hw (10000 * 2 ^ d)
          (by rw [hk1]; exact ih (by omega) y (hf _ _ _ e).1) (by rw [hk1]; exact ih (by omega) z (hf _ _ _ e).2) w1 (h.bw hb) (hE.bw hb) (by omega)
    · have e2 : sho f (d + 1) x = flat x := by simp [sho, h4]
      rw [e2]
      exact value_flat B b pv f l x hF h4 _ w h hE (by omega)
theorem flat_ne (x : Va) : flat x ≠ [] := by
  unfold flat
  split; · simp
  split
  · unfold Lib.itoa; split; · simp
    · rw [Lib.decDigits]; split <;> simp
  split
  · cases (x.n != 0)
    · show Lib.formatBool false ≠ []
      decide
    · show Lib.formatBool true ≠ []
      decide
  split; · simp [quo]
  split; · simp
  split; · simp
  split <;> simp
theorem sho_ne (f : Va → Option (Va × Va)) (d : Nat) (x : Va) : sho f d x ≠ [] := by
  cases d with
  | zero => exact flat_ne x
  | succ d => simp only [sho]; split
              · split <;> simp
              · exact flat_ne x
/-- A shower of a call: fresh. -/
theorem Sh.new (w : World) (pv : Value) : Sh w.heap.size w.heap.size pv [] (w.alloc (.cells #[.pointer none, .slice none 0 0, pv] 58)) :=
  ⟨Nat.le_refl _, .pointer none, .slice none 0 0, .inl rfl, heap_alloc_new _ _, by simp [Lib.byteCells], .inl ⟨rfl, rfl⟩⟩
set_option maxRecDepth 100000 in
set_option maxHeartbeats 1000000 in
theorem quote_any (s : ByteArray) (hs : s.size ≤ 1000) (w : World) : Calls Tryd.prog 14 #[.string s] w fun e w' => e = .returned (.string ⟨(quo s.data.toList).toArray⟩) ∧ BW w w' := by
  go_enter Tryd.func14, Tryd.ntmps14
  go_wp2_with (fail)
  refine (quoted_any w.heap.size w.heap.size .nilIface [] s _ (Sh.new w _) hs (by simp) (by simp)).mono ?_
  rintro e w1 ⟨rfl, h1, f1⟩
  go_wp2_with (fail)
  refine (string_any _ _ _ _ _ h1 (by simp [quo])).mono ?_
  rintro e w2 ⟨rfl, hb2⟩
  go_wp2_with (fail)
  go_ret
  exact ⟨rfl, (Below.mono ((by repeat (first | exact BW.refl _ | apply BW.alloc | apply BW.drewN | apply BW.drew)) : BW w _) (Nat.le_refl _)).trans (f1.bel.trans hb2)⟩

end Go.Proofs.YtfgnlddfpemblaaDoor
