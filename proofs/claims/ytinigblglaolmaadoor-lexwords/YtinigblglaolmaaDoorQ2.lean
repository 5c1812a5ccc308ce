import Derived.Test.YtinigblglaolmaaDoorL1
import Derived.Lib.ItoaNum
namespace Go.Proofs.YtinigblglaolmaaDoor
open Go.RowKit
set_option linter.unusedVariables false
set_option linter.unusedSimpArgs false

theorem conv_one (W : World) (g : Nat) (c : UInt8) (h : W.cell? ⟨g, 0, none⟩ = some (.int .u8 c.toNat)) : (convert 52 9 (.slice (some ⟨g, 0, none⟩) 1 1)).run Tryd.prog W = .ok (.string ⟨#[c]⟩) W := by
  refine run_convert_bytes_back W 52 9 5 ⟨g, 0, none⟩ 1 [c] Tryd.underlying52 Tryd.underlying5 Tryd.underlying9 ?_
  intro j hj
  have : j = 0 := by simpa using hj
  subst this
  simpa [Addr.add] using h
theorem byte48 (n : Int) (h0 : 0 ≤ n) (h : n < 10) : (48 + n : Int) = ((UInt8.ofNat (48 + n.toNat)).toNat : Int) := by
  rw [UInt8.toNat_ofNat']; omega
set_option maxRecDepth 100000 in
set_option maxHeartbeats 1000000 in
theorem digits_one (n : Int) (h0 : 0 ≤ n) (h : n < 10) (w : World) : Calls Tryd.prog 26 #[.int .u64 n] w fun e w' => e = .returned (.string ⟨#[UInt8.ofNat (48 + n.toNat)]⟩) ∧ BW w w' := by
  have w1 : IntKind.u8.wrap n = n := u8w n h0 (by omega)
  have w2 : IntKind.u8.wrap (48 + n) = 48 + n := u8w _ (by omega) (by omega)
  have hconv : ∀ (W : World) (g : Nat), W.cell? ⟨g, 0, none⟩ = some (.int .u8 (48 + n)) → (convert 52 9 (.slice (some ⟨g, 0, none⟩) 1 1)).run Tryd.prog W = .ok (.string ⟨#[UInt8.ofNat (48 + n.toNat)]⟩) W := fun W g hc => conv_one W g _ (by rw [← byte48 n h0 (by omega)]; exact hc)
  generalize UInt8.ofNat (48 + n.toNat) = c at *
  go_enter Tryd.func26, Tryd.ntmps26
  go_wp2_with (fail)
  go_ret
  exact ⟨rfl, (by repeat (first | exact BW.refl _ | assumption | apply BW.alloc | apply BW.drewN | apply BW.drew | (refine BW.setCell ?_ (by first | omega | (simp; done) | (simp; omega)) _) | (refine BW.trans ?_ (by assumption))))⟩
set_option maxRecDepth 100000 in
set_option maxHeartbeats 1000000 in
theorem digits_more (n : Int) (h : ¬ n < 10) (h1 : n ≤ 18446744073709551615) (q : ByteArray) (hqs : q.size ≤ 100) (w : World) (hq : ∀ w1, BW w w1 → Calls Tryd.prog 26 #[.int .u64 (n / 10)] w1 fun e w' => e = .returned (.string q) ∧ BW w1 w') : Calls Tryd.prog 26 #[.int .u64 n] w fun e w' => e = .returned (.string (q ++ ⟨#[UInt8.ofNat (48 + (n % 10).toNat)]⟩)) ∧ BW w w' := by
  have hq' : Hid _ := hq
  clear hq
  have t1 : n.tdiv 10 = n / 10 := Int.tdiv_eq_ediv_of_nonneg (by omega)
  have t2 : n.tmod 10 = n % 10 := Int.tmod_eq_emod_of_nonneg (by omega)
  have t3 : IntKind.u64.wrap (n / 10) = n / 10 := u64w _ (by omega) (by omega)
  have t4 : IntKind.u8.wrap (n % 10) = n % 10 := u8w _ (by omega) (by omega)
  have t5 : IntKind.u8.wrap (48 + n % 10) = 48 + n % 10 := u8w _ (by omega) (by omega)
  have e1 := byte48 (n % 10) (by omega) (by omega)
  have hconv : ∀ (W : World) (g : Nat), W.cell? ⟨g, 0, none⟩ = some (.int .u8 (48 + n % 10)) → (convert 52 9 (.slice (some ⟨g, 0, none⟩) 1 1)).run Tryd.prog W = .ok (.string ⟨#[UInt8.ofNat (48 + (n % 10).toNat)]⟩) W := fun W g hc => conv_one W g _ (by rw [← e1]; exact hc)
  clear e1
  generalize UInt8.ofNat (48 + (n % 10).toNat) = c at *
  generalize n % 10 = m at *
  generalize n / 10 = k at *
  go_enter Tryd.func26, Tryd.ntmps26
  go_wp2_with (fail)
  go_region_with (first | (go_at_call 26; refine (hq'.out _ (by repeat (first | exact BW.refl _ | apply BW.alloc | apply BW.drewN | apply BW.drew))).mono ?_; rintro e w1 ⟨rfl, hb1⟩; have hz := hb1.size; (try simp at hz); (try have q0 := fun o => hb1.cells w.heap.size o (by first | omega | (simp; done) | (simp; omega)))))
  all_goals
    go_wp2_with (fail)
    go_ret
    exact ⟨rfl, by first | exact (BW.trans (by repeat (first | exact BW.refl _ | apply BW.alloc | apply BW.drewN | apply BW.drew)) hb1) | exact BW.trans (BW.trans (by repeat (first | exact BW.refl _ | apply BW.alloc | apply BW.drewN | apply BW.drew)) hb1) (by repeat (first | exact BW.refl _ | apply BW.alloc | apply BW.drewN | apply BW.drew))⟩
theorem dec_len : ∀ (k u : Nat), u < 10 ^ (k + 1) → (Lib.decDigits u).length ≤ k + 1 := by
  intro k
  induction k with
  | zero => intro u h; rw [Lib.decDigits, dif_pos (by simpa using h)]; simp
  | succ k ih =>
    intro u h
    rw [Lib.decDigits]
    split
    · simp
    · have := ih (u / 10) (by rw [Nat.pow_succ] at h; omega)
      simp; omega
theorem dec_size (u : Nat) (h : u ≤ 18446744073709551615) : (⟨(Lib.decDigits u).toArray⟩ : ByteArray).size ≤ 100 := by
  have := dec_len 19 u (by omega)
  show (Lib.decDigits u).toArray.size ≤ 100
  rw [List.size_toArray]; omega
theorem digits_any : ∀ (u : Nat), u ≤ 18446744073709551615 → ∀ (w : World), Calls Tryd.prog 26 #[.int .u64 u] w fun e w' => e = .returned (.string ⟨(Lib.decDigits u).toArray⟩) ∧ BW w w' := by
  intro u
  induction u using Nat.strongRecOn with
  | _ u ih =>
    intro hu w
    rw [Lib.decDigits]
    by_cases h : u < 10
    · rw [dif_pos h]
      have := digits_one (u : Int) (by omega) (by omega) w
      simpa using this
    · rw [dif_neg h]
      have := digits_more (u : Int) (by omega) (by omega) ⟨(Lib.decDigits (u / 10)).toArray⟩ (dec_size _ (by omega)) w (fun w1 _ => by
        have := ih (u / 10) (by omega) (by omega) w1
        simpa using this)
      have e : (⟨(Lib.decDigits (u / 10)).toArray⟩ ++ ⟨#[UInt8.ofNat (48 + ((u : Int) % 10).toNat)]⟩ : ByteArray) = ⟨(Lib.decDigits (u / 10) ++ [UInt8.ofNat (48 + u % 10)]).toArray⟩ := by
        have : ((u : Int) % 10).toNat = u % 10 := by omega
        rw [this]
        apply ByteArray.ext
        simp [ByteArray.data_append]
      rw [e] at this
      exact this
set_option maxRecDepth 100000 in
set_option maxHeartbeats 1000000 in
theorem number_neg (n : Int) (h0 : -9223372036854775808 ≤ n) (h : n < 0) (q : ByteArray) (hqs : q.size ≤ 100) (w : World) (hq : ∀ w1, BW w w1 → Calls Tryd.prog 26 #[.int .u64 (-n)] w1 fun e w' => e = .returned (.string q) ∧ BW w1 w') :
    Calls Tryd.prog 15 #[.int .i64 n] w fun e w' => e = .returned (.string (⟨#[45]⟩ ++ q)) ∧ BW w w' := by
  have hq' : Hid _ := hq
  clear hq
  have t1 : IntKind.i64.wrap (n + 1) = n + 1 := i64w _ (by omega) (by omega)
  have t2 : IntKind.i64.wrap (-(n + 1)) = -(n + 1) := i64w _ (by omega) (by omega)
  have t3 : IntKind.u64.wrap (-(n + 1)) = -(n + 1) := u64w _ (by omega) (by omega)
  have t4 : IntKind.u64.wrap (-(n + 1) + 1) = -n := by rw [u64w _ (by omega) (by omega)]; omega
  go_enter Tryd.func15, Tryd.ntmps15
  go_wp2_with (fail)
  refine (hq'.out _ (by repeat (first | exact BW.refl _ | apply BW.alloc | apply BW.drewN | apply BW.drew))).mono ?_
  rintro e w1 ⟨rfl, hb1⟩
  go_wp2_with (fail)
  go_ret
  exact ⟨rfl, BW.trans (by repeat (first | exact BW.refl _ | apply BW.alloc | apply BW.drewN | apply BW.drew)) hb1⟩
set_option maxRecDepth 100000 in
set_option maxHeartbeats 1000000 in
theorem number_pos (n : Int) (h : ¬ n < 0) (h1 : n ≤ 9223372036854775807) (q : ByteArray) (w : World) (hq : ∀ w1, BW w w1 → Calls Tryd.prog 26 #[.int .u64 n] w1 fun e w' => e = .returned (.string q) ∧ BW w1 w') :
    Calls Tryd.prog 15 #[.int .i64 n] w fun e w' => e = .returned (.string q) ∧ BW w w' := by
  have hq' : Hid _ := hq
  clear hq
  have t3 : IntKind.u64.wrap n = n := u64w _ (by omega) (by omega)
  go_enter Tryd.func15, Tryd.ntmps15
  go_wp2_with (fail)
  refine (hq'.out _ (by repeat (first | exact BW.refl _ | apply BW.alloc | apply BW.drewN | apply BW.drew))).mono ?_
  rintro e w1 ⟨rfl, hb1⟩
  go_wp2_with (fail)
  go_ret
  exact ⟨rfl, BW.trans (by repeat (first | exact BW.refl _ | apply BW.alloc | apply BW.drewN | apply BW.drew)) hb1⟩
theorem number_any (n : Int) (h0 : -9223372036854775808 ≤ n) (h1 : n ≤ 9223372036854775807) (w : World) : Calls Tryd.prog 15 #[.int .i64 n] w fun e w' => e = .returned (.string ⟨(Lib.itoa n).toArray⟩) ∧ BW w w' := by
  unfold Lib.itoa
  by_cases h : n < 0
  · rw [if_pos h]
    have := number_neg n h0 h ⟨(Lib.decDigits n.natAbs).toArray⟩ (dec_size _ (by omega)) w (fun w1 _ => by
      have e : (-n : Int) = (n.natAbs : Int) := by omega
      rw [e]
      exact digits_any n.natAbs (by omega) w1)
    have e : (⟨#[45]⟩ ++ ⟨(Lib.decDigits n.natAbs).toArray⟩ : ByteArray) = ⟨(45 :: Lib.decDigits n.natAbs).toArray⟩ := by
      apply ByteArray.ext
      simp [ByteArray.data_append]
    rw [e] at this
    exact this
  · rw [if_neg h]
    exact number_pos n h h1 _ w (fun w1 _ => by
      have e : (n : Int) = (n.toNat : Int) := by omega
      have := digits_any n.toNat (by omega) w1
      rw [← e] at this
      exact this)
theorem dec_last (u : Nat) : ∃ l, Lib.decDigits u = l ++ [UInt8.ofNat (48 + u % 10)] := by
  rw [Lib.decDigits]
  split
  · exact ⟨[], by rw [Nat.mod_eq_of_lt (by assumption)]; rfl⟩
  · exact ⟨_, rfl⟩
theorem b48 (a b : Nat) (ha : a < 10) (hb : b < 10) (h : UInt8.ofNat (48 + a) = UInt8.ofNat (48 + b)) : a = b := by
  have := congrArg UInt8.toNat h
  rw [UInt8.toNat_ofNat', UInt8.toNat_ofNat'] at this
  omega
theorem dec_ne (u : Nat) : Lib.decDigits u ≠ [] := by
  obtain ⟨l, e⟩ := dec_last u
  rw [e]; simp
theorem dec_inj : ∀ (a b : Nat), Lib.decDigits a = Lib.decDigits b → a = b := by
  intro a
  induction a using Nat.strongRecOn with
  | _ a ih =>
    intro b h
    rw [Lib.decDigits, Lib.decDigits.eq_def b] at h
    by_cases h1 : a < 10
    · rw [dif_pos h1] at h
      by_cases h2 : b < 10
      · rw [dif_pos h2] at h
        exact b48 a b h1 h2 (by simpa using h)
      · rw [dif_neg h2] at h
        have q1 := congrArg List.length h
        have q2 : (Lib.decDigits (b / 10)).length ≠ 0 := by simpa using dec_ne (b / 10)
        simp only [List.length_append, List.length_cons, List.length_nil] at q1
        omega
    · rw [dif_neg h1] at h
      by_cases h2 : b < 10
      · rw [dif_pos h2] at h
        have q1 := congrArg List.length h
        have q2 : (Lib.decDigits (a / 10)).length ≠ 0 := by simpa using dec_ne (a / 10)
        simp only [List.length_append, List.length_cons, List.length_nil] at q1
        omega
      · rw [dif_neg h2] at h
        obtain ⟨e1, e2⟩ := List.append_inj' h rfl
        have q1 := ih (a / 10) (by omega) (b / 10) e1
        have q2 := b48 (a % 10) (b % 10) (by omega) (by omega) (by simpa using e2)
        omega
theorem dec_no45 (u : Nat) : (45 : UInt8) ∉ Lib.decDigits u := by
  induction u using Nat.strongRecOn with
  | _ u ih =>
    have hb : ∀ m, m < 10 → (45 : UInt8) ≠ UInt8.ofNat (48 + m) := by
      intro m hm e
      have := congrArg UInt8.toNat e
      rw [UInt8.toNat_ofNat'] at this
      have e45 : (45 : UInt8).toNat = 45 := rfl
      omega
    rw [Lib.decDigits]
    split
    · rename_i h; simpa using hb u h
    · rename_i h
      intro hm
      rcases List.mem_append.1 hm with hm | hm
      · exact ih (u / 10) (by omega) hm
      · exact hb (u % 10) (by omega) (by simpa using hm)
theorem itoa_inj (a b : Int) (h : Lib.itoa a = Lib.itoa b) : a = b := by
  unfold Lib.itoa at h
  split at h
  · split at h
    · have := dec_inj _ _ (by simpa using h); omega
    · exact absurd (h ▸ List.mem_cons_self) (dec_no45 _)
  · split at h
    · exact absurd (h ▸ List.mem_cons_self) (dec_no45 _)
    · have := dec_inj _ _ h; omega

end Go.Proofs.YtinigblglaolmaaDoor
