import Derived.Test.YtfgnlddfpemblaaDoorS8
import Derived.Test.YtfgnlddfpemblaaDoorS9
namespace Go.Proofs.YtfgnlddfpemblaaDoor
open Go.RowKit
set_option linter.unusedVariables false
set_option linter.unusedSimpArgs false

/-- A number, shown over no pairs. -/
theorem show_int (a : Int) (h0 : -9223372036854775808 ≤ a) (h1 : a ≤ 9223372036854775807) (w : World) (ht : Tab w) : Calls Tryd.prog 12 #[.nilIface, V 1 a ⟨#[]⟩] w fun e w' => e = .returned (.string ⟨(Lib.itoa a).toArray⟩) ∧ BW w w' := by
  have := show_any .nilIface (fun _ => none) (fun _ _ _ h => by cases h) ⟨1, a, ⟨#[]⟩⟩ ⟨by show (0 : Int) ≤ 1; omega, by show (1 : Int) ≤ 7; omega, h0, h1, by show (0 : Nat) ≤ 1000; omega⟩ w (Look.none _ _) ht
  have e : sho (fun _ => none) 6 ⟨1, a, ⟨#[]⟩⟩ = Lib.itoa a := by simp [sho, flat]
  rw [e] at this
  exact this
set_option maxRecDepth 100000 in
set_option maxHeartbeats 1000000 in
theorem showInts_same (a : Int) (h0 : -9223372036854775808 ≤ a) (h1 : a ≤ 9223372036854775807) (w : World) (ht : Tab w) : Calls Tryd.prog 5 #[.int .i64 a, .int .i64 a] w fun e w' => e = .returned (.bool true) ∧ BW w w' := by
  have hs : Hid (∀ w1, BW w w1 → Calls Tryd.prog 12 #[.nilIface, V 1 a ⟨#[]⟩] w1 fun e w' => e = .returned (.string ⟨(Lib.itoa a).toArray⟩) ∧ BW w1 w') := fun w1 hb => show_int a h0 h1 w1 (ht.bw hb)
  have hn : Hid (∀ w1, Calls Tryd.prog 16 #[.int .i64 a] w1 fun e w' => e = .returned (.string ⟨(Lib.itoa a).toArray⟩) ∧ BW w1 w') := fun w1 => number_any a h0 h1 w1
  generalize (⟨(Lib.itoa a).toArray⟩ : ByteArray) = x at *
  go_enter Tryd.func5, Tryd.ntmps5
  go_wp2_with (fail)
  refine (hs.out _ (by repeat (first | exact BW.refl _ | apply BW.alloc | apply BW.drewN | apply BW.drew))).mono ?_
  rintro e w1 ⟨rfl, hb1⟩
  go_wp2_with (fail)
  refine (hs.out _ (BW.trans (by repeat (first | exact BW.refl _ | apply BW.alloc | apply BW.drewN | apply BW.drew)) hb1)).mono ?_
  rintro e w2 ⟨rfl, hb2⟩
  have hb := hb1.trans hb2
  clear hb1 hb2
  go_wp2_with (fail)
  refine (hn.out _).mono ?_
  rintro e w3 ⟨rfl, hb3⟩
  replace hb := hb.trans hb3
  clear hb3
  go_wp2_with (fail)
  refine (awake_any _ (ht.bw hb)).mono ?_
  rintro e w4 ⟨rfl, hb4⟩
  go_wp2_with (fail)
  go_ret
  exact ⟨rfl, hb.trans hb4⟩
set_option maxRecDepth 100000 in
set_option maxHeartbeats 1000000 in
theorem showInts_other (a b : Int) (h0 : -9223372036854775808 ≤ a) (h1 : a ≤ 9223372036854775807) (k0 : -9223372036854775808 ≤ b) (k1 : b ≤ 9223372036854775807) (hab : ¬ a = b) (w : World) (ht : Tab w) : Calls Tryd.prog 5 #[.int .i64 a, .int .i64 b] w fun e w' => e = .returned (.bool true) ∧ BW w w' := by
  have hs : Hid (∀ w1, BW w w1 → Calls Tryd.prog 12 #[.nilIface, V 1 a ⟨#[]⟩] w1 fun e w' => e = .returned (.string ⟨(Lib.itoa a).toArray⟩) ∧ BW w1 w') := fun w1 hb => show_int a h0 h1 w1 (ht.bw hb)
  have hs2 : Hid (∀ w1, BW w w1 → Calls Tryd.prog 12 #[.nilIface, V 1 b ⟨#[]⟩] w1 fun e w' => e = .returned (.string ⟨(Lib.itoa b).toArray⟩) ∧ BW w1 w') := fun w1 hb => show_int b k0 k1 w1 (ht.bw hb)
  have hn : Hid (∀ w1, Calls Tryd.prog 16 #[.int .i64 a] w1 fun e w' => e = .returned (.string ⟨(Lib.itoa a).toArray⟩) ∧ BW w1 w') := fun w1 => number_any a h0 h1 w1
  have hxy : ¬ (⟨(Lib.itoa a).toArray⟩ : ByteArray) = ⟨(Lib.itoa b).toArray⟩ := by
    intro e; exact hab (itoa_inj a b (by simpa using e))
  have hab2 : (a == b) = false := by simpa using hab
  generalize (⟨(Lib.itoa a).toArray⟩ : ByteArray) = x at *
  generalize (⟨(Lib.itoa b).toArray⟩ : ByteArray) = y at *
  have hxy3 : ¬ x.toList = y.toList := by
    intro k
    rw [ByteArray.toList_eq, ByteArray.toList_eq] at k
    exact hxy (ByteArray.ext (by simpa using k))
  have hxy4 : (x.toList == y.toList) = false := by simpa using hxy3
  go_enter Tryd.func5, Tryd.ntmps5
  go_wp2_with (fail)
  refine (hs.out _ (by repeat (first | exact BW.refl _ | apply BW.alloc | apply BW.drewN | apply BW.drew))).mono ?_
  rintro e w1 ⟨rfl, hb1⟩
  go_wp2_with (fail)
  refine (hs2.out _ (BW.trans (by repeat (first | exact BW.refl _ | apply BW.alloc | apply BW.drewN | apply BW.drew)) hb1)).mono ?_
  rintro e w2 ⟨rfl, hb2⟩
  have hb := hb1.trans hb2
  clear hb1 hb2
  go_wp2_with (fail)
  refine (hn.out _).mono ?_
  rintro e w3 ⟨rfl, hb3⟩
  replace hb := hb.trans hb3
  clear hb3
  go_wp2_with (fail)
  refine (awake_any _ (ht.bw hb)).mono ?_
  rintro e w4 ⟨rfl, hb4⟩
  go_wp2_with (fail)
  go_ret
  exact ⟨rfl, hb.trans hb4⟩
theorem showInts_any (a b : Int) (h0 : -9223372036854775808 ≤ a) (h1 : a ≤ 9223372036854775807) (k0 : -9223372036854775808 ≤ b) (k1 : b ≤ 9223372036854775807) (w : World) (ht : Tab w) : Calls Tryd.prog 5 #[.int .i64 a, .int .i64 b] w fun e w' => e = .returned (.bool true) ∧ BW w w' := by
  by_cases h : a = b
  · subst h; exact showInts_same a h0 h1 w ht
  · exact showInts_other a b h0 h1 k0 k1 h w ht

end Go.Proofs.YtfgnlddfpemblaaDoor
