import Derived.Test.YtgiehpcmijaomaaB6
namespace Go.Proofs.Ytgiehpcmijaomaa
open Go.RowKit
set_option linter.unusedVariables false
set_option linter.unusedSimpArgs false
theorem nohas_nil (tag t m : Int) (s : ByteArray) (w : World) : NoHas (.pointer none) tag t m s w := fun w1 _ => has_nil tag t m s w1
theorem thing_nil (t m : Int) (s : ByteArray) (w : World) : Calls Try.prog 18 #[.pointer none, V t m s] w fun e w' => e = .returned (.tuple #[.int .i64 0, .int .i64 2]) ∧ BW w w' := by
  by_cases h6 : t = 6
  · exact thing_no _ t m s (.inl h6) w (nohas_nil _ _ _ _ _)
  · by_cases h7 : t = 7
    · exact thing_no _ t m s (.inr h7) w (nohas_nil _ _ _ _ _)
    · exact thing_tag _ t m s (by simpa using h6) (by simpa using h7) w
set_option maxRecDepth 100000 in
set_option maxHeartbeats 1000000 in
theorem at_empty (ao : Option Addr) (c : Nat) (t m : Int) (s : ByteArray) (w : World) :
    Calls Try.prog 21 #[.slice ao 0 c, V t m s] w fun e w' => e = .returned (.tuple #[.agg #[.int .u8 0, .int .u8 0, .int .i64 0, .string ⟨#[]⟩, .int .u8 0, .int .i64 0, .string ⟨#[]⟩, .int .i64 0], .bool false]) ∧ BW w w' := by
  by_cases hm : m < 0
  · have hd : decide (m < 0) = true := by simpa using hm
    go_enter Try.func21, Try.ntmps21
    go_wp2
    exact bodyPost_ret (v := .tuple #[.agg #[.int .u8 0, .int .u8 0, .int .i64 0, .string ⟨#[]⟩, .int .u8 0, .int .i64 0, .string ⟨#[]⟩, .int .i64 0], .bool false]) (by simp [results, Try.results21, go_sem, *]) rfl ⟨rfl, (by repeat (first | exact BW.refl _ | assumption | apply BW.alloc | apply BW.drewN | apply BW.drew | (refine BW.setCell ?_ (by first | omega | (simp; done) | (simp; omega)) _) | (refine BW.trans ?_ (by assumption))))⟩
  · have hd : decide (m < 0) = false := by simpa using hm
    have hm' : 0 ≤ m := by omega
    go_enter Try.func21, Try.ntmps21
    go_wp2
    exact bodyPost_ret (v := .tuple #[.agg #[.int .u8 0, .int .u8 0, .int .i64 0, .string ⟨#[]⟩, .int .u8 0, .int .i64 0, .string ⟨#[]⟩, .int .i64 0], .bool false]) (by simp [results, Try.results21, go_sem, *]) rfl ⟨rfl, (by repeat (first | exact BW.refl _ | assumption | apply BW.alloc | apply BW.drewN | apply BW.drew | (refine BW.setCell ?_ (by first | omega | (simp; done) | (simp; omega)) _) | (refine BW.trans ?_ (by assumption))))⟩
set_option maxRecDepth 100000 in
set_option maxHeartbeats 4000000 in
theorem asks_nil (ao : Option Addr) (c : Nat) (t m : Int) (s : ByteArray) (w : World) :
    Calls Try.prog 13 #[.pointer none, .slice ao 0 c, V t m s] w fun e w' => e = .returned (.bool true) ∧ BW w w' := by
  go_enter Try.func13, Try.ntmps13
  go_wp2_with (first | (go_at_call 21; refine (at_empty _ _ _ _ _ _).mono ?_; rintro e v1 ⟨rfl, hb0⟩; have hz0 := hb0.size; (try simp at hz0); have q00 := fun o => hb0.cells (w.heap.size) o (by first | omega | (simp; done) | (simp; omega)); have l00 : w.heap.size < v1.heap.size := (by first | omega | (simp; done) | (simp; omega))) | (go_at_call 16; refine (fst_no _ _ _ _ _ (nohas_nil _ _ _ _ _)).mono ?_; rintro e v2 ⟨rfl, hb1⟩; have hz1 := hb1.size; (try simp at hz1); have q10 := fun o => hb1.cells (w.heap.size) o (by first | omega | (simp; done) | (simp; omega)); have q11 := fun o => hb1.cells (v1.heap.size) o (by first | omega | (simp; done) | (simp; omega)); have l10 : w.heap.size < v2.heap.size := (by first | omega | (simp; done) | (simp; omega)); have l11 : v1.heap.size < v2.heap.size := (by first | omega | (simp; done) | (simp; omega))) | (go_at_call 17; refine (snd_no _ _ _ _ _ (nohas_nil _ _ _ _ _)).mono ?_; rintro e v3 ⟨rfl, hb2⟩; have hz2 := hb2.size; (try simp at hz2); have q20 := fun o => hb2.cells (w.heap.size) o (by first | omega | (simp; done) | (simp; omega)); have q21 := fun o => hb2.cells (v1.heap.size) o (by first | omega | (simp; done) | (simp; omega)); have q22 := fun o => hb2.cells (v2.heap.size) o (by first | omega | (simp; done) | (simp; omega)); have l20 : w.heap.size < v3.heap.size := (by first | omega | (simp; done) | (simp; omega)); have l21 : v1.heap.size < v3.heap.size := (by first | omega | (simp; done) | (simp; omega)); have l22 : v2.heap.size < v3.heap.size := (by first | omega | (simp; done) | (simp; omega))) | (go_at_call 15; refine (get_no _ _ _ _ _ (nohas_nil _ _ _ _ _)).mono ?_; rintro e v4 ⟨rfl, hb3⟩; have hz3 := hb3.size; (try simp at hz3); have q30 := fun o => hb3.cells (w.heap.size) o (by first | omega | (simp; done) | (simp; omega)); have q31 := fun o => hb3.cells (v1.heap.size) o (by first | omega | (simp; done) | (simp; omega)); have q32 := fun o => hb3.cells (v2.heap.size) o (by first | omega | (simp; done) | (simp; omega)); have q33 := fun o => hb3.cells (v3.heap.size) o (by first | omega | (simp; done) | (simp; omega)); have l30 : w.heap.size < v4.heap.size := (by first | omega | (simp; done) | (simp; omega)); have l31 : v1.heap.size < v4.heap.size := (by first | omega | (simp; done) | (simp; omega)); have l32 : v2.heap.size < v4.heap.size := (by first | omega | (simp; done) | (simp; omega)); have l33 : v3.heap.size < v4.heap.size := (by first | omega | (simp; done) | (simp; omega))) | (go_at_call 18; refine (thing_nil _ _ _ _).mono ?_; rintro e v5 ⟨rfl, hb4⟩; have hz4 := hb4.size; (try simp at hz4); have q40 := fun o => hb4.cells (w.heap.size) o (by first | omega | (simp; done) | (simp; omega)); have q41 := fun o => hb4.cells (v1.heap.size) o (by first | omega | (simp; done) | (simp; omega)); have q42 := fun o => hb4.cells (v2.heap.size) o (by first | omega | (simp; done) | (simp; omega)); have q43 := fun o => hb4.cells (v3.heap.size) o (by first | omega | (simp; done) | (simp; omega)); have q44 := fun o => hb4.cells (v4.heap.size) o (by first | omega | (simp; done) | (simp; omega)); have l40 : w.heap.size < v5.heap.size := (by first | omega | (simp; done) | (simp; omega)); have l41 : v1.heap.size < v5.heap.size := (by first | omega | (simp; done) | (simp; omega)); have l42 : v2.heap.size < v5.heap.size := (by first | omega | (simp; done) | (simp; omega)); have l43 : v3.heap.size < v5.heap.size := (by first | omega | (simp; done) | (simp; omega)); have l44 : v4.heap.size < v5.heap.size := (by first | omega | (simp; done) | (simp; omega))))
  go_ret
  exact ⟨rfl, (by repeat (first | exact BW.refl _ | assumption | apply BW.alloc | apply BW.drewN | apply BW.drew | (refine BW.setCell ?_ (by first | omega | (simp; done) | (simp; omega)) _) | (refine BW.trans ?_ (by assumption))))⟩
end Go.Proofs.Ytgiehpcmijaomaa
