import Derived.Test.YtfgnlddfpemblaaDoorS7
namespace Go.Proofs.YtfgnlddfpemblaaDoor
open Go.RowKit
set_option linter.unusedVariables false
set_option linter.unusedSimpArgs false

theorem fine1 : Fine ⟨1, 1, ⟨#[]⟩⟩ := ⟨by decide, by decide, by decide, by decide, by decide⟩
theorem fine2 : Fine ⟨2, 1, ⟨#[]⟩⟩ := ⟨by decide, by decide, by decide, by decide, by decide⟩
theorem fine4 (n : Nat) (h : n ≤ 1048576) : Fine ⟨4, n, ⟨#[]⟩⟩ := ⟨by show (0 : Int) ≤ 4; omega, by show (4 : Int) ≤ 7; omega, by show _ ≤ (n : Int); omega, by show (n : Int) ≤ _; omega, by show (0 : Nat) ≤ 1000; omega⟩
theorem awake_show (b base : Nat) (lim : Int) (w : World) (H : HeapIs w base b lim 1 (thing 4 1 1 ⟨#[]⟩ 2 1 ⟨#[]⟩ 0)) (ht : Tab w) :
    Calls Tryd.prog 12 #[.iface 26 (.pointer (some ⟨b, 0, none⟩)), V 4 0 ⟨#[]⟩] w fun e w' => e = .returned (.string ⟨#[40, 49, 32, 46, 32, 116, 114, 117, 101, 41]⟩) ∧ BW w w' := by
  have hl : Look w.heap.size (.iface 26 (.pointer (some ⟨b, 0, none⟩))) (look [(⟨1, 1, ⟨#[]⟩⟩, ⟨2, 1, ⟨#[]⟩⟩)]) w := Look.heap (ps := [(⟨1, 1, ⟨#[]⟩⟩, ⟨2, 1, ⟨#[]⟩⟩)]) H (by decide)
  refine (show_any _ _ (look_fine (by intro p hp; simp at hp; subst hp; exact ⟨fine1, fine2⟩)) ⟨4, 0, ⟨#[]⟩⟩ (fine4 0 (by omega)) w hl ht).mono ?_
  rintro e w' ⟨rfl, hb⟩
  rw [awake_text]
  exact ⟨rfl, hb⟩
set_option maxRecDepth 100000 in
set_option maxHeartbeats 1000000 in
theorem awake_any (w : World) (ht : Tab w) : Calls Tryd.prog 8 #[] w fun e w' => e = .returned (.bool true) ∧ BW w w' := by
  have hA := ht.lt
  go_enter Tryd.func8, Tryd.ntmps8
  go_wp2_with (fail)
  refine (new_any 5 5 (by decide) _).mono ?_
  rintro e w0 ⟨rfl, rfl⟩
  go_wp2_with (fail)
  refine (pair_room w.heap.size w.heap.size 5 0 [] (by decide) (by decide) 1 1 ⟨#[]⟩ 2 1 ⟨#[]⟩ _ (HeapIs.new w 5)).mono ?_
  rintro e w1 ⟨rfl, H1, F1⟩
  have hb1 : BW w w1 := Below.trans (B := w.heap.size) ((by repeat (first | exact BW.refl _ | apply BW.alloc | apply BW.drewN | apply BW.drew)) : BW w _) F1.bel
  go_wp2_with (fail)
  refine (awake_show _ _ _ _ (H1.bw (by repeat (first | exact BW.refl _ | apply BW.alloc | apply BW.drewN | apply BW.drew))) (ht.bw (hb1.trans (by repeat (first | exact BW.refl _ | apply BW.alloc | apply BW.drewN | apply BW.drew))))).mono ?_
  rintro e w2 ⟨rfl, hb2⟩
  go_wp2_with (fail)
  go_ret
  exact ⟨rfl, hb1.trans (BW.trans (by repeat (first | exact BW.refl _ | apply BW.alloc | apply BW.drewN | apply BW.drew)) hb2)⟩

end Go.Proofs.YtfgnlddfpemblaaDoor
