import Derived.Test.YtlacjiihbbgbeaaDoorN1
import Derived.Deep.DeepCutAuto
namespace Go.Proofs.YtlacjiihbbgbeaaDoor
open Go.RowKit
set_option linter.unusedVariables false
set_option linter.unusedSimpArgs false

theorem slice_one (b off ln cp : Nat) (h1 : 1 ≤ ln) (h2 : ln ≤ cp) (h3 : cp ≤ 9223372036854775807) (w : World) : (Instr.slice 32 (.slice (some ⟨b, off, none⟩) ln cp) (some (.int .i64 1)) none none).run Tryd.prog w = .ok (.slice (some ⟨b, if cp = 1 then off else off + 4, none⟩) (ln - 1) (cp - 1)) w := by
  rw [run_slice_l w 32 (some ⟨b, off, none⟩) ln cp (by kernel_rfl) .i64 1 (by omega) (by omega)]
  have hs : (sizeOf (Tryd.prog.elem 32)).run Tryd.prog w = .ok 4 w := by kernel_rfl
  rw [hs]
  simp only [Result.andThen, sliced]
  by_cases hc : cp = 1
  · subst hc
    simp
  · rw [if_neg (by simp; omega)]
    simp [hc, Addr.add_mid]
theorem slice_next (b off n cp : Nat) (h2 : n + 1 ≤ cp) (h3 : cp ≤ 9223372036854775807) : ∃ o2, (¬ n = 0 → o2 = off + 4) ∧ ∀ w : World, (Instr.slice 32 (.slice (some ⟨b, off, none⟩) (n + 1) cp) (some (.int .i64 1)) none none).run Tryd.prog w = .ok (.slice (some ⟨b, o2, none⟩) n (cp - 1)) w :=
  ⟨if cp = 1 then off else off + 4, fun hn => if_neg (by omega), fun w => slice_one b off (n + 1) cp (by omega) h2 h3 w⟩
theorem TokC.of {w w' : World} {N b o : Nat} {t : Tok} (F : ∀ o, w'.cell? ⟨b, o, none⟩ = w.cell? ⟨b, o, none⟩) (h : TokC w N b o t) : TokC w' N b o t := ⟨(F _).trans h.1, (F _).trans h.2.1, (F _).trans h.2.2.1, (F _).trans h.2.2.2⟩
theorem Fl.set4 {lb g : Nat} {W w : World} {a c d e : Value} (h : Fl lb W w) (hg : W.heap.size ≤ g) : Fl lb W ((((w.setCell ⟨g, 0, none⟩ a).setCell ⟨g, 1, none⟩ c).setCell ⟨g, 2, none⟩ d).setCell ⟨g, 3, none⟩ e) :=
  (((h.setC g 0 (.inl hg) a).setC g 1 (.inl hg) c).setC g 2 (.inl hg) d).setC g 3 (.inl hg) e
set_option maxRecDepth 100000 in
set_option maxHeartbeats 1000000 in
theorem peek_nil (rb B N g : Nat) (w : World) (h : RdP rb B N ([], g) w) : Calls Tryd.prog 27 #[.pointer (some ⟨rb, 0, none⟩)] w fun e w' => e = .panicked (thrP N (11, 0)) ∧ BW w w' := by
  obtain ⟨⟨ao, cp, h1, h2, c0⟩, c1⟩ := h.cellsR
  have hlt := h.lt
  have hn : ¬ rb = w.heap.size := by omega
  have hn' : ¬ w.heap.size = rb := by omega
  simp only [List.length_nil] at c0
  clear h
  go_enter Tryd.func27, Tryd.ntmps27
  go_wp2_with (fail)
  exact ⟨rfl, rfl, (by repeat (first | exact BW.refl _ | assumption | apply BW.alloc | apply BW.drewN | apply BW.drew | (refine BW.setCell ?_ (by first | omega | (simp; done) | (simp; omega)) _) | (refine BW.trans ?_ (by assumption))))⟩
set_option maxRecDepth 100000 in
set_option maxHeartbeats 1000000 in
theorem peek_cons (rb B N g : Nat) (t : Tok) (r : List Tok) (w : World) (h : RdP rb B N (t :: r, g) w) : Calls Tryd.prog 27 #[.pointer (some ⟨rb, 0, none⟩)] w fun e w' => e = .returned (tv N t) ∧ BW w w' := by
  obtain ⟨b, off, cp, q1, q2, hb, ⟨t0, t1, t2, t3⟩, ok, nb, hbl, _⟩ := h.head
  have hlt := h.lt
  have hn : ¬ rb = w.heap.size := by omega
  have hn' : ¬ w.heap.size = rb := by omega
  have hB2 := h.2.2.2.2.1
  have hblw : b < w.heap.size := by omega
  have hm : ¬ b = w.heap.size := by omega
  have hm' : ¬ w.heap.size = b := by omega
  have d0 : w.cell? ⟨rb, 0, none⟩ = some (.slice (some ⟨b, off, none⟩) (r.length + 1) cp) := by rw [Lib.cell_of_heap hb]; rfl
  have e1 : (((r.length : Int) + 1) == 0) = false := by simp; omega
  unfold sv at t1
  clear h hb
  go_enter Tryd.func27, Tryd.ntmps27
  go_wp2_with (fail)
  exact end_tok Tryd.func27 2 rfl rfl (heap_alloc_new _ _) ⟨rfl, (by repeat (first | exact BW.refl _ | assumption | apply BW.alloc | apply BW.drewN | apply BW.drew | (refine BW.setCell ?_ (by first | omega | (simp; done) | (simp; omega)) _) | (refine BW.trans ?_ (by assumption))))⟩
set_option maxRecDepth 100000 in
set_option maxHeartbeats 1000000 in
theorem take_nil (rb B N g : Nat) (w : World) (h : RdP rb B N ([], g) w) : Calls Tryd.prog 15 #[.pointer (some ⟨rb, 0, none⟩)] w fun e w' => e = .panicked (thrP N (11, 0)) ∧ BW w w' := by
  have C : Hid (∀ w', BW w w' → Calls Tryd.prog 27 #[.pointer (some ⟨rb, 0, none⟩)] w' fun e w'' => e = .panicked (thrP N (11, 0)) ∧ BW w' w'') := fun w' hb => peek_nil rb B N g w' (h.bw hb)
  clear h
  go_enter Tryd.func15, Tryd.ntmps15
  go_wp2_with (go_at_call 27; refine (C.out _ (by repeat (first | exact BW.refl _ | assumption | apply BW.alloc | apply BW.drewN | apply BW.drew | (refine BW.setCell ?_ (by first | omega | (simp; done) | (simp; omega)) _) | (refine BW.trans ?_ (by assumption))))).mono ?_; rintro e w1 ⟨rfl, b1⟩)
  exact ⟨rfl, rfl, (by repeat (first | exact BW.refl _ | assumption | apply BW.alloc | apply BW.drewN | apply BW.drew | (refine BW.setCell ?_ (by first | omega | (simp; done) | (simp; omega)) _) | (refine BW.trans ?_ (by assumption))))⟩
set_option maxRecDepth 100000 in
set_option maxHeartbeats 1000000 in
theorem take_cons (rb B N g : Nat) (t : Tok) (r : List Tok) (w : World) (h : RdP rb B N (t :: r, g) w) : Calls Tryd.prog 15 #[.pointer (some ⟨rb, 0, none⟩)] w fun e w' => e = .returned (tv N t) ∧ RdP rb B N (r, g) w' ∧ Fl rb w w' := by
  have C : Hid (∀ w', BW w w' → Calls Tryd.prog 27 #[.pointer (some ⟨rb, 0, none⟩)] w' fun e w'' => e = .returned (tv N t) ∧ BW w' w'') := fun w' hb => peek_cons rb B N g t r w' (h.bw hb)
  have HR : Hid (RdP rb B N (t :: r, g) w) := h
  have hlt := h.lt
  unfold tv sv at C
  clear h
  go_enter Tryd.func15, Tryd.ntmps15
  go_wp2_with (fail)
  refine (C.out _ (by repeat (first | exact BW.refl _ | assumption | apply BW.alloc | apply BW.drewN | apply BW.drew | (refine BW.setCell ?_ (by first | omega | (simp; done) | (simp; omega)) _) | (refine BW.trans ?_ (by assumption))))).mono ?_
  rintro e w1 ⟨rfl, b1⟩
  have hb1 : Hid (BW w w1) := BW.trans (BW.alloc (BW.refl _) _) b1
  have hz1 := b1.size
  simp at hz1
  have HG : Hid (w1.heap[w.heap.size]? = _) := (b1.block w.heap.size (by simp)).trans (heap_alloc_new w _)
  obtain ⟨b, off, cp, q1, q2, hb, ⟨t0, t1, t2, t3⟩, ok, nb, hbl, htail⟩ := HR.out.head
  have hB2 := HR.out.2.2.2.2.1
  have hblw : b < w.heap.size := by omega
  have HT : Hid _ := htail
  have HBk : Hid _ := hb
  go_upto_region 2 with fail
  obtain ⟨W, hW⟩ : ∃ W, W = w1.alloc (.cells #[.int .u8 t.kind, .string ⟨t.s.toArray⟩, .int .i64 t.n, .int .i64 ((N - t.back : Nat) : Int)] 50) := ⟨_, rfl⟩
  have bW0 : BW w1 W := by rw [hW]; exact BW.alloc (BW.refl _) _
  have bW : BW w W := BW.trans hb1.out bW0
  have hWz : w1.heap.size < W.heap.size := by rw [hW]; simp
  have d0 : W.cell? ⟨rb, 0, none⟩ = some (.slice (some ⟨b, off, none⟩) (r.length + 1) cp) := by rw [bW.cells rb 0 (by omega), Lib.cell_of_heap hb]; rfl
  have HBW : Hid (W.heap[rb]? = some (.cells #[.slice (some ⟨b, off, none⟩) (r.length + 1) cp, .int .i64 g] 40 (0, 0))) := (bW.block rb (by omega)).trans hb
  have HGW : Hid (W.heap[w.heap.size]? = some (.cells #[.int .u8 0, .string ⟨#[]⟩, .int .i64 0, .int .i64 0] 50 (0, 0))) := (bW0.block w.heap.size (by omega)).trans HG.out
  have z0 : ∀ o, W.frozen? ⟨rb, o, none⟩ = false := fun o => Lib.frozen_of_heap HBW.out o
  have kz : ∀ o, W.frozen? ⟨w.heap.size, o, none⟩ = false := fun o => Lib.frozen_of_heap HGW.out o
  have k0 : W.cell? ⟨w.heap.size, 0, none⟩ = some (.int .u8 0) := by rw [Lib.cell_of_heap HGW.out]; rfl
  have k1 : W.cell? ⟨w.heap.size, 1, none⟩ = some (.string ⟨#[]⟩) := by rw [Lib.cell_of_heap HGW.out]; rfl
  have k2 : W.cell? ⟨w.heap.size, 2, none⟩ = some (.int .i64 0) := by rw [Lib.cell_of_heap HGW.out]; rfl
  have k3 : W.cell? ⟨w.heap.size, 3, none⟩ = some (.int .i64 0) := by rw [Lib.cell_of_heap HGW.out]; rfl
  have x0 : W.cell? ⟨w1.heap.size, 0, none⟩ = some (.int .u8 t.kind) := by rw [hW]; exact cell_new _ _ _ 0
  have x1 : W.cell? ⟨w1.heap.size, 1, none⟩ = some (.string ⟨t.s.toArray⟩) := by rw [hW]; exact cell_new _ _ _ 1
  have x2 : W.cell? ⟨w1.heap.size, 2, none⟩ = some (.int .i64 t.n) := by rw [hW]; exact cell_new _ _ _ 2
  have x3 : W.cell? ⟨w1.heap.size, 3, none⟩ = some (.int .i64 ((N - t.back : Nat) : Int)) := by rw [hW]; exact cell_new _ _ _ 3
  have n1 : ¬ rb = w1.heap.size := by omega
  have n1' : ¬ w1.heap.size = rb := by omega
  have n2 : ¬ w.heap.size = w1.heap.size := by omega
  have n2' : ¬ w1.heap.size = w.heap.size := by omega
  have n3 : ¬ w.heap.size = rb := by omega
  have n3' : ¬ rb = w.heap.size := by omega
  obtain ⟨o2, ho2, hsl⟩ := slice_next b off r.length cp q1 q2
  have HO2 : Hid (¬ r.length = 0 → o2 = off + 4) := ho2
  clear ho2
  rw [← hW]
  clear hW
  have HT2 : Hid (∀ (i : Nat) u, r[i]? = some u → TokC W N b (off + 4 + i * 4) u) := fun i u hu => by
    obtain ⟨c0, c1, c2, c3⟩ := htail i u hu
    exact ⟨(bW.cells b _ hblw).trans c0, (bW.cells b _ hblw).trans c1, (bW.cells b _ hblw).trans c2, (bW.cells b _ hblw).trans c3⟩
  have HBB : Hid (BW w W) := bW
  clear htail hb t0 t1 t2 t3 b1 HG HT HBk C bW bW0
  have hN := HR.out.2.2.1
  have hg4 := HR.out.2.1
  have HOK : Hid (∀ u ∈ r, TokOk u) := fun u hu => HR.out.1 u (List.mem_cons_of_mem _ hu)
  go_wp2_with (fail)
  refine end_tok Tryd.func15 2 rfl rfl (set4 ((heap_setCell_other _ ⟨rb, 0, none⟩ w.heap.size _ n3).trans HGW.out)) ⟨rfl, ⟨HOK.out, hg4, ⟨hN.1, by have := hN.2; simp only [List.length_cons] at this; show r.length ≤ _; omega⟩, HR.out.2.2.2.1, by simp [World.setCell]; omega, _, _, ?_, ?_, (set4o n3').trans (heap_setCell_same W rb 0 _ 40 _ HBW.out), ?_⟩, ((HBB.out.fl rb).setC rb 0 (.inr rfl) _).set4 (Nat.le_refl _)⟩
  · show r.length ≤ _; omega
  · omega
  · by_cases h0 : r = []
    · exact .inl h0
    · have hl0 : ¬ r.length = 0 := by simpa using h0
      refine .inr ⟨b, o2, rfl, hbl, fun i u hu => ?_⟩
      rw [HO2.out hl0]
      exact TokC.of (fun o => cell_block ((set4o (show ¬ b = w.heap.size by omega)).trans (heap_setCell_other _ ⟨rb, 0, none⟩ b _ nb)) o) (HT2.out i u hu)

end Go.Proofs.YtlacjiihbbgbeaaDoor
