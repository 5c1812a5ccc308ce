import Derived.Test.YtgiehpcmijaomaaB1
namespace Go.Proofs.Ytgiehpcmijaomaa
open Go.RowKit
set_option linter.unusedVariables false
set_option linter.unusedSimpArgs false
theorem Try.info50 : (Try.prog.info? 50).map (fun i => (i.zero, i.size, i.bytes)) = some (some (.agg #[.int .u8 0, .int .u8 0, .int .i64 0, .string ⟨#[]⟩, .int .u8 0, .int .i64 0, .string ⟨#[]⟩, .int .i64 0]), 8, 80) := by kernel_rfl
/-- The cells of a thing. -/
abbrev thing (t t1 n1 : Int) (s1 : ByteArray) (t2 n2 : Int) (s2 : ByteArray) (m : Int) : List Value := [.int .u8 t, .int .u8 t1, .int .i64 n1, .string s1, .int .u8 t2, .int .i64 n2, .string s2, .int .i64 m]
theorem own_bw {w w' : World} {base e size : Nat} {v : Value} {n : Nat} {xs : List Value} (h : w.ownsRow base e size v n xs) (k : BW w w') : w'.ownsRow base e size v n xs := by
  obtain ⟨h2, h3⟩ := h
  refine ⟨h2, ?_⟩
  rcases h3 with h3 | ⟨g, cap, cur, e, hg, hh, r⟩
  · exact .inl h3
  · exact .inr ⟨g, cap, cur, e, hg, (k.block g (Array.getElem?_eq_some_iff.1 hh).1).trans hh, r⟩
/-- A block's element type. -/
def Ty (w : World) (k t : Nat) : Prop := ∃ c, w.heap[k]? = some (.cells c t (0, 0))
theorem Ty.setCell {w : World} {k t : Nat} (h : Ty w k t) (b o : Nat) (u : Value) : Ty (w.setCell ⟨b, o, none⟩ u) k t := by
  obtain ⟨c, hc⟩ := h
  by_cases e : k = b
  · subst e; exact ⟨_, heap_setCell_same w k o c t u hc⟩
  · exact ⟨c, (heap_setCell_other w ⟨b, o, none⟩ k u e).trans hc⟩
theorem Ty.lt {w : World} {k t : Nat} (h : Ty w k t) : k < w.heap.size := by obtain ⟨c, hc⟩ := h; exact (Array.getElem?_eq_some_iff.1 hc).1
theorem HeapIs.put {w : World} {base b : Nat} {lim : Int} {n : Nat} {xs : List Value} {k t : Nat} (ht : t ≠ 46) (ht' : t ≠ 50) (hk : Ty w k t) (h : HeapIs w base b lim n xs) (o : Nat) (u : Value) : HeapIs (w.setCell ⟨k, o, none⟩ u) base b lim n xs := by
  obtain ⟨hb, v, h1, h2, h3⟩ := h
  obtain ⟨c, hc⟩ := hk
  have n1 : b ≠ k := by rintro rfl; rw [h1] at hc; simp at hc; exact ht hc.2.symm
  refine ⟨hb, v, (heap_setCell_other w ⟨k, o, none⟩ b u n1).trans h1, h2, ?_⟩
  rcases h3 with h3 | ⟨g, cap, cur, e, hg, hh, r⟩
  · exact .inl h3
  · have n2 : g ≠ k := by rintro rfl; rw [hh] at hc; simp at hc; exact ht' hc.2.symm
    exact .inr ⟨g, cap, cur, e, hg, (heap_setCell_other w ⟨k, o, none⟩ g u n2).trans hh, r⟩
theorem HeapIs.grown {w : World} {base b : Nat} {lim : Int} {n : Nat} {xs : List Value} {v v' : Value} (hb : base ≤ b) (h1 : w.heap[b]? = some (.cells #[.int .i64 lim, v] 46 (0, 0))) (h2 : w.ownsRow base 50 8 v' n xs) : HeapIs (w.setCell ⟨b, 1, none⟩ v') base b lim n xs := by
  refine ⟨hb, v', heap_setCell_same w b 1 _ 46 v' h1, h2.1, ?_⟩
  rcases h2.2 with h3 | ⟨g, cap, cur, e, hg, hh, r⟩
  · exact .inl h3
  · have n2 : g ≠ b := by rintro rfl; rw [hh] at h1; simp at h1
    exact .inr ⟨g, cap, cur, e, hg, (heap_setCell_other w ⟨b, 1, none⟩ g v' n2).trans hh, r⟩
theorem own_ty {w : World} {base b : Nat} {v : Value} {n : Nat} {xs : List Value} (h : w.ownsRow base 50 8 v n xs) : ∀ k, v.ownBlock = some k → base ≤ k ∧ Ty w k 50 := by
  intro k hk
  rcases h.2 with ⟨rfl, _⟩ | ⟨g, cap, cur, rfl, hb, hg, _⟩
  · simp [Value.ownBlock] at hk
  · simp [Value.ownBlock] at hk
    subst hk
    exact ⟨hb, cur, hg⟩
theorem Fr.grow {base b : Nat} {w W w' : World} {row : Option Nat} (h : BW w W) (hb : base ≤ w.heap.size) (hg : W.grownBy w' row) (hr : ∀ k, row = some k → base ≤ k ∧ Ty w k 50) : Fr base b w w' := by
  refine ⟨Below.grown (Below.mono h hb) hg (Nat.le_trans hb h.size) (fun k hk => (hr k hk).1), fun k hk hkb hn => ?_⟩
  rw [hg.block k (Nat.lt_of_lt_of_le hk h.size) (fun e => by obtain ⟨_, c, hc⟩ := hr k e.symm; exact hn _ _ hc)]
  exact h.block k hk
theorem Fr.setHeap {base b : Nat} {w w' : World} (h : Fr base b w w') (hb : base ≤ b) (o : Nat) (u : Value) : Fr base b w (w'.setCell ⟨b, o, none⟩ u) :=
  ⟨h.bel.setCell hb u, fun k hk hkb hn => (heap_setCell_other w' ⟨b, o, none⟩ k u hkb).trans (h.oth k hk hkb hn)⟩
theorem Fr.setNew {base b : Nat} {w w' : World} (h : Fr base b w w') (hb : base ≤ w.heap.size) {k : Nat} (hk : w.heap.size ≤ k) (o : Nat) (u : Value) : Fr base b w (w'.setCell ⟨k, o, none⟩ u) :=
  ⟨h.bel.setCell (by exact Nat.le_trans hb hk) u, fun j hj hjb hn => (heap_setCell_other w' ⟨k, o, none⟩ j u (by show j ≠ k; omega)).trans (h.oth j hj hjb hn)⟩
theorem Fr.drew {base b : Nat} {w w' : World} (h : Fr base b w w') : Fr base b w w'.drew := ⟨h.bel.drew, h.oth⟩
theorem drewN_size (w : World) (n : Nat) : (w.drewN n).heap.size = w.heap.size := rfl
theorem cell_at_new {W : World} {k t : Nat} (l : List Value) (hk : k = W.heap.size) (j : Nat) (u : Value) (h : l[j]? = some u) : (W.alloc (.cells l.toArray t)).cell? ((⟨k, 0, none⟩ : Addr).add j) = some u := by
  subst hk
  have hadd : (⟨W.heap.size, 0, none⟩ : Addr).add j = ⟨W.heap.size, j, none⟩ := by unfold Addr.add; split <;> simp_all
  rw [hadd, cell_of_row _ _ j l.toArray t (0, 0) (heap_alloc_new W _)]
  simpa using h
theorem new_a (w : World) (o1 o2 : Obj) (k : Nat) : (((w.alloc o1).alloc o2).drewN k).heap[w.heap.size]? = some o1 := by
  show ((w.alloc o1).alloc o2).heap[w.heap.size]? = some o1
  rw [Below.heap_alloc _ _ _ (by simp)]
  exact heap_alloc_new w o1
theorem new_b (w : World) (o1 o2 : Obj) (k : Nat) : (((w.alloc o1).alloc o2).drewN k).heap[w.heap.size + 1]? = some o2 := by
  show ((w.alloc o1).alloc o2).heap[w.heap.size + 1]? = some o2
  have := heap_alloc_new (w.alloc o1) o2
  simpa using this
theorem qb_of {w W w' : World} {row : Option Nat} {b : Nat} {o : Obj} (hg : W.grownBy w' row) (hbw : BW w W) (hlt : b < w.heap.size) (hr : row ≠ some b) (h1 : w.heap[b]? = some o) : w'.heap[b]? = some o :=
  (hg.block b (Nat.lt_of_lt_of_le hlt hbw.size) (Ne.symm hr)).trans ((hbw.block b hlt).trans h1)
set_option maxRecDepth 100000 in
set_option maxHeartbeats 4000000 in
theorem add_room (base b : Nat) (lim : Int) (n : Nat) (xs : List Value) (hn : n < lim) (hlim : lim ≤ 1048576) (t t1 n1 : Int) (s1 : ByteArray) (t2 n2 : Int) (s2 : ByteArray) (m : Int) (w : World) (H : HeapIs w base b lim n xs) :
    Calls Try.prog 19 #[.pointer (some ⟨b, 0, none⟩), .agg #[.int .u8 t, .int .u8 t1, .int .i64 n1, .string s1, .int .u8 t2, .int .i64 n2, .string s2, .int .i64 m]] w fun e w' => e = .returned (.tuple #[V t n ⟨#[]⟩, .int .i64 0]) ∧
      HeapIs w' base b lim (n + 1) (xs ++ thing t t1 n1 s1 t2 n2 s2 m) ∧ Fr base b w w' := by
  have hlt := H.lt
  obtain ⟨hb, v, h1, hown⟩ := H
  have hc0 : w.cell? ⟨b, 0, none⟩ = some (.int .i64 lim) := by simp [World.cell?, h1]
  have hc1 : w.cell? ⟨b, 1, none⟩ = some v := by simp [World.cell?, h1]
  have hf1 : w.frozen? ⟨b, 1, none⟩ = false := by simp [World.frozen?, h1]
  have hv : v = .slice none 0 0 ∧ n = 0 ∨ ∃ g cap, v = .slice (some ⟨g, 0, none⟩) n cap := Go.Joins.ownsRow_forms hown
  obtain ⟨i0, hi, hz0, hz1, hz2⟩ := info_parts Try.info50
  have hrow := own_ty (b := b) hown
  have hbr : v.ownBlock ≠ some b := by
    intro e
    obtain ⟨_, c, hc⟩ := hrow b e
    rw [h1] at hc; simp at hc
  have hnr : ∀ k, w.heap.size ≤ k → v.ownBlock ≠ some k := by
    intro k hk e
    have := (hrow k e).2.lt
    omega
  rcases hv with ⟨rfl, rfl⟩ | ⟨g, cap, rfl⟩
  all_goals
    go_enter Try.func19, Try.ntmps19
    go_wp2
    go_quiet (fail)
    go_wp2
    obtain ⟨W, hW⟩ : ∃ W, W = ((w.alloc (.cells #[.int .u8 t, .int .u8 t1, .int .i64 n1, .string s1, .int .u8 t2, .int .i64 n2, .string s2, .int .i64 m] 50)).alloc (.cells #[.int .u8 0, .int .i64 0, .string ⟨#[]⟩] 26)).drewN nq := ⟨_, rfl⟩
    rw [← hW]
    have hbw : BW w W := by rw [hW]; exact (by repeat (first | exact BW.refl _ | apply BW.alloc | apply BW.drewN | apply BW.drew))
    have hWs : W.heap.size = w.heap.size + 1 + 1 := by rw [hW]; simp
    have W1 := (hbw.block b hlt).trans h1
    have W2 : W.heap[w.heap.size]? = some (.cells #[.int .u8 t, .int .u8 t1, .int .i64 n1, .string s1, .int .u8 t2, .int .i64 n2, .string s2, .int .i64 m] 50 (0, 0)) := by rw [hW]; exact new_a _ _ _ _
    have W3 : W.heap[w.heap.size + 1]? = some (.cells #[.int .u8 0, .int .i64 0, .string ⟨#[]⟩] 26 (0, 0)) := by rw [hW]; exact new_b _ _ _ _
    clear hW
    have d0 : W.cell? ⟨b, 1, none⟩ = some _ := (by simp only [World.cell?, W1]; rfl)
    have d1 : W.frozen? ⟨b, 1, none⟩ = false := (by simp [World.frozen?, W1])
    have e0 : W.cell? ⟨w.heap.size, 0, none⟩ = some _ := (by simp only [World.cell?, W2]; rfl)
    have e1 : W.cell? ⟨w.heap.size, 1, none⟩ = some _ := (by simp only [World.cell?, W2]; rfl)
    have e2 : W.cell? ⟨w.heap.size, 2, none⟩ = some _ := (by simp only [World.cell?, W2]; rfl)
    have e3 : W.cell? ⟨w.heap.size, 3, none⟩ = some _ := (by simp only [World.cell?, W2]; rfl)
    have e4 : W.cell? ⟨w.heap.size, 4, none⟩ = some _ := (by simp only [World.cell?, W2]; rfl)
    have e5 : W.cell? ⟨w.heap.size, 5, none⟩ = some _ := (by simp only [World.cell?, W2]; rfl)
    have e6 : W.cell? ⟨w.heap.size, 6, none⟩ = some _ := (by simp only [World.cell?, W2]; rfl)
    have e7 : W.cell? ⟨w.heap.size, 7, none⟩ = some _ := (by simp only [World.cell?, W2]; rfl)
    have hltW : b < W.heap.size := by omega
    have hown2 := own_bw hown hbw
    have HWs : Hid (W.heap.size = w.heap.size + 1 + 1) := hWs
    have hdW : ¬ b = W.heap.size := by omega
    have hd0 : w.heap.size < W.heap.size := by omega
    have hd1 : w.heap.size + 1 < W.heap.size := by omega
    have hbW : base ≤ W.heap.size := by omega
    clear hc0 hc1 hf1 hWs
    go_region_law (refine step_append_own rfl (.tmp 31) (.tmp 33) 44 rfl base 50 i0 _ 8 80 Try.underlying44 hi hz0 hz1 hz2 rfl (by decide) _ _ xs rfl (own_bw hown2 (by repeat (first | exact BW.refl _ | apply BW.alloc | apply BW.drewN | apply BW.drew))) ⟨_, 0, none⟩ 1 1 (thing t t1 n1 s1 t2 n2 s2 m) (by simp [Act.eval]; rfl) rfl (fun j u hj => cell_at_new _ (by simp) j u hj) (by
        intro u hu; simp at hu; rcases hu with rfl | rfl | rfl | rfl | rfl | rfl | rfl | rfl <;> rfl) (by unfold maxLen; omega) (by omega) (by first | (simp; done) | (simp; omega)) ?_; intro v' w' hown' hgrow; obtain ⟨g', cap', rfl⟩ := Go.Joins.ownsRow_form hown' (by omega); have qb := qb_of hgrow (by repeat (first | exact BW.refl _ | apply BW.alloc | apply BW.drewN | apply BW.drew)) hltW hbr W1; have q0 := qb_of hgrow (by repeat (first | exact BW.refl _ | apply BW.alloc | apply BW.drewN | apply BW.drew)) hd0 (hnr _ (by omega)) W2; have q1 := qb_of hgrow (by repeat (first | exact BW.refl _ | apply BW.alloc | apply BW.drewN | apply BW.drew)) hd1 (hnr _ (by omega)) W3; have FR : Fr base b w w' := Fr.grow (BW.trans hbw (by repeat (first | exact BW.refl _ | apply BW.alloc | apply BW.drewN | apply BW.drew))) (by omega) hgrow hrow; have cb : w'.cell? ⟨b, 1, none⟩ = some _ := (by simp only [World.cell?, qb]; rfl); have fb : w'.frozen? ⟨b, 1, none⟩ = false := (by simp [World.frozen?, qb]))
    all_goals
      have cz : w'.cell? ⟨w.heap.size, 0, none⟩ = some _ := (by simp only [World.cell?, q0]; rfl)
      have k0 : w'.cell? ⟨w.heap.size + 1, 0, none⟩ = some _ := (by simp only [World.cell?, q1]; rfl)
      have k1 : w'.cell? ⟨w.heap.size + 1, 1, none⟩ = some _ := (by simp only [World.cell?, q1]; rfl)
      have k2 : w'.cell? ⟨w.heap.size + 1, 2, none⟩ = some _ := (by simp only [World.cell?, q1]; rfl)
      have f0 : w'.frozen? ⟨w.heap.size + 1, 0, none⟩ = false := (by simp [World.frozen?, q1])
      have f1 : w'.frozen? ⟨w.heap.size + 1, 1, none⟩ = false := (by simp [World.frozen?, q1])
      have f2 : w'.frozen? ⟨w.heap.size + 1, 2, none⟩ = false := (by simp [World.frozen?, q1])
      have hT : Ty w' (w.heap.size + 1) 26 := ⟨_, q1⟩
      have HH : Hid (HeapIs (w'.setCell ⟨b, 1, none⟩ (.slice (some ⟨g', 0, none⟩) _ cap')) base b lim _ _) := HeapIs.grown hb qb hown'
      have n1 : ¬ b = w.heap.size := by omega
      have n2 : ¬ b = w.heap.size + 1 := by omega
      have n3 : ¬ w.heap.size = b := by omega
      have n4 : ¬ w.heap.size + 1 = b := by omega
      have hbb : base ≤ w.heap.size := by omega
      clear q0 q1 qb hown' hgrow hown hown2 e0 e1 e2 e3 e4 e5 e6 e7 W1 W2 W3 d0 d1 h1 hrow hnr hbr hi hz0 hz1 hz2 cb fb
      go_wp2
      refine bodyPost_ret (v := .tuple #[V t _ ⟨#[]⟩, .int .i64 0]) (by simp [results, Try.results19, go_sem, *]) rfl ⟨rfl, ?_, ?_⟩
      · exact HeapIs.put (by decide) (by decide) (((hT.setCell _ _ _).setCell _ _ _).setCell _ _ _) (HeapIs.put (by decide) (by decide) ((hT.setCell _ _ _).setCell _ _ _) (HeapIs.put (by decide) (by decide) (hT.setCell _ _ _) HH.out _ _) _ _) _ _
      · exact (((FR.setHeap hb _ _).setNew hbb (by omega) _ _).setNew hbb (by omega) _ _).setNew hbb (by omega) _ _
end Go.Proofs.Ytgiehpcmijaomaa
