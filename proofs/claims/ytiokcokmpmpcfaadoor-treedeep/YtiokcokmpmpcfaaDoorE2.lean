import Derived.Test.YtiokcokmpmpcfaaDoorE1
namespace Go.Proofs.YtiokcokmpmpcfaaDoor
open Go.RowKit
set_option linter.unusedVariables false
set_option linter.unusedSimpArgs false

/-- The chain of so many. -/
def ch : (j : Nat) → Tr (j + 1)
  | 0 => leaf 0 4 0 ⟨#[]⟩
  | j + 1 => (⟨11, 0, ⟨#[111, 117, 116]⟩, [], [ch j]⟩ : Nd (Tr (j + 1)))
theorem ch_sz : ∀ j, sz (j + 1) (ch j) = j + 1
  | 0 => rfl
  | j + 1 => by
    show 1 + ([ch j].map (sz (j + 1))).sum = _
    simp [ch_sz j]; omega
theorem ch_dep : ∀ j, dep (j + 1) (ch j) = j + 1
  | 0 => rfl
  | j + 1 => by
    show 1 + ([ch j].map (dep (j + 1))).foldr max 0 = _
    simp [ch_dep j]; omega
set_option maxRecDepth 100000 in
theorem ch_rt : ∀ j, rt (j + 1) (ch j) = true ∧ isCl (knd (j + 1) (ch j)) = false
  | 0 => by decide +kernel
  | j + 1 => by
    obtain ⟨h1, h2⟩ := ch_rt j
    refine ⟨?_, rfl⟩
    have hq : shp (Nd.k (K := Tr (j + 1)) (ch (j + 1))).toNat = some ⟨⟨#[]⟩, 0, 0, 0, 0, 0, 9223372036854775807, 36⟩ := by kernel_rfl
    have hs : su ⟨⟨#[]⟩, 0, 0, 0, 0, 0, 9223372036854775807, 36⟩ (Nd.k (K := Tr (j + 1)) (ch (j + 1))) (Nd.n (K := Tr (j + 1)) (ch (j + 1))) (Nd.s (K := Tr (j + 1)) (ch (j + 1))) (Nd.ns (K := Tr (j + 1)) (ch (j + 1))) (Nd.ks (K := Tr (j + 1)) (ch (j + 1))).length = true := by kernel_rfl
    unfold rt
    rw [hq]
    simp only [hs, Bool.true_and]
    rw [if_neg (by show ¬ (11 : Int) = 13; decide)]
    show [ch j].all _ = true
    simp [h1, h2]
theorem ch_may (j : Nat) : mayB (j + 1) (ch j) = decide (j < 60) := by
  rw [mayB_eq, ch_sz, ch_dep]
  have : vl (j + 1) (ch j) = true := by unfold vl; rw [(ch_rt j).1, (ch_rt j).2]; rfl
  rw [this]
  by_cases h : j < 60
  · simp [h]; omega
  · simp [h]; omega
/-- The value v is the chain of so many, over blocks other than X. -/
def ChAt (w : World) (X : Nat) : Nat → Value → Prop
  | 0, v => v = ndv 4 0 ⟨#[]⟩ none 0 0 none 0 0
  | j + 1, v => ∃ (b : Nat) (r : Rw), v = ndv 11 0 ⟨#[111, 117, 116]⟩ none 0 0 (some ⟨b, 0, none⟩) 1 1 ∧ ¬ b = X ∧ b < w.heap.size ∧ CellsAt w b 0 r ∧ ChAt w X j r.v
theorem ChAt.fl {w w' : World} {X : Nat} (k : Fl X w w') : ∀ (j : Nat) (v : Value), ChAt w X j v → ChAt w' X j v
  | 0, v, h => h
  | j + 1, v, h => by
    obtain ⟨b, r, e, hn, hb, hc, ha⟩ := h
    obtain ⟨d0, d1, d2, d3, d4⟩ := hc
    exact ⟨b, r, e, hn, Nat.lt_of_lt_of_le hb k.size, ⟨(k.cells b _ hb hn).trans d0, (k.cells b _ hb hn).trans d1, (k.cells b _ hb hn).trans d2, (k.cells b _ hb hn).trans d3, (k.cells b _ hb hn).trans d4⟩, ChAt.fl k j _ ha⟩
theorem ChAt.node {w : World} {X : Nat} : ∀ (j : Nat) (v : Value), ChAt w X j v → NodeAt w (j + 1) v (ch j)
  | 0, v, h => by
    subst h
    exact leaf_at w 0 4 0 ⟨#[]⟩ (wf_small _ _ _ _ _ (by decide) (by decide) (by decide) (by decide) (by decide))
  | j + 1, v, h => by
    obtain ⟨b, r, rfl, hn, hb, hc, ha⟩ := h
    refine ⟨none, 0, 0, _, 1, 1, rfl, wf_small _ _ _ _ _ (by decide) (by decide) (by decide) (by decide) (by decide), Nat.le_refl _, Nat.zero_le _, Nat.le_refl _, by decide, StrsAt.nil, rfl, by decide, .inr ⟨b, 0, rfl, hb, fun i x hx => ?_⟩⟩
    match i, hx with
    | 0, hx => cases (Option.some.inj hx : ch j = x); exact ⟨r, hc, ChAt.node j _ ha⟩
    | i + 1, hx => cases (hx : ([] : List (Tr (j + 1)))[i]? = some x)
/-- The node's box. -/
def BoxIs (w : World) (X : Nat) (r : Rw) : Prop := w.heap[X]? = some (.cells #[.int .u8 r.k, .int .i64 r.n, .string r.s, .slice r.na r.nl r.nc, .slice r.ka r.kl r.kc] 25 (0, 0))
theorem Fl.setO {lb : Nat} (w : World) (o : Nat) (u : Value) : Fl lb w (w.setCell ⟨lb, o, none⟩ u) := ⟨rfl, rfl, rfl, by simp [World.setCell], fun k hk hn => Below.heap_setCell _ _ _ _ (fun e => hn e)⟩
/-- A box written over. -/
def set5 (w : World) (g : Nat) (y0 y1 y2 y3 y4 : Value) : World := ((((w.setCell ⟨g, 0, none⟩ y0).setCell ⟨g, 1, none⟩ y1).setCell ⟨g, 2, none⟩ y2).setCell ⟨g, 3, none⟩ y3).setCell ⟨g, 4, none⟩ y4
theorem set5_fl (w : World) (g : Nat) (y0 y1 y2 y3 y4 : Value) : Fl g w (set5 w g y0 y1 y2 y3 y4) := (Fl.setO w 0 y0).trans ((Fl.setO _ 1 y1).trans ((Fl.setO _ 2 y2).trans ((Fl.setO _ 3 y3).trans (Fl.setO _ 4 y4))))
theorem set5_size (w : World) (g : Nat) (y0 y1 y2 y3 y4 : Value) : (set5 w g y0 y1 y2 y3 y4).heap.size = w.heap.size := by simp [set5, World.setCell]
theorem set5_at {w : World} {g T : Nat} {x0 x1 x2 x3 x4 y0 y1 y2 y3 y4 : Value} (h : w.heap[g]? = some (.cells #[x0, x1, x2, x3, x4] T (0, 0))) : (set5 w g y0 y1 y2 y3 y4).heap[g]? = some (.cells #[y0, y1, y2, y3, y4] T (0, 0)) := by
  simp [set5, World.setCell, Array.getElem?_modify, h]
set_option maxRecDepth 100000 in
set_option maxHeartbeats 1000000 in
theorem treeDeep_any (a : Int) (h0 : 0 ≤ a) (h1 : a ≤ 255) (w : World) (hv : Vs w) : Calls Tryd.prog 7 #[.int .u8 a] w fun e w' => e = .returned (.bool true) ∧ BW w w' := by
  have HV : Hid (Vs w) := hv
  clear hv
  obtain ⟨k, hk⟩ : ∃ k : Nat, k = (a % 200).toNat := ⟨_, rfl⟩
  have hk2 : a.tmod 200 = (k : Int) := by rw [hk, Int.tmod_eq_emod_of_nonneg h0]; omega
  have hk200 : k < 200 := by omega
  have hw : IntKind.i64.wrap a = a := i64w a (by omega) (by omega)
  clear hk
  go_enter Tryd.func7, Tryd.ntmps7
  go_wp2_with (fail)
  go_loopw [5] (fun i w' => ∃ (j : Nat) (r : Rw), j ≤ k ∧ i = .int .i64 j ∧ BoxIs w' w.heap.size r ∧ ChAt w' w.heap.size j r.v ∧ BW w w') (fun i _ => k - (intOf i).toNat)
  case atStart => exact ⟨0, ⟨4, 0, ⟨#[]⟩, none, 0, 0, none, 0, 0⟩, Nat.zero_le _, rfl, heap_alloc_new w _, rfl, (by repeat (first | exact BW.refl _ | apply BW.alloc | apply BW.drewN | apply BW.drew))⟩
  case round =>
    obtain ⟨j, r, hj, rfl, hbox, hch, hb⟩ := hrel
    have q0 : wr.cell? ⟨w.heap.size, 0, none⟩ = some (.int .u8 r.k) := by rw [Lib.cell_of_heap hbox]; rfl
    have q1 : wr.cell? ⟨w.heap.size, 1, none⟩ = some (.int .i64 r.n) := by rw [Lib.cell_of_heap hbox]; rfl
    have q2 : wr.cell? ⟨w.heap.size, 2, none⟩ = some (.string r.s) := by rw [Lib.cell_of_heap hbox]; rfl
    have q3 : wr.cell? ⟨w.heap.size, 3, none⟩ = some (.slice r.na r.nl r.nc) := by rw [Lib.cell_of_heap hbox]; rfl
    have q4 : wr.cell? ⟨w.heap.size, 4, none⟩ = some (.slice r.ka r.kl r.kc) := by rw [Lib.cell_of_heap hbox]; rfl
    have hlt := (Array.getElem?_eq_some_iff.1 hbox).1
    have fz : ∀ o, wr.frozen? ⟨w.heap.size, o, none⟩ = false := fun o => Lib.frozen_of_heap hbox o
    have n1 : ¬ w.heap.size = wr.heap.size := by omega
    have n2 : ¬ wr.heap.size = w.heap.size := by omega
    have HBX : Hid _ := hbox
    have HCH : Hid _ := hch
    clear hbox hch
    by_cases hlt2 : j < k
    · have a0 := fun ob => (BW.cells (BW.alloc (BW.refl wr) ob) w.heap.size 0 hlt).trans q0
      have a1 := fun ob => (BW.cells (BW.alloc (BW.refl wr) ob) w.heap.size 1 hlt).trans q1
      have a2 := fun ob => (BW.cells (BW.alloc (BW.refl wr) ob) w.heap.size 2 hlt).trans q2
      have a3 := fun ob => (BW.cells (BW.alloc (BW.refl wr) ob) w.heap.size 3 hlt).trans q3
      have a4 := fun ob => (BW.cells (BW.alloc (BW.refl wr) ob) w.heap.size 4 hlt).trans q4
      have af := fun ob o => (BW.froz (BW.alloc (BW.refl wr) ob) w.heap.size o hlt).trans (fz o)
      go_wp2_with (fail)
      go_roundw
      case rel =>
        have hfl := set5_fl wr w.heap.size (.int .u8 11) (.int .i64 0) (.string ⟨#[111, 117, 116]⟩) (.slice none 0 0) (.slice (some ⟨wr.heap.size, 0, none⟩) 1 1)
        have hsz := set5_size wr w.heap.size (.int .u8 11) (.int .i64 0) (.string ⟨#[111, 117, 116]⟩) (.slice none 0 0) (.slice (some ⟨wr.heap.size, 0, none⟩) 1 1)
        refine ⟨j + 1, ⟨11, 0, ⟨#[111, 117, 116]⟩, none, 0, 0, some ⟨wr.heap.size, 0, none⟩, 1, 1⟩, by omega, by go_num, ?_, ?_, ?_⟩
        · exact (Lib.alloc_old _ _ _ (by rw [show World.heap (World.setCell _ _ _) = World.heap (set5 wr w.heap.size (.int .u8 11) (.int .i64 0) (.string ⟨#[111, 117, 116]⟩) (.slice none 0 0) (.slice (some ⟨wr.heap.size, 0, none⟩) 1 1)) from rfl, hsz]; exact hlt)).trans (set5_at HBX.out)
        · refine ⟨wr.heap.size, r, rfl, n2, ?_, ?_, ?_⟩
          · show _ < (World.alloc (set5 wr w.heap.size (.int .u8 11) (.int .i64 0) (.string ⟨#[111, 117, 116]⟩) (.slice none 0 0) (.slice (some ⟨wr.heap.size, 0, none⟩) 1 1)) _).heap.size
            simp [hsz]
          · have := fun i => cell_new (set5 wr w.heap.size (.int .u8 11) (.int .i64 0) (.string ⟨#[111, 117, 116]⟩) (.slice none 0 0) (.slice (some ⟨wr.heap.size, 0, none⟩) 1 1)) #[.int .u8 r.k, .int .i64 r.n, .string r.s, .slice r.na r.nl r.nc, .slice r.ka r.kl r.kc] 25 i
            rw [hsz] at this
            exact ⟨this 0, this 1, this 2, this 3, this 4⟩
          · exact ChAt.fl (hfl.trans (BW.fl (BW.alloc (BW.refl _) _) w.heap.size)) j _ HCH.out
        · exact BW.alloc (hfl.bw hb (Nat.le_refl _)) _
      case measure => simp [intOf]; omega
    · have hjn : k = j := by omega
      subst hjn
      have hz := hb.size
      have HN : Hid (∀ w', BW wr w' → NodeAt w' (k + 1) r.v (ch k)) := fun w' h => NodeAt.bw h (ChAt.node k _ HCH.out)
      have HM : Hid (∀ w', BW wr w' → Calls Tryd.prog 14 #[r.v] w' fun e w'' => e = .returned (.bool (decide ((k : Int) < 60))) ∧ BW w' w'') := fun w' h => by
        have := may_any (k + 1) _ (ch k) w' (HN.out w' h) (HV.out.bw (BW.trans hb h)).1
        rw [ch_may, show decide (k < 60) = decide ((k : Int) < 60) by simp; omega] at this
        exact this
      have HZ : Hid (∀ w', BW wr w' → Calls Tryd.prog 11 #[r.v] w' fun e w'' => e = .returned (.int .i64 ((k : Int) + 1)) ∧ BW w' w'') := fun w' h => by
        have := size_any (k + 1) _ (ch k) w' (HN.out w' h)
        rw [ch_sz, show wrap64 ((k + 1 : Nat) : Int) = (k : Int) + 1 by simp only [wrap64]; omega] at this
        exact this
      go_wp2_with (first
        | (go_at_call 14; refine (HM.out _ (by repeat (first | exact BW.refl _ | assumption | apply BW.alloc | apply BW.drewN | apply BW.drew | (refine BW.setCell ?_ (by first | omega | (simp; done) | (simp; omega)) _) | (refine BW.trans ?_ (by assumption))))).mono ?_; rintro e w1 ⟨rfl, b1⟩; have z1 := fun o => b1.cells w.heap.size o hlt)
        | (go_at_call 11; refine (HZ.out _ (by repeat (first | exact BW.refl _ | assumption | apply BW.alloc | apply BW.drewN | apply BW.drew | (refine BW.setCell ?_ (by first | omega | (simp; done) | (simp; omega)) _) | (refine BW.trans ?_ (by assumption))))).mono ?_; rintro e w2 ⟨rfl, b2⟩)
        | (go_at_call 9; refine (awake_any _ (HV.out.bw (by repeat (first | exact BW.refl _ | assumption | apply BW.alloc | apply BW.drewN | apply BW.drew | (refine BW.setCell ?_ (by first | omega | (simp; done) | (simp; omega)) _) | (refine BW.trans ?_ (by assumption)))))).mono ?_; rintro e w3 ⟨rfl, b3⟩))
      go_ret
      exact ⟨rfl, (by repeat (first | exact BW.refl _ | assumption | apply BW.alloc | apply BW.drewN | apply BW.drew | (refine BW.setCell ?_ (by first | omega | (simp; done) | (simp; omega)) _) | (refine BW.trans ?_ (by assumption))))⟩

end Go.Proofs.YtiokcokmpmpcfaaDoor
