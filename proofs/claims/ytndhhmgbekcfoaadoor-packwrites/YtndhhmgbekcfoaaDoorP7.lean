import Derived.Test.YtndhhmgbekcfoaaDoorP5
import Derived.Test.YtndhhmgbekcfoaaDoorM10
import Derived.Laws.BytesArg
namespace Go.Proofs.YtndhhmgbekcfoaaDoor
open Go.RowKit
set_option linter.unusedVariables false
set_option linter.unusedSimpArgs false

theorem fm_le {K : Type} {l : List K} {e : K → List Nat} {c : Nat} (h : ∀ x ∈ l, (e x).length ≤ c) : (l.flatMap e).length ≤ l.length * c := by
  induction l with
  | nil => simp
  | cons a r ih =>
    simp only [List.flatMap_cons, List.length_append, List.length_cons, Nat.add_mul, Nat.one_mul]
    have h1 := h a (by simp)
    have h2 := ih (fun x hx => h x (by simp [hx]))
    omega
theorem nb_len (n : Nat) : (nb n).length ≤ 10 ∧ 0 < (nb n).length := nbF_len 9 n
theorem fit_of {m : Mdl} (h : mayB m = true) : (m.ints.length ≤ 4096 ∧ m.texts.length ≤ 4096 ∧ m.pros.length ≤ 4096 ∧ m.tabs.length ≤ 4096) ∧ (∀ s ∈ m.texts, s.size ≤ 65536) ∧ (∀ x ∈ m.pros, prB m x = true) ∧ (∀ t ∈ m.tabs, tbB m t = true) := by
  simp only [mayB, fitB, Bool.and_eq_true, decide_eq_true_eq, Bool.not_eq_true', List.any_eq_false, Bool.not_eq_true, Bool.not_eq_false'] at h
  obtain ⟨⟨⟨⟨⟨⟨⟨h1, h2⟩, h3⟩, h4⟩, _⟩, h5⟩, h6⟩, h7⟩ := h
  exact ⟨⟨h1, h2, h3, h4⟩, fun s hs => by have := h5 s hs; omega, fun x hx => by have := h7 x hx; simpa using this, fun x hx => by have := h6 x hx; simpa using this⟩
theorem en_len {m : Mdl} (h : mayB m = true) : (en m).length ≤ 1099511627776 := by
  obtain ⟨⟨h1, h2, h3, h4⟩, h5, h6, h7⟩ := fit_of h
  have a1 : (m.ints.flatMap (fun n => nb (zz n))).length ≤ m.ints.length * 10 := fm_le (fun x _ => (nb_len _).1)
  have a2 : (m.texts.flatMap (fun s => nb s.size ++ sb s)).length ≤ m.texts.length * 65546 := fm_le (fun x hx => by
    have := h5 x hx; have := (nb_len x.size).1; simp only [List.length_append, sb_len]; omega)
  have a3 : (m.pros.flatMap enP).length ≤ m.pros.length * 180264 := fm_le (fun x hx => by
    have h8 := h6 x hx
    simp only [prB, Bool.and_eq_true, Bool.not_eq_true', decide_eq_false_iff_not] at h8
    have h9 : x.code.length ≤ 16384 := by omega
    have a : (x.code.flatMap enI).length ≤ x.code.length * 11 := fm_le (fun y _ => by simp only [enI, List.length_cons]; have := (nb_len (szn y.a)).1; omega)
    have := (nb_len (szn x.p)).1; have := (nb_len (szn x.s)).1; have := (nb_len (szn x.u)).1; have := (nb_len x.code.length).1
    simp only [enP, List.length_append]
    omega)
  have a4 : (m.tabs.flatMap enT).length ≤ m.tabs.length * 2011 := fm_le (fun x hx => by
    have h8 := h7 x hx
    simp only [tbB, Bool.and_eq_true, decide_eq_true_eq] at h8
    have a : (x.ops.flatMap (fun n => nb (szn n))).length ≤ x.ops.length * 10 := fm_le (fun y _ => (nb_len _).1)
    have := (nb_len x.ops.length).1
    have h9 := h8.1.1
    simp only [enT, List.length_append, List.length_singleton]
    omega)
  have := (nb_len m.ints.length).1; have := (nb_len m.texts.length).1; have := (nb_len m.pros.length).1; have := (nb_len m.tabs.length).1
  simp only [en, enInts, enTexts, enPros, enTabs, List.length_append, List.length_cons, List.length_nil]
  omega
theorem own_mono {w : World} {base base' e size n : Nat} {v : Value} {xs : List Value} (h : w.ownsRow base e size v n xs) (k : base' ≤ base) : w.ownsRow base' e size v n xs := by
  obtain ⟨h1, h2⟩ := h
  refine ⟨h1, ?_⟩
  rcases h2 with h2 | ⟨g, c, cur, e1, e2, e3⟩
  · exact .inl h2
  · exact .inr ⟨g, c, cur, e1, Nat.le_trans k e2, e3⟩
/-- What Put answers. -/
def PutPost (m : Mdl) (w : World) (e : Ending) (w' : World) : Prop := BW w w' ∧ ((mayB m = true ∧ ∃ v, e = .returned (.tuple #[v, .int .i64 0]) ∧ w'.ownsRow w.heap.size 5 1 v (en m).length (bs (en m))) ∨ (mayB m = false ∧ e = .returned (.tuple #[.slice none 0 0, .int .i64 18])))
set_option maxRecDepth 100000 in
set_option maxHeartbeats 4000000 in
theorem put_any (r : Mw) (m : Mdl) (w : World) (h : ModAt w r m) (hv : Vs w) : Calls Tryd.prog 10 #[r.v] w (PutPost m w) := by
  have HM : Hid (∀ w', BW w w' → Calls Tryd.prog 16 #[r.v] w' fun e w'' => e = .returned (.bool (mayB m)) ∧ BW w' w'') := fun w' k => may_any r m w' (h.bw k) (hv.bw k)
  have HP : Hid (∀ w', BW w w' → mayB m = true → Calls Tryd.prog 17 #[.slice none 0 0, r.v] w' fun e w'' => ∃ v, e = .returned v ∧ Bf w' w'' v (en m)) := fun w' k hm =>
    (putModule_c w' r m (h.bw k) w' (.slice none 0 0) [] (Bf.nil _) (by have := en_len hm; simpa using this)).mono (fun e w'' ⟨v, e1, e2, _⟩ => ⟨v, e1, by simpa using e2⟩)
  obtain ⟨ia, il, ic, ta, tl, tc, pa, pl, pc, ha, hl, hc⟩ := r
  (try dsimp only at HM HP)
  clear h hv
  unfold PutPost
  generalize hq : mayB m = q at *
  generalize hN : en m = nw at *
  clear hq hN
  cases q with
  | true =>
    go_enter Tryd.func10, Tryd.ntmps10
    go_wp2_with (first
      | (go_at_call 16; go_loud (refine (HM.out _ (by repeat (first | exact BW.refl _ | assumption | apply BW.alloc | apply BW.drewN | apply BW.drew | (refine BW.setCell ?_ (by first | omega | (simp; done) | (simp; omega)) _) | (refine BW.trans ?_ (by assumption))))).mono ?_; rintro e w1 ⟨rfl, b1⟩; obtain ⟨⟨g0, g1, g2, g3⟩, gz, gb⟩ := bxM_at (r := ⟨ia, il, ic, ta, tl, tc, pa, pl, pc, ha, hl, hc⟩) b1; dsimp only at g0 g1 g2 g3))
      | (go_at_call 17; go_loud (refine (HP.out _ gb (by trivial)).mono ?_; rintro e w2 ⟨v2, rfl, b2⟩; have B2 : Hid _ := b2; clear b2)))
    go_ret2
    exact ⟨gb.trans B2.out.1, .inl ⟨by trivial, _, rfl, own_mono B2.out.2 gb.size⟩⟩
  | false =>
    go_enter Tryd.func10, Tryd.ntmps10
    go_wp2_with (first
      | (go_at_call 16; go_loud (refine (HM.out _ (by repeat (first | exact BW.refl _ | assumption | apply BW.alloc | apply BW.drewN | apply BW.drew | (refine BW.setCell ?_ (by first | omega | (simp; done) | (simp; omega)) _) | (refine BW.trans ?_ (by assumption))))).mono ?_; rintro e w1 ⟨rfl, b1⟩; obtain ⟨⟨g0, g1, g2, g3⟩, gz, gb⟩ := bxM_at (r := ⟨ia, il, ic, ta, tl, tc, pa, pl, pc, ha, hl, hc⟩) b1; dsimp only at g0 g1 g2 g3)))
    go_ret2
    exact ⟨gb, .inr ⟨by trivial, rfl⟩⟩

/-- The document's example. -/
def mA : Mdl := ⟨[], [], [⟨0, 1, 0, [⟨3, 0⟩]⟩], []⟩
theorem mA_may : mayB mA = true := by decide +kernel
theorem mA_en : en mA = [69, 70, 70, 49, 0, 0, 1, 0, 1, 0, 1, 3, 0, 0] := by decide +kernel
/-- A text of bytes. -/
def st (l : List Nat) : ByteArray := strOfNums (l.map (fun k : Nat => (k : Int)))
/-- Bytes in memory. -/
def ByAt (W : World) (b off : Nat) (l : List Nat) : Prop := ∀ i, i < l.length → W.cell? ⟨b, off + i, none⟩ = some (.int .u8 (l.getD i 0))
theorem ByAt.cv {W : World} {b off : Nat} {l : List Nat} (h : ByAt W b off l) (c : Nat) : (convert 30 9 (.slice (some ⟨b, off, none⟩) l.length c)).run Tryd.prog W = .ok (.string (st l)) W :=
  run_convert_bytes_arg W 30 5 Tryd.underlying30 Tryd.underlying5 b off l.length c (l.map (fun k : Nat => (k : Int))) (by simp) (fun i hi => by
    rw [h i hi]; simp [List.getD, List.getElem?_eq_getElem hi]) 9 Tryd.underlying9
theorem own_bytes {W : World} {base : Nat} {v : Value} {l : List Nat} (h : W.ownsRow base 5 1 v l.length (bs l)) (hp : 0 < l.length) : ∃ g c, v = .slice (some ⟨g, 0, none⟩) l.length c ∧ base ≤ g ∧ g < W.heap.size ∧ l.length ≤ c ∧ c ≤ maxLen ∧ ByAt W g 0 l := by
  rcases h.2 with ⟨_, h0⟩ | ⟨g, cap, cur, rfl, hb, hg, hc, hm, hcs, ht⟩
  · omega
  · refine ⟨g, cap, rfl, hb, by have := (Array.getElem?_eq_some_iff.1 hg).1; exact this, hc, hm, fun i hi => ?_⟩
    have := h.cells (g := g) rfl i (.int .u8 (l.getD i 0)) (by simp [bs, List.getElem?_eq_getElem hi])
    rwa [Addr.add_mid] at this
theorem ByAt.take {W : World} {b off : Nat} {l : List Nat} (h : ByAt W b off l) (n : Nat) : ByAt W b off (l.take n) := fun i hi => by
  simp only [List.length_take] at hi
  rw [h i (by omega)]
  simp [List.getD, List.getElem?_take, show i < n by omega]
theorem ByAt.bw {W W' : World} {b off : Nat} {l : List Nat} (h : ByAt W b off l) (k : BW W W') (hb : b < W.heap.size) : ByAt W' b off l := fun i hi => (k.cells b _ hb).trans (h i hi)
theorem st4 : st [69, 70, 70, 49] = ⟨#[69, 70, 70, 49]⟩ := by kernel_rfl
theorem mA_at (w W : World) (B : Nat) (hB : B + 1 < W.heap.size) (h0 : W.cell? ⟨B, 0, none⟩ = some (.int .u8 3)) (h1 : W.cell? ⟨B, 1, none⟩ = some (.int .i64 0))
    (k0 : W.cell? ⟨B + 1, 0, none⟩ = some (.int .i64 0)) (k1 : W.cell? ⟨B + 1, 1, none⟩ = some (.int .i64 1)) (k2 : W.cell? ⟨B + 1, 2, none⟩ = some (.int .i64 0)) (k3 : W.cell? ⟨B + 1, 3, none⟩ = some (.slice (some ⟨B, 0, none⟩) 1 1)) :
    ModAt W ⟨none, 0, 0, none, 0, 0, some ⟨B + 1, 0, none⟩, 1, 1, none, 0, 0⟩ mA := by
  have hm : (1 : Nat) ≤ maxLen := by unfold maxLen; omega
  have hm0 : (0 : Nat) ≤ maxLen := Nat.zero_le _
  refine ⟨⟨rfl, hm0, (by intro n hn; cases hn), .inl rfl⟩, ⟨rfl, hm0, (by intro n hn; cases hn), .inl rfl⟩, ⟨rfl, hm, .inr ⟨B + 1, 0, rfl, hB, fun i x hx => ?_⟩⟩, ⟨rfl, hm0, .inl rfl⟩, Nat.le_refl _, hm0, Nat.le_refl _, hm0, Nat.le_refl _, hm, Nat.le_refl _, hm0⟩
  match i, hx with
  | 0, hx =>
    simp only [mA, List.getElem?_cons_zero, Option.some.injEq] at hx
    subst hx
    refine ⟨some ⟨B, 0, none⟩, 1, 1, ⟨k0, k1, k2, k3⟩, by unfold I64; decide, by unfold I64; decide, by unfold I64; decide, Nat.le_refl _, hm, ⟨rfl, hm, .inr ⟨B, 0, rfl, by omega, fun i x hx => ?_⟩⟩⟩
    match i, hx with
    | 0, hx =>
      simp only [List.getElem?_cons_zero, Option.some.injEq] at hx
      subst hx
      exact ⟨h0, h1, by decide, by unfold I64; decide⟩
theorem mA_new (w : World) : ModAt ((w.alloc (.cells #[.int .u8 3, .int .i64 0] 43)).alloc (.cells #[.int .i64 0, .int .i64 1, .int .i64 0, .slice (some ⟨w.heap.size, 0, none⟩) 1 1] 46)) ⟨none, 0, 0, none, 0, 0, some ⟨w.heap.size + 1, 0, none⟩, 1, 1, none, 0, 0⟩ mA := by
  have k := fun j => cell_new (w.alloc (.cells #[.int .u8 3, .int .i64 0] 43)) #[.int .i64 0, .int .i64 1, .int .i64 0, .slice (some ⟨w.heap.size, 0, none⟩) 1 1] 46 j
  rw [show (w.alloc (.cells #[.int .u8 3, .int .i64 0] 43)).heap.size = w.heap.size + 1 by simp] at k
  exact mA_at w _ w.heap.size (by simp) ((World.cell?_alloc_lt _ _ _ (by simp)).trans (cell_new _ _ _ 0)) ((World.cell?_alloc_lt _ _ _ (by simp)).trans (cell_new _ _ _ 1)) (k 0) (k 1) (k 2) (k 3)
set_option maxRecDepth 100000 in
set_option maxHeartbeats 4000000 in
theorem awake_any (w : World) (hv : Vs w) : Calls Tryd.prog 9 #[] w fun e w' => e = .returned (.bool true) ∧ BW w w' := by
  have HP : Hid (∀ x, BW w x → ModAt x ⟨none, 0, 0, none, 0, 0, some ⟨w.heap.size + 1, 0, none⟩, 1, 1, none, 0, 0⟩ mA → Calls Tryd.prog 10 #[.agg #[.slice none 0 0, .slice none 0 0, .slice (some ⟨w.heap.size + 1, 0, none⟩) 1 1, .slice none 0 0]] x fun e w' => BW x w' ∧ ∃ v, e = .returned (.tuple #[v, .int .i64 0]) ∧ w'.ownsRow x.heap.size 5 1 v 14 (bs [69, 70, 70, 49, 0, 0, 1, 0, 1, 0, 1, 3, 0, 0])) := fun x k h =>
    (put_any _ mA x h (hv.bw k)).mono (fun e w' ⟨h1, h2⟩ => by
      rcases h2 with ⟨_, v, e1, e2⟩ | ⟨e1, _⟩
      · exact ⟨h1, v, e1, by rw [mA_en] at e2; exact e2⟩
      · rw [mA_may] at e1; cases e1)
  clear hv
  go_enter Tryd.func9, Tryd.ntmps9
  go_wp2_with (first
    | (go_at_call 10; go_loud (refine (HP.out _ (by repeat (first | exact BW.refl _ | assumption | apply BW.alloc | apply BW.drewN | apply BW.drew | (refine BW.setCell ?_ (by first | omega | (simp; done) | (simp; omega)) _) | (refine BW.trans ?_ (by assumption)))) (mA_new w)).mono ?_; rintro e w1 ⟨b1, v1, rfl, o1⟩; obtain ⟨g, c, rfl, hg, hz, hc, hm, hB⟩ := own_bytes (l := [69, 70, 70, 49, 0, 0, 1, 0, 1, 0, 1, 3, 0, 0]) o1 (by decide); have hb1 : BW w w1 := BW.trans (BW.alloc (BW.alloc (BW.refl _) _) _) b1; have hcv := (hB.take 4).cv c; simp only [List.take_succ_cons, List.take_zero, List.length_cons, List.length_nil, st4, Nat.zero_add, Nat.reduceAdd] at hcv hc ⊢; clear b1 o1 hB)))
  go_ret
  exact ⟨rfl, hb1⟩

end Go.Proofs.YtndhhmgbekcfoaaDoor
