import Derived.Test.YtndhhmgbekcfoaaDoorP5
import Derived.Test.YtndhhmgbekcfoaaDoorM10
namespace Go.Proofs.YtndhhmgbekcfoaaDoor
open Go.RowKit
set_option linter.unusedVariables false
set_option linter.unusedSimpArgs false

theorem fm_le {K : Type} {l : List K} {e : K → List Nat} {c : Nat} (h : ∀ x ∈ l, (e x).length ≤ c) : (l.flatMap e).length ≤ l.length * c := by
  induction l with
  | nil => simp
  | cons a r ih =>
    simp only [List.flatMap_cons, List.length_append, List.length_cons, Nat.add_mul, Nat.one_mul]
    have h1 := h a (by simp)
    have h2 := ih (fun x hx => h x (by simp [hx]))
    omega
theorem nb_len (n : Nat) : (nb n).length ≤ 10 ∧ 0 < (nb n).length := nbF_len 9 n
theorem fit_of {m : Mdl} (h : mayB m = true) : (m.ints.length ≤ 4096 ∧ m.texts.length ≤ 4096 ∧ m.pros.length ≤ 4096 ∧ m.tabs.length ≤ 4096) ∧ (∀ s ∈ m.texts, s.size ≤ 65536) ∧ (∀ x ∈ m.pros, prB m x = true) ∧ (∀ t ∈ m.tabs, tbB m t = true) := by
  simp only [mayB, fitB, Bool.and_eq_true, decide_eq_true_eq, Bool.not_eq_true', List.any_eq_false, Bool.not_eq_true, Bool.not_eq_false'] at h
  obtain ⟨⟨⟨⟨⟨⟨⟨h1, h2⟩, h3⟩, h4⟩, _⟩, h5⟩, h6⟩, h7⟩ := h
  exact ⟨⟨h1, h2, h3, h4⟩, fun s hs => by have := h5 s hs; omega, fun x hx => by have := h7 x hx; simpa using this, fun x hx => by have := h6 x hx; simpa using this⟩
theorem en_len {m : Mdl} (h : mayB m = true) : (en m).length ≤ 1099511627776 := by
  obtain ⟨⟨h1, h2, h3, h4⟩, h5, h6, h7⟩ := fit_of h
  have a1 : (m.ints.flatMap (fun n => nb (zz n))).length ≤ m.ints.length * 10 := fm_le (fun x _ => (nb_len _).1)
  have a2 : (m.texts.flatMap (fun s => nb s.size ++ sb s)).length ≤ m.texts.length * 65546 := fm_le (fun x hx => by
    have := h5 x hx; have := (nb_len x.size).1; simp only [List.length_append, sb_len]; omega)
  have a3 : (m.pros.flatMap enP).length ≤ m.pros.length * 180264 := fm_le (fun x hx => by
    have h8 := h6 x hx
    simp only [prB, Bool.and_eq_true, Bool.not_eq_true', decide_eq_false_iff_not] at h8
    have h9 : x.code.length ≤ 16384 := by omega
    have a : (x.code.flatMap enI).length ≤ x.code.length * 11 := fm_le (fun y _ => by simp only [enI, List.length_cons]; have := (nb_len (szn y.a)).1; omega)
    have := (nb_len (szn x.p)).1; have := (nb_len (szn x.s)).1; have := (nb_len (szn x.u)).1; have := (nb_len x.code.length).1
    simp only [enP, List.length_append]
    omega)
  have a4 : (m.tabs.flatMap enT).length ≤ m.tabs.length * 2011 := fm_le (fun x hx => by
    have h8 := h7 x hx
    simp only [tbB, Bool.and_eq_true, decide_eq_true_eq] at h8
    have a : (x.ops.flatMap (fun n => nb (szn n))).length ≤ x.ops.length * 10 := fm_le (fun y _ => (nb_len _).1)
    have := (nb_len x.ops.length).1
    have h9 := h8.1.1
    simp only [enT, List.length_append, List.length_singleton]
    omega)
  have := (nb_len m.ints.length).1; have := (nb_len m.texts.length).1; have := (nb_len m.pros.length).1; have := (nb_len m.tabs.length).1
  simp only [en, enInts, enTexts, enPros, enTabs, List.length_append, List.length_cons, List.length_nil]
  omega
theorem own_mono {w : World} {base base' e size n : Nat} {v : Value} {xs : List Value} (h : w.ownsRow base e size v n xs) (k : base' ≤ base) : w.ownsRow base' e size v n xs := by
  obtain ⟨h1, h2⟩ := h
  refine ⟨h1, ?_⟩
  rcases h2 with h2 | ⟨g, c, cur, e1, e2, e3⟩
  · exact .inl h2
  · exact .inr ⟨g, c, cur, e1, Nat.le_trans k e2, e3⟩
/-- What Put answers. -/
def PutPost (m : Mdl) (w : World) (e : Ending) (w' : World) : Prop := BW w w' ∧ ((mayB m = true ∧ ∃ v, e = .returned (.tuple #[v, .int .i64 0]) ∧ w'.ownsRow w.heap.size 5 1 v (en m).length (bs (en m))) ∨ (mayB m = false ∧ e = .returned (.tuple #[.slice none 0 0, .int .i64 18])))
set_option maxRecDepth 100000 in
set_option maxHeartbeats 4000000 in
theorem put_any (r : Mw) (m : Mdl) (w : World) (h : ModAt w r m) (hv : Vs w) : Calls Tryd.prog 10 #[r.v] w (PutPost m w) := by
  have HM : Hid (∀ w', BW w w' → Calls Tryd.prog 16 #[r.v] w' fun e w'' => e = .returned (.bool (mayB m)) ∧ BW w' w'') := fun w' k => may_any r m w' (h.bw k) (hv.bw k)
  have HP : Hid (∀ w', BW w w' → mayB m = true → Calls Tryd.prog 17 #[.slice none 0 0, r.v] w' fun e w'' => ∃ v, e = .returned v ∧ Bf w' w'' v (en m)) := fun w' k hm =>
    (putModule_c w' r m (h.bw k) w' (.slice none 0 0) [] (Bf.nil _) (by have := en_len hm; simpa using this)).mono (fun e w'' ⟨v, e1, e2, _⟩ => ⟨v, e1, by simpa using e2⟩)
  obtain ⟨ia, il, ic, ta, tl, tc, pa, pl, pc, ha, hl, hc⟩ := r
  (try dsimp only at HM HP)
  clear h hv
  unfold PutPost
  generalize hq : mayB m = q at *
  generalize hN : en m = nw at *
  clear hq hN
  cases q with
  | true =>
    go_enter Tryd.func10, Tryd.ntmps10
    go_wp2_with (first
      | (go_at_call 16; go_loud (refine (HM.out _ (by repeat (first | exact BW.refl _ | assumption | apply BW.alloc | apply BW.drewN | apply BW.drew | (refine BW.setCell ?_ (by first | omega | (simp; done) | (simp; omega)) _) | (refine BW.trans ?_ (by assumption))))).mono ?_; rintro e w1 ⟨rfl, b1⟩; obtain ⟨⟨g0, g1, g2, g3⟩, gz, gb⟩ := bxM_at (r := ⟨ia, il, ic, ta, tl, tc, pa, pl, pc, ha, hl, hc⟩) b1; dsimp only at g0 g1 g2 g3))
      | (go_at_call 17; go_loud (refine (HP.out _ gb (by trivial)).mono ?_; rintro e w2 ⟨v2, rfl, b2⟩; have B2 : Hid _ := b2; clear b2)))
    go_ret2
    exact ⟨gb.trans B2.out.1, .inl ⟨by trivial, _, rfl, own_mono B2.out.2 gb.size⟩⟩
  | false =>
    go_enter Tryd.func10, Tryd.ntmps10
    go_wp2_with (first
      | (go_at_call 16; go_loud (refine (HM.out _ (by repeat (first | exact BW.refl _ | assumption | apply BW.alloc | apply BW.drewN | apply BW.drew | (refine BW.setCell ?_ (by first | omega | (simp; done) | (simp; omega)) _) | (refine BW.trans ?_ (by assumption))))).mono ?_; rintro e w1 ⟨rfl, b1⟩; obtain ⟨⟨g0, g1, g2, g3⟩, gz, gb⟩ := bxM_at (r := ⟨ia, il, ic, ta, tl, tc, pa, pl, pc, ha, hl, hc⟩) b1; dsimp only at g0 g1 g2 g3)))
    go_ret2
    exact ⟨gb, .inr ⟨by trivial, rfl⟩⟩

end Go.Proofs.YtndhhmgbekcfoaaDoor
