import Derived.Test.YtndhhmgbekcfoaaDoorS5
import Derived.Test.YtndhhmgbekcfoaaDoorE4
import Derived.Maps.Own
import Derived.Maps.OwnSet
import Derived.Maps.Views
namespace Go.Proofs.YtndhhmgbekcfoaaDoor
open Go.RowKit
set_option linter.unusedVariables false
set_option linter.unusedSimpArgs false

open Go.Maps Go.WideMaps
/-- The texts of a table's operations. -/
def tx (m : Mdl) (o : Int) : ByteArray := m.texts.getD o.toNat ⟨#[]⟩
/-- Are all unlike? -/
def unl : List ByteArray → Bool
  | [] => true
  | x :: r => !(r.any (fun y => decide (y = x))) && unl r
theorem unl_snoc : ∀ (l : List ByteArray) (x : ByteArray), unl (l ++ [x]) = (unl l && !(l.any (fun y => decide (y = x)))) := by
  intro l
  induction l with
  | nil => intro x; simp [unl]
  | cons a r ih =>
    intro x
    simp only [List.cons_append, unl, ih, List.any_append, List.any_cons, List.any_nil, Bool.or_false]
    by_cases h : x = a
    · subst h; simp
    · have h2 : ¬ a = x := fun e => h e.symm
      simp [h, h2, Bool.and_assoc]
/-- May a table be? -/
def tbB (m : Mdl) (t : Tbl) : Bool := decide (t.ops.length ≤ 200) && t.ops.all (fun o => inR o m.texts.length) && unl (t.ops.map (tx m))
theorem law9 : Keyed Tryd.prog 9 := string_keyed Tryd.underlying9
def ky (s : ByteArray) : Lit := .string s.data.toList
/-- The set of some texts. -/
def Sd (l : List ByteArray) : DataW Unit := setOf (.agg []) (l.map ky)
theorem Sd_snoc (l : List ByteArray) (s : ByteArray) : Sd (l ++ [s]) = (Sd l).put (ky s) (.agg []) := by
  unfold Sd
  rw [List.map_append, List.map_cons, List.map_nil, setOf_snoc]
theorem ky_lit (l : List ByteArray) : ∀ x ∈ l.map ky, WideAt.IsKeyLit x := by
  intro x hx
  obtain ⟨s, _, rfl⟩ := List.mem_map.1 hx
  simp [ky, WideAt.IsKeyLit]
theorem same_ky (a b : ByteArray) : (ky a).sameKey (ky b) = decide (a = b) := by
  by_cases h : a = b
  · subst h
    simp [WideAt.sameKey_self (by simp [ky, WideAt.IsKeyLit] : WideAt.IsKeyLit (ky a))]
  · have hk : ky a ≠ ky b := fun e => h (Go.WideShapes.bytes_inj (by simpa [ky] using e))
    rw [Go.Maps.sameKey_ne hk]
    simp [h]
theorem Sd_has (l : List ByteArray) (s : ByteArray) : Maps.has (Sd l) (ky s) = l.any (fun y => decide (y = s)) := by
  unfold Sd
  rw [has_setOf _ _ _ (ky_lit l), List.any_map]
  congr 1
  funext y
  exact same_ky y s
theorem Sd_tidy (l : List ByteArray) : Tidy (Sd l) := tidy_fold _ _ _ tidy_empty (ky_lit l)
theorem Sd_size : ∀ (n : Nat) (l : List ByteArray), l.length = n → Maps.size (Sd l) ≤ l.length ∧ (Maps.size (Sd l) = l.length ↔ unl l = true) := by
  intro n
  induction n with
  | zero =>
    intro l h
    have : l = [] := List.length_eq_zero_iff.1 h
    subst this
    exact ⟨Nat.le_refl _, by simp [unl]; rfl⟩
  | succ n ih =>
    intro l h
    obtain ⟨r, x, rfl⟩ : ∃ r x, l = r ++ [x] := by
      rcases List.eq_nil_or_concat l with h0 | ⟨r, x, h0⟩
      · subst h0; simp at h
      · exact ⟨r, x, by simpa using h0⟩
    obtain ⟨h1, h2⟩ := ih r (by simpa using h)
    rw [Sd_snoc, size_put (Sd_tidy r), Sd_has, unl_snoc]
    simp only [List.length_append, List.length_cons, List.length_nil]
    cases hc : r.any (fun y => decide (y = x)) with
    | true => simp; omega
    | false => simp; exact ⟨by omega, ⟨fun e => h2.1 (by omega), fun e => by have := h2.2 e; omega⟩⟩
set_option maxRecDepth 100000 in
set_option maxHeartbeats 4000000 in
theorem table_any (r : Mw) (m : Mdl) (t : Tbl) (oa : Option Addr) (ol oc : Nat) (w : World) (h : ModAt w r m) (ht : TbV w t oa ol oc) : Calls Tryd.prog 35 #[r.v, tbv oa ol oc t.ret t.fin] w fun e w' => e = .returned (.bool (tbB m t)) ∧ BW w w' := by
  obtain ⟨_, l2, _, _, _, b2, _, _⟩ := h.lens
  have HM : Hid (ModAt w r m) := h
  have HO : Hid (IntsAt w oa ol t.ops) := ht.2.2.2
  have hol : t.ops.length = ol := ht.2.2.2.1
  have hob := ht.2.2.1
  by_cases c1 : 200 < ol
  · have e1 : decide ((200 : Int) < (ol : Int)) = true := by simp; omega
    have HR : Hid (tbB m t = false) := by
      show _ = _
      have : ¬ t.ops.length ≤ 200 := by omega
      simp [tbB, this]
    clear h ht l2 hol c1
    go_enter Tryd.func35, Tryd.ntmps35
    go_wp2_with (fail)
    go_ret
    exact ⟨by rw [HR.out]; rfl, (by repeat (first | exact BW.refl _ | assumption | apply BW.alloc | apply BW.drewN | apply BW.drew | (refine BW.setCell ?_ (by first | omega | (simp; done) | (simp; omega)) _) | (refine BW.trans ?_ (by assumption))))⟩
  · have e1 : decide ((200 : Int) < (ol : Int)) = false := by simp; omega
    have hol2 : ol ≤ 200 := by omega
    have hmm : ∀ W : World, (Instr.makeMap 103 (some (.int .i64 (ol : Int)))).run Tryd.prog W = .ok (.map (some W.heap.size)) (W.alloc (.map #[] 0)) := fun W => by
      simp [Instr.makeMap, run_underlying Tryd.underlying103]
      rfl
    have L : Hid (m.texts.length = r.tl ∧ t.ops.length = ol) := ⟨l2, hol⟩
    clear h ht l2 hol c1
    obtain ⟨ia, il, ic, ta, tl, tc, pa, pl, pc, ha, hl, hc⟩ := r
    dsimp only at b2
    go_enter Tryd.func35, Tryd.ntmps35
    go_wp2_with (fail)
    go_loopw [19] (fun i w' => ∃ k : Nat, k ≤ ol ∧ i = .int .i64 k ∧ Hid ((t.ops.take k).all (fun o => inR o m.texts.length) = true) ∧ w'.ownsMap Tryd.prog 9 unitElem (w.heap.size + 2) k (Sd ((t.ops.take k).map (tx m))) ∧ BW (bxT (bxM w ⟨ia, il, ic, ta, tl, tc, pa, pl, pc, ha, hl, hc⟩) t oa ol oc) w') (fun i _ => ol - (intOf i).toNat)
    case atStart => exact ⟨0, Nat.zero_le _, rfl, by simp [Hid], by have := World.ownsMap_made ((w.alloc (.cells #[.slice ia il ic, .slice ta tl tc, .slice pa pl pc, .slice ha hl hc] 27)).alloc (.cells #[.slice oa ol oc, .bool t.ret, .bool t.fin] 50)) Tryd.prog 9 (unitElem (H := Unit)); simpa [Sd, setOf] using this, BW.alloc (BW.refl _) _⟩
    case round =>
      obtain ⟨k, hk, rfl, HA, hown, hb1⟩ := hrel
      obtain ⟨⟨f0, f1, f2⟩, fz, hb2⟩ := bxT_at hb1
      obtain ⟨⟨g0, g1, g2, g3⟩, gz, hb⟩ := bxM_at hb2
      dsimp only at g0 g1 g2 g3
      have ez : (bxM w ⟨ia, il, ic, ta, tl, tc, pa, pl, pc, ha, hl, hc⟩).heap.size = w.heap.size + 1 := by simp
      rw [ez] at f0 f1 f2 fz
      by_cases hlt : k < ol
      · obtain ⟨b, off, o, rfl, hbl, hx, hoi, hc0⟩ := IntsAt.get HO.out hlt
        have d0 := (hb.cells b (off + k) hbl).trans hc0
        cases hr : inR o (tl : Int) with
        | false =>
          have HS : Hid (t.ops.all (fun o => inR o m.texts.length) = false) := all_miss _ hx (by rw [L.out.1]; exact hr)
          clear hx HA hown
          go_wp2_with (first | (go_at_call 60; refine (below_any _ _ _).mono ?_; rw [hr]; rintro e w2 ⟨rfl, rfl⟩))
          go_ret
          exact ⟨by unfold tbB; rw [HS.out]; simp, BW.trans hb (by repeat (first | exact BW.refl _ | assumption | apply BW.alloc | apply BW.drewN | apply BW.drew | (refine BW.setCell ?_ (by first | omega | (simp; done) | (simp; omega)) _) | (refine BW.trans ?_ (by assumption))))⟩
        | true =>
          have hr2 := hr
          simp only [inR, Bool.and_eq_true, decide_eq_true_eq] at hr2
          obtain ⟨q, rfl⟩ : ∃ q : Nat, o = (q : Int) := ⟨o.toNat, by omega⟩
          have hq : q < tl := by omega
          obtain ⟨b5, of5, s, rfl, hbl5, hs, hsz, hc5⟩ := StrsAt.get HM.out.texts hq
          have d5 := (hb.cells b5 (of5 + q) hbl5).trans hc5
          have hkey : keyOf Tryd.prog 9 (.string s) = some (ky s) := keyOf_string_mk Tryd.underlying9 hsz
          have hts : tx m (q : Int) = s := by unfold tx; simp only [Int.toNat_natCast, List.getD]; rw [hs]; rfl
          have HS : Hid ((t.ops.take (k + 1)).all (fun o => inR o m.texts.length) = true) := by show _ = _; rw [all_snoc _ hx, HA.out, L.out.1, hr]; rfl
          have HT : Hid ((t.ops.take (k + 1)).map (tx m) = (t.ops.take k).map (tx m) ++ [s]) := by show _ = _; rw [List.take_add_one, hx]; simp [hts]
          clear hx HA hs hts hsz
          go_wp2_with (first
            | (go_at_call 60; refine (below_any _ _ _).mono ?_; rw [hr]; rintro e w2 ⟨rfl, rfl⟩)
            | (at_mapUpdate; refine wpList_mapUpdate_own _ rfl _ _ _ 103 rfl 9 54 law9 Tryd.underlying103 (unitElem (H := Unit)) (w.heap.size + 2) k _ rfl hown (by unfold maxLen; omega) _ _ _ rfl rfl hkey _ [] unitElem_mk ?_; intro w1 hown1 hgrow1))
          go_roundw
          case rel => exact ⟨k + 1, by omega, by go_num, HS, by rw [HT.out, Sd_snoc]; exact hown1, Below.grown hb1 hgrow1 hb1.size (fun j hj => by cases hj; simp)⟩
          case measure => simp [intOf]; omega
      · obtain rfl : ol = k := by omega
        have hsz := Sd_size ol (t.ops.map (tx m)) (by simp [L.out.2])
        have HA2 := HA.out
        rw [List.take_of_length_le (by rw [L.out.2]; omega)] at HA2 hown
        have h200 : t.ops.length ≤ 200 := by have := L.out.2; omega
        have HR : Hid (tbB m t = unl (t.ops.map (tx m))) := by show _ = _; simp [tbB, h200, HA2]
        clear h200
        have hq : ((Maps.size (Sd (t.ops.map (tx m))) : Int) == (ol : Int)) = unl (t.ops.map (tx m)) := by
          apply Bool.eq_iff_iff.2
          rw [← hsz.2]
          simp [L.out.2]
          omega
        have HQ : Hid (unl (t.ops.map (tx m)) = ((Maps.size (Sd (t.ops.map (tx m))) : Int) == (ol : Int))) := hq.symm
        clear hq hsz HA HA2
        generalize hD : Sd (t.ops.map (tx m)) = D at *
        clear hD
        go_wp2_with (first
          | (at_len; refine wpList_len_own _ rfl _ 103 rfl 9 54 Tryd.underlying103 (unitElem (H := Unit)) (w.heap.size + 2) ol D rfl hown ?_))
        go_ret
        exact ⟨by rw [HR.out, HQ.out]; rfl, BW.trans hb (by repeat (first | exact BW.refl _ | assumption | apply BW.alloc | apply BW.drewN | apply BW.drew | (refine BW.setCell ?_ (by first | omega | (simp; done) | (simp; omega)) _) | (refine BW.trans ?_ (by assumption))))⟩

end Go.Proofs.YtndhhmgbekcfoaaDoor
