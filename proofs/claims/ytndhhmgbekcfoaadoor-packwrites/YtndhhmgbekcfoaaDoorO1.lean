import Derived.Test.YtndhhmgbekcfoaaDoorD1
import Derived.Test.YtndhhmgbekcfoaaDoorG1
import Derived.Test.YtndhhmgbekcfoaaDoorS9
import Derived.Test.YtndhhmgbekcfoaaDoorM10
namespace Go.Proofs.YtndhhmgbekcfoaaDoor
open Go.RowKit
set_option linter.unusedVariables false
set_option linter.unusedSimpArgs false

theorem nbF_byte (f n : Nat) (h : n < 128 ^ (f + 1)) : ∀ k ∈ nbF f n, k ≤ 255 := by
  induction f generalizing n with
  | zero => intro k hk; simp [nbF] at hk; subst hk; simp at h; omega
  | succ f ih =>
    intro k hk
    unfold nbF at hk
    split at hk
    · simp at hk; omega
    · rcases List.mem_cons.1 hk with rfl | hk
      · omega
      · exact ih _ (by rw [Nat.pow_succ] at h; exact (Nat.div_lt_iff_lt_mul (by decide)).2 h) k hk
theorem nb_byte (n : Nat) (h : n ≤ 18446744073709551615) : ∀ k ∈ nb n, k ≤ 255 := nbF_byte 9 n (by omega)
theorem szn_le (n : Int) : szn n ≤ 18446744073709551615 := (szn_of n).2
/-- All are bytes. -/
def Byt (l : List Nat) : Prop := ∀ k ∈ l, k ≤ 255
theorem Byt.app {a b : List Nat} (h : Byt a) (k : Byt b) : Byt (a ++ b) := fun x hx => (List.mem_append.1 hx).elim (h x) (k x)
theorem Byt.fm {K : Type} {l : List K} {e : K → List Nat} (h : ∀ x ∈ l, Byt (e x)) : Byt (l.flatMap e) := fun x hx => by
  obtain ⟨y, hy, hx⟩ := List.mem_flatMap.1 hx
  exact h y hy x hx
theorem sb_byte (s : ByteArray) : Byt (sb s) := fun k hk => by
  obtain ⟨b, _, rfl⟩ := List.mem_map.1 hk
  have := b.toNat_lt
  omega
theorem zz_le {n : Int} (h : I64 n) : zz n ≤ 18446744073709551615 := by unfold I64 at h; unfold zz; split <;> omega
theorem en_byte {m : Mdl} (h : Gm m) : Byt (en m) := by
  refine Byt.app (Byt.app (Byt.app (Byt.app (by intro k hk; simp at hk; omega) ?_) ?_) ?_) ?_
  · exact Byt.app (nb_byte _ (by have := h.l1; omega)) (Byt.fm fun x hx => nb_byte _ (zz_le (h.i x hx)))
  · exact Byt.app (nb_byte _ (by have := h.l2; omega)) (Byt.fm fun x hx => Byt.app (nb_byte _ (by have := h.t x hx; omega)) (sb_byte x))
  · refine Byt.app (nb_byte _ (by have := h.l3; omega)) (Byt.fm fun x hx => ?_)
    have hp := h.p x hx
    refine Byt.app (Byt.app (Byt.app (nb_byte _ (szn_le _)) (nb_byte _ (szn_le _))) (nb_byte _ (szn_le _))) (Byt.app (nb_byte _ (by have := hp.2.2.2.1; omega)) (Byt.fm fun i hi => ?_))
    have hi := (hp.2.2.2.2 i hi).1
    intro k hk
    rcases List.mem_cons.1 hk with rfl | hk
    · omega
    · exact nb_byte _ (szn_le _) k hk
  · refine Byt.app (nb_byte _ (by have := h.l4; omega)) (Byt.fm fun x hx => Byt.app (Byt.app (nb_byte _ (by have := (h.h x hx).1; omega)) (Byt.fm fun i hi => nb_byte _ (szn_le _))) ?_)
    intro k hk
    simp [flg] at hk
    subst hk
    split <;> split <;> omega
theorem st_inj {a b : List Nat} (ha : Byt a) (hb : Byt b) (h : st a = st b) : a = b := by
  have h1 : (strOfNums (a.map (fun k : Nat => (k : Int)))).data.toList = (strOfNums (b.map (fun k : Nat => (k : Int)))).data.toList := congrArg (fun s => s.data.toList) h
  rw [strOfNums_data, strOfNums_data, List.map_map, List.map_map] at h1
  have e : ∀ l : List Nat, Byt l → (l.map ((fun n : Int => UInt8.ofNat n.toNat) ∘ fun k : Nat => (k : Int))).map (fun b => b.toNat) = l := by
    intro l hl
    rw [List.map_map]
    conv => rhs; rw [← List.map_id l]
    apply List.map_congr_left
    intro k hk
    have := hl k hk
    simp
    omega
  rw [← e a ha, ← e b hb, h1]
set_option maxRecDepth 100000 in
set_option maxHeartbeats 4000000 in
theorem packOne_any (r s : Mw) (m o : Mdl) (w : World) (h1 : ModAt w r m) (h2 : ModAt w s o) (hv : Vs w) : Calls Tryd.prog 6 #[r.v, s.v] w fun e w' => e = .returned (.bool true) ∧ BW w w' := by
  have HG : Hid (∀ w', BW w w' → Calls Tryd.prog 8 #[r.v] w' fun e w'' => e = .returned (.bool (gr m)) ∧ BW w' w'') := fun w' k => great_any r m w' (h1.bw k)
  have HG2 : Hid (∀ w', BW w w' → Calls Tryd.prog 8 #[s.v] w' fun e w'' => e = .returned (.bool (gr o)) ∧ BW w' w'') := fun w' k => great_any s o w' (h2.bw k)
  have HN : Hid (∀ w', BW w w' → Calls Tryd.prog 11 #[r.v] w' fun e w'' => e = .returned (.bool (mayB m)) ∧ BW w' w'') := fun w' k => refMay_any r m w' (h1.bw k) (hv.bw k)
  have HN2 : Hid (∀ w', BW w w' → Calls Tryd.prog 11 #[s.v] w' fun e w'' => e = .returned (.bool (mayB o)) ∧ BW w' w'') := fun w' k => refMay_any s o w' (h2.bw k) (hv.bw k)
  have HT : Hid (∀ w', BW w w' → Calls Tryd.prog 14 #[r.v, s.v] w' fun e w'' => e = .returned (.bool (smM m o)) ∧ BW w' w'') := fun w' k => refSame_any r s m o w' (h1.bw k) (h2.bw k)
  have HP : Hid (∀ w', BW w w' → Calls Tryd.prog 10 #[r.v] w' (PutPost m w')) := fun w' k => put_any r m w' (h1.bw k) (hv.bw k)
  have HP2 : Hid (∀ w', BW w w' → Calls Tryd.prog 10 #[s.v] w' (PutPost o w')) := fun w' k => put_any s o w' (h2.bw k) (hv.bw k)
  have HA : Hid (∀ w', BW w w' → Calls Tryd.prog 9 #[] w' fun e w'' => e = .returned (.bool true) ∧ BW w' w'') := fun w' k => awake_any w' (hv.bw k)
  have GM : Hid (mayB m = true → Gm m) := gm_of h1
  have GO : Hid (mayB o = true → Gm o) := gm_of h2
  clear h1 h2 hv
  obtain ⟨ia, il, ic, ta, tl, tc, pa, pl, pc, ha, hl, hc⟩ := r
  obtain ⟨ia', il', ic', ta', tl', tc', pa', pl', pc', ha', hl', hc'⟩ := s
  have AT : Hid (∀ w', BW (bxM (bxM w ⟨ia, il, ic, ta, tl, tc, pa, pl, pc, ha, hl, hc⟩) ⟨ia', il', ic', ta', tl', tc', pa', pl', pc', ha', hl', hc'⟩) w' → MdK w' w.heap.size ⟨ia, il, ic, ta, tl, tc, pa, pl, pc, ha, hl, hc⟩ ∧ MdK w' (w.heap.size + 1) ⟨ia', il', ic', ta', tl', tc', pa', pl', pc', ha', hl', hc'⟩ ∧ w.heap.size + 1 < w'.heap.size ∧ BW w w') := fun w' k => bxMM_at k
  have AW : Hid (∀ w', BW (bxM (bxM w ⟨ia, il, ic, ta, tl, tc, pa, pl, pc, ha, hl, hc⟩) ⟨ia', il', ic', ta', tl', tc', pa', pl', pc', ha', hl', hc'⟩) w' → BW w w') := fun w' k => (bxMM_at k).2.2.2
  by_cases hg1 : gr m = true
  · rw [hg1] at HG
    go_enter Tryd.func6, Tryd.ntmps6
    go_wp2_with (first
      | (go_at_call 8; go_loud (refine (HG.out _ (AW.out _ (by repeat (first | exact BW.refl _ | apply BW.alloc | apply BW.drewN | apply BW.drew)))).mono ?_; rintro e w1 ⟨rfl, b1⟩; have hb1 : BW (bxM (bxM w ⟨ia, il, ic, ta, tl, tc, pa, pl, pc, ha, hl, hc⟩) ⟨ia', il', ic', ta', tl', tc', pa', pl', pc', ha', hl', hc'⟩) w1 := BW.trans (by repeat (first | exact BW.refl _ | apply BW.alloc | apply BW.drewN | apply BW.drew)) b1; obtain ⟨⟨g10, g11, g12, g13⟩, ⟨f10, f11, f12, f13⟩, gz1, gb1⟩ := AT.out _ hb1; dsimp only at g10 g11 g12 g13 f10 f11 f12 f13))
      | (go_at_call 9; go_loud (refine (HA.out _ gb1).mono ?_; rintro e w9 ⟨rfl, b9⟩)))
    go_ret
    exact ⟨rfl, gb1.trans b9⟩
  by_cases hg2 : gr o = true
  · rw [hg2] at HG2
    rw [Bool.not_eq_true] at hg1
    rw [hg1] at HG
    go_enter Tryd.func6, Tryd.ntmps6
    go_wp2_with (first
      | (go_at_call_of 8 (Value.agg #[Value.slice ia' il' ic', Value.slice ta' tl' tc', Value.slice pa' pl' pc', Value.slice ha' hl' hc']); go_loud (refine (HG2.out _ (AW.out _ hb1)).mono ?_; rintro e w2 ⟨rfl, b2⟩; have hb2 : BW (bxM (bxM w ⟨ia, il, ic, ta, tl, tc, pa, pl, pc, ha, hl, hc⟩) ⟨ia', il', ic', ta', tl', tc', pa', pl', pc', ha', hl', hc'⟩) w2 := BW.trans hb1 b2; obtain ⟨⟨g20, g21, g22, g23⟩, ⟨f20, f21, f22, f23⟩, gz2, gb2⟩ := AT.out _ hb2; dsimp only at g20 g21 g22 g23 f20 f21 f22 f23))
      | (go_at_call 8; go_loud (refine (HG.out _ (AW.out _ (by repeat (first | exact BW.refl _ | apply BW.alloc | apply BW.drewN | apply BW.drew)))).mono ?_; rintro e w1 ⟨rfl, b1⟩; have hb1 : BW (bxM (bxM w ⟨ia, il, ic, ta, tl, tc, pa, pl, pc, ha, hl, hc⟩) ⟨ia', il', ic', ta', tl', tc', pa', pl', pc', ha', hl', hc'⟩) w1 := BW.trans (by repeat (first | exact BW.refl _ | apply BW.alloc | apply BW.drewN | apply BW.drew)) b1; obtain ⟨⟨g10, g11, g12, g13⟩, ⟨f10, f11, f12, f13⟩, gz1, gb1⟩ := AT.out _ hb1; dsimp only at g10 g11 g12 g13 f10 f11 f12 f13))
      | (go_at_call 9; go_loud (refine (HA.out _ gb2).mono ?_; rintro e w9 ⟨rfl, b9⟩)))
    go_ret
    exact ⟨rfl, gb2.trans b9⟩
  rw [Bool.not_eq_true] at hg1 hg2
  rw [hg1] at HG
  rw [hg2] at HG2
  by_cases hm1 : mayB m = false
  · rw [hm1] at HN
    go_enter Tryd.func6, Tryd.ntmps6
    go_wp2_with (first
      | (go_at_call_of 8 (Value.agg #[Value.slice ia' il' ic', Value.slice ta' tl' tc', Value.slice pa' pl' pc', Value.slice ha' hl' hc']); go_loud (refine (HG2.out _ (AW.out _ hb1)).mono ?_; rintro e w2 ⟨rfl, b2⟩; have hb2 : BW (bxM (bxM w ⟨ia, il, ic, ta, tl, tc, pa, pl, pc, ha, hl, hc⟩) ⟨ia', il', ic', ta', tl', tc', pa', pl', pc', ha', hl', hc'⟩) w2 := BW.trans hb1 b2; obtain ⟨⟨g20, g21, g22, g23⟩, ⟨f20, f21, f22, f23⟩, gz2, gb2⟩ := AT.out _ hb2; dsimp only at g20 g21 g22 g23 f20 f21 f22 f23))
      | (go_at_call 8; go_loud (refine (HG.out _ (AW.out _ (by repeat (first | exact BW.refl _ | apply BW.alloc | apply BW.drewN | apply BW.drew)))).mono ?_; rintro e w1 ⟨rfl, b1⟩; have hb1 : BW (bxM (bxM w ⟨ia, il, ic, ta, tl, tc, pa, pl, pc, ha, hl, hc⟩) ⟨ia', il', ic', ta', tl', tc', pa', pl', pc', ha', hl', hc'⟩) w1 := BW.trans (by repeat (first | exact BW.refl _ | apply BW.alloc | apply BW.drewN | apply BW.drew)) b1; obtain ⟨⟨g10, g11, g12, g13⟩, ⟨f10, f11, f12, f13⟩, gz1, gb1⟩ := AT.out _ hb1; dsimp only at g10 g11 g12 g13 f10 f11 f12 f13))
      | (go_at_call 11; go_loud (refine (HN.out _ (AW.out _ hb2)).mono ?_; rintro e w3 ⟨rfl, b3⟩; have hb3 : BW (bxM (bxM w ⟨ia, il, ic, ta, tl, tc, pa, pl, pc, ha, hl, hc⟩) ⟨ia', il', ic', ta', tl', tc', pa', pl', pc', ha', hl', hc'⟩) w3 := BW.trans hb2 b3; obtain ⟨⟨g30, g31, g32, g33⟩, ⟨f30, f31, f32, f33⟩, gz3, gb3⟩ := AT.out _ hb3; dsimp only at g30 g31 g32 g33 f30 f31 f32 f33))
      | (go_at_call 9; go_loud (refine (HA.out _ gb3).mono ?_; rintro e w9 ⟨rfl, b9⟩)))
    go_ret
    exact ⟨rfl, gb3.trans b9⟩
  by_cases hm2 : mayB o = false
  · rw [Bool.not_eq_false] at hm1
    rw [hm1] at HN
    rw [hm2] at HN2
    go_enter Tryd.func6, Tryd.ntmps6
    go_wp2_with (first
      | (go_at_call_of 8 (Value.agg #[Value.slice ia' il' ic', Value.slice ta' tl' tc', Value.slice pa' pl' pc', Value.slice ha' hl' hc']); go_loud (refine (HG2.out _ (AW.out _ hb1)).mono ?_; rintro e w2 ⟨rfl, b2⟩; have hb2 : BW (bxM (bxM w ⟨ia, il, ic, ta, tl, tc, pa, pl, pc, ha, hl, hc⟩) ⟨ia', il', ic', ta', tl', tc', pa', pl', pc', ha', hl', hc'⟩) w2 := BW.trans hb1 b2; obtain ⟨⟨g20, g21, g22, g23⟩, ⟨f20, f21, f22, f23⟩, gz2, gb2⟩ := AT.out _ hb2; dsimp only at g20 g21 g22 g23 f20 f21 f22 f23))
      | (go_at_call 8; go_loud (refine (HG.out _ (AW.out _ (by repeat (first | exact BW.refl _ | apply BW.alloc | apply BW.drewN | apply BW.drew)))).mono ?_; rintro e w1 ⟨rfl, b1⟩; have hb1 : BW (bxM (bxM w ⟨ia, il, ic, ta, tl, tc, pa, pl, pc, ha, hl, hc⟩) ⟨ia', il', ic', ta', tl', tc', pa', pl', pc', ha', hl', hc'⟩) w1 := BW.trans (by repeat (first | exact BW.refl _ | apply BW.alloc | apply BW.drewN | apply BW.drew)) b1; obtain ⟨⟨g10, g11, g12, g13⟩, ⟨f10, f11, f12, f13⟩, gz1, gb1⟩ := AT.out _ hb1; dsimp only at g10 g11 g12 g13 f10 f11 f12 f13))
      | (go_at_call_of 11 (Value.agg #[Value.slice ia' il' ic', Value.slice ta' tl' tc', Value.slice pa' pl' pc', Value.slice ha' hl' hc']); go_loud (refine (HN2.out _ (AW.out _ hb3)).mono ?_; rintro e w4 ⟨rfl, b4⟩; have hb4 : BW (bxM (bxM w ⟨ia, il, ic, ta, tl, tc, pa, pl, pc, ha, hl, hc⟩) ⟨ia', il', ic', ta', tl', tc', pa', pl', pc', ha', hl', hc'⟩) w4 := BW.trans hb3 b4; obtain ⟨⟨g40, g41, g42, g43⟩, ⟨f40, f41, f42, f43⟩, gz4, gb4⟩ := AT.out _ hb4; dsimp only at g40 g41 g42 g43 f40 f41 f42 f43))
      | (go_at_call 11; go_loud (refine (HN.out _ (AW.out _ hb2)).mono ?_; rintro e w3 ⟨rfl, b3⟩; have hb3 : BW (bxM (bxM w ⟨ia, il, ic, ta, tl, tc, pa, pl, pc, ha, hl, hc⟩) ⟨ia', il', ic', ta', tl', tc', pa', pl', pc', ha', hl', hc'⟩) w3 := BW.trans hb2 b3; obtain ⟨⟨g30, g31, g32, g33⟩, ⟨f30, f31, f32, f33⟩, gz3, gb3⟩ := AT.out _ hb3; dsimp only at g30 g31 g32 g33 f30 f31 f32 f33))
      | (go_at_call 9; go_loud (refine (HA.out _ gb4).mono ?_; rintro e w9 ⟨rfl, b9⟩)))
    go_ret
    exact ⟨rfl, gb4.trans b9⟩
  rw [Bool.not_eq_false] at hm1 hm2
  have gm := GM.out hm1
  have go := GO.out hm2
  have HX : ((st (en m)).toList == (st (en o)).toList) = smM m o := by
    have e : st (en m) = st (en o) ↔ smM m o = true := by
      rw [smM_eq]
      exact ⟨fun h => en_inj gm go (st_inj (en_byte gm) (en_byte go) h), fun h => by rw [h]⟩
    have e3 : (st (en m)).toList = (st (en o)).toList ↔ st (en m) = st (en o) := by
      rw [ByteArray.toList_eq, ByteArray.toList_eq]
      constructor
      · intro h
        generalize st (en m) = a at *
        generalize st (en o) = b at *
        obtain ⟨⟨a⟩⟩ := a
        obtain ⟨⟨b⟩⟩ := b
        simpa using h
      · intro h; rw [h]
    have e2 : ((st (en m)).toList == (st (en o)).toList) = smM m o := by
      cases hs : smM m o with
      | true => simp [e3, e, hs]
      | false => simp [e3, e, hs]
    exact e2
  have HP' : Hid (∀ w', BW w w' → Calls Tryd.prog 10 #[.agg #[.slice ia il ic, .slice ta tl tc, .slice pa pl pc, .slice ha hl hc]] w' fun e w'' => (∃ v, e = .returned (.tuple #[v, .int .i64 0]) ∧ w''.ownsRow w'.heap.size 5 1 v (en m).length (bs (en m))) ∧ BW w' w'') := fun w' k => (HP.out w' k).mono (fun e w'' h => by
    rcases h.2 with ⟨_, v, h3, h4⟩ | ⟨h3, _⟩
    · exact ⟨⟨v, h3, h4⟩, h.1⟩
    · rw [hm1] at h3; cases h3)
  have HP2' : Hid (∀ w', BW w w' → Calls Tryd.prog 10 #[.agg #[.slice ia' il' ic', .slice ta' tl' tc', .slice pa' pl' pc', .slice ha' hl' hc']] w' fun e w'' => (∃ v, e = .returned (.tuple #[v, .int .i64 0]) ∧ w''.ownsRow w'.heap.size 5 1 v (en o).length (bs (en o))) ∧ BW w' w'') := fun w' k => (HP2.out w' k).mono (fun e w'' h => by
    rcases h.2 with ⟨_, v, h3, h4⟩ | ⟨h3, _⟩
    · exact ⟨⟨v, h3, h4⟩, h.1⟩
    · rw [hm2] at h3; cases h3)
  have q1 : 0 < (en m).length := by simp [en]
  have q2 : 0 < (en o).length := by simp [en]
  rw [hm1] at HN
  rw [hm2] at HN2
  clear HP HP2 gm go GM GO hg1 hg2 hm1 hm2
  generalize en m = xm at *
  generalize en o = xo at *
  generalize smM m o = q4 at *
  have z4 : (q4 == q4) = true := by simp
  go_enter Tryd.func6, Tryd.ntmps6
  go_wp2_with (first
    | (go_at_call_of 8 (Value.agg #[Value.slice ia' il' ic', Value.slice ta' tl' tc', Value.slice pa' pl' pc', Value.slice ha' hl' hc']); go_loud (refine (HG2.out _ (AW.out _ hb1)).mono ?_; rintro e w2 ⟨rfl, b2⟩; have hb2 : BW (bxM (bxM w ⟨ia, il, ic, ta, tl, tc, pa, pl, pc, ha, hl, hc⟩) ⟨ia', il', ic', ta', tl', tc', pa', pl', pc', ha', hl', hc'⟩) w2 := BW.trans hb1 b2; obtain ⟨⟨g20, g21, g22, g23⟩, ⟨f20, f21, f22, f23⟩, gz2, gb2⟩ := AT.out _ hb2; dsimp only at g20 g21 g22 g23 f20 f21 f22 f23))
    | (go_at_call 8; go_loud (refine (HG.out _ (AW.out _ (by repeat (first | exact BW.refl _ | apply BW.alloc | apply BW.drewN | apply BW.drew)))).mono ?_; rintro e w1 ⟨rfl, b1⟩; have hb1 : BW (bxM (bxM w ⟨ia, il, ic, ta, tl, tc, pa, pl, pc, ha, hl, hc⟩) ⟨ia', il', ic', ta', tl', tc', pa', pl', pc', ha', hl', hc'⟩) w1 := BW.trans (by repeat (first | exact BW.refl _ | apply BW.alloc | apply BW.drewN | apply BW.drew)) b1; obtain ⟨⟨g10, g11, g12, g13⟩, ⟨f10, f11, f12, f13⟩, gz1, gb1⟩ := AT.out _ hb1; dsimp only at g10 g11 g12 g13 f10 f11 f12 f13))
    | (go_at_call_of 11 (Value.agg #[Value.slice ia' il' ic', Value.slice ta' tl' tc', Value.slice pa' pl' pc', Value.slice ha' hl' hc']); go_loud (refine (HN2.out _ (AW.out _ hb3)).mono ?_; rintro e w4 ⟨rfl, b4⟩; have hb4 : BW (bxM (bxM w ⟨ia, il, ic, ta, tl, tc, pa, pl, pc, ha, hl, hc⟩) ⟨ia', il', ic', ta', tl', tc', pa', pl', pc', ha', hl', hc'⟩) w4 := BW.trans hb3 b4; obtain ⟨⟨g40, g41, g42, g43⟩, ⟨f40, f41, f42, f43⟩, gz4, gb4⟩ := AT.out _ hb4; dsimp only at g40 g41 g42 g43 f40 f41 f42 f43))
    | (go_at_call 11; go_loud (refine (HN.out _ (AW.out _ hb2)).mono ?_; rintro e w3 ⟨rfl, b3⟩; have hb3 : BW (bxM (bxM w ⟨ia, il, ic, ta, tl, tc, pa, pl, pc, ha, hl, hc⟩) ⟨ia', il', ic', ta', tl', tc', pa', pl', pc', ha', hl', hc'⟩) w3 := BW.trans hb2 b3; obtain ⟨⟨g30, g31, g32, g33⟩, ⟨f30, f31, f32, f33⟩, gz3, gb3⟩ := AT.out _ hb3; dsimp only at g30 g31 g32 g33 f30 f31 f32 f33))
    | (go_at_call_of 10 (Value.agg #[Value.slice ia' il' ic', Value.slice ta' tl' tc', Value.slice pa' pl' pc', Value.slice ha' hl' hc']); go_loud (refine (HP2'.out _ (AW.out _ hb5)).mono ?_; rintro e w6 ⟨⟨v6, rfl, o6⟩, b6⟩; have hb6 : BW (bxM (bxM w ⟨ia, il, ic, ta, tl, tc, pa, pl, pc, ha, hl, hc⟩) ⟨ia', il', ic', ta', tl', tc', pa', pl', pc', ha', hl', hc'⟩) w6 := BW.trans hb5 b6; obtain ⟨⟨g60, g61, g62, g63⟩, ⟨f60, f61, f62, f63⟩, gz6, gb6⟩ := AT.out _ hb6; dsimp only at g60 g61 g62 g63 f60 f61 f62 f63; obtain ⟨gy, cy, rfl, hg6, hz6, hc6, hm6, hB6⟩ := own_bytes o6 q2; have hB56 := hB5.bw b6 hz5; have hz56 : gx < w6.heap.size := Nat.lt_of_lt_of_le hz5 b6.size))
    | (go_at_call 10; go_loud (refine (HP'.out _ (AW.out _ hb4)).mono ?_; rintro e w5 ⟨⟨v5, rfl, o5⟩, b5⟩; have hb5 : BW (bxM (bxM w ⟨ia, il, ic, ta, tl, tc, pa, pl, pc, ha, hl, hc⟩) ⟨ia', il', ic', ta', tl', tc', pa', pl', pc', ha', hl', hc'⟩) w5 := BW.trans hb4 b5; obtain ⟨⟨g50, g51, g52, g53⟩, ⟨f50, f51, f52, f53⟩, gz5, gb5⟩ := AT.out _ hb5; dsimp only at g50 g51 g52 g53 f50 f51 f52 f53; obtain ⟨gx, cx, rfl, hg5, hz5, hc5, hm5, hB5⟩ := own_bytes o5 q1)))
  have cvx : ∀ W, BW w6 W → (convert 30 9 (.slice (some ⟨gx, 0, none⟩) xm.length cx)).run Tryd.prog W = .ok (.string (st xm)) W := fun W k => (hB56.bw k hz56).cv cx
  have cvy : ∀ W, BW w6 W → (convert 30 9 (.slice (some ⟨gy, 0, none⟩) xo.length cy)).run Tryd.prog W = .ok (.string (st xo)) W := fun W k => (hB6.bw k hz6).cv cy
  have gw : w.heap.size + 1 < w6.heap.size := gz6
  have gw2 : w.heap.size < w6.heap.size := by omega
  clear b1 b2 b3 b4 b5 b6 hb1 hb2 hb3 hb4 hb5 hb6 o5 o6 hB5 hB6 hB56 g10 g11 g12 g13 g20 g21 g22 g23 g30 g31 g32 g33 g40 g41 g42 g43 g50 g51 g52 g53 f10 f11 f12 f13 f20 f21 f22 f23 f30 f31 f32 f33 f40 f41 f42 f43 f50 f51 f52 f53 gz1 gz2 gz3 gz4 gz5 gz6 gb1 gb2 gb3 gb4 gb5
  generalize xm.length = L1 at *
  generalize xo.length = L2 at *
  generalize st xm = X1 at *
  generalize st xo = X2 at *
  go_region_held3 (fun w' => BW w6 w' ∧ w'.cell? ⟨w.heap.size, 0, none⟩ = some (.slice ia il ic) ∧ w'.cell? ⟨w.heap.size, 1, none⟩ = some (.slice ta tl tc) ∧ w'.cell? ⟨w.heap.size, 2, none⟩ = some (.slice pa pl pc) ∧ w'.cell? ⟨w.heap.size, 3, none⟩ = some (.slice ha hl hc) ∧ w'.cell? ⟨w.heap.size + 1, 0, none⟩ = some (.slice ia' il' ic') ∧ w'.cell? ⟨w.heap.size + 1, 1, none⟩ = some (.slice ta' tl' tc') ∧ w'.cell? ⟨w.heap.size + 1, 2, none⟩ = some (.slice pa' pl' pc') ∧ w'.cell? ⟨w.heap.size + 1, 3, none⟩ = some (.slice ha' hl' hc')) ((refine ⟨(by repeat (first | exact BW.refl _ | assumption | apply BW.alloc | apply BW.drewN | apply BW.drew | (refine BW.setCell ?_ (by first | omega | (simp; done) | (simp; omega)) _) | (refine BW.trans ?_ (by assumption)))), ?_⟩; go_keep)) (first
    | (go_at_call 14; go_loud (refine (HT.out _ (BW.trans gb6 (by repeat (first | exact BW.refl _ | assumption | apply BW.alloc | apply BW.drewN | apply BW.drew | (refine BW.setCell ?_ (by first | omega | (simp; done) | (simp; omega)) _) | (refine BW.trans ?_ (by assumption)))))).mono ?_; rintro e w7 ⟨rfl, b7⟩; have yy7 := b7.size; (try simp at yy7); have t9 := fun o => b7.cells w.heap.size o (by first | omega | (simp; omega)); have t10 := fun o => b7.cells (w.heap.size + 1) o (by first | omega | (simp; omega))))
    | (go_at_call 9; go_loud (refine (HA.out _ (BW.trans gb6 (by repeat (first | exact BW.refl _ | assumption | apply BW.alloc | apply BW.drewN | apply BW.drew | (refine BW.setCell ?_ (by first | omega | (simp; done) | (simp; omega)) _) | (refine BW.trans ?_ (by assumption)))))).mono ?_; rintro e w8 ⟨rfl, b8⟩; have yy8 := b8.size; (try simp at yy8); have t11 := fun o => b8.cells w.heap.size o (by first | omega | (simp; omega)); have t12 := fun o => b8.cells (w.heap.size + 1) o (by first | omega | (simp; omega)))))
  go_wp2_with (fail)
  go_ret
  exact ⟨rfl, BW.trans gb6 (by repeat (first | exact BW.refl _ | assumption | apply BW.alloc | apply BW.drewN | apply BW.drew | (refine BW.setCell ?_ (by first | omega | (simp; done) | (simp; omega)) _) | (refine BW.trans ?_ (by assumption))))⟩

end Go.Proofs.YtndhhmgbekcfoaaDoor
