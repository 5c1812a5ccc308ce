import Derived.Test.YtndhhmgbekcfoaaDoorO1
namespace Go.Proofs.YtndhhmgbekcfoaaDoor
open Go.RowKit
set_option linter.unusedVariables false
set_option linter.unusedSimpArgs false

theorem dNumF_back (l : List Nat) : ∀ (sh acc n : Nat) (r : List Nat), Byt l → dNumF l sh acc = some (n, r) → ∃ c, n = acc + c * 2 ^ sh ∧ c * 2 ^ sh < 18446744073709551616 ∧ (sh = 0 ∨ 0 < c) ∧ ∀ f, c < 128 ^ (f + 1) → l = nbF f c ++ r := by
  induction l with
  | nil => intro sh acc n r _ h; simp [dNumF] at h
  | cons b t ih =>
    intro sh acc n r hb h
    rw [dNumF] at h
    split at h
    · cases h
    rename_i h1
    split at h
    · cases h
    rename_i h2
    split at h
    · rename_i h3
      simp only [Option.some.injEq, Prod.mk.injEq] at h
      obtain ⟨rfl, rfl⟩ := h
      have e : b % 128 = b := Nat.mod_eq_of_lt h3
      rw [e] at h1 ⊢
      exact ⟨b, rfl, by omega, by omega, fun f _ => by rw [nbF_small f b h3]; rfl⟩
    · rename_i h3
      obtain ⟨c, e1, e2, e3, e4⟩ := ih (sh + 7) _ n r (fun k hk => hb k (by simp [hk])) h
      have hc : 0 < c := by omega
      have hb255 : b ≤ 255 := hb b (by simp)
      have p7 : 2 ^ (sh + 7) = 128 * 2 ^ sh := by rw [Nat.pow_add]; omega
      have hs : sh + 7 ≤ 63 := by
        rcases Nat.lt_or_ge 63 (sh + 7) with h | h
        · have : 2 ^ 64 ≤ 2 ^ (sh + 7) := Nat.pow_le_pow_right (by decide) h
          have : 1 * 2 ^ (sh + 7) ≤ c * 2 ^ (sh + 7) := Nat.mul_le_mul_right _ hc
          omega
        · exact h
      obtain ⟨d, hd⟩ : ∃ d, 2 ^ (sh + 7) * d = 18446744073709551616 := ⟨2 ^ (64 - (sh + 7)), by rw [← Nat.pow_add, show sh + 7 + (64 - (sh + 7)) = 64 by omega]⟩
      have hle : c + 1 ≤ d := by
        rcases Nat.lt_or_ge c d with h | h
        · exact h
        · have : 2 ^ (sh + 7) * d ≤ 2 ^ (sh + 7) * c := Nat.mul_le_mul_left _ h
          rw [Nat.mul_comm c] at e2
          omega
      have hle2 : 2 ^ (sh + 7) * (c + 1) ≤ 2 ^ (sh + 7) * d := Nat.mul_le_mul_left _ hle
      have hbits : b % 128 * 2 ^ sh ≤ 127 * 2 ^ sh := Nat.mul_le_mul_right _ (by omega)
      have hpos : 0 < 2 ^ sh := Nat.pow_pos (by decide)
      have hsum : (b % 128 + 128 * c) * 2 ^ sh = b % 128 * 2 ^ sh + c * 2 ^ (sh + 7) := by rw [Nat.add_mul, p7, Nat.mul_right_comm, ← Nat.mul_assoc, Nat.mul_comm c 128, Nat.mul_right_comm]
      refine ⟨b % 128 + 128 * c, by rw [hsum]; omega, ?_, .inr (by omega), fun f hf => ?_⟩
      · rw [hsum]
        rw [Nat.mul_add, Nat.mul_one, Nat.mul_comm (2 ^ (sh + 7)) c, p7] at hle2
        rw [p7] at hd ⊢
        omega
      · cases f with
        | zero => simp at hf; omega
        | succ f =>
          rw [nbF, if_neg (by omega), show (b % 128 + 128 * c) % 128 + 128 = b by omega, show (b % 128 + 128 * c) / 128 = c by omega, List.cons_append, ← e4 f (by rw [Nat.pow_succ] at hf; omega)]
theorem dNum_back {l r : List Nat} {n : Nat} (hb : Byt l) (h : dNum l = some (n, r)) : l = nb n ++ r ∧ n ≤ 18446744073709551615 := by
  obtain ⟨c, e1, e2, _, e4⟩ := dNumF_back l 0 0 n r hb h
  have : n = c := by omega
  subst this
  exact ⟨e4 9 (by omega), by omega⟩
theorem Byt.left {a b : List Nat} (h : Byt (a ++ b)) : Byt a := fun k hk => h k (by simp [hk])
theorem Byt.right {a b : List Nat} (h : Byt (a ++ b)) : Byt b := fun k hk => h k (by simp [hk])
theorem dSize_back {l r : List Nat} {n : Nat} (hb : Byt l) (h : dSize l = some (n, r)) : l = nb n ++ r ∧ n ≤ 9223372036854775807 := by
  unfold dSize at h
  cases hd : dNum l with
  | none => rw [hd] at h; cases h
  | some x =>
    rw [hd] at h
    simp only [Option.bind_some] at h
    split at h
    · cases h
    · cases h
      exact ⟨(dNum_back hb hd).1, by omega⟩
theorem szn_nat (n : Nat) (h : n ≤ 9223372036854775807) : szn (n : Int) = n := by unfold szn; omega
theorem dPlace_back {l r : List Nat} {n : Int} (hb : Byt l) (h : dPlace l = some (n, r)) : l = nb (szn n) ++ r ∧ 0 ≤ n ∧ n ≤ 9223372036854775807 := by
  unfold dPlace at h
  cases hd : dSize l with
  | none => rw [hd] at h; cases h
  | some x =>
    obtain ⟨k, q⟩ := x
    rw [hd] at h
    simp only [Option.map_some, Option.some.injEq, Prod.mk.injEq] at h
    obtain ⟨rfl, rfl⟩ := h
    obtain ⟨h1, h2⟩ := dSize_back hb hd
    exact ⟨by rw [szn_nat k h2]; exact h1, by omega, by omega⟩
theorem dSign_back {l r : List Nat} {n : Int} (hb : Byt l) (h : dSign l = some (n, r)) : l = nb (zz n) ++ r ∧ I64 n := by
  unfold dSign at h
  cases hd : dNum l with
  | none => rw [hd] at h; cases h
  | some x =>
    obtain ⟨k, q⟩ := x
    rw [hd] at h
    simp only [Option.map_some, Option.some.injEq, Prod.mk.injEq] at h
    obtain ⟨rfl, rfl⟩ := h
    obtain ⟨h1, h2⟩ := dNum_back hb hd
    have e : zz (if k % 2 = 1 then -((k / 2 : Nat) : Int) - 1 else ((k / 2 : Nat) : Int)) = k := by
      unfold zz
      split <;> split <;> omega
    refine ⟨by rw [e]; exact h1, ?_⟩
    unfold I64
    split <;> omega
theorem sb_st {l : List Nat} (h : Byt l) : sb (st l) = l := by
  have h1 : (st l).data.toList = l.map ((fun n : Int => UInt8.ofNat n.toNat) ∘ fun k : Nat => (k : Int)) := by
    unfold st; rw [strOfNums_data, List.map_map]
  unfold sb
  rw [h1, List.map_map]
  conv => rhs; rw [← List.map_id l]
  apply List.map_congr_left
  intro k hk
  have := h k hk
  simp
  omega
theorem st_size (l : List Nat) : (st l).size = l.length := by unfold st; rw [strOfNums_size]; simp
theorem dText_back {l r : List Nat} {s : ByteArray} (hb : Byt l) (h : dText l = some (s, r)) : l = (nb s.size ++ sb s) ++ r ∧ s.size ≤ 9223372036854775807 := by
  unfold dText at h
  cases hd : dSize l with
  | none => rw [hd] at h; cases h
  | some x =>
    obtain ⟨k, q⟩ := x
    rw [hd] at h
    simp only [Option.bind_some] at h
    split at h
    · cases h
    rename_i hk
    simp only [Option.some.injEq, Prod.mk.injEq] at h
    obtain ⟨rfl, rfl⟩ := h
    obtain ⟨h1, h2⟩ := dSize_back hb hd
    subst h1
    have hz : (st (q.take k)).size = k := by rw [st_size, List.length_take]; omega
    refine ⟨?_, by omega⟩
    rw [hz, sb_st (fun x hx => hb.right x (List.mem_of_mem_take hx)), List.append_assoc, List.take_append_drop]
theorem dRep_back {K : Type} (one : List Nat → Option (K × List Nat)) (e : K → List Nat) (G : K → Prop) (h1 : ∀ l x r, Byt l → one l = some (x, r) → l = e x ++ r ∧ G x) (n : Nat) : ∀ (l r : List Nat) (xs : List K), Byt l → dRep one n l = some (xs, r) → l = xs.flatMap e ++ r ∧ xs.length = n ∧ ∀ x ∈ xs, G x := by
  induction n with
  | zero => intro l r xs _ h; simp only [dRep, Option.some.injEq, Prod.mk.injEq] at h; obtain ⟨rfl, rfl⟩ := h; exact ⟨rfl, rfl, by simp⟩
  | succ n ih =>
    intro l r xs hb h
    rw [dRep] at h
    cases ho : one l with
    | none => rw [ho] at h; cases h
    | some x =>
      obtain ⟨x, q⟩ := x
      rw [ho] at h
      simp only [Option.bind_some] at h
      obtain ⟨e1, g1⟩ := h1 l x q hb ho
      subst e1
      cases hr : dRep one n q with
      | none => rw [hr] at h; cases h
      | some y =>
        obtain ⟨ys, q2⟩ := y
        rw [hr] at h
        simp only [Option.map_some, Option.some.injEq, Prod.mk.injEq] at h
        obtain ⟨rfl, rfl⟩ := h
        obtain ⟨e2, e3, e4⟩ := ih q q2 ys hb.right hr
        subst e2
        refine ⟨by simp, by simp [e3], fun z hz => ?_⟩
        rcases List.mem_cons.1 hz with rfl | hz
        · exact g1
        · exact e4 z hz
theorem dList_back {K : Type} {one : List Nat → Option (K × List Nat)} {e : K → List Nat} {G : K → Prop} (h1 : ∀ l x r, Byt l → one l = some (x, r) → l = e x ++ r ∧ G x) {l r : List Nat} {xs : List K} (hb : Byt l) (h : dList one l = some (xs, r)) : l = (nb xs.length ++ xs.flatMap e) ++ r ∧ xs.length ≤ 9223372036854775807 ∧ ∀ x ∈ xs, G x := by
  unfold dList at h
  cases hd : dSize l with
  | none => rw [hd] at h; cases h
  | some x =>
    obtain ⟨k, q⟩ := x
    rw [hd] at h
    simp only [Option.bind_some] at h
    obtain ⟨e1, e2⟩ := dSize_back hb hd
    subst e1
    obtain ⟨e3, e4, e5⟩ := dRep_back one e G h1 k q r xs hb.right h
    subst e3
    rw [e4]
    exact ⟨by simp, e2, e5⟩
theorem dIns_back (l : List Nat) (x : Ins) (r : List Nat) (hb : Byt l) (h : dIns l = some (x, r)) : l = enI x ++ r ∧ Gi x := by
  unfold dIns at h
  cases l with
  | nil => simp [dByte] at h
  | cons c t =>
    simp only [dByte, Option.bind_some] at h
    cases hd : dPlace t with
    | none => rw [hd] at h; cases h
    | some y =>
      obtain ⟨a, q⟩ := y
      rw [hd] at h
      simp only [Option.map_some, Option.some.injEq, Prod.mk.injEq] at h
      obtain ⟨rfl, rfl⟩ := h
      obtain ⟨e1, e2, e3⟩ := dPlace_back (fun k hk => hb k (by simp [hk])) hd
      have := hb c (by simp)
      subst e1
      exact ⟨by simp [enI], ⟨by show (0 : Int) ≤ (c : Int); omega, by show (c : Int) ≤ 255; omega⟩, e2, e3⟩
theorem dPro_back (l : List Nat) (x : Pro) (r : List Nat) (hb : Byt l) (h : dPro l = some (x, r)) : l = enP x ++ r ∧ Gp x := by
  unfold dPro at h
  cases h1 : dPlace l with
  | none => rw [h1] at h; cases h
  | some a =>
  obtain ⟨p, q1⟩ := a
  rw [h1] at h
  simp only [Option.bind_some] at h
  obtain ⟨e1, g1⟩ := dPlace_back hb h1
  subst e1
  cases h2 : dPlace q1 with
  | none => rw [h2] at h; cases h
  | some a =>
  obtain ⟨s, q2⟩ := a
  rw [h2] at h
  simp only [Option.bind_some] at h
  obtain ⟨e2, g2⟩ := dPlace_back hb.right h2
  subst e2
  cases h3 : dPlace q2 with
  | none => rw [h3] at h; cases h
  | some a =>
  obtain ⟨u, q3⟩ := a
  rw [h3] at h
  simp only [Option.bind_some] at h
  obtain ⟨e3, g3⟩ := dPlace_back hb.right.right h3
  subst e3
  cases h4 : dList dIns q3 with
  | none => rw [h4] at h; cases h
  | some a =>
  obtain ⟨c, q4⟩ := a
  rw [h4] at h
  simp only [Option.map_some, Option.some.injEq, Prod.mk.injEq] at h
  obtain ⟨rfl, rfl⟩ := h
  obtain ⟨e4, l4, g4⟩ := dList_back dIns_back hb.right.right.right h4
  subst e4
  exact ⟨by simp [enP], g1, g2, g3, l4, g4⟩
theorem dTbl_back (l : List Nat) (x : Tbl) (r : List Nat) (hb : Byt l) (h : dTbl l = some (x, r)) : l = enT x ++ r ∧ Gt x := by
  unfold dTbl at h
  cases h1 : dList dPlace l with
  | none => rw [h1] at h; cases h
  | some a =>
  obtain ⟨o, q1⟩ := a
  rw [h1] at h
  simp only [Option.bind_some] at h
  obtain ⟨e1, l1, g1⟩ := dList_back (e := fun n => nb (szn n)) (G := fun n => 0 ≤ n ∧ n ≤ 9223372036854775807) (fun l x r hb h => dPlace_back hb h) hb h1
  subst e1
  cases q1 with
  | nil => simp [dByte] at h
  | cons f t =>
    simp only [dByte, Option.bind_some] at h
    split at h
    · cases h
    rename_i hf
    simp only [Option.some.injEq, Prod.mk.injEq] at h
    obtain ⟨rfl, rfl⟩ := h
    refine ⟨?_, l1, g1⟩
    have : f = 0 ∨ f = 1 ∨ f = 2 ∨ f = 3 := by omega
    rcases this with rfl | rfl | rfl | rfl <;> simp [enT, flg]
theorem dMod_back {l : List Nat} {m : Mdl} (hb : Byt l) (h : dMod l = some m) : l = en m ∧ Gm m := by
  unfold dMod at h
  cases h0 : dHead l with
  | none => rw [h0] at h; cases h
  | some a =>
  rw [h0] at h
  simp only [Option.bind_some] at h
  unfold dHead at h0
  split at h0
  rotate_left
  · cases h0
  rename_i hh
  simp only [Option.some.injEq] at h0
  have e0 : l = [69, 70, 70, 49] ++ a := by rw [← hh, ← h0, List.take_append_drop]
  subst e0
  clear h0 hh
  have hb0 := hb.right
  cases h1 : dList dSign a with
  | none => rw [h1] at h; cases h
  | some x =>
  obtain ⟨is, q1⟩ := x
  rw [h1] at h
  simp only [Option.bind_some] at h
  obtain ⟨e1, l1, g1⟩ := dList_back (e := fun n => nb (zz n)) (G := I64) (fun l x r hb h => dSign_back hb h) hb0 h1
  subst e1
  cases h2 : dList dText q1 with
  | none => rw [h2] at h; cases h
  | some x =>
  obtain ⟨ts, q2⟩ := x
  rw [h2] at h
  simp only [Option.bind_some] at h
  obtain ⟨e2, l2, g2⟩ := dList_back (e := fun s => nb s.size ++ sb s) (G := fun s => s.size ≤ 9223372036854775807) (fun l x r hb h => dText_back hb h) hb0.right h2
  subst e2
  cases h3 : dList dPro q2 with
  | none => rw [h3] at h; cases h
  | some x =>
  obtain ⟨ps, q3⟩ := x
  rw [h3] at h
  simp only [Option.bind_some] at h
  obtain ⟨e3, l3, g3⟩ := dList_back dPro_back hb0.right.right h3
  subst e3
  cases h4 : dList dTbl q3 with
  | none => rw [h4] at h; cases h
  | some x =>
  obtain ⟨hs, q4⟩ := x
  rw [h4] at h
  simp only [Option.bind_some] at h
  obtain ⟨e4, l4, g4⟩ := dList_back dTbl_back hb0.right.right.right h4
  subst e4
  split at h
  rotate_left
  · cases h
  rename_i hq
  (try simp only at hq)
  subst hq
  cases h
  exact ⟨by simp [en, enInts, enTexts, enPros, enTabs], l1, l2, l3, l4, g1, g2, g3, g4⟩
theorem dMod_more {m : Mdl} (h : Gm m) (x : Nat) (r : List Nat) : dMod (en m ++ x :: r) = none := by
  obtain ⟨a, b, c, d⟩ := m
  obtain ⟨l1, l2, l3, l4, h1, h2, h3, h4⟩ := h
  simp only at l1 l2 l3 l4 h1 h2 h3 h4
  have e : en ⟨a, b, c, d⟩ ++ x :: r = [69, 70, 70, 49] ++ (enInts a ++ (enTexts b ++ (enPros c ++ (enTabs d ++ x :: r)))) := by simp [en]
  rw [dMod, e, dHead, if_pos (by rfl)]
  simp only [Option.bind_some]
  rw [show List.drop 4 ([69, 70, 70, 49] ++ (enInts a ++ (enTexts b ++ (enPros c ++ (enTabs d ++ x :: r))))) = enInts a ++ (enTexts b ++ (enPros c ++ (enTabs d ++ x :: r))) from rfl]
  rw [enInts, dList_nb dSign (fun n => nb (zz n)) a _ l1 (fun x hx r => dSign_nb x r (h1 x hx))]
  simp only [Option.bind_some]
  rw [enTexts, dList_nb dText (fun s => nb s.size ++ sb s) b _ l2 (fun x hx r => dText_nb x r (h2 x hx))]
  simp only [Option.bind_some]
  rw [enPros, dList_nb dPro enP c _ l3 (fun x hx r => dPro_nb x r (h3 x hx))]
  simp only [Option.bind_some]
  rw [enTabs, dList_nb dTbl enT d _ l4 (fun x hx r => dTbl_nb x r (h4 x hx))]
  simp only [Option.bind_some]
  rw [if_neg (by simp)]
theorem dGet_more {m : Mdl} (h : Gm m) (x : Nat) (r : List Nat) : dGet (en m ++ x :: r) = none := by
  unfold dGet
  rw [dMod_more h]
  split <;> rfl
theorem dGet_cut {m : Mdl} (h : Gm m) (k : Nat) (hk : k < (en m).length) : dGet ((en m).take k) = none := by
  unfold dGet
  split
  · rfl
  cases hd : dMod ((en m).take k) with
  | none => rfl
  | some m' =>
    obtain ⟨e1, g1⟩ := dMod_back (fun x hx => en_byte h x (List.mem_of_mem_take hx)) hd
    have e2 := dMod_en m h
    rw [← List.take_append_drop k (en m), e1] at e2
    cases hr : (en m).drop k with
    | nil => have := congrArg List.length hr; simp at this; omega
    | cons x r => rw [hr, dMod_more g1] at e2; cases e2
theorem dGet_en {m : Mdl} (h : Gm m) (hm : mayB m = true) (hl : (en m).length ≤ 1048576) : dGet (en m) = some m := by
  unfold dGet
  rw [if_neg (by omega), dMod_en m h]
  simp [hm]

end Go.Proofs.YtndhhmgbekcfoaaDoor
