import Derived.Test.YtndhhmgbekcfoaaDoorP7
import Derived.Test.YtndhhmgbekcfoaaDoorS5
namespace Go.Proofs.YtndhhmgbekcfoaaDoor
open Go.RowKit
set_option linter.unusedVariables false
set_option linter.unusedSimpArgs false

/-- A number in front: what is left. -/
def dNumF : List Nat → Nat → Nat → Option (Nat × List Nat)
  | [], _, _ => none
  | c :: r, sh, acc => if 18446744073709551616 ≤ c % 128 * 2 ^ sh then none else if c = 0 ∧ 0 < sh then none else if c < 128 then some (acc + c % 128 * 2 ^ sh, r) else dNumF r (sh + 7) (acc + c % 128 * 2 ^ sh)
def dNum (l : List Nat) : Option (Nat × List Nat) := dNumF l 0 0
def dSize (l : List Nat) : Option (Nat × List Nat) := (dNum l).bind fun x => if 9223372036854775807 < x.1 then none else some x
def dSign (l : List Nat) : Option (Int × List Nat) := (dNum l).map fun x => (if x.1 % 2 = 1 then -((x.1 / 2 : Nat) : Int) - 1 else ((x.1 / 2 : Nat) : Int), x.2)
def dText (l : List Nat) : Option (ByteArray × List Nat) := (dSize l).bind fun x => if x.2.length < x.1 then none else some (st (x.2.take x.1), x.2.drop x.1)
def dRep {K : Type} (one : List Nat → Option (K × List Nat)) : Nat → List Nat → Option (List K × List Nat)
  | 0, r => some ([], r)
  | n + 1, r => (one r).bind fun x => (dRep one n x.2).map fun y => (x.1 :: y.1, y.2)
def dList {K : Type} (one : List Nat → Option (K × List Nat)) (l : List Nat) : Option (List K × List Nat) := (dSize l).bind fun x => dRep one x.1 x.2
def dByte : List Nat → Option (Nat × List Nat)
  | [] => none
  | c :: r => some (c, r)
def dPlace (l : List Nat) : Option (Int × List Nat) := (dSize l).map fun x => ((x.1 : Int), x.2)
def dIns (l : List Nat) : Option (Ins × List Nat) := (dByte l).bind fun x => (dPlace x.2).map fun y => (⟨(x.1 : Int), y.1⟩, y.2)
def dPro (l : List Nat) : Option (Pro × List Nat) := (dPlace l).bind fun x => (dPlace x.2).bind fun y => (dPlace y.2).bind fun z => (dList dIns z.2).map fun q => (⟨x.1, y.1, z.1, q.1⟩, q.2)
def dTbl (l : List Nat) : Option (Tbl × List Nat) := (dList dPlace l).bind fun x => (dByte x.2).bind fun y => if 3 < y.1 then none else some (⟨x.1, decide (y.1 % 2 = 1), decide (1 < y.1)⟩, y.2)
def dHead (l : List Nat) : Option (List Nat) := if l.take 4 = [69, 70, 70, 49] then some (l.drop 4) else none
def dMod (l : List Nat) : Option Mdl := (dHead l).bind fun a => (dList dSign a).bind fun b => (dList dText b.2).bind fun c => (dList dPro c.2).bind fun d => (dList dTbl d.2).bind fun e => if e.2 = [] then some ⟨b.1, c.1, d.1, e.1⟩ else none
/-- What Get answers. -/
def dGet (l : List Nat) : Option Mdl := if 1048576 < l.length then none else (dMod l).bind fun m => if mayB m then some m else none
theorem dNumF_nb (f c sh acc : Nat) (r : List Nat) (h : c * 2 ^ sh < 18446744073709551616) (hc : sh = 0 ∨ 0 < c) (hf : c < 128 ^ (f + 1)) : dNumF (nbF f c ++ r) sh acc = some (acc + c * 2 ^ sh, r) := by
  induction f generalizing c sh acc with
  | zero =>
    simp only [Nat.zero_add, Nat.pow_one] at hf
    have e : c % 128 = c := Nat.mod_eq_of_lt hf
    simp only [nbF, List.cons_append, List.nil_append, dNumF, e]
    rw [if_neg (by omega), if_neg (by omega), if_pos hf]
  | succ f ih =>
    by_cases h1 : c < 128
    · have e : c % 128 = c := Nat.mod_eq_of_lt h1
      simp only [nbF, if_pos h1, List.cons_append, List.nil_append, dNumF, e]
      rw [if_neg (by omega), if_neg (by omega)]
    · have e : (c % 128 + 128) % 128 = c % 128 := by omega
      have h2 : c % 128 * 2 ^ sh ≤ c * 2 ^ sh := Nat.mul_le_mul_right _ (Nat.mod_le _ _)
      have h3 : 2 ^ (sh + 7) = 128 * 2 ^ sh := by rw [Nat.pow_add]; omega
      have h4 : c / 128 * 2 ^ (sh + 7) + c % 128 * 2 ^ sh = c * 2 ^ sh := by
        rw [h3, ← Nat.mul_assoc, ← Nat.add_mul]
        congr 1
        omega
      simp only [nbF, if_neg h1, List.cons_append, dNumF, e]
      rw [if_neg (by omega), if_neg (by omega), if_neg (by omega), ih (c / 128) (sh + 7) _ (by omega) (by omega) (by rw [Nat.pow_succ] at hf; exact (Nat.div_lt_iff_lt_mul (by decide)).2 hf)]
      congr 2
      omega
theorem dNum_nb (n : Nat) (r : List Nat) (h : n ≤ 18446744073709551615) : dNum (nb n ++ r) = some (n, r) := by
  have := dNumF_nb 9 n 0 0 r (by omega) (.inl rfl) (by omega)
  simpa [dNum, nb] using this
theorem dSize_nb (n : Nat) (r : List Nat) (h : n ≤ 9223372036854775807) : dSize (nb n ++ r) = some (n, r) := by
  rw [dSize, dNum_nb n r (by omega)]
  simp only [Option.bind_some]
  rw [if_neg (by omega)]
theorem dPlace_nb (n : Int) (r : List Nat) (h0 : 0 ≤ n) (h : n ≤ 9223372036854775807) : dPlace (nb (szn n) ++ r) = some (n, r) := by
  have e : (szn n : Int) = n := by unfold szn; omega
  rw [dPlace, dSize_nb _ r (by omega)]
  simp [e]
theorem dSign_nb (n : Int) (r : List Nat) (h : I64 n) : dSign (nb (zz n) ++ r) = some (n, r) := by
  unfold I64 at h
  have hz : zz n ≤ 18446744073709551615 := by unfold zz; split <;> omega
  rw [dSign, dNum_nb _ r hz]
  simp only [Option.map_some, Option.some.injEq, Prod.mk.injEq, and_true]
  unfold zz
  split <;> split <;> omega
theorem st_sb (s : ByteArray) : st (sb s) = s := by
  obtain ⟨⟨l⟩⟩ := s
  simp [st, sb, strOfNums, Function.comp_def]
theorem dText_nb (s : ByteArray) (r : List Nat) (h : s.size ≤ 9223372036854775807) : dText ((nb s.size ++ sb s) ++ r) = some (s, r) := by
  rw [dText, List.append_assoc, dSize_nb _ _ h]
  simp only [Option.bind_some]
  have hl := sb_len s
  rw [if_neg (by simp [hl]), List.take_append_of_le_length (by omega), List.drop_append_of_le_length (by omega), List.take_of_length_le (by omega), List.drop_of_length_le (by omega), st_sb]
  rfl
theorem dRep_nb {K : Type} (one : List Nat → Option (K × List Nat)) (e : K → List Nat) (xs : List K) (r : List Nat) (h : ∀ x ∈ xs, ∀ r, one (e x ++ r) = some (x, r)) : dRep one xs.length (xs.flatMap e ++ r) = some (xs, r) := by
  induction xs with
  | nil => rfl
  | cons a t ih =>
    rw [List.flatMap_cons, List.append_assoc, List.length_cons, dRep, h a (by simp)]
    simp only [Option.bind_some]
    rw [ih (fun x hx => h x (by simp [hx]))]
    rfl
theorem dList_nb {K : Type} (one : List Nat → Option (K × List Nat)) (e : K → List Nat) (xs : List K) (r : List Nat) (hl : xs.length ≤ 9223372036854775807) (h : ∀ x ∈ xs, ∀ r, one (e x ++ r) = some (x, r)) : dList one ((nb xs.length ++ xs.flatMap e) ++ r) = some (xs, r) := by
  rw [dList, List.append_assoc, dSize_nb _ _ hl]
  simp only [Option.bind_some]
  exact dRep_nb one e xs r h
/-- What can be packed and got. -/
def Gi (x : Ins) : Prop := (0 ≤ x.op ∧ x.op ≤ 255) ∧ 0 ≤ x.a ∧ x.a ≤ 9223372036854775807
def Gp (x : Pro) : Prop := (0 ≤ x.p ∧ x.p ≤ 9223372036854775807) ∧ (0 ≤ x.s ∧ x.s ≤ 9223372036854775807) ∧ (0 ≤ x.u ∧ x.u ≤ 9223372036854775807) ∧ x.code.length ≤ 9223372036854775807 ∧ ∀ i ∈ x.code, Gi i
def Gt (x : Tbl) : Prop := x.ops.length ≤ 9223372036854775807 ∧ ∀ i ∈ x.ops, 0 ≤ i ∧ i ≤ 9223372036854775807
structure Gm (m : Mdl) : Prop where
  l1 : m.ints.length ≤ 9223372036854775807
  l2 : m.texts.length ≤ 9223372036854775807
  l3 : m.pros.length ≤ 9223372036854775807
  l4 : m.tabs.length ≤ 9223372036854775807
  i : ∀ n ∈ m.ints, I64 n
  t : ∀ s ∈ m.texts, s.size ≤ 9223372036854775807
  p : ∀ x ∈ m.pros, Gp x
  h : ∀ x ∈ m.tabs, Gt x
theorem dIns_nb (x : Ins) (r : List Nat) (h : Gi x) : dIns (enI x ++ r) = some (x, r) := by
  obtain ⟨op, a⟩ := x
  obtain ⟨h1, h2, h3⟩ := h
  simp only at h1 h2 h3
  simp only [dIns, enI, List.cons_append, dByte, Option.bind_some]
  rw [dPlace_nb a r h2 h3]
  simp only [Option.map_some, Option.some.injEq, Prod.mk.injEq, Ins.mk.injEq, and_true]
  omega
theorem dPro_nb (x : Pro) (r : List Nat) (h : Gp x) : dPro (enP x ++ r) = some (x, r) := by
  obtain ⟨p, s, u, c⟩ := x
  obtain ⟨h1, h2, h3, h4, h5⟩ := h
  simp only at h1 h2 h3 h4 h5
  rw [dPro, enP, List.append_assoc, List.append_assoc, List.append_assoc, dPlace_nb p _ h1.1 h1.2]
  simp only [Option.bind_some]
  rw [dPlace_nb s _ h2.1 h2.2]
  simp only [Option.bind_some]
  rw [dPlace_nb u _ h3.1 h3.2]
  simp only [Option.bind_some]
  rw [dList_nb dIns enI c r h4 (fun x hx r => dIns_nb x r (h5 x hx))]
  rfl
theorem dTbl_nb (x : Tbl) (r : List Nat) (h : Gt x) : dTbl (enT x ++ r) = some (x, r) := by
  obtain ⟨o, a, b⟩ := x
  obtain ⟨h1, h2⟩ := h
  simp only at h1 h2
  rw [dTbl, enT, List.append_assoc, dList_nb dPlace (fun n => nb (szn n)) o _ h1 (fun x hx r => dPlace_nb x r (h2 x hx).1 (h2 x hx).2)]
  cases a <;> cases b <;> simp [flg, dByte]
theorem dMod_en (m : Mdl) (h : Gm m) : dMod (en m) = some m := by
  obtain ⟨a, b, c, d⟩ := m
  obtain ⟨l1, l2, l3, l4, h1, h2, h3, h4⟩ := h
  simp only at l1 l2 l3 l4 h1 h2 h3 h4
  have e : en ⟨a, b, c, d⟩ = [69, 70, 70, 49] ++ (enInts a ++ (enTexts b ++ (enPros c ++ (enTabs d ++ [])))) := by simp [en]
  rw [dMod, e, dHead, if_pos (by rfl)]
  simp only [Option.bind_some]
  rw [show List.drop 4 ([69, 70, 70, 49] ++ (enInts a ++ (enTexts b ++ (enPros c ++ (enTabs d ++ []))))) = enInts a ++ (enTexts b ++ (enPros c ++ (enTabs d ++ []))) from rfl]
  rw [enInts, dList_nb dSign (fun n => nb (zz n)) a _ l1 (fun x hx r => dSign_nb x r (h1 x hx))]
  simp only [Option.bind_some]
  rw [enTexts, dList_nb dText (fun s => nb s.size ++ sb s) b _ l2 (fun x hx r => dText_nb x r (h2 x hx))]
  simp only [Option.bind_some]
  rw [enPros, dList_nb dPro enP c _ l3 (fun x hx r => dPro_nb x r (h3 x hx))]
  simp only [Option.bind_some]
  rw [enTabs, dList_nb dTbl enT d _ l4 (fun x hx r => dTbl_nb x r (h4 x hx))]
  rfl
theorem ins_a {m : Mdl} {x : Pro} {i : Ins} (h : insB m x i = true) : 0 ≤ i.a := by
  unfold insB at h
  simp only [Bool.and_eq_true, Bool.or_eq_true] at h
  obtain ⟨h1, h2⟩ := h
  cases hp : (plc m i.op).2 with
  | true =>
    cases hi : inR i.a (plc m i.op).1 with
    | true => simp only [inR, Bool.and_eq_true, decide_eq_true_eq] at hi; exact hi.1
    | false =>
      rw [ef, hp, hi] at h1
      simp at h1
  | false =>
    rw [hp] at h2
    rcases h2 with h2 | h2
    · cases h2
    · simp only [inR, Bool.and_eq_true, decide_eq_true_eq] at h2; exact h2.1
theorem gm_of {W : World} {r : Mw} {m : Mdl} (h : ModAt W r m) (hm : mayB m = true) : Gm m := by
  obtain ⟨l1, l2, l3, l4, b1, b2, b3, b4⟩ := h.lens
  obtain ⟨f1, f2, f3, f4⟩ := fit_of hm
  refine ⟨by omega, by omega, by omega, by omega, h.ints.2.2.1, fun s hs => by have := f2 s hs; omega, fun x hx => ?_, fun x hx => ?_⟩
  · have h8 := f3 x hx
    simp only [prB, inR, Bool.and_eq_true, Bool.not_eq_true', decide_eq_false_iff_not, decide_eq_true_eq, List.all_eq_true] at h8
    obtain ⟨i, hi⟩ := List.getElem?_of_mem hx
    have hil : i < r.pl := by have := (List.getElem?_eq_some_iff.1 hi).1; omega
    obtain ⟨b, off, y, _, _, hy, ca, cl, cc, _, hV⟩ := RowAt.get h.pros hil
    rw [hi] at hy
    obtain rfl := Option.some.inj hy
    refine ⟨by omega, ⟨by omega, by have := hV.2.1.2; omega⟩, by omega, by omega, fun j hj => ?_⟩
    obtain ⟨k, hk⟩ := List.getElem?_of_mem hj
    have hc : CodeAt W ca cl x.code := hV.2.2.2.2.2
    have hkl : k < cl := by have := (List.getElem?_eq_some_iff.1 hk).1; have := hc.1; omega
    obtain ⟨b', off', z, _, _, hz, hI⟩ := RowAt.get hc hkl
    rw [hk] at hz
    obtain rfl := Option.some.inj hz
    exact ⟨hI.2.2.1, ins_a (h8.2 j hj), hI.2.2.2.2⟩
  · have h8 := f4 x hx
    simp only [tbB, inR, Bool.and_eq_true, decide_eq_true_eq, List.all_eq_true] at h8
    obtain ⟨⟨h9, h10⟩, _⟩ := h8
    exact ⟨by omega, fun i hi => by have := h10 i hi; omega⟩
theorem en_inj {a b : Mdl} (ha : Gm a) (hb : Gm b) (h : en a = en b) : a = b := by
  have h1 := dMod_en a ha
  rw [h, dMod_en b hb] at h1
  exact (Option.some.inj h1).symm
theorem eqL_dec {K : Type} (f : K → K → Bool) (hf : ∀ x y, f x y = true ↔ x = y) (l m : List K) : eqL f l m = true ↔ l = m := by
  unfold eqL
  simp only [Bool.and_eq_true, decide_eq_true_eq]
  constructor
  · rintro ⟨h1, h2⟩
    induction l generalizing m with
    | nil => cases m with
      | nil => rfl
      | cons b t => simp at h1
    | cons a r ih => cases m with
      | nil => simp at h1
      | cons b t =>
        simp only [List.zip_cons_cons, List.all_cons, Bool.and_eq_true] at h2
        rw [(hf a b).1 h2.1, ih t (by simpa using h1) h2.2]
  · rintro rfl
    refine ⟨rfl, ?_⟩
    induction l with
    | nil => rfl
    | cons a r ih => simp only [List.zip_cons_cons, List.all_cons, Bool.and_eq_true]; exact ⟨(hf a a).2 rfl, ih⟩
theorem smM_eq (a b : Mdl) : smM a b = true ↔ a = b := by
  have hI : ∀ x y : Int, eqI x y = true ↔ x = y := fun x y => by simp [eqI]
  have hS : ∀ x y : ByteArray, eqS x y = true ↔ x = y := fun x y => by simp [eqS]
  have hN : ∀ x y : Ins, eqN x y = true ↔ x = y := fun x y => by cases x; cases y; simp [eqN]
  have hP : ∀ x y : Pro, smP x y = true ↔ x = y := fun x y => by
    have := eqL_dec eqN hN x.code y.code
    cases x; cases y; simp only [smP, Bool.and_eq_true, decide_eq_true_eq, Pro.mk.injEq] at this ⊢; rw [this]; constructor <;> (intro h; simp_all)
  have hT : ∀ x y : Tbl, smT x y = true ↔ x = y := fun x y => by
    have := eqL_dec eqI hI x.ops y.ops
    cases x; cases y; simp only [smT, Bool.and_eq_true, decide_eq_true_eq, Tbl.mk.injEq] at this ⊢; rw [this]; constructor <;> (intro h; simp_all)
  cases a; cases b
  simp only [smM, Bool.and_eq_true, eqL_dec eqI hI, eqL_dec eqS hS, eqL_dec smP hP, eqL_dec smT hT, Mdl.mk.injEq, and_assoc]

end Go.Proofs.YtndhhmgbekcfoaaDoor
