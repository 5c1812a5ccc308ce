import Derived.Test.YtijoadkjkbkjgaaDoorR5
namespace Go.Proofs.YtijoadkjkbkjgaaDoor
open Go.RowKit
set_option linter.unusedVariables false
set_option linter.unusedSimpArgs false

theorem own_strs' {w : World} {B : Nat} {v : Value} {ops : List ByteArray} (h : w.ownsRow B 9 1 v ops.length (ops.map Value.string)) (hs : ∀ s ∈ ops, s.size ≤ maxLen) : ∃ ao cp, v = .slice ao ops.length cp ∧ StrsAt w ao ops.length ops ∧ ops.length ≤ cp ∧ cp ≤ maxLen := by
  rcases h.2 with ⟨rfl, h0⟩ | ⟨g, cap, cur, rfl, hb, hg, h1, h2, h3, h4⟩
  · exact ⟨none, 0, by rw [h0], ⟨rfl, by rw [h0]; exact Nat.zero_le _, hs, .inl h0⟩, by omega, Nat.zero_le _⟩
  · obtain ⟨ao, cp, e, h5, h6⟩ := own_strs h hs
    cases e
    exact ⟨_, _, rfl, h5, h6, h2⟩
/-- The clauses, and how deep they stand. -/
def clsD (n d : Nat) (la : Int) (ops : List ByteArray) (r : List (Tr n)) : Bool := r.all (fun x => decide (dep n x + (d + 1) ≤ 61)) && clsG (knd n) (ttx n) (rt n) la ops r
theorem clsD_cons (n d : Nat) (la : Int) (ops : List ByteArray) (x : Tr n) (r : List (Tr n)) : clsD n d la ops (x :: r) = if !isCl (knd n x) || (decide (knd n x ≤ la) && !(knd n x == la && knd n x == 18)) || !(decide (dep n x + (d + 1) ≤ 61) && rt n x) then false else clsD n d (knd n x) (if knd n x = 18 then ops ++ [ttx n x] else ops) r := by
  have e : clsG (knd n) (ttx n) (rt n) la ops (x :: r) = if !isCl (knd n x) || (decide (knd n x ≤ la) && !(knd n x == la && knd n x == 18)) || !rt n x then false else clsG (knd n) (ttx n) (rt n) (knd n x) (if knd n x = 18 then ops ++ [ttx n x] else ops) r := rfl
  unfold clsD
  rw [e, List.all_cons]
  cases decide (dep n x + (d + 1) ≤ 61) with
  | false => simp
  | true =>
    simp only [Bool.true_and]
    cases (!isCl (knd n x) || (decide (knd n x ≤ la) && !(knd n x == la && knd n x == 18)) || !rt n x) <;> simp
theorem clsG_16 {K : Type} (kd : K → Int) (tt : K → ByteArray) (ok : K → Bool) (ops : List ByteArray) (l : List K) : clsG kd tt ok 0 ops l = clsG kd tt ok 16 ops l := by
  cases l with
  | nil => rfl
  | cons x r =>
    have e : ∀ la : Int, clsG kd tt ok la ops (x :: r) = if !isCl (kd x) || (decide (kd x ≤ la) && !(kd x == la && kd x == 18)) || !ok x then false else clsG kd tt ok (kd x) (if kd x = 18 then ops ++ [tt x] else ops) r := fun _ => rfl
    rw [e, e]
    cases hc : isCl (kd x) with
    | false => simp
    | true =>
      have : kd x = 17 ∨ kd x = 18 ∨ kd x = 19 := by
        simp only [isCl, Bool.or_eq_true, beq_iff_eq] at hc
        rcases hc with (h | h) | h
        · exact .inl h
        · exact .inr (.inl h)
        · exact .inr (.inr h)
      rcases this with h | h | h <;> simp [h]
theorem on_nm : ∀ {n : Nat} {x : Tr n}, rt n x = true → knd n x = 18 → nmB (ttx n x) = true
  | 0, x, _, _ => x.elim
  | n + 1, x, h, hk => by
    obtain ⟨k, hkk, fk⟩ := rt_fk h
    have hk' : Nd.k (K := Tr n) x = 18 := hk
    obtain rfl : k = 18 := by omega
    show nmB (Nd.s (K := Tr n) x) = true
    simpa using fk.tx
/-- The reference's clause, at a level. -/
def RefClause (n : Nat) : Prop := ∀ (v : Value) (t : Tr n) (d : Nat) (w : World), NodeAt w n v t → d ≤ 61 → sz n t ≤ 2000000 → (knd n t = 17 ∨ knd n t = 18 ∨ knd n t = 19) → Calls Tryd.prog 47 #[v, .int .i64 d] w fun e w' => e = .returned (.bool (decide (dep n t + d ≤ 61) && rt n t)) ∧ BW w w'
set_option maxRecDepth 100000 in
set_option maxHeartbeats 3000000 in
theorem refClauses_of {n : Nat} (ih : RefClause n) (l : List (Tr n)) (na : Option Addr) (nl nc : Nat) (ka : Option Addr) (kl kc : Nat) (d : Nat) (w : World) (hs : SeqAt (NodeAt w n) w ka kl l) (hkc : kl ≤ kc) (hkm : kl ≤ 2000000) (hd : d ≤ 60) (h1 : 1 ≤ kl) (hzz : ∀ x ∈ l, sz n x ≤ 2000000) (tk tn : Int) (ts : ByteArray) :
    Calls Tryd.prog 27 #[ndv tk tn ts na nl nc ka kl kc, .int .i64 d] w fun e w' => e = .returned (.bool (clsD n d 16 [] (l.drop 1))) ∧ BW w w' := by
  obtain ⟨i0, hi, hz0, hz1, hz2⟩ := info_parts Tryd.info9
  have H : Hid (SeqAt (NodeAt w n) w ka kl l) := hs
  have hl : Hid (l.length = kl) := hs.1
  have IH : Hid (RefClause n) := ih
  have HZZ : Hid (∀ x ∈ l, sz n x ≤ 2000000) := hzz
  generalize hR : clsD n d 16 [] (l.drop 1) = R
  have HR : Hid (clsD n d 16 [] (l.drop 1) = R) := hR
  clear hs ih hR hzz
  go_enter Tryd.func27, Tryd.ntmps27
  go_wp2_with (fail)
  go_loopw [5, 6, 7] (fun o a i w' => ∃ (j st : Nat) (ops : List ByteArray), 1 ≤ j ∧ j ≤ kl ∧ st ≤ 3 ∧ a = .int .i64 st ∧ w'.ownsRow (w.heap.size + 1) 9 1 o ops.length (ops.map Value.string) ∧ Hid ((∀ s ∈ ops, s.size ≤ maxLen) ∧ ops.all nmB = true ∧ ops.length ≤ j ∧ clsD n d ((st : Int) + 16) ops (l.drop j) = R) ∧ i = .int .i64 j ∧ BW (bx w tk tn ts na nl nc ka kl kc) w') (fun _ _ i _ => kl - (intOf i).toNat)
  case atStart =>
    have H0 := World.ownsRow_lit (base := w.heap.size + 1) (e := 9) (size := 1) (bx w tk tn ts na nl nc ka kl kc) #[] 0 (by simp) (by unfold maxLen; omega) rfl
    rw [show (bx w tk tn ts na nl nc ka kl kc).heap.size = w.heap.size + 1 by simp] at H0
    exact ⟨1, 0, [], Nat.le_refl _, h1, by omega, rfl, H0, ⟨by simp, rfl, by simp, HR.out⟩, rfl, (by repeat (first | exact BW.refl _ | assumption | apply BW.alloc | apply BW.drewN | apply BW.drew | (refine BW.setCell ?_ (by first | omega | (simp; done) | (simp; omega)) _) | (refine BW.trans ?_ (by assumption))))⟩
  case round =>
    obtain ⟨j, st, ops, hj1, hj, hst, rfl, hown, HO, rfl, hb1⟩ := hrel
    obtain ⟨⟨g0, g1, g2, g3, g4⟩, hz1', hb⟩ := bx_at hb1
    by_cases hlt : j < kl
    · obtain ⟨bk, off, x, rfl, hbl, hx, r, hr, hax⟩ := SeqAt.get H.out hlt
      obtain ⟨hk, hss, hk0, hk1, hsm⟩ := hax.parts
      obtain ⟨rk, rn, rs, rna, rnl, rnc, rka, rkl, rkc⟩ := r
      simp only at hk hss hk0 hk1 hsm
      have HX : Hid (NodeAt w n (ndv rk rn rs rna rnl rnc rka rkl rkc) x) := hax
      have HO2 : Hid ((∀ s ∈ ops, s.size ≤ maxLen) ∧ ops.all nmB = true ∧ ops.length ≤ j ∧ (if !isCl rk || (decide (rk ≤ (st : Int) + 16) && !(rk == (st : Int) + 16 && rk == 18)) || !(decide (dep n x + (d + 1) ≤ 61) && rt n x) then false else clsD n d rk (if rk = 18 then ops ++ [rs] else ops) (l.drop (j + 1))) = R) := by
        refine ⟨HO.out.1, HO.out.2.1, HO.out.2.2.1, ?_⟩
        have := HO.out.2.2.2
        rw [drop_get hx, clsD_cons] at this
        rw [← this, hk, hss]
      have HZX : Hid (sz n x ≤ 2000000) := HZZ.out x (List.mem_of_getElem? hx)
      have HC : Hid (rk = 17 ∨ rk = 18 ∨ rk = 19 → ∀ w', BW w w' → Calls Tryd.prog 47 #[ndv rk rn rs rna rnl rnc rka rkl rkc, .int .i64 ((d : Int) + 1)] w' fun e w'' => e = .returned (.bool (decide (dep n x + (d + 1) ≤ 61) && rt n x)) ∧ BW w' w'') := fun hh w' hb => by
        have := IH.out _ x (d + 1) w' (HX.out.bw hb) (by omega) HZX.out (by rw [← hk]; exact hh)
        push_cast at this
        exact this
      have HNM : Hid (rk = 18 → (decide (dep n x + (d + 1) ≤ 61) && rt n x) = true → nmB rs = true) := fun h1 h2 => by
        rw [hss]
        exact on_nm (by simp only [Bool.and_eq_true] at h2; exact h2.2) (by rw [← hk]; exact h1)
      obtain ⟨d0, d1, d2, d3, d4⟩ := hr.bw hb hbl
      clear hax hx hr hk hss HO HX
      have hnw : ¬ bk = wr.heap.size := by omega
      have hnw' : ¬ wr.heap.size = bk := by omega
      have hn0 : ¬ w.heap.size = wr.heap.size := by omega
      have hn0' : ¬ wr.heap.size = w.heap.size := by omega
      generalize (decide (dep n x + (d + 1) ≤ 61) && rt n x) = ok at *
      by_cases hq : rk = 17 ∨ rk = 18 ∨ rk = 19
      · have HC1 : Hid (∀ w', BW w w' → Calls Tryd.prog 47 #[ndv rk rn rs rna rnl rnc rka rkl rkc, .int .i64 ((d : Int) + 1)] w' fun e w'' => e = .returned (.bool ok) ∧ BW w' w'') := HC.out hq
        clear HC
        rcases hq with rfl | rfl | rfl
        · clear hk0 hk1
          have e16 : IntKind.i64.wrap 1 = 1 := by decide
          rcases (by omega : st = 0 ∨ st = 1 ∨ st = 2 ∨ st = 3) with rfl | rfl | rfl | rfl
          · cases ok with
            | false =>
              have HF : Hid (R = false) := by show R = _; have h := HO2.out.2.2.2; rw [← h]; simp [isCl]
              go_wp2_with (fail)
              refine (HC1.out _ (BW.alloc hb _)).mono ?_
              rintro e w2 ⟨rfl, b2⟩
              go_wp2_with (fail)
              go_ret
              exact ⟨by rw [HF.out]; rfl, BW.trans (BW.alloc hb _) b2⟩
            | true =>
              have HN2 : Hid (clsD n d 17 ops (l.drop (j + 1)) = R) := by show _ = R; have h := HO2.out.2.2.2; rw [← h]; simp [isCl]
              go_wp2_with (fail)
              refine (HC1.out _ (BW.alloc hb _)).mono ?_
              rintro e w2 ⟨rfl, b2⟩
              have qz2 := b2.size
              simp at qz2
              have qc2 := fun o => (b2.cells wr.heap.size o (by simp)).trans (cell_new wr _ _ o)
              have hown2 := own_bw hown (BW.trans (BW.alloc (BW.refl wr) _) b2)
              have HB5 : Hid (BW (bx w tk tn ts na nl nc (some ⟨bk, off, none⟩) kl kc) w2) := BW.trans hb1 (BW.trans (BW.alloc (BW.refl wr) _) b2)
              go_wp2_with (fail)
              go_roundw
              case rel => exact ⟨j + 1, 1, ops, by omega, by omega, by omega, by rfl, hown2, ⟨HO2.out.1, HO2.out.2.1, by have := HO2.out.2.2.1; omega, HN2.out⟩, by go_num, HB5.out⟩
              case measure => simp [intOf]; omega
          · have HF : Hid (R = false) := by show R = _; have h := HO2.out.2.2.2; rw [← h]; simp [isCl]
            clear HO2 HC1
            go_wp2_with (fail)
            go_ret
            exact ⟨by rw [HF.out]; rfl, BW.alloc hb _⟩
          · have HF : Hid (R = false) := by show R = _; have h := HO2.out.2.2.2; rw [← h]; simp [isCl]
            clear HO2 HC1
            go_wp2_with (fail)
            go_ret
            exact ⟨by rw [HF.out]; rfl, BW.alloc hb _⟩
          · have HF : Hid (R = false) := by show R = _; have h := HO2.out.2.2.2; rw [← h]; simp [isCl]
            clear HO2 HC1
            go_wp2_with (fail)
            go_ret
            exact ⟨by rw [HF.out]; rfl, BW.alloc hb _⟩
        · clear hk0 hk1
          have e16 : IntKind.i64.wrap 2 = 2 := by decide
          rcases (by omega : st = 0 ∨ st = 1 ∨ st = 2 ∨ st = 3) with rfl | rfl | rfl | rfl
          · cases ok with
            | false =>
              have HF : Hid (R = false) := by show R = _; have h := HO2.out.2.2.2; rw [← h]; simp [isCl]
              go_wp2_with (fail)
              refine (HC1.out _ (BW.alloc hb _)).mono ?_
              rintro e w2 ⟨rfl, b2⟩
              go_wp2_with (fail)
              go_ret
              exact ⟨by rw [HF.out]; rfl, BW.trans (BW.alloc hb _) b2⟩
            | true =>
              have HN2 : Hid (clsD n d 18 (ops ++ [rs]) (l.drop (j + 1)) = R) := by show _ = R; have h := HO2.out.2.2.2; rw [← h]; simp [isCl]
              go_wp2_with (fail)
              refine (HC1.out _ (BW.alloc hb _)).mono ?_
              rintro e w2 ⟨rfl, b2⟩
              have qz2 := b2.size
              simp at qz2
              have qc2 := fun o => (b2.cells wr.heap.size o (by simp)).trans (cell_new wr _ _ o)
              have hown2 := own_bw hown (BW.trans (BW.alloc (BW.refl wr) _) b2)
              have HM : Hid (nmB rs = true) := HNM.out (by first | rfl | trivial) (by first | rfl | trivial)
              go_wp2_with (at_builtin; refine wpList_append_own _ rfl _ _ 22 rfl (w.heap.size + 1) 9 i0 (.string ⟨#[]⟩) 1 16 Tryd.underlying22 hi hz0 hz1 hz2 rfl (by decide) _ _ _ rfl (hown2.alloc _) ⟨w2.heap.size, 0, none⟩ 1 1 [.string rs] rfl rfl ?c1 ?c2 ?c3 ?c4 ?c5 ?_)
              case c1 => exact cells_new _ _ _
              case c2 => intro u hu; simp at hu; subst hu; rfl
              case c3 => have := HO2.out.2.2.1; unfold maxLen; omega
              case c4 => have := HO2.out.2.2.1; omega
              case c5 => simp; omega
              intro v' w3 hown3 hgrow3 _
              have hbw3 : Hid (BW (bx w tk tn ts na nl nc (some ⟨bk, off, none⟩) kl kc) w3) := Below.grown (BW.alloc (BW.trans hb1 (BW.trans (BW.alloc (BW.refl wr) _) b2)) _) hgrow3 (by simp; omega) (fun k hk => by have := own_ge hown2 k hk; simp; omega)
              go_wp2_with (fail)
              go_roundw
              case rel => exact ⟨j + 1, 2, ops ++ [rs], by omega, by omega, by omega, by rfl, by simpa using hown3, ⟨fun s hs => by rcases List.mem_append.1 hs with h | h; exact HO2.out.1 s h; simp at h; subst h; exact hsm, by simp [HO2.out.2.1, HM.out], by have := HO2.out.2.2.1; simp; omega, HN2.out⟩, by go_num, hbw3.out⟩
              case measure => simp [intOf]; omega
          · cases ok with
            | false =>
              have HF : Hid (R = false) := by show R = _; have h := HO2.out.2.2.2; rw [← h]; simp [isCl]
              go_wp2_with (fail)
              refine (HC1.out _ (BW.alloc hb _)).mono ?_
              rintro e w2 ⟨rfl, b2⟩
              go_wp2_with (fail)
              go_ret
              exact ⟨by rw [HF.out]; rfl, BW.trans (BW.alloc hb _) b2⟩
            | true =>
              have HN2 : Hid (clsD n d 18 (ops ++ [rs]) (l.drop (j + 1)) = R) := by show _ = R; have h := HO2.out.2.2.2; rw [← h]; simp [isCl]
              go_wp2_with (fail)
              refine (HC1.out _ (BW.alloc hb _)).mono ?_
              rintro e w2 ⟨rfl, b2⟩
              have qz2 := b2.size
              simp at qz2
              have qc2 := fun o => (b2.cells wr.heap.size o (by simp)).trans (cell_new wr _ _ o)
              have hown2 := own_bw hown (BW.trans (BW.alloc (BW.refl wr) _) b2)
              have HM : Hid (nmB rs = true) := HNM.out (by first | rfl | trivial) (by first | rfl | trivial)
              go_wp2_with (at_builtin; refine wpList_append_own _ rfl _ _ 22 rfl (w.heap.size + 1) 9 i0 (.string ⟨#[]⟩) 1 16 Tryd.underlying22 hi hz0 hz1 hz2 rfl (by decide) _ _ _ rfl (hown2.alloc _) ⟨w2.heap.size, 0, none⟩ 1 1 [.string rs] rfl rfl ?c1 ?c2 ?c3 ?c4 ?c5 ?_)
              case c1 => exact cells_new _ _ _
              case c2 => intro u hu; simp at hu; subst hu; rfl
              case c3 => have := HO2.out.2.2.1; unfold maxLen; omega
              case c4 => have := HO2.out.2.2.1; omega
              case c5 => simp; omega
              intro v' w3 hown3 hgrow3 _
              have hbw3 : Hid (BW (bx w tk tn ts na nl nc (some ⟨bk, off, none⟩) kl kc) w3) := Below.grown (BW.alloc (BW.trans hb1 (BW.trans (BW.alloc (BW.refl wr) _) b2)) _) hgrow3 (by simp; omega) (fun k hk => by have := own_ge hown2 k hk; simp; omega)
              go_wp2_with (fail)
              go_roundw
              case rel => exact ⟨j + 1, 2, ops ++ [rs], by omega, by omega, by omega, by rfl, by simpa using hown3, ⟨fun s hs => by rcases List.mem_append.1 hs with h | h; exact HO2.out.1 s h; simp at h; subst h; exact hsm, by simp [HO2.out.2.1, HM.out], by have := HO2.out.2.2.1; simp; omega, HN2.out⟩, by go_num, hbw3.out⟩
              case measure => simp [intOf]; omega
          · cases ok with
            | false =>
              have HF : Hid (R = false) := by show R = _; have h := HO2.out.2.2.2; rw [← h]; simp [isCl]
              go_wp2_with (fail)
              refine (HC1.out _ (BW.alloc hb _)).mono ?_
              rintro e w2 ⟨rfl, b2⟩
              go_wp2_with (fail)
              go_ret
              exact ⟨by rw [HF.out]; rfl, BW.trans (BW.alloc hb _) b2⟩
            | true =>
              have HN2 : Hid (clsD n d 18 (ops ++ [rs]) (l.drop (j + 1)) = R) := by show _ = R; have h := HO2.out.2.2.2; rw [← h]; simp [isCl]
              go_wp2_with (fail)
              refine (HC1.out _ (BW.alloc hb _)).mono ?_
              rintro e w2 ⟨rfl, b2⟩
              have qz2 := b2.size
              simp at qz2
              have qc2 := fun o => (b2.cells wr.heap.size o (by simp)).trans (cell_new wr _ _ o)
              have hown2 := own_bw hown (BW.trans (BW.alloc (BW.refl wr) _) b2)
              have HM : Hid (nmB rs = true) := HNM.out (by first | rfl | trivial) (by first | rfl | trivial)
              go_wp2_with (at_builtin; refine wpList_append_own _ rfl _ _ 22 rfl (w.heap.size + 1) 9 i0 (.string ⟨#[]⟩) 1 16 Tryd.underlying22 hi hz0 hz1 hz2 rfl (by decide) _ _ _ rfl (hown2.alloc _) ⟨w2.heap.size, 0, none⟩ 1 1 [.string rs] rfl rfl ?c1 ?c2 ?c3 ?c4 ?c5 ?_)
              case c1 => exact cells_new _ _ _
              case c2 => intro u hu; simp at hu; subst hu; rfl
              case c3 => have := HO2.out.2.2.1; unfold maxLen; omega
              case c4 => have := HO2.out.2.2.1; omega
              case c5 => simp; omega
              intro v' w3 hown3 hgrow3 _
              have hbw3 : Hid (BW (bx w tk tn ts na nl nc (some ⟨bk, off, none⟩) kl kc) w3) := Below.grown (BW.alloc (BW.trans hb1 (BW.trans (BW.alloc (BW.refl wr) _) b2)) _) hgrow3 (by simp; omega) (fun k hk => by have := own_ge hown2 k hk; simp; omega)
              go_wp2_with (fail)
              go_roundw
              case rel => exact ⟨j + 1, 2, ops ++ [rs], by omega, by omega, by omega, by rfl, by simpa using hown3, ⟨fun s hs => by rcases List.mem_append.1 hs with h | h; exact HO2.out.1 s h; simp at h; subst h; exact hsm, by simp [HO2.out.2.1, HM.out], by have := HO2.out.2.2.1; simp; omega, HN2.out⟩, by go_num, hbw3.out⟩
              case measure => simp [intOf]; omega
          · have HF : Hid (R = false) := by show R = _; have h := HO2.out.2.2.2; rw [← h]; simp [isCl]
            clear HO2 HC1
            go_wp2_with (fail)
            go_ret
            exact ⟨by rw [HF.out]; rfl, BW.alloc hb _⟩
        · clear hk0 hk1
          have e16 : IntKind.i64.wrap 3 = 3 := by decide
          rcases (by omega : st = 0 ∨ st = 1 ∨ st = 2 ∨ st = 3) with rfl | rfl | rfl | rfl
          · cases ok with
            | false =>
              have HF : Hid (R = false) := by show R = _; have h := HO2.out.2.2.2; rw [← h]; simp [isCl]
              go_wp2_with (fail)
              refine (HC1.out _ (BW.alloc hb _)).mono ?_
              rintro e w2 ⟨rfl, b2⟩
              go_wp2_with (fail)
              go_ret
              exact ⟨by rw [HF.out]; rfl, BW.trans (BW.alloc hb _) b2⟩
            | true =>
              have HN2 : Hid (clsD n d 19 ops (l.drop (j + 1)) = R) := by show _ = R; have h := HO2.out.2.2.2; rw [← h]; simp [isCl]
              go_wp2_with (fail)
              refine (HC1.out _ (BW.alloc hb _)).mono ?_
              rintro e w2 ⟨rfl, b2⟩
              have qz2 := b2.size
              simp at qz2
              have qc2 := fun o => (b2.cells wr.heap.size o (by simp)).trans (cell_new wr _ _ o)
              have hown2 := own_bw hown (BW.trans (BW.alloc (BW.refl wr) _) b2)
              have HB5 : Hid (BW (bx w tk tn ts na nl nc (some ⟨bk, off, none⟩) kl kc) w2) := BW.trans hb1 (BW.trans (BW.alloc (BW.refl wr) _) b2)
              go_wp2_with (fail)
              go_roundw
              case rel => exact ⟨j + 1, 3, ops, by omega, by omega, by omega, by rfl, hown2, ⟨HO2.out.1, HO2.out.2.1, by have := HO2.out.2.2.1; omega, HN2.out⟩, by go_num, HB5.out⟩
              case measure => simp [intOf]; omega
          · cases ok with
            | false =>
              have HF : Hid (R = false) := by show R = _; have h := HO2.out.2.2.2; rw [← h]; simp [isCl]
              go_wp2_with (fail)
              refine (HC1.out _ (BW.alloc hb _)).mono ?_
              rintro e w2 ⟨rfl, b2⟩
              go_wp2_with (fail)
              go_ret
              exact ⟨by rw [HF.out]; rfl, BW.trans (BW.alloc hb _) b2⟩
            | true =>
              have HN2 : Hid (clsD n d 19 ops (l.drop (j + 1)) = R) := by show _ = R; have h := HO2.out.2.2.2; rw [← h]; simp [isCl]
              go_wp2_with (fail)
              refine (HC1.out _ (BW.alloc hb _)).mono ?_
              rintro e w2 ⟨rfl, b2⟩
              have qz2 := b2.size
              simp at qz2
              have qc2 := fun o => (b2.cells wr.heap.size o (by simp)).trans (cell_new wr _ _ o)
              have hown2 := own_bw hown (BW.trans (BW.alloc (BW.refl wr) _) b2)
              have HB5 : Hid (BW (bx w tk tn ts na nl nc (some ⟨bk, off, none⟩) kl kc) w2) := BW.trans hb1 (BW.trans (BW.alloc (BW.refl wr) _) b2)
              go_wp2_with (fail)
              go_roundw
              case rel => exact ⟨j + 1, 3, ops, by omega, by omega, by omega, by rfl, hown2, ⟨HO2.out.1, HO2.out.2.1, by have := HO2.out.2.2.1; omega, HN2.out⟩, by go_num, HB5.out⟩
              case measure => simp [intOf]; omega
          · cases ok with
            | false =>
              have HF : Hid (R = false) := by show R = _; have h := HO2.out.2.2.2; rw [← h]; simp [isCl]
              go_wp2_with (fail)
              refine (HC1.out _ (BW.alloc hb _)).mono ?_
              rintro e w2 ⟨rfl, b2⟩
              go_wp2_with (fail)
              go_ret
              exact ⟨by rw [HF.out]; rfl, BW.trans (BW.alloc hb _) b2⟩
            | true =>
              have HN2 : Hid (clsD n d 19 ops (l.drop (j + 1)) = R) := by show _ = R; have h := HO2.out.2.2.2; rw [← h]; simp [isCl]
              go_wp2_with (fail)
              refine (HC1.out _ (BW.alloc hb _)).mono ?_
              rintro e w2 ⟨rfl, b2⟩
              have qz2 := b2.size
              simp at qz2
              have qc2 := fun o => (b2.cells wr.heap.size o (by simp)).trans (cell_new wr _ _ o)
              have hown2 := own_bw hown (BW.trans (BW.alloc (BW.refl wr) _) b2)
              have HB5 : Hid (BW (bx w tk tn ts na nl nc (some ⟨bk, off, none⟩) kl kc) w2) := BW.trans hb1 (BW.trans (BW.alloc (BW.refl wr) _) b2)
              go_wp2_with (fail)
              go_roundw
              case rel => exact ⟨j + 1, 3, ops, by omega, by omega, by omega, by rfl, hown2, ⟨HO2.out.1, HO2.out.2.1, by have := HO2.out.2.2.1; omega, HN2.out⟩, by go_num, HB5.out⟩
              case measure => simp [intOf]; omega
          · have HF : Hid (R = false) := by show R = _; have h := HO2.out.2.2.2; rw [← h]; simp [isCl]
            clear HO2 HC1
            go_wp2_with (fail)
            go_ret
            exact ⟨by rw [HF.out]; rfl, BW.alloc hb _⟩
      · have HF : Hid (R = false) := by
          show R = _
          have h := HO2.out.2.2.2
          rw [← h]
          have : isCl rk = false := by
            simp only [isCl, Bool.or_eq_false_iff, beq_eq_false_iff_ne]
            omega
          simp [this]
        clear HO2 HC HNM
        have hw1 : IntKind.i64.wrap (rk - 16) = rk - 16 := i64w _ (by omega) (by omega)
        by_cases hlo : rk - 16 < 1
        · have e1 : decide (rk - 16 < 1) = true := by simpa using hlo
          go_wp2_with (fail)
          go_ret
          exact ⟨by rw [HF.out]; rfl, BW.alloc hb _⟩
        · have e1 : decide (rk - 16 < 1) = false := by simpa using hlo
          have e2 : decide (3 < rk - 16) = true := decide_eq_true (by omega)
          go_wp2_with (fail)
          go_ret
          exact ⟨by rw [HF.out]; rfl, BW.alloc hb _⟩
    · have hjn : kl = j := by omega
      subst hjn
      obtain ⟨ao, cp, rfl, hst', hcp, hcm⟩ := own_strs' hown HO.out.1
      have HF : Hid (R = (ops.all nmB && decide ops.Nodup)) := by
        have := HO.out.2.2.2
        rw [List.drop_of_length_le (by rw [hl.out]; omega)] at this
        show R = _
        rw [HO.out.2.1, ← this]; rfl
      have HS : Hid (StrsAt wr ao ops.length ops) := hst'
      clear hst' hown
      go_wp2_with (go_at_call 24; refine (names_any _ _ _ ops _ HS.out hcp hcm).mono ?_; rintro e w4 ⟨rfl, b4⟩)
      go_ret
      exact ⟨by rw [HF.out]; rfl, BW.trans hb b4⟩

end Go.Proofs.YtijoadkjkbkjgaaDoor
