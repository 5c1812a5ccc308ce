import Derived.Test.YtijoadkjkbkjgaaDoorF2
namespace Go.Proofs.YtijoadkjkbkjgaaDoor
open Go.RowKit
set_option linter.unusedVariables false
set_option linter.unusedSimpArgs false

open Go.Maps
theorem Tryd.info9' : (Tryd.prog.info? 9).map (fun i => (i.zero, i.size, i.bytes)) = some (some (.string ⟨#[]⟩), 1, 16) := by kernel_rfl
theorem append_strs (ty : TypeId) (base : Nat) (v : Value) (n : Nat) (xs : List Value) (ad : Addr) (m c : Nat) (news : List Value) (w : World) (hown : w.ownsRow base 9 1 v n xs) (hl : news.length = m) (hnews : ∀ j u, news[j]? = some u → w.cell? (ad.add j) = some u) (h1 : ∀ u ∈ news, u.oneCell' = true) (hb : n + m ≤ 10000000) (hbase : base ≤ w.heap.size) :
    ∃ v' w', (Builtin.append_ #[22, 22] ty #[v, .slice (some ad) m c]).run Tryd.prog w = .ok v' w' ∧ w'.ownsRow base 9 1 v' (n + m) (xs ++ news) ∧ w.grownBy w' v.ownBlock ∧ (v'.ownBlock = v.ownBlock ∨ v'.ownBlock = some w.heap.size) := by
  obtain ⟨i, hi, hz0, hz1, hz2⟩ := info_parts Tryd.info9'
  obtain ⟨v', w', hr, ho, hg, _⟩ := run_append_own (P := Tryd.prog) w base 22 ty 9 i _ 1 16 Tryd.underlying22 hi hz0 hz1 hz2 rfl (by decide) v n xs hown ad m c news (by omega) hnews h1 (by unfold maxLen; omega) (by omega) hbase
  refine ⟨v', w', hr, ho, hg, ?_⟩
  rcases hown.2 with ⟨rfl, rfl⟩ | ⟨g, cap, cur, rfl, hbg, hgb, hnc, hcm, hcs, htake⟩
  · by_cases hm : m = 0
    · subst hm
      have hn : news = [] := List.eq_nil_of_length_eq_zero (by simpa using hl)
      subst hn
      have hr2 : (Builtin.append_ #[22, 22] ty #[.slice none 0 0, .slice (some ad) 0 c]).run Tryd.prog w = .ok (.slice none 0 0) w := by
        simp [Builtin.append_, run_underlying Tryd.underlying22, sizeOf, typeInfo, hi, Builtin.lenOf, Builtin.firstCells, loadCells, loadCellsFrom]
      rw [hr2] at hr
      cases hr
      exact .inl rfl
    · have hr2 := run_append_nil (P := Tryd.prog) w 22 ty 9 i _ Tryd.underlying22 hi hz0 ad m c news (by rw [hz1]; omega) hnews (by omega) (by omega) (by rw [hz2]; omega)
      rw [hr2] at hr
      cases hr
      exact .inr rfl
  · by_cases hroom : n + m ≤ cap
    · have hfit : n * i.size + news.length ≤ cur.size := by rw [hz1, hl]; rw [hcs]; omega
      have hr2 := run_append_room (P := Tryd.prog) w 22 ty 9 i Tryd.underlying22 hi g n cap cur hgb ad m c news (by rw [hz1]; omega) hnews h1 hroom hfit
      rw [hr2] at hr
      cases hr
      exact .inl rfl
    · have holds : ∀ j u, xs[j]? = some u → w.cell? ((⟨g, 0, none⟩ : Addr).add j) = some u := hown.cells (g := g) rfl
      have hr2 := run_append_grow (P := Tryd.prog) w 22 ty 9 i _ Tryd.underlying22 hi hz0 ⟨g, 0, none⟩ n cap xs (by rw [hz1]; exact hown.1) holds ad m c news (by rw [hz1]; omega) hnews (by omega) (by omega) (growslice_fits (by omega) (by rw [hz2]; omega))
      rw [hr2] at hr
      cases hr
      exact .inr rfl
theorem wpList_append_strs {ops : Array Oper} {rest : List Oper} {o : Oper} {a : Act} {w : World} {Q : Exit → Act → World → Prop} (hgd : o.guard = none) (s x : Operand)
    (ho : o.op = .call { callee := .builtin .append, args := #[s, x], argTypes := #[22, 22] }) (base : Nat) (v : Value) (n : Nat) (xs : List Value) (ad : Addr) (m c : Nat) (news : List Value) (hsv : a.eval s = v) (hxv : a.eval x = .slice (some ad) m c)
    (hown : w.ownsRow base 9 1 v n xs) (hl : news.length = m) (hnews : ∀ j u, news[j]? = some u → w.cell? (ad.add j) = some u) (h1 : ∀ u ∈ news, u.oneCell' = true) (hb : n + m ≤ 10000000) (hbase : base ≤ w.heap.size)
    (h : ∀ v' w', w'.ownsRow base 9 1 v' (n + m) (xs ++ news) → w.grownBy w' v.ownBlock → (v'.ownBlock = v.ownBlock ∨ v'.ownBlock = some w.heap.size) → wpList Tryd.prog ops Q rest (a.put o.dst v') w') : wpList Tryd.prog ops Q (o :: rest) a w := by
  refine wpList_plain hgd fun K hK => ?_
  obtain ⟨v', w', hrun, r1, r2, r3⟩ := append_strs o.type base v n xs ad m c news w hown hl hnews h1 hb hbase
  unfold Oper.wp execOp
  simp only [ho, resolve, invoke, builtin, Sem.run_bind, Sem.run_pure, Result.andThen_ok, List.map_toArray, List.map_cons, List.map_nil, hsv, hxv, hrun]
  exact hK _ _ (h v' w' r1 r2 r3)
theorem wpList_delete_own {ops : Array Oper} {rest : List Oper} {o : Oper} {a : Act} {w : World} {Q : Exit → Act → World → Prop} (hgd : o.guard = none) (s x : Operand)
    (ho : o.op = .call { callee := .builtin .delete, args := #[s, x], argTypes := #[42, 9] }) (b n : Nat) (D : DataW Unit) (key : Value) (kl : Lit) (hsv : a.eval s = .map (some b)) (hxv : a.eval x = key) (hkey : keyOf Tryd.prog 9 key = some kl)
    (hown : w.ownsMap Tryd.prog 9 (plainElem Tryd.prog 3) b n D)
    (h : ∀ w', w'.ownsMap Tryd.prog 9 (plainElem Tryd.prog 3) b n (D.del kl) → w.grownBy w' (some b) → wpList Tryd.prog ops Q rest (a.put o.dst (.tuple #[])) w') : wpList Tryd.prog ops Q (o :: rest) a w := by
  refine wpList_plain hgd fun K hK => ?_
  obtain ⟨w', hrun, r1, r2⟩ := hown.drop (Go.Maps.string_keyed Tryd.underlying9) Tryd.underlying42 hkey o.type
  unfold Oper.wp execOp
  simp only [ho, resolve, invoke, builtin, Sem.run_bind, Sem.run_pure, Result.andThen_ok, List.map_toArray, List.map_cons, List.map_nil, hsv, hxv, hrun]
  exact hK _ _ (h w' r1 r2.grown)
theorem ct_take_le (l : List ByteArray) (k : Nat) (s : ByteArray) : ct (l.take k) s ≤ ct l s := by
  conv => rhs; rw [← List.take_append_drop k l, ct_append]
  omega
theorem i64_pred (p : Nat) (h : p ≤ 1000000000000) : IntKind.i64.wrap ((p : Int) + 1 - 1) = (p : Int) ∧ IntKind.i64.wrap (p : Int) = (p : Int) := ⟨by rw [Int.add_sub_cancel]; exact i64w _ (by omega) (by omega), i64w _ (by omega) (by omega)⟩
set_option maxRecDepth 100000 in
set_option maxHeartbeats 4000000 in
theorem unbind_any (fb mb lo n : Nat) (v : Value) (c : ByteArray → Nat) (F : List ByteArray) (ao : Option Addr) (ln cp : Nat) (l : List ByteArray) (w : World) (h : FiIs w fb mb lo n v c F) (hs : StrsAt w ao ln l) (hn : n + ln ≤ 1000000000) (hcl : ∀ s, ct l s ≤ c s) :
    Calls Tryd.prog 42 #[.pointer (some ⟨fb, 0, none⟩), .slice ao ln cp] w fun e w' => e = .returned (.tuple #[]) ∧ FiIs w' fb mb lo (n + ln) v (fun s => c s - ct l s) F ∧ Fq fb mb v v w w' := by
  have H : Hid (StrsAt w ao ln l) := hs
  have hl : Hid (l.length = ln) := hs.1
  have H0 : Hid (FiIs w fb mb lo n v c F) := h
  have HC : Hid (∀ s, ct l s ≤ c s) := hcl
  have hne := h.ne
  have hlt := h.lt
  clear hs h hcl
  go_enter Tryd.func42, Tryd.ntmps42
  go_wp2_with (fail)
  go_loopw [8] (fun i wr => ∃ k : Nat, k ≤ ln ∧ i = .int .i64 k ∧ Hid (FiIs wr fb mb lo (n + k) v (fun s => c s - ct (l.take k) s) F) ∧ Hid (Fq fb mb v v w wr) ∧ Hid (StrsAt wr ao ln l)) (fun i _ => ln - (intOf i).toNat)
  case atStart => exact ⟨0, Nat.zero_le _, rfl, by show FiIs _ _ _ _ _ _ _ _; exact H0.out.of (fun s => by simp [ct]), (BW.refl w).fq _ _ _, H.out⟩
  case round =>
    obtain ⟨k, hk, rfl, HF, HQ, HS⟩ := hrel
    by_cases hkl : k < ln
    · obtain ⟨b, off, x, rfl, hbl, hx, hxs, hc⟩ := StrsAt.get' HS.out hkl
      have hbm := str_ne_map hc HF.out.ct
      have f0 : wr.cell? ⟨fb, 0, none⟩ = some (.map (some mb)) := by rw [Lib.cell_of_heap HF.out.cells]; rfl
      obtain ⟨D, hown, hA⟩ := HF.out.ct
      have hkey : keyOf Tryd.prog 9 (.string x) = some (.string x.data.toList) := Go.WideMaps.keyOf_string_mk Tryd.underlying9 hxs
      obtain ⟨q, hrun, hat, hwc⟩ := hown.lookup_int (t := 42) (Go.Maps.string_keyed Tryd.underlying9) Tryd.underlying42 Tryd.underlying3 (zero3 wr) hkey
      have hq1 : ct (l.take (k + 1)) x ≤ c x := Nat.le_trans (ct_take_le l (k + 1) x) (HC.out x)
      rw [ct_snoc hx, if_pos rfl] at hq1
      obtain ⟨p, hp⟩ : ∃ p, c x - ct (l.take k) x = p + 1 := ⟨c x - ct (l.take k) x - 1, by omega⟩
      obtain rfl : q = (p : Int) + 1 := by
        rw [(hA x).2] at hat
        simp only [hp] at hat
        have := hat.symm
        simpa using this
      have hcn : p + 1 ≤ n + k := by have := (hA x).1; simp only [hp] at this; exact this
      have HM : Hid (IsMap D) := hown.isMap
      have HA : Hid _ := hA
      have HX : Hid (l[k]? = some x) := hx
      have HP : Hid (c x - ct (l.take k) x = p + 1) := hp
      clear hat hA hx hwc hq1 hp
      have hp9 : p ≤ 1000000000000 := by omega
      obtain ⟨e1, e2⟩ := i64_pred p hp9
      have hval : plainElem (H := Unit) Tryd.prog 3 (.int .i64 (p : Int)) = some (.lit (.int .i64 (p : Int)), []) := plainElem_int Tryd.underlying3 (wf_nat p (by omega))
      have hml : n + k < maxLen := by unfold maxLen; omega
      have hk2 : p ≤ n + k + 1 := by omega
      go_wp2_with (first | (at_mapUpdate; refine wpList_mapUpdate_own _ rfl _ _ _ 42 rfl 9 3 (Go.Maps.string_keyed Tryd.underlying9) Tryd.underlying42 _ mb (n + k) D rfl hown hml _ _ (.string x.data.toList) rfl rfl hkey _ _ hval ?_))
      intro w1 hown1 hgrow1
      have hc1 := CtIs.put hown1 HM.out hk2 HA.out
      have HF1 : Hid (FiIs w1 fb mb lo (n + (k + 1)) v (fun s => if s = x then p else c s - ct (l.take k) s) F) := HF.out.turn hgrow1 hc1
      have HQ1 : Hid (Fq fb mb v v w w1) := HQ.out.trans (grown_fq hgrow1)
      have HS1 : Hid (StrsAt w1 (some ⟨b, off, none⟩) ln l) := by
        obtain ⟨q1, q2, q3, q4⟩ := HS.out
        refine ⟨q1, q2, q3, ?_⟩
        rcases q4 with q4 | ⟨b', off', e', hb, hcc⟩
        · exact .inl q4
        · cases e'
          refine .inr ⟨b, off, rfl, Nat.lt_of_lt_of_le hb hgrow1.size, fun i s hi => (cell_block' (hgrow1.block b hb (fun e => hbm (by first | exact Option.some.inj e | exact (Option.some.inj e).symm))) _).trans (hcc i s hi)⟩
      have g0 : w1.cell? ⟨fb, 0, none⟩ = some (.map (some mb)) := by rw [Lib.cell_of_heap HF1.out.cells]; rfl
      clear hown1 hgrow1 hc1 f0 hown hrun e1 e2 hval HM HA
      obtain ⟨D1, hown1, hA1⟩ := HF1.out.ct
      obtain ⟨q, hrun1, hat, hwc⟩ := hown1.lookup_int (t := 42) (Go.Maps.string_keyed Tryd.underlying9) Tryd.underlying42 Tryd.underlying3 (zero3 w1) hkey
      obtain rfl : q = (p : Int) := by
        rw [(hA1 x).2] at hat
        simp only [if_true] at hat
        have := hat.symm
        simpa using this
      have HA1 : Hid _ := hA1
      clear hat hwc hA1
      by_cases hp0 : p = 0
      · subst hp0
        go_wp2_with (refine wpList_delete_own rfl _ _ rfl mb (n + (k + 1)) D1 (.string x) (.string x.data.toList) rfl rfl hkey hown1 ?_)
        intro w2 hown2 hgrow2
        have hc2 := CtIs.del hown2 HA1.out
        have HF2 : Hid (FiIs w2 fb mb lo (n + (k + 1)) v (fun s => c s - ct (l.take (k + 1)) s) F) := (HF1.out.turn hgrow2 hc2).of (fun s => by
          rw [ct_snoc HX.out]
          by_cases e : s = x
          · subst e; rw [if_pos rfl, if_pos rfl]; have := HP.out; omega
          · rw [if_neg e, if_neg e, if_neg (fun e' => e e'.symm), Nat.add_zero])
        have HQ2 : Hid (Fq fb mb v v w w2) := HQ1.out.trans (grown_fq hgrow2)
        have HS2 : Hid (StrsAt w2 (some ⟨b, off, none⟩) ln l) := by
          obtain ⟨q1, q2, q3, q4⟩ := HS1.out
          refine ⟨q1, q2, q3, ?_⟩
          rcases q4 with q4 | ⟨b', off', e', hb, hcc⟩
          · exact .inl q4
          · cases e'
            refine .inr ⟨b, off, rfl, Nat.lt_of_lt_of_le hb hgrow2.size, fun i s hi => (cell_block' (hgrow2.block b hb (fun e => hbm (by first | exact Option.some.inj e | exact (Option.some.inj e).symm))) _).trans (hcc i s hi)⟩
        clear hown2 hgrow2 hc2 hrun1 hown1
        go_wp2_with (fail)
        go_roundw
        case rel => exact ⟨k + 1, by omega, by go_num, HF2, HQ2, HS2⟩
        case measure => simp [intOf]; omega
      · have t1 : ((p : Int) == 0) = false := by simp; omega
        have HF2 : Hid (FiIs w1 fb mb lo (n + (k + 1)) v (fun s => c s - ct (l.take (k + 1)) s) F) := HF1.out.of (fun s => by
          rw [ct_snoc HX.out]
          by_cases e : s = x
          · subst e; rw [if_pos rfl, if_pos rfl]; have := HP.out; omega
          · rw [if_neg e, if_neg (fun e' => e e'.symm), Nat.add_zero])
        go_wp2_with (fail)
        go_roundw
        case rel => exact ⟨k + 1, by omega, by go_num, HF2, HQ1, HS1⟩
        case measure => simp [intOf]; omega
    · obtain rfl : ln = k := by omega
      have HF1 : Hid (FiIs wr fb mb lo (n + ln) v (fun s => c s - ct l s) F) := HF.out.of (fun s => by rw [List.take_of_length_le (by rw [hl.out]; omega)])
      go_wp2_with (fail)
      go_end0
      exact ⟨rfl, HF1.out, HQ.out⟩

end Go.Proofs.YtijoadkjkbkjgaaDoor
