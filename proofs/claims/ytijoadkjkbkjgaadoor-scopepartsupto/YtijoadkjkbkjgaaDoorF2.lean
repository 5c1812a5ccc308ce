import Derived.Test.YtijoadkjkbkjgaaDoorF1
namespace Go.Proofs.YtijoadkjkbkjgaaDoor
open Go.RowKit
set_option linter.unusedVariables false
set_option linter.unusedSimpArgs false

open Go.Maps
theorem zero3 : ∀ w : World, (zeroValue 3).run Tryd.prog w = .ok (.int .i64 0) w := fun w => by kernel_rfl
theorem wrap64_nat (k : Nat) (h : k ≤ 1000000000000) : wrap64 ((k : Int) + 1) = (k : Int) + 1 := by unfold wrap64; omega
theorem i64_nat (k : Nat) (h : k ≤ 1000000000000) : IntKind.i64.wrap ((k : Int) + 1) = (k : Int) + 1 := i64w _ (by omega) (by omega)
theorem wf_nat (k : Nat) (h : k ≤ 1000000000001) : (Lit.int .i64 (k : Int)).wf = true := by
  simp only [Lit.wf, show IntKind.i64.min = -9223372036854775808 from rfl, show IntKind.i64.max = 9223372036854775807 from rfl, Bool.and_eq_true, decide_eq_true_eq]; omega
theorem wf_nat1 (k : Nat) (h : k ≤ 1000000000000) : (Lit.int .i64 ((k : Int) + 1)).wf = true := by have := wf_nat (k + 1) (by omega); simpa using this
theorem cell_block' {w w' : World} {b : Nat} (h : w'.heap[b]? = w.heap[b]?) (o : Nat) : w'.cell? ⟨b, o, none⟩ = w.cell? ⟨b, o, none⟩ := by simp only [World.cell?, h]
set_option maxRecDepth 100000 in
set_option maxHeartbeats 4000000 in
theorem bind_any (fb mb lo n : Nat) (v : Value) (c : ByteArray → Nat) (F : List ByteArray) (ao : Option Addr) (ln cp : Nat) (l : List ByteArray) (w : World) (h : FiIs w fb mb lo n v c F) (hs : StrsAt w ao ln l) (hn : n + ln ≤ 1000000000) :
    Calls Tryd.prog 40 #[.pointer (some ⟨fb, 0, none⟩), .slice ao ln cp] w fun e w' => e = .returned (.tuple #[]) ∧ FiIs w' fb mb lo (n + ln) v (fun s => c s + ct l s) F ∧ Fq fb mb v v w w' := by
  have H : Hid (StrsAt w ao ln l) := hs
  have hl : Hid (l.length = ln) := hs.1
  have H0 : Hid (FiIs w fb mb lo n v c F) := h
  have hne := h.ne
  have hlt := h.lt
  clear hs h
  go_enter Tryd.func40, Tryd.ntmps40
  go_wp2_with (fail)
  go_loopw [8] (fun i wr => ∃ k : Nat, k ≤ ln ∧ i = .int .i64 k ∧ Hid (FiIs wr fb mb lo (n + k) v (fun s => c s + ct (l.take k) s) F) ∧ Hid (Fq fb mb v v w wr) ∧ Hid (StrsAt wr ao ln l)) (fun i _ => ln - (intOf i).toNat)
  case atStart => exact ⟨0, Nat.zero_le _, rfl, by show FiIs _ _ _ _ _ _ _ _; exact H0.out.of (fun s => by simp [ct]), (BW.refl w).fq _ _ _, H.out⟩
  case round =>
    obtain ⟨k, hk, rfl, HF, HQ, HS⟩ := hrel
    by_cases hkl : k < ln
    · obtain ⟨b, off, x, rfl, hbl, hx, hxs, hc⟩ := StrsAt.get' HS.out hkl
      have hbm := str_ne_map hc HF.out.ct
      have f0 : wr.cell? ⟨fb, 0, none⟩ = some (.map (some mb)) := by rw [Lib.cell_of_heap HF.out.cells]; rfl
      obtain ⟨D, hown, hA⟩ := HF.out.ct
      have hkey : keyOf Tryd.prog 9 (.string x) = some (.string x.data.toList) := Go.WideMaps.keyOf_string_mk Tryd.underlying9 hxs
      obtain ⟨q, hrun, hat, hwc⟩ := hown.lookup_int (t := 42) (Go.Maps.string_keyed Tryd.underlying9) Tryd.underlying42 Tryd.underlying3 (zero3 wr) hkey
      obtain rfl : q = ((c x + ct (l.take k) x : Nat) : Int) := by
        rw [(hA x).2] at hat
        simpa using hat.symm
      have hcn : c x + ct (l.take k) x ≤ n + k := (hA x).1
      have HM : Hid (IsMap D) := hown.isMap
      have HA : Hid _ := hA
      have HX : Hid (l[k]? = some x) := hx
      clear hat hA hx hwc
      generalize hQ : c x + ct (l.take k) x = q at *
      have HQQ : Hid (c x + ct (l.take k) x = q) := hQ
      clear hQ
      have hq9 : q ≤ 1000000000000 := by omega
      have e2 := i64_nat q hq9
      have hwf := wf_nat1 q hq9
      have hml : n + k < maxLen := by unfold maxLen; omega
      have hval : plainElem (H := Unit) Tryd.prog 3 (.int .i64 ((q : Int) + 1)) = some (.lit (.int .i64 ((q : Int) + 1)), []) := plainElem_int Tryd.underlying3 hwf
      go_wp2_with (first | (at_mapUpdate; refine wpList_mapUpdate_own _ rfl _ _ _ 42 rfl 9 3 (Go.Maps.string_keyed Tryd.underlying9) Tryd.underlying42 _ mb (n + k) D rfl hown hml _ _ (.string x.data.toList) rfl rfl hkey _ _ hval ?_))
      have hk2 : q + 1 ≤ n + k + 1 := Nat.succ_le_succ hcn
      clear e2 hwf hval hml
      intro w1 hown1 hgrow1
      rw [show ((q : Int) + 1) = ((q + 1 : Nat) : Int) by omega] at hown1
      have hc1 := CtIs.put hown1 HM.out hk2 HA.out
      have HF1 : Hid (FiIs w1 fb mb lo (n + (k + 1)) v (fun s => c s + ct (l.take (k + 1)) s) F) := (HF.out.turn hgrow1 hc1).of (fun s => by
        rw [ct_snoc HX.out]
        by_cases e : s = x
        · subst e; rw [if_pos rfl, if_pos rfl]; have := HQQ.out; omega
        · rw [if_neg e, if_neg (fun e' => e e'.symm), Nat.add_zero])
      have HQ1 : Hid (Fq fb mb v v w w1) := HQ.out.trans (grown_fq hgrow1)
      have HS1 : Hid (StrsAt w1 (some ⟨b, off, none⟩) ln l) := by
        obtain ⟨q1, q2, q3, q4⟩ := HS.out
        refine ⟨q1, q2, q3, ?_⟩
        rcases q4 with q4 | ⟨b', off', e', hb, hcc⟩
        · exact .inl q4
        · cases e'
          refine .inr ⟨b, off, rfl, Nat.lt_of_lt_of_le hb hgrow1.size, fun i s hi => (cell_block' (hgrow1.block b hb (fun e => hbm (by first | exact Option.some.inj e | exact (Option.some.inj e).symm))) _).trans (hcc i s hi)⟩
      clear hown1 hgrow1 hc1
      go_wp2_with (fail)
      go_roundw
      case rel => exact ⟨k + 1, by omega, by go_num, HF1, HQ1, HS1⟩
      case measure => simp [intOf]; omega
    · obtain rfl : ln = k := by omega
      have HF1 : Hid (FiIs wr fb mb lo (n + ln) v (fun s => c s + ct l s) F) := HF.out.of (fun s => by rw [List.take_of_length_le (by rw [hl.out]; omega)])
      go_wp2_with (fail)
      go_end0
      exact ⟨rfl, HF1.out, HQ.out⟩

end Go.Proofs.YtijoadkjkbkjgaaDoor
