import Derived.Test.YtlacjiihbbgbeaaDoorN5
namespace Go.Proofs.YtlacjiihbbgbeaaDoor
open Go.RowKit
set_option linter.unusedVariables false
set_option linter.unusedSimpArgs false

open Go.Maps
def PostM (rb B N mb : Nat) (l : List (List UInt8)) (w : World) (R : Pr (List UInt8)) (e : Ending) (w' : World) : Prop := match R with
  | .ok (s, st) => e = .returned (.string ⟨s.toArray⟩) ∧ RdP rb B N st w' ∧ TkIs w' mb (l ++ [s]) ∧ s.length ≤ 100000 ∧ F2 rb mb w w'
  | .error er => e = .panicked (thrP N er) ∧ F2 rb mb w w'
theorem RdP.neMap {rb B N : Nat} {st : Ps} {w : World} (h : RdP rb B N st w) {mb : Nat} {l : List (List UInt8)} (hm : TkIs w mb l) : ¬ mb = rb := by
  rintro rfl
  obtain ⟨_, _, _, _, _, ao, cp, _, _, h, _⟩ := h
  obtain ⟨D, ⟨es, cl, h1, h2⟩, h3⟩ := hm
  rw [h] at h1
  cases h1
set_option maxRecDepth 100000 in
set_option maxHeartbeats 4000000 in
theorem name_any (rb B N mb : Nat) (l : List (List UInt8)) (st : Ps) (w : World) (h : RdP rb B N st w) (hm : TkIs w mb l) (hB : B ≤ mb) (hl : l.length ≤ 100000) : Calls Tryd.prog 40 #[.pointer (some ⟨rb, 0, none⟩), .map (some mb)] w (PostM rb B N mb l w (pName l st)) := by
  have hz : ∀ w : World, (zeroValue 3).run Tryd.prog w = .ok (.int .i64 0) w := fun w => by kernel_rfl
  have hlt := h.lt
  have hmb := hm.lt
  have hne := h.neMap hm
  have HM : Hid (TkIs w mb l) := hm
  have C : Hid (∀ w', w' = w → Calls Tryd.prog 19 #[.pointer (some ⟨rb, 0, none⟩), .int .u8 3] w' (PostP (tvl N) rb B N w' (pExpect 3 st))) := fun w' e => by subst e; exact expect_any rb B N 3 (by omega) st _ h
  unfold pName
  cases hx : pExpect 3 st with
  | error er =>
    rw [hx] at C
    show Calls Tryd.prog 40 _ w (fun e w' => e = .panicked (thrP N er) ∧ F2 rb mb w w')
    have C2 : Hid (Calls Tryd.prog 19 #[.pointer (some ⟨rb, 0, none⟩), .int .u8 3] w (fun e w' => e = .panicked (thrP N er) ∧ Fl rb w w')) := C.out w rfl
    clear C h hm hx
    go_enter Tryd.func40, Tryd.ntmps40
    go_wp2_with (go_at_call 19; refine C2.out.mono ?_; rintro e w1 ⟨rfl, f1⟩)
    exact ⟨rfl, rfl, f1.f2 mb⟩
  | ok p =>
    obtain ⟨t, q⟩ := p
    rw [hx] at C
    have C2 : Hid (Calls Tryd.prog 19 #[.pointer (some ⟨rb, 0, none⟩), .int .u8 3] w (fun e w' => e = .returned (.agg #[.int .u8 t.kind, .string ⟨t.s.toArray⟩, .int .i64 t.n, .int .i64 ((N - t.back : Nat) : Int)]) ∧ TokOk t ∧ RdP rb B N q w' ∧ Fl rb w w')) := (C.out w rfl).mono fun e w' hh => by
      obtain ⟨v, h1, ⟨h2, h3⟩, h4, h5⟩ := hh
      subst h2
      exact ⟨h1, h3, h4, h5⟩
    clear C hx h hm
    simp only
    generalize hR : (if (isVr t.s && !l.contains t.s) = true then (Except.ok (t.s, q) : Pr (List UInt8)) else .error (12, t.back)) = R
    have HRR : Hid ((if (isVr t.s && !l.contains t.s) = true then (Except.ok (t.s, q) : Pr (List UInt8)) else .error (12, t.back)) = R) := hR
    clear hR
    go_enter Tryd.func40, Tryd.ntmps40
    go_wp2_with (fail)
    refine C2.out.mono ?_
    rintro e w1 ⟨rfl, ok, R1, F1⟩
    have hz1 := F1.size
    have HF1 : Hid (Fl rb w w1) := F1
    have HR1 : Hid (RdP rb B N q w1) := R1
    have HM1 : Hid (TkIs w1 mb l) := HM.out.same (F1.block mb hmb hne)
    clear F1 R1 C2
    go_upto_region 2 with fail
    obtain ⟨W, hW⟩ : ∃ W, W = w1.alloc (.cells #[.int .u8 t.kind, .string ⟨t.s.toArray⟩, .int .i64 t.n, .int .i64 ((N - t.back : Nat) : Int)] 50) := ⟨_, rfl⟩
    have bW : BW w1 W := by rw [hW]; exact BW.alloc (BW.refl _) _
    have hzW : w1.heap.size < W.heap.size := by rw [hW]; simp
    have x0 : W.cell? ⟨w1.heap.size, 0, none⟩ = some (.int .u8 t.kind) := by rw [hW]; exact cell_new _ _ _ 0
    have x1 : W.cell? ⟨w1.heap.size, 1, none⟩ = some (.string ⟨t.s.toArray⟩) := by rw [hW]; exact cell_new _ _ _ 1
    have x2 : W.cell? ⟨w1.heap.size, 2, none⟩ = some (.int .i64 t.n) := by rw [hW]; exact cell_new _ _ _ 2
    have x3 : W.cell? ⟨w1.heap.size, 3, none⟩ = some (.int .i64 ((N - t.back : Nat) : Int)) := by rw [hW]; exact cell_new _ _ _ 3
    rw [← hW]
    clear hW
    have HFW : Hid (Fl rb w W) := HF1.out.trans (bW.fl rb)
    have HRW : Hid (RdP rb B N q W) := HR1.out.bw bW
    have HMW : Hid (TkIs W mb l) := HM1.out.same (bW.block mb (by omega))
    clear HF1 HR1 HM1 bW
    cases hv : isVr t.s with
    | false =>
      obtain rfl : R = .error (12, t.back) := by rw [← HRR.out, hv]; rfl
      clear HRR
      have CP : Hid (∃ k i : Int, ¬ k = 5 ∧ Calls Tryd.prog 17 #[.string ⟨t.s.toArray⟩] W fun e w' => e = .returned (ndv k i ⟨#[]⟩ none 0 0 none 0 0) ∧ BW W w') := by
        have := plainP_any t.s W
        by_cases h1 : t.s = [116, 114, 117, 101]
        · exact ⟨2, 1, by decide, by rw [show plV t.s = ndv 2 1 ⟨#[]⟩ none 0 0 none 0 0 by unfold plV; rw [if_pos h1]] at this; exact this⟩
        · by_cases h2 : t.s = [102, 97, 108, 115, 101]
          · exact ⟨2, 0, by decide, by rw [show plV t.s = ndv 2 0 ⟨#[]⟩ none 0 0 none 0 0 by unfold plV; rw [if_neg h1, if_pos h2]] at this; exact this⟩
          · by_cases h3 : t.s = [117, 110, 105, 116]
            · exact ⟨4, 0, by decide, by rw [show plV t.s = ndv 4 0 ⟨#[]⟩ none 0 0 none 0 0 by unfold plV; rw [if_neg h1, if_neg h2, if_pos h3]] at this; exact this⟩
            · exfalso
              simp [isVr, h1, h2, h3] at hv
      obtain ⟨k, i, hk5, CP1⟩ := CP.out
      have HCP : Hid (Calls Tryd.prog 17 #[.string ⟨t.s.toArray⟩] W fun e w' => e = .returned (ndv k i ⟨#[]⟩ none 0 0 none 0 0) ∧ BW W w') := CP1
      have e5 : (k == 5) = false := by simpa using hk5
      have e5' : (k != 5) = true := by simpa using hk5
      clear CP CP1 hv hk5
      have hfd : ∀ w', (Instr.field 26 (ndv k i ⟨#[]⟩ none 0 0 none 0 0) 0).run Tryd.prog w' = .ok (.int .u8 k) w' := fun w' => by kernel_rfl
      go_wp2_with (go_at_call 17; refine HCP.out.mono ?_; rintro e w2 ⟨rfl, b2⟩; have y3 := (b2.cells w1.heap.size 3 (by omega)).trans x3)
      exact ⟨rfl, rfl, (HFW.out.trans (b2.fl rb)).f2 mb⟩
    | true =>
      have CP : Hid (Calls Tryd.prog 17 #[.string ⟨t.s.toArray⟩] W fun e w' => e = .returned (ndv 5 0 ⟨t.s.toArray⟩ none 0 0 none 0 0) ∧ BW W w') := by
        have := plainP_any t.s W
        have hv2 := hv
        simp [isVr] at hv2
        rw [show plV t.s = ndv 5 0 ⟨t.s.toArray⟩ none 0 0 none 0 0 by unfold plV; rw [if_neg hv2.1.1, if_neg hv2.1.2, if_neg hv2.2]] at this
        exact this
      have hfd : ∀ w', (Instr.field 26 (ndv 5 0 ⟨t.s.toArray⟩ none 0 0 none 0 0) 0).run Tryd.prog w' = .ok (.int .u8 5) w' := fun w' => by kernel_rfl
      have HV : Hid (isVr t.s = true) := hv
      clear hv
      go_wp2_with (fail)
      refine CP.out.mono ?_
      rintro e w2 ⟨rfl, b2⟩
      have y1 := (b2.cells w1.heap.size 1 (by omega)).trans x1
      have y3 := (b2.cells w1.heap.size 3 (by omega)).trans x3
      have hz2 := b2.size
      have HF2 : Hid (Fl rb w w2) := HFW.out.trans (b2.fl rb)
      have HR2 : Hid (RdP rb B N q w2) := HRW.out.bw b2
      obtain ⟨D, hown, hD, hA⟩ := HMW.out.same (b2.block mb (by omega))
      have hsm : (⟨t.s.toArray⟩ : ByteArray).size ≤ maxLen := by have := ok.s; unfold maxLen; show t.s.toArray.size ≤ _; simp; omega
      have hkey : keyOf Tryd.prog 9 (.string ⟨t.s.toArray⟩) = some (.string t.s) := by
        have := Go.WideMaps.keyOf_string_mk Tryd.underlying9 hsm
        simpa using this
      obtain ⟨c, hrun, hat, hwc⟩ := hown.lookup_int (t := 83) (Go.Maps.string_keyed Tryd.underlying9) Tryd.underlying83 Tryd.underlying3 (hz w2) hkey
      have hc : c = if t.s ∈ l then 1 else 0 := by
        rw [hA t.s] at hat
        simpa using hat.symm
      have HOW : Hid (w2.ownsMap Tryd.prog 9 (plainElem Tryd.prog 3) mb l.length D) := hown
      have HA : Hid _ := hA
      have HD : Hid (IsMap D) := hD
      clear hat hwc b2 CP hown hA hD x0 x1 x2 x3
      by_cases hin : t.s ∈ l
      · rw [if_pos hin] at hc
        subst hc
        obtain rfl : R = .error (12, t.back) := by rw [← HRR.out]; simp [hin]
        clear HRR hin
        go_wp2_with (fail)
        exact ⟨rfl, rfl, HF2.out.f2 mb⟩
      · rw [if_neg hin] at hc
        subst hc
        obtain rfl : R = .ok (t.s, q) := by rw [← HRR.out]; simp [hin, HV.out]
        clear HRR hin
        go_wp2_with (at_mapUpdate; refine wpList_mapUpdate_own _ rfl _ _ _ 83 rfl 9 3 (Go.Maps.string_keyed Tryd.underlying9) Tryd.underlying83 _ mb l.length D rfl HOW.out (by unfold maxLen; omega) _ _ (.string t.s) rfl rfl hkey (.lit (.int .i64 1)) [] (plainElem_int Tryd.underlying3 (by decide)) ?_)
        intro w3 hown3 hgrow3
        have y1' : w3.cell? ⟨w1.heap.size, 1, none⟩ = some (.string ⟨t.s.toArray⟩) := (cell_block (hgrow3.block w1.heap.size (by omega) (by intro e; have := Option.some.inj e; omega)) 1).trans y1
        have HF3 : Hid (F2 rb mb w w3) := (HF2.out.f2 mb).trans (grown_f2 hgrow3)
        have hz3 := hgrow3.size
        have HR3 : Hid (RdP rb B N q w3) := HR2.out.up (fun j hj => hgrow3.block j (by omega) (by intro e; have := Option.some.inj e; omega)) (by omega)
        have HM3 : Hid (TkIs w3 mb (l ++ [t.s])) := TkIs.put hown3 HD.out HA.out
        clear hgrow3 hown3
        go_wp2_with (fail)
        go_ret
        exact ⟨rfl, HR3.out, HM3.out, ok.s, HF3.out⟩

end Go.Proofs.YtlacjiihbbgbeaaDoor
