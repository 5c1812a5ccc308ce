import Derived.Test.YtndhhmgbekcfoaaDoorQ7
namespace Go.Proofs.YtndhhmgbekcfoaaDoor
open Go.RowKit
set_option linter.unusedVariables false
set_option linter.unusedSimpArgs false

theorem Tryd.infk9 : (Tryd.prog.info? 9).map (fun i => (i.zero, i.size, i.bytes)) = some (some (.string ⟨#[]⟩), 1, 16) := by kernel_rfl
theorem Tryd.infk3 : (Tryd.prog.info? 3).map (fun i => (i.zero, i.size, i.bytes)) = some (some (.int .i64 0), 1, 8) := by kernel_rfl
theorem Tryd.infk43 : (Tryd.prog.info? 43).map (fun i => (i.zero, i.size, i.bytes)) = some (some (.agg #[.int .u8 0, .int .i64 0]), 2, 16) := by kernel_rfl
set_option maxRecDepth 100000 in
set_option maxHeartbeats 4000000 in
theorem listTexts_any (W0 w : World) (rb : Nat) (l : List Nat) (h : Rd W0 w rb l) (hG : ∀ w1 r, Rd W0 w1 rb r → Calls Tryd.prog 55 #[.pointer (some ⟨rb, 0, none⟩)] w1 (PQ W0 rb w1 (VS w1.heap.size) (dText r))) :
    Calls Tryd.prog 54 #[.pointer (some ⟨rb, 0, none⟩), .func (.func 55) #[.pointer (some ⟨rb, 0, none⟩)] #[]] w (PQ W0 rb w (VL StrsAt w.heap.size) (dList dText l)) := by
  have HG : Hid (∀ w1 r, Rd W0 w1 rb r → Calls Tryd.prog 55 #[.pointer (some ⟨rb, 0, none⟩)] w1 (PQ W0 rb w1 (VS w1.heap.size) (dText r))) := hG
  have HN : Hid (Calls Tryd.prog 75 #[.pointer (some ⟨rb, 0, none⟩)] w (PQ W0 rb w (fun (_ : World) (v : Value) (k : Nat) => v = .int .i64 (k : Int) ∧ k ≤ 9223372036854775807) (dSize l))) := size_any W0 w rb l h
  have hrb := h.lt
  have hW0 : W0.heap.size ≤ rb := h.2.1
  have HL : Hid (l.length ≤ 1048576) := h.2.2.1
  unfold dList
  cases hd : dSize l with
  | none =>
    rw [hd] at HN
    clear hd h hG
    go_enter Tryd.func54, Tryd.ntmps54
    go_wp2_with (first | (go_at_call 75; go_loud (refine Calls.mono HN.out ?_; rintro e w1 ⟨g1, hp⟩; obtain rfl := hp; have G1 : Hid _ := g1; clear g1)))
    exact ⟨rfl, G1.out, rfl⟩
  | some y =>
    obtain ⟨k, r0⟩ := y
    rw [hd] at HN
    have HL0 : Hid (r0.length ≤ 1048576) := by have := dSize_lt hd; have := HL.out; show _ ≤ _; omega
    simp only [Option.bind_some]
    clear hd h hG HL
    go_enter Tryd.func54, Tryd.ntmps54
    go_wp2_with (first | (go_at_call 75; go_loud (refine Calls.mono HN.out ?_; rintro e w1 ⟨g1, v1, rfl, ⟨hv1, hk1⟩, R1⟩; obtain rfl := hv1; have G1 : Hid (w.grownBy w1 (some rb)) := g1; have RR1 : Hid (Rd W0 w1 rb r0) := R1; clear g1 R1)))
    go_loopw [5, 8] (fun row i w' => ∃ (j : Nat) (xs : List ByteArray) (r : List Nat), i = .int .i64 (j : Int) ∧ j ≤ k ∧ Hid (dRep dText k r0 = (dRep dText (k - j) r).map (fun y => (xs ++ y.1, y.2)) ∧ xs.length = j ∧ j + r.length ≤ 1048576) ∧ Hid (Rd W0 w' rb r) ∧ Hid (Rws w.heap.size 9 1 ElS w' row xs) ∧ Hid (w.grownBy w' (some rb))) (fun row i _ => k - (intOf i).toNat)
    case atStart => exact ⟨0, [], r0, rfl, Nat.zero_le _, ⟨by simp, rfl, by have := HL0.out; omega⟩, RR1, Rws.nil _ _ _ _ _, G1⟩
    case round =>
      obtain ⟨j, xs, r, rfl, hj, HD, HR, HW, HGr⟩ := hrel
      by_cases hlt : j < k
      · have HC : Hid (Calls Tryd.prog 55 #[.pointer (some ⟨rb, 0, none⟩)] wr (PQ W0 rb wr (VS wr.heap.size) (dText r))) := HG.out wr r HR.out
        cases hone : dText r with
        | none =>
          rw [hone] at HC
          have HX : Hid (dRep dText k r0 = none) := by
            show _ = _
            rw [HD.out.1, show k - j = (k - j - 1) + 1 by omega, dRep, hone]
            rfl
          clear hone
          go_wp2_with (first | (go_at_call 55; go_loud (refine Calls.mono HC.out ?_; rintro e w2 ⟨g2, hp⟩; obtain rfl := hp)))
          exact ⟨rfl, gb_trans HGr.out g2, by rw [HX.out]⟩
        | some p =>
          obtain ⟨x, q⟩ := p
          rw [hone] at HC
          have HD2 : Hid (dRep dText k r0 = (dRep dText (k - (j + 1)) q).map (fun y => ((xs ++ [x]) ++ y.1, y.2)) ∧ (xs ++ [x]).length = j + 1 ∧ (j + 1) + q.length ≤ 1048576) := by
            obtain ⟨d1, d2, d3⟩ := HD.out
            have d4 := dText_lt hone
            refine ⟨?_, by simp [d2], by omega⟩
            rw [d1, show k - j = (k - (j + 1)) + 1 by omega, dRep, hone]
            simp only [Option.bind_some]
            cases dRep dText (k - (j + 1)) q <;> simp
          have hjn : j + 1 ≤ 1048576 := by have := HD2.out.2.2; omega
          have hxl : xs.length = j := HD.out.2.1
          clear hone HD
          obtain ⟨cs, hown, hel⟩ := HW.out
          have HOWN : Hid _ := hown
          have HEL : Hid _ := hel
          have hws : w.heap.size ≤ wr.heap.size := HGr.out.size
          clear hown hel
          go_wp2_with (first
            | (go_at_call 55; go_loud (refine Calls.mono HC.out ?_; rintro e w2 ⟨g2, v2, rfl, hv2, R2⟩; obtain ⟨rfl, hv3⟩ := hv2; have G2 : Hid (wr.grownBy w2 (some rb)) := g2; have RR2 : Hid (Rd W0 w2 rb q) := R2; have EX : Hid (ElS (hidP (bel wr.heap.size) w2) (fun j => ([.string x] : List Value)[j]?) x) := ⟨rfl, Nat.le_trans hv3 (by unfold maxLen; omega)⟩; clear g2 R2))
            | (at_builtin; go_loud (obtain ⟨i0, hi, hz0, hz1, hz2⟩ := info_parts Tryd.infk9; refine wpList_gen rfl (.tmp 10) (.tmp 13) 23 9 i0 (.string ⟨#[]⟩) 1 16 rfl Tryd.underlying23 hi hz0 hz1 hz2 rfl (by decide) (by decide) w.heap.size _ xs.length cs ⟨w2.heap.size, 0, none⟩ 1 [.string x] rfl rfl (World.ownsRow.alloc (own_gb HOWN.out G2.out (fun k hk => by cases hk; exact hrb)) _) rfl ?nw (by intro u hu; simp only [List.mem_cons, List.not_mem_nil, or_false] at hu; rcases hu with rfl <;> rfl) (by omega) (by have := G2.out.size; simp; omega) ?_; (case nw => intro j u hu; rw [Addr.add_mid, Nat.zero_add]; exact (cell_new w2 _ _ _).trans (by simpa using hu)); intro v3 w3 o3 g3; have O3 : Hid _ := o3; have G3 : Hid _ := g3; clear o3 g3 hi hz0 hz1 hz2)))
          have hgs := fun k hk => World.ownsRow.lt HOWN.out k hk
          have GA : Hid (w2.grownBy (w2.alloc (.cells #[.string x] 9)) (some rb)) := gb_bw (BW.alloc (BW.refl _) _)
          have HELA : Hid (∀ i y, xs[i]? = some y → ElS (hidP (hpB w.heap.size u5) (w2.alloc (.cells #[.string x] 9))) (fun j => cs[i * 1 + j]?) y) := fun i y hy => by
            refine ElS.sub _ _ _ _ (hidP_sub ?_ (fun b hb hp => ⟨hp, ?_⟩)) (HEL.out i y hy)
            · have := G2.out.size; simp; omega
            · have hb2 : b < w2.heap.size := by have := G2.out.size; omega
              have := (hpB_no.1 hp).1
              exact (GA.out.block b hb2 (fun e => by cases e; omega)).trans (G2.out.block b hb (fun e => by cases e; omega))
          have EXA : ElS (hidP (bel wr.heap.size) (w2.alloc (.cells #[.string x] 9))) (fun j => ([.string x] : List Value)[j]?) x :=
            ElS.sub _ _ _ _ (bel_gb GA.out (by omega)) EX.out
          have HWN : Hid (Rws w.heap.size 9 1 ElS w3 v3 (xs ++ [x])) := Rws.app ElS.sub ElS.ex (World.ownsRow.alloc (own_gb HOWN.out G2.out (fun k hk => by cases hk; exact hrb)) _) HELA.out rfl hws (fun k hk => (hgs k hk).2) EXA O3.out G3.out
          have HRN : Hid (Rd W0 w3 rb q) := Rd.gb (RR2.out.bw (BW.alloc (BW.refl _) _)) G3.out.1 (fun k hk => by have := (hgs k hk).1; omega)
          have HGN : Hid (w.grownBy w3 (some rb)) := gb_own (gb_trans (gb_trans HGr.out G2.out) GA.out) G3.out.1 (fun k hk => (hgs k hk).1)
          clear HELA EXA hgs
          go_roundw
          case rel => exact ⟨j + 1, xs ++ [x], q, by go_num, by omega, HD2, HRN, HWN, HGN⟩
          case measure => simp [intOf]; omega
      · obtain rfl : k = j := by omega
        have HX : Hid (dRep dText k r0 = some (xs, r)) := by
          show _ = _
          rw [HD.out.1, Nat.sub_self, dRep]
          simp
        have hxl : xs.length ≤ 1048576 := by have := HD.out.2; omega
        obtain ⟨ao, n, hve, hn1, hn2, hrow⟩ := Rws.done ElS.sub ElS.ex HW.out (by unfold maxLen; omega)
        have HV : Hid (VL StrsAt w.heap.size wr u5 xs) := ⟨ao, n, hve, hn1, hn2, hxl, StrsAt.of hrow⟩
        clear hve hrow
        go_wp2_with (fail)
        go_ret
        exact ⟨HGr.out, by rw [HX.out]; exact ⟨_, rfl, HV.out, HR.out⟩⟩
set_option maxRecDepth 100000 in
set_option maxHeartbeats 4000000 in
theorem listOps_any (W0 w : World) (rb : Nat) (l : List Nat) (h : Rd W0 w rb l) (hG : ∀ w1 r, Rd W0 w1 rb r → Calls Tryd.prog 75 #[.pointer (some ⟨rb, 0, none⟩)] w1 (PQ W0 rb w1 (VI w1.heap.size) (dPlace r))) :
    Calls Tryd.prog 79 #[.pointer (some ⟨rb, 0, none⟩), .func (.func 75) #[.pointer (some ⟨rb, 0, none⟩)] #[]] w (PQ W0 rb w (VL IntsAt w.heap.size) (dList dPlace l)) := by
  have HG : Hid (∀ w1 r, Rd W0 w1 rb r → Calls Tryd.prog 75 #[.pointer (some ⟨rb, 0, none⟩)] w1 (PQ W0 rb w1 (VI w1.heap.size) (dPlace r))) := hG
  have HN : Hid (Calls Tryd.prog 75 #[.pointer (some ⟨rb, 0, none⟩)] w (PQ W0 rb w (fun (_ : World) (v : Value) (k : Nat) => v = .int .i64 (k : Int) ∧ k ≤ 9223372036854775807) (dSize l))) := size_any W0 w rb l h
  have hrb := h.lt
  have hW0 : W0.heap.size ≤ rb := h.2.1
  have HL : Hid (l.length ≤ 1048576) := h.2.2.1
  unfold dList
  cases hd : dSize l with
  | none =>
    rw [hd] at HN
    clear hd h hG
    go_enter Tryd.func79, Tryd.ntmps79
    go_wp2_with (first | (go_at_call 75; go_loud (refine Calls.mono HN.out ?_; rintro e w1 ⟨g1, hp⟩; obtain rfl := hp; have G1 : Hid _ := g1; clear g1)))
    exact ⟨rfl, G1.out, rfl⟩
  | some y =>
    obtain ⟨k, r0⟩ := y
    rw [hd] at HN
    have HL0 : Hid (r0.length ≤ 1048576) := by have := dSize_lt hd; have := HL.out; show _ ≤ _; omega
    simp only [Option.bind_some]
    clear hd h hG HL
    go_enter Tryd.func79, Tryd.ntmps79
    go_wp2_with (first | (go_at_call 75; go_loud (refine Calls.mono HN.out ?_; rintro e w1 ⟨g1, v1, rfl, ⟨hv1, hk1⟩, R1⟩; obtain rfl := hv1; have G1 : Hid (w.grownBy w1 (some rb)) := g1; have RR1 : Hid (Rd W0 w1 rb r0) := R1; clear g1 R1)))
    go_loopw [5, 8] (fun row i w' => ∃ (j : Nat) (xs : List Int) (r : List Nat), i = .int .i64 (j : Int) ∧ j ≤ k ∧ Hid (dRep dPlace k r0 = (dRep dPlace (k - j) r).map (fun y => (xs ++ y.1, y.2)) ∧ xs.length = j ∧ j + r.length ≤ 1048576) ∧ Hid (Rd W0 w' rb r) ∧ Hid (Rws w.heap.size 3 1 ElI w' row xs) ∧ Hid (w.grownBy w' (some rb))) (fun row i _ => k - (intOf i).toNat)
    case atStart => exact ⟨0, [], r0, rfl, Nat.zero_le _, ⟨by simp, rfl, by have := HL0.out; omega⟩, RR1, Rws.nil _ _ _ _ _, G1⟩
    case round =>
      obtain ⟨j, xs, r, rfl, hj, HD, HR, HW, HGr⟩ := hrel
      by_cases hlt : j < k
      · have HC : Hid (Calls Tryd.prog 75 #[.pointer (some ⟨rb, 0, none⟩)] wr (PQ W0 rb wr (VI wr.heap.size) (dPlace r))) := HG.out wr r HR.out
        cases hone : dPlace r with
        | none =>
          rw [hone] at HC
          have HX : Hid (dRep dPlace k r0 = none) := by
            show _ = _
            rw [HD.out.1, show k - j = (k - j - 1) + 1 by omega, dRep, hone]
            rfl
          clear hone
          go_wp2_with (first | (go_at_call 75; go_loud (refine Calls.mono HC.out ?_; rintro e w2 ⟨g2, hp⟩; obtain rfl := hp)))
          exact ⟨rfl, gb_trans HGr.out g2, by rw [HX.out]⟩
        | some p =>
          obtain ⟨x, q⟩ := p
          rw [hone] at HC
          have HD2 : Hid (dRep dPlace k r0 = (dRep dPlace (k - (j + 1)) q).map (fun y => ((xs ++ [x]) ++ y.1, y.2)) ∧ (xs ++ [x]).length = j + 1 ∧ (j + 1) + q.length ≤ 1048576) := by
            obtain ⟨d1, d2, d3⟩ := HD.out
            have d4 := dPlace_lt hone
            refine ⟨?_, by simp [d2], by omega⟩
            rw [d1, show k - j = (k - (j + 1)) + 1 by omega, dRep, hone]
            simp only [Option.bind_some]
            cases dRep dPlace (k - (j + 1)) q <;> simp
          have hjn : j + 1 ≤ 1048576 := by have := HD2.out.2.2; omega
          have hxl : xs.length = j := HD.out.2.1
          clear hone HD
          obtain ⟨cs, hown, hel⟩ := HW.out
          have HOWN : Hid _ := hown
          have HEL : Hid _ := hel
          have hws : w.heap.size ≤ wr.heap.size := HGr.out.size
          clear hown hel
          go_wp2_with (first
            | (go_at_call 75; go_loud (refine Calls.mono HC.out ?_; rintro e w2 ⟨g2, v2, rfl, hv2, R2⟩; obtain ⟨rfl, hv3⟩ := hv2; have G2 : Hid (wr.grownBy w2 (some rb)) := g2; have RR2 : Hid (Rd W0 w2 rb q) := R2; have EX : Hid (ElI (hidP (bel wr.heap.size) w2) (fun j => ([.int .i64 x] : List Value)[j]?) x) := ⟨rfl, hv3⟩; clear g2 R2))
            | (at_builtin; go_loud (obtain ⟨i0, hi, hz0, hz1, hz2⟩ := info_parts Tryd.infk3; refine wpList_gen rfl (.tmp 10) (.tmp 13) 48 3 i0 (.int .i64 0) 1 8 rfl Tryd.underlying48 hi hz0 hz1 hz2 rfl (by decide) (by decide) w.heap.size _ xs.length cs ⟨w2.heap.size, 0, none⟩ 1 [.int .i64 x] rfl rfl (World.ownsRow.alloc (own_gb HOWN.out G2.out (fun k hk => by cases hk; exact hrb)) _) rfl ?nw (by intro u hu; simp only [List.mem_cons, List.not_mem_nil, or_false] at hu; rcases hu with rfl <;> rfl) (by omega) (by have := G2.out.size; simp; omega) ?_; (case nw => intro j u hu; rw [Addr.add_mid, Nat.zero_add]; exact (cell_new w2 _ _ _).trans (by simpa using hu)); intro v3 w3 o3 g3; have O3 : Hid _ := o3; have G3 : Hid _ := g3; clear o3 g3 hi hz0 hz1 hz2)))
          have hgs := fun k hk => World.ownsRow.lt HOWN.out k hk
          have GA : Hid (w2.grownBy (w2.alloc (.cells #[.int .i64 x] 3)) (some rb)) := gb_bw (BW.alloc (BW.refl _) _)
          have HELA : Hid (∀ i y, xs[i]? = some y → ElI (hidP (hpB w.heap.size u5) (w2.alloc (.cells #[.int .i64 x] 3))) (fun j => cs[i * 1 + j]?) y) := fun i y hy => by
            refine ElI.sub _ _ _ _ (hidP_sub ?_ (fun b hb hp => ⟨hp, ?_⟩)) (HEL.out i y hy)
            · have := G2.out.size; simp; omega
            · have hb2 : b < w2.heap.size := by have := G2.out.size; omega
              have := (hpB_no.1 hp).1
              exact (GA.out.block b hb2 (fun e => by cases e; omega)).trans (G2.out.block b hb (fun e => by cases e; omega))
          have EXA : ElI (hidP (bel wr.heap.size) (w2.alloc (.cells #[.int .i64 x] 3))) (fun j => ([.int .i64 x] : List Value)[j]?) x :=
            ElI.sub _ _ _ _ (bel_gb GA.out (by omega)) EX.out
          have HWN : Hid (Rws w.heap.size 3 1 ElI w3 v3 (xs ++ [x])) := Rws.app ElI.sub ElI.ex (World.ownsRow.alloc (own_gb HOWN.out G2.out (fun k hk => by cases hk; exact hrb)) _) HELA.out rfl hws (fun k hk => (hgs k hk).2) EXA O3.out G3.out
          have HRN : Hid (Rd W0 w3 rb q) := Rd.gb (RR2.out.bw (BW.alloc (BW.refl _) _)) G3.out.1 (fun k hk => by have := (hgs k hk).1; omega)
          have HGN : Hid (w.grownBy w3 (some rb)) := gb_own (gb_trans (gb_trans HGr.out G2.out) GA.out) G3.out.1 (fun k hk => (hgs k hk).1)
          clear HELA EXA hgs
          go_roundw
          case rel => exact ⟨j + 1, xs ++ [x], q, by go_num, by omega, HD2, HRN, HWN, HGN⟩
          case measure => simp [intOf]; omega
      · obtain rfl : k = j := by omega
        have HX : Hid (dRep dPlace k r0 = some (xs, r)) := by
          show _ = _
          rw [HD.out.1, Nat.sub_self, dRep]
          simp
        have hxl : xs.length ≤ 1048576 := by have := HD.out.2; omega
        obtain ⟨ao, n, hve, hn1, hn2, hrow⟩ := Rws.done ElI.sub ElI.ex HW.out (by unfold maxLen; omega)
        have HV : Hid (VL IntsAt w.heap.size wr u5 xs) := ⟨ao, n, hve, hn1, hn2, hxl, IntsAt.of hrow⟩
        clear hve hrow
        go_wp2_with (fail)
        go_ret
        exact ⟨HGr.out, by rw [HX.out]; exact ⟨_, rfl, HV.out, HR.out⟩⟩
set_option maxRecDepth 100000 in
set_option maxHeartbeats 4000000 in
theorem listCode_any (W0 w : World) (rb : Nat) (l : List Nat) (h : Rd W0 w rb l) (hG : ∀ w1 r, Rd W0 w1 rb r → Calls Tryd.prog 78 #[.pointer (some ⟨rb, 0, none⟩)] w1 (PQ W0 rb w1 (VN w1.heap.size) (dIns r))) :
    Calls Tryd.prog 77 #[.pointer (some ⟨rb, 0, none⟩), .func (.func 78) #[.pointer (some ⟨rb, 0, none⟩)] #[]] w (PQ W0 rb w (VL CodeAt w.heap.size) (dList dIns l)) := by
  have HG : Hid (∀ w1 r, Rd W0 w1 rb r → Calls Tryd.prog 78 #[.pointer (some ⟨rb, 0, none⟩)] w1 (PQ W0 rb w1 (VN w1.heap.size) (dIns r))) := hG
  have HN : Hid (Calls Tryd.prog 75 #[.pointer (some ⟨rb, 0, none⟩)] w (PQ W0 rb w (fun (_ : World) (v : Value) (k : Nat) => v = .int .i64 (k : Int) ∧ k ≤ 9223372036854775807) (dSize l))) := size_any W0 w rb l h
  have hrb := h.lt
  have hW0 : W0.heap.size ≤ rb := h.2.1
  have HL : Hid (l.length ≤ 1048576) := h.2.2.1
  unfold dList
  cases hd : dSize l with
  | none =>
    rw [hd] at HN
    clear hd h hG
    go_enter Tryd.func77, Tryd.ntmps77
    go_wp2_with (first | (go_at_call 75; go_loud (refine Calls.mono HN.out ?_; rintro e w1 ⟨g1, hp⟩; obtain rfl := hp; have G1 : Hid _ := g1; clear g1)))
    exact ⟨rfl, G1.out, rfl⟩
  | some y =>
    obtain ⟨k, r0⟩ := y
    rw [hd] at HN
    have HL0 : Hid (r0.length ≤ 1048576) := by have := dSize_lt hd; have := HL.out; show _ ≤ _; omega
    simp only [Option.bind_some]
    clear hd h hG HL
    go_enter Tryd.func77, Tryd.ntmps77
    go_wp2_with (first | (go_at_call 75; go_loud (refine Calls.mono HN.out ?_; rintro e w1 ⟨g1, v1, rfl, ⟨hv1, hk1⟩, R1⟩; obtain rfl := hv1; have G1 : Hid (w.grownBy w1 (some rb)) := g1; have RR1 : Hid (Rd W0 w1 rb r0) := R1; clear g1 R1)))
    go_loopw [5, 8] (fun row i w' => ∃ (j : Nat) (xs : List Ins) (r : List Nat), i = .int .i64 (j : Int) ∧ j ≤ k ∧ Hid (dRep dIns k r0 = (dRep dIns (k - j) r).map (fun y => (xs ++ y.1, y.2)) ∧ xs.length = j ∧ j + r.length ≤ 1048576) ∧ Hid (Rd W0 w' rb r) ∧ Hid (Rws w.heap.size 43 2 ElN w' row xs) ∧ Hid (w.grownBy w' (some rb))) (fun row i _ => k - (intOf i).toNat)
    case atStart => exact ⟨0, [], r0, rfl, Nat.zero_le _, ⟨by simp, rfl, by have := HL0.out; omega⟩, RR1, Rws.nil _ _ _ _ _, G1⟩
    case round =>
      obtain ⟨j, xs, r, rfl, hj, HD, HR, HW, HGr⟩ := hrel
      by_cases hlt : j < k
      · have HC : Hid (Calls Tryd.prog 78 #[.pointer (some ⟨rb, 0, none⟩)] wr (PQ W0 rb wr (VN wr.heap.size) (dIns r))) := HG.out wr r HR.out
        cases hone : dIns r with
        | none =>
          rw [hone] at HC
          have HX : Hid (dRep dIns k r0 = none) := by
            show _ = _
            rw [HD.out.1, show k - j = (k - j - 1) + 1 by omega, dRep, hone]
            rfl
          clear hone
          go_wp2_with (first | (go_at_call 78; go_loud (refine Calls.mono HC.out ?_; rintro e w2 ⟨g2, hp⟩; obtain rfl := hp)))
          exact ⟨rfl, gb_trans HGr.out g2, by rw [HX.out]⟩
        | some p =>
          obtain ⟨x, q⟩ := p
          rw [hone] at HC
          have HD2 : Hid (dRep dIns k r0 = (dRep dIns (k - (j + 1)) q).map (fun y => ((xs ++ [x]) ++ y.1, y.2)) ∧ (xs ++ [x]).length = j + 1 ∧ (j + 1) + q.length ≤ 1048576) := by
            obtain ⟨d1, d2, d3⟩ := HD.out
            have d4 := dIns_lt hone
            refine ⟨?_, by simp [d2], by omega⟩
            rw [d1, show k - j = (k - (j + 1)) + 1 by omega, dRep, hone]
            simp only [Option.bind_some]
            cases dRep dIns (k - (j + 1)) q <;> simp
          have hjn : j + 1 ≤ 1048576 := by have := HD2.out.2.2; omega
          have hxl : xs.length = j := HD.out.2.1
          clear hone HD
          obtain ⟨cs, hown, hel⟩ := HW.out
          have HOWN : Hid _ := hown
          have HEL : Hid _ := hel
          have hws : w.heap.size ≤ wr.heap.size := HGr.out.size
          clear hown hel
          go_wp2_with (first
            | (go_at_call 78; go_loud (refine Calls.mono HC.out ?_; rintro e w2 ⟨g2, v2, rfl, hv2, R2⟩; obtain ⟨rfl, hv3⟩ := hv2; have G2 : Hid (wr.grownBy w2 (some rb)) := g2; have RR2 : Hid (Rd W0 w2 rb q) := R2; have EX : Hid (ElN (hidP (bel wr.heap.size) w2) (fun j => ([.int .u8 x.op, .int .i64 x.a] : List Value)[j]?) x) := ⟨rfl, rfl, hv3⟩; clear g2 R2))
            | (at_builtin; go_loud (obtain ⟨i0, hi, hz0, hz1, hz2⟩ := info_parts Tryd.infk43; refine wpList_gen rfl (.tmp 10) (.tmp 13) 44 43 i0 (.agg #[.int .u8 0, .int .i64 0]) 2 16 rfl Tryd.underlying44 hi hz0 hz1 hz2 rfl (by decide) (by decide) w.heap.size _ xs.length cs ⟨w2.heap.size, 0, none⟩ 1 [.int .u8 x.op, .int .i64 x.a] rfl rfl (World.ownsRow.alloc (own_gb HOWN.out G2.out (fun k hk => by cases hk; exact hrb)) _) rfl ?nw (by intro u hu; simp only [List.mem_cons, List.not_mem_nil, or_false] at hu; rcases hu with rfl | rfl <;> rfl) (by omega) (by have := G2.out.size; simp; omega) ?_; (case nw => intro j u hu; rw [Addr.add_mid, Nat.zero_add]; exact (cell_new w2 _ _ _).trans (by simpa using hu)); intro v3 w3 o3 g3; have O3 : Hid _ := o3; have G3 : Hid _ := g3; clear o3 g3 hi hz0 hz1 hz2)))
          have hgs := fun k hk => World.ownsRow.lt HOWN.out k hk
          have GA : Hid (w2.grownBy (w2.alloc (.cells #[.int .u8 x.op, .int .i64 x.a] 43)) (some rb)) := gb_bw (BW.alloc (BW.refl _) _)
          have HELA : Hid (∀ i y, xs[i]? = some y → ElN (hidP (hpB w.heap.size u5) (w2.alloc (.cells #[.int .u8 x.op, .int .i64 x.a] 43))) (fun j => cs[i * 2 + j]?) y) := fun i y hy => by
            refine ElN.sub _ _ _ _ (hidP_sub ?_ (fun b hb hp => ⟨hp, ?_⟩)) (HEL.out i y hy)
            · have := G2.out.size; simp; omega
            · have hb2 : b < w2.heap.size := by have := G2.out.size; omega
              have := (hpB_no.1 hp).1
              exact (GA.out.block b hb2 (fun e => by cases e; omega)).trans (G2.out.block b hb (fun e => by cases e; omega))
          have EXA : ElN (hidP (bel wr.heap.size) (w2.alloc (.cells #[.int .u8 x.op, .int .i64 x.a] 43))) (fun j => ([.int .u8 x.op, .int .i64 x.a] : List Value)[j]?) x :=
            ElN.sub _ _ _ _ (bel_gb GA.out (by omega)) EX.out
          have HWN : Hid (Rws w.heap.size 43 2 ElN w3 v3 (xs ++ [x])) := Rws.app ElN.sub ElN.ex (World.ownsRow.alloc (own_gb HOWN.out G2.out (fun k hk => by cases hk; exact hrb)) _) HELA.out rfl hws (fun k hk => (hgs k hk).2) EXA O3.out G3.out
          have HRN : Hid (Rd W0 w3 rb q) := Rd.gb (RR2.out.bw (BW.alloc (BW.refl _) _)) G3.out.1 (fun k hk => by have := (hgs k hk).1; omega)
          have HGN : Hid (w.grownBy w3 (some rb)) := gb_own (gb_trans (gb_trans HGr.out G2.out) GA.out) G3.out.1 (fun k hk => (hgs k hk).1)
          clear HELA EXA hgs
          go_roundw
          case rel => exact ⟨j + 1, xs ++ [x], q, by go_num, by omega, HD2, HRN, HWN, HGN⟩
          case measure => simp [intOf]; omega
      · obtain rfl : k = j := by omega
        have HX : Hid (dRep dIns k r0 = some (xs, r)) := by
          show _ = _
          rw [HD.out.1, Nat.sub_self, dRep]
          simp
        have hxl : xs.length ≤ 1048576 := by have := HD.out.2; omega
        obtain ⟨ao, n, hve, hn1, hn2, hrow⟩ := Rws.done ElN.sub ElN.ex HW.out (by unfold maxLen; omega)
        have HV : Hid (VL CodeAt w.heap.size wr u5 xs) := ⟨ao, n, hve, hn1, hn2, hxl, hrow⟩
        clear hve hrow
        go_wp2_with (fail)
        go_ret
        exact ⟨HGr.out, by rw [HX.out]; exact ⟨_, rfl, HV.out, HR.out⟩⟩

theorem Tryd.infk46 : (Tryd.prog.info? 46).map (fun i => (i.zero, i.size, i.bytes)) = some (some (.agg #[.int .i64 0, .int .i64 0, .int .i64 0, .slice none 0 0]), 4, 48) := by kernel_rfl
theorem Tryd.infk50 : (Tryd.prog.info? 50).map (fun i => (i.zero, i.size, i.bytes)) = some (some (.agg #[.slice none 0 0, .bool false, .bool false]), 3, 32) := by kernel_rfl
set_option maxRecDepth 100000 in
set_option maxHeartbeats 4000000 in
theorem listPros_any (W0 w : World) (rb : Nat) (l : List Nat) (h : Rd W0 w rb l) (hG : ∀ w1 r, Rd W0 w1 rb r → Calls Tryd.prog 57 #[.pointer (some ⟨rb, 0, none⟩)] w1 (PQ W0 rb w1 (VP w1.heap.size) (dPro r))) :
    Calls Tryd.prog 56 #[.pointer (some ⟨rb, 0, none⟩), .func (.func 57) #[.pointer (some ⟨rb, 0, none⟩)] #[]] w (PQ W0 rb w (VL ProsAt w.heap.size) (dList dPro l)) := by
  have HG : Hid (∀ w1 r, Rd W0 w1 rb r → Calls Tryd.prog 57 #[.pointer (some ⟨rb, 0, none⟩)] w1 (PQ W0 rb w1 (VP w1.heap.size) (dPro r))) := hG
  have HN : Hid (Calls Tryd.prog 75 #[.pointer (some ⟨rb, 0, none⟩)] w (PQ W0 rb w (fun (_ : World) (v : Value) (k : Nat) => v = .int .i64 (k : Int) ∧ k ≤ 9223372036854775807) (dSize l))) := size_any W0 w rb l h
  have hrb := h.lt
  have hW0 : W0.heap.size ≤ rb := h.2.1
  have HL : Hid (l.length ≤ 1048576) := h.2.2.1
  unfold dList
  cases hd : dSize l with
  | none =>
    rw [hd] at HN
    clear hd h hG
    go_enter Tryd.func56, Tryd.ntmps56
    go_wp2_with (first | (go_at_call 75; go_loud (refine Calls.mono HN.out ?_; rintro e w1 ⟨g1, hp⟩; obtain rfl := hp; have G1 : Hid _ := g1; clear g1)))
    exact ⟨rfl, G1.out, rfl⟩
  | some y =>
    obtain ⟨k, r0⟩ := y
    rw [hd] at HN
    have HL0 : Hid (r0.length ≤ 1048576) := by have := dSize_lt hd; have := HL.out; show _ ≤ _; omega
    simp only [Option.bind_some]
    clear hd h hG HL
    go_enter Tryd.func56, Tryd.ntmps56
    go_wp2_with (first | (go_at_call 75; go_loud (refine Calls.mono HN.out ?_; rintro e w1 ⟨g1, v1, rfl, ⟨hv1, hk1⟩, R1⟩; obtain rfl := hv1; have G1 : Hid (w.grownBy w1 (some rb)) := g1; have RR1 : Hid (Rd W0 w1 rb r0) := R1; clear g1 R1)))
    go_loopw [5, 8] (fun row i w' => ∃ (j : Nat) (xs : List Pro) (r : List Nat), i = .int .i64 (j : Int) ∧ j ≤ k ∧ Hid (dRep dPro k r0 = (dRep dPro (k - j) r).map (fun y => (xs ++ y.1, y.2)) ∧ xs.length = j ∧ j + r.length ≤ 1048576) ∧ Hid (Rd W0 w' rb r) ∧ Hid (Rws w.heap.size 46 4 ElP w' row xs) ∧ Hid (w.grownBy w' (some rb))) (fun row i _ => k - (intOf i).toNat)
    case atStart => exact ⟨0, [], r0, rfl, Nat.zero_le _, ⟨by simp, rfl, by have := HL0.out; omega⟩, RR1, Rws.nil _ _ _ _ _, G1⟩
    case round =>
      obtain ⟨j, xs, r, rfl, hj, HD, HR, HW, HGr⟩ := hrel
      by_cases hlt : j < k
      · have HC : Hid (Calls Tryd.prog 57 #[.pointer (some ⟨rb, 0, none⟩)] wr (PQ W0 rb wr (VP wr.heap.size) (dPro r))) := HG.out wr r HR.out
        cases hone : dPro r with
        | none =>
          rw [hone] at HC
          have HX : Hid (dRep dPro k r0 = none) := by
            show _ = _
            rw [HD.out.1, show k - j = (k - j - 1) + 1 by omega, dRep, hone]
            rfl
          clear hone
          go_wp2_with (first | (go_at_call 57; go_loud (refine Calls.mono HC.out ?_; rintro e w2 ⟨g2, hp⟩; obtain rfl := hp)))
          exact ⟨rfl, gb_trans HGr.out g2, by rw [HX.out]⟩
        | some p =>
          obtain ⟨x, q⟩ := p
          rw [hone] at HC
          have HD2 : Hid (dRep dPro k r0 = (dRep dPro (k - (j + 1)) q).map (fun y => ((xs ++ [x]) ++ y.1, y.2)) ∧ (xs ++ [x]).length = j + 1 ∧ (j + 1) + q.length ≤ 1048576) := by
            obtain ⟨d1, d2, d3⟩ := HD.out
            have d4 := dPro_lt hone
            refine ⟨?_, by simp [d2], by omega⟩
            rw [d1, show k - j = (k - (j + 1)) + 1 by omega, dRep, hone]
            simp only [Option.bind_some]
            cases dRep dPro (k - (j + 1)) q <;> simp
          have hjn : j + 1 ≤ 1048576 := by have := HD2.out.2.2; omega
          have hxl : xs.length = j := HD.out.2.1
          clear hone HD
          obtain ⟨cs, hown, hel⟩ := HW.out
          have HOWN : Hid _ := hown
          have HEL : Hid _ := hel
          have hws : w.heap.size ≤ wr.heap.size := HGr.out.size
          clear hown hel
          go_wp2_with (first
            | (go_at_call 57; go_loud (refine Calls.mono HC.out ?_; rintro e w2 ⟨g2, v2, rfl, hv2, R2⟩; obtain ⟨ca, cl, cc, rfl, hv3⟩ := hv2; have G2 : Hid (wr.grownBy w2 (some rb)) := g2; have RR2 : Hid (Rd W0 w2 rb q) := R2; have EX : Hid (ElP (hidP (bel wr.heap.size) w2) (fun j => ([.int .i64 x.p, .int .i64 x.s, .int .i64 x.u, .slice ca cl cc] : List Value)[j]?) x) := ⟨ca, cl, cc, ⟨rfl, rfl, rfl, rfl⟩, hv3⟩; clear g2 R2))
            | (at_builtin; go_loud (obtain ⟨i0, hi, hz0, hz1, hz2⟩ := info_parts Tryd.infk46; refine wpList_gen rfl (.tmp 10) (.tmp 13) 24 46 i0 (.agg #[.int .i64 0, .int .i64 0, .int .i64 0, .slice none 0 0]) 4 48 rfl Tryd.underlying24 hi hz0 hz1 hz2 rfl (by decide) (by decide) w.heap.size _ xs.length cs ⟨w2.heap.size, 0, none⟩ 1 [.int .i64 x.p, .int .i64 x.s, .int .i64 x.u, .slice ca cl cc] rfl rfl (World.ownsRow.alloc (own_gb HOWN.out G2.out (fun k hk => by cases hk; exact hrb)) _) rfl ?nw (by intro u hu; simp only [List.mem_cons, List.not_mem_nil, or_false] at hu; rcases hu with rfl | rfl | rfl | rfl <;> rfl) (by omega) (by have := G2.out.size; simp; omega) ?_; (case nw => intro j u hu; rw [Addr.add_mid, Nat.zero_add]; exact (cell_new w2 _ _ _).trans (by simpa using hu)); intro v3 w3 o3 g3; have O3 : Hid _ := o3; have G3 : Hid _ := g3; clear o3 g3 hi hz0 hz1 hz2)))
          have hgs := fun k hk => World.ownsRow.lt HOWN.out k hk
          have GA : Hid (w2.grownBy (w2.alloc (.cells #[.int .i64 x.p, .int .i64 x.s, .int .i64 x.u, .slice ca cl cc] 46)) (some rb)) := gb_bw (BW.alloc (BW.refl _) _)
          have HELA : Hid (∀ i y, xs[i]? = some y → ElP (hidP (hpB w.heap.size u5) (w2.alloc (.cells #[.int .i64 x.p, .int .i64 x.s, .int .i64 x.u, .slice ca cl cc] 46))) (fun j => cs[i * 4 + j]?) y) := fun i y hy => by
            refine ElP.sub _ _ _ _ (hidP_sub ?_ (fun b hb hp => ⟨hp, ?_⟩)) (HEL.out i y hy)
            · have := G2.out.size; simp; omega
            · have hb2 : b < w2.heap.size := by have := G2.out.size; omega
              have := (hpB_no.1 hp).1
              exact (GA.out.block b hb2 (fun e => by cases e; omega)).trans (G2.out.block b hb (fun e => by cases e; omega))
          have EXA : ElP (hidP (bel wr.heap.size) (w2.alloc (.cells #[.int .i64 x.p, .int .i64 x.s, .int .i64 x.u, .slice ca cl cc] 46))) (fun j => ([.int .i64 x.p, .int .i64 x.s, .int .i64 x.u, .slice ca cl cc] : List Value)[j]?) x :=
            ElP.sub _ _ _ _ (bel_gb GA.out (by omega)) EX.out
          have HWN : Hid (Rws w.heap.size 46 4 ElP w3 v3 (xs ++ [x])) := Rws.app ElP.sub ElP.ex (World.ownsRow.alloc (own_gb HOWN.out G2.out (fun k hk => by cases hk; exact hrb)) _) HELA.out rfl hws (fun k hk => (hgs k hk).2) EXA O3.out G3.out
          have HRN : Hid (Rd W0 w3 rb q) := Rd.gb (RR2.out.bw (BW.alloc (BW.refl _) _)) G3.out.1 (fun k hk => by have := (hgs k hk).1; omega)
          have HGN : Hid (w.grownBy w3 (some rb)) := gb_own (gb_trans (gb_trans HGr.out G2.out) GA.out) G3.out.1 (fun k hk => (hgs k hk).1)
          clear HELA EXA hgs
          go_roundw
          case rel => exact ⟨j + 1, xs ++ [x], q, by go_num, by omega, HD2, HRN, HWN, HGN⟩
          case measure => simp [intOf]; omega
      · obtain rfl : k = j := by omega
        have HX : Hid (dRep dPro k r0 = some (xs, r)) := by
          show _ = _
          rw [HD.out.1, Nat.sub_self, dRep]
          simp
        have hxl : xs.length ≤ 1048576 := by have := HD.out.2; omega
        obtain ⟨ao, n, hve, hn1, hn2, hrow⟩ := Rws.done ElP.sub ElP.ex HW.out (by unfold maxLen; omega)
        have HV : Hid (VL ProsAt w.heap.size wr u5 xs) := ⟨ao, n, hve, hn1, hn2, hxl, hrow⟩
        clear hve hrow
        go_wp2_with (fail)
        go_ret
        exact ⟨HGr.out, by rw [HX.out]; exact ⟨_, rfl, HV.out, HR.out⟩⟩
set_option maxRecDepth 100000 in
set_option maxHeartbeats 4000000 in
theorem listTabs_any (W0 w : World) (rb : Nat) (l : List Nat) (h : Rd W0 w rb l) (hG : ∀ w1 r, Rd W0 w1 rb r → Calls Tryd.prog 59 #[.pointer (some ⟨rb, 0, none⟩)] w1 (PQ W0 rb w1 (VT w1.heap.size) (dTbl r))) :
    Calls Tryd.prog 58 #[.pointer (some ⟨rb, 0, none⟩), .func (.func 59) #[.pointer (some ⟨rb, 0, none⟩)] #[]] w (PQ W0 rb w (VL TbsAt w.heap.size) (dList dTbl l)) := by
  have HG : Hid (∀ w1 r, Rd W0 w1 rb r → Calls Tryd.prog 59 #[.pointer (some ⟨rb, 0, none⟩)] w1 (PQ W0 rb w1 (VT w1.heap.size) (dTbl r))) := hG
  have HN : Hid (Calls Tryd.prog 75 #[.pointer (some ⟨rb, 0, none⟩)] w (PQ W0 rb w (fun (_ : World) (v : Value) (k : Nat) => v = .int .i64 (k : Int) ∧ k ≤ 9223372036854775807) (dSize l))) := size_any W0 w rb l h
  have hrb := h.lt
  have hW0 : W0.heap.size ≤ rb := h.2.1
  have HL : Hid (l.length ≤ 1048576) := h.2.2.1
  unfold dList
  cases hd : dSize l with
  | none =>
    rw [hd] at HN
    clear hd h hG
    go_enter Tryd.func58, Tryd.ntmps58
    go_wp2_with (first | (go_at_call 75; go_loud (refine Calls.mono HN.out ?_; rintro e w1 ⟨g1, hp⟩; obtain rfl := hp; have G1 : Hid _ := g1; clear g1)))
    exact ⟨rfl, G1.out, rfl⟩
  | some y =>
    obtain ⟨k, r0⟩ := y
    rw [hd] at HN
    have HL0 : Hid (r0.length ≤ 1048576) := by have := dSize_lt hd; have := HL.out; show _ ≤ _; omega
    simp only [Option.bind_some]
    clear hd h hG HL
    go_enter Tryd.func58, Tryd.ntmps58
    go_wp2_with (first | (go_at_call 75; go_loud (refine Calls.mono HN.out ?_; rintro e w1 ⟨g1, v1, rfl, ⟨hv1, hk1⟩, R1⟩; obtain rfl := hv1; have G1 : Hid (w.grownBy w1 (some rb)) := g1; have RR1 : Hid (Rd W0 w1 rb r0) := R1; clear g1 R1)))
    go_loopw [5, 8] (fun row i w' => ∃ (j : Nat) (xs : List Tbl) (r : List Nat), i = .int .i64 (j : Int) ∧ j ≤ k ∧ Hid (dRep dTbl k r0 = (dRep dTbl (k - j) r).map (fun y => (xs ++ y.1, y.2)) ∧ xs.length = j ∧ j + r.length ≤ 1048576) ∧ Hid (Rd W0 w' rb r) ∧ Hid (Rws w.heap.size 50 3 ElT w' row xs) ∧ Hid (w.grownBy w' (some rb))) (fun row i _ => k - (intOf i).toNat)
    case atStart => exact ⟨0, [], r0, rfl, Nat.zero_le _, ⟨by simp, rfl, by have := HL0.out; omega⟩, RR1, Rws.nil _ _ _ _ _, G1⟩
    case round =>
      obtain ⟨j, xs, r, rfl, hj, HD, HR, HW, HGr⟩ := hrel
      by_cases hlt : j < k
      · have HC : Hid (Calls Tryd.prog 59 #[.pointer (some ⟨rb, 0, none⟩)] wr (PQ W0 rb wr (VT wr.heap.size) (dTbl r))) := HG.out wr r HR.out
        cases hone : dTbl r with
        | none =>
          rw [hone] at HC
          have HX : Hid (dRep dTbl k r0 = none) := by
            show _ = _
            rw [HD.out.1, show k - j = (k - j - 1) + 1 by omega, dRep, hone]
            rfl
          clear hone
          go_wp2_with (first | (go_at_call 59; go_loud (refine Calls.mono HC.out ?_; rintro e w2 ⟨g2, hp⟩; obtain rfl := hp)))
          exact ⟨rfl, gb_trans HGr.out g2, by rw [HX.out]⟩
        | some p =>
          obtain ⟨x, q⟩ := p
          rw [hone] at HC
          have HD2 : Hid (dRep dTbl k r0 = (dRep dTbl (k - (j + 1)) q).map (fun y => ((xs ++ [x]) ++ y.1, y.2)) ∧ (xs ++ [x]).length = j + 1 ∧ (j + 1) + q.length ≤ 1048576) := by
            obtain ⟨d1, d2, d3⟩ := HD.out
            have d4 := dTbl_lt hone
            refine ⟨?_, by simp [d2], by omega⟩
            rw [d1, show k - j = (k - (j + 1)) + 1 by omega, dRep, hone]
            simp only [Option.bind_some]
            cases dRep dTbl (k - (j + 1)) q <;> simp
          have hjn : j + 1 ≤ 1048576 := by have := HD2.out.2.2; omega
          have hxl : xs.length = j := HD.out.2.1
          clear hone HD
          obtain ⟨cs, hown, hel⟩ := HW.out
          have HOWN : Hid _ := hown
          have HEL : Hid _ := hel
          have hws : w.heap.size ≤ wr.heap.size := HGr.out.size
          clear hown hel
          go_wp2_with (first
            | (go_at_call 59; go_loud (refine Calls.mono HC.out ?_; rintro e w2 ⟨g2, v2, rfl, hv2, R2⟩; obtain ⟨oa, ol, oc, rfl, hv3⟩ := hv2; have G2 : Hid (wr.grownBy w2 (some rb)) := g2; have RR2 : Hid (Rd W0 w2 rb q) := R2; have EX : Hid (ElT (hidP (bel wr.heap.size) w2) (fun j => ([.slice oa ol oc, .bool x.ret, .bool x.fin] : List Value)[j]?) x) := ⟨oa, ol, oc, ⟨rfl, rfl, rfl⟩, hv3⟩; clear g2 R2))
            | (at_builtin; go_loud (obtain ⟨i0, hi, hz0, hz1, hz2⟩ := info_parts Tryd.infk50; refine wpList_gen rfl (.tmp 10) (.tmp 13) 25 50 i0 (.agg #[.slice none 0 0, .bool false, .bool false]) 3 32 rfl Tryd.underlying25 hi hz0 hz1 hz2 rfl (by decide) (by decide) w.heap.size _ xs.length cs ⟨w2.heap.size, 0, none⟩ 1 [.slice oa ol oc, .bool x.ret, .bool x.fin] rfl rfl (World.ownsRow.alloc (own_gb HOWN.out G2.out (fun k hk => by cases hk; exact hrb)) _) rfl ?nw (by intro u hu; simp only [List.mem_cons, List.not_mem_nil, or_false] at hu; rcases hu with rfl | rfl | rfl <;> rfl) (by omega) (by have := G2.out.size; simp; omega) ?_; (case nw => intro j u hu; rw [Addr.add_mid, Nat.zero_add]; exact (cell_new w2 _ _ _).trans (by simpa using hu)); intro v3 w3 o3 g3; have O3 : Hid _ := o3; have G3 : Hid _ := g3; clear o3 g3 hi hz0 hz1 hz2)))
          have hgs := fun k hk => World.ownsRow.lt HOWN.out k hk
          have GA : Hid (w2.grownBy (w2.alloc (.cells #[.slice oa ol oc, .bool x.ret, .bool x.fin] 50)) (some rb)) := gb_bw (BW.alloc (BW.refl _) _)
          have HELA : Hid (∀ i y, xs[i]? = some y → ElT (hidP (hpB w.heap.size u5) (w2.alloc (.cells #[.slice oa ol oc, .bool x.ret, .bool x.fin] 50))) (fun j => cs[i * 3 + j]?) y) := fun i y hy => by
            refine ElT.sub _ _ _ _ (hidP_sub ?_ (fun b hb hp => ⟨hp, ?_⟩)) (HEL.out i y hy)
            · have := G2.out.size; simp; omega
            · have hb2 : b < w2.heap.size := by have := G2.out.size; omega
              have := (hpB_no.1 hp).1
              exact (GA.out.block b hb2 (fun e => by cases e; omega)).trans (G2.out.block b hb (fun e => by cases e; omega))
          have EXA : ElT (hidP (bel wr.heap.size) (w2.alloc (.cells #[.slice oa ol oc, .bool x.ret, .bool x.fin] 50))) (fun j => ([.slice oa ol oc, .bool x.ret, .bool x.fin] : List Value)[j]?) x :=
            ElT.sub _ _ _ _ (bel_gb GA.out (by omega)) EX.out
          have HWN : Hid (Rws w.heap.size 50 3 ElT w3 v3 (xs ++ [x])) := Rws.app ElT.sub ElT.ex (World.ownsRow.alloc (own_gb HOWN.out G2.out (fun k hk => by cases hk; exact hrb)) _) HELA.out rfl hws (fun k hk => (hgs k hk).2) EXA O3.out G3.out
          have HRN : Hid (Rd W0 w3 rb q) := Rd.gb (RR2.out.bw (BW.alloc (BW.refl _) _)) G3.out.1 (fun k hk => by have := (hgs k hk).1; omega)
          have HGN : Hid (w.grownBy w3 (some rb)) := gb_own (gb_trans (gb_trans HGr.out G2.out) GA.out) G3.out.1 (fun k hk => (hgs k hk).1)
          clear HELA EXA hgs
          go_roundw
          case rel => exact ⟨j + 1, xs ++ [x], q, by go_num, by omega, HD2, HRN, HWN, HGN⟩
          case measure => simp [intOf]; omega
      · obtain rfl : k = j := by omega
        have HX : Hid (dRep dTbl k r0 = some (xs, r)) := by
          show _ = _
          rw [HD.out.1, Nat.sub_self, dRep]
          simp
        have hxl : xs.length ≤ 1048576 := by have := HD.out.2; omega
        obtain ⟨ao, n, hve, hn1, hn2, hrow⟩ := Rws.done ElT.sub ElT.ex HW.out (by unfold maxLen; omega)
        have HV : Hid (VL TbsAt w.heap.size wr u5 xs) := ⟨ao, n, hve, hn1, hn2, hxl, hrow⟩
        clear hve hrow
        go_wp2_with (fail)
        go_ret
        exact ⟨HGr.out, by rw [HX.out]; exact ⟨_, rfl, HV.out, HR.out⟩⟩

end Go.Proofs.YtndhhmgbekcfoaaDoor
