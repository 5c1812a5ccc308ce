import Derived.Test.YtlacjiihbbgbeaaDoorN13
namespace Go.Proofs.YtlacjiihbbgbeaaDoor
open Go.RowKit
set_option linter.unusedVariables false
set_option linter.unusedSimpArgs false

theorem sco {w : World} {g o j : Nat} (u : Value) (h : ¬ j = g) : (w.setCell ⟨g, o, none⟩ u).heap[j]? = w.heap[j]? := heap_setCell_other w ⟨g, o, none⟩ j u (by show ¬ j = g; exact h)
theorem postcl1 {f rb B N mb : Nat} {ops : List (List UInt8)} {w w' : World} {n : Int} {s : List UInt8} {ns : List ByteArray} {l : List (Tr f)} {st : Ps} {v : Value} (h1 : NodeQ (fun b => w.heap.size ≤ b ∧ b < w'.heap.size) w' (f + 1) v ((⟨18, n, bsB s, ns, l⟩ : Nd (Tr f)) : Tr (f + 1))) (h2 : RdP rb B N st w') (h3 : TkIs w' mb (ops ++ [s])) (h4 : F2 rb mb w w') : PostCl f rb B N mb 1 ops w (.ok ((⟨18, n, bsB s, ns, l⟩ : Nd (Tr f)), st)) (.returned v) w' := by
  refine ⟨v, rfl, h1, h2, ?_, h4⟩
  have e : (Nd.s (K := Tr f) (⟨18, n, bsB s, ns, l⟩ : Nd (Tr f))).toList = s := by
    rw [ByteArray.toList_eq]; simp [bsB]
  rw [if_pos rfl, e]
  exact h3
set_option maxRecDepth 100000 in
set_option maxHeartbeats 4000000 in
theorem clause_on {f : Nat} (ihN : NodeC f) (rb B N mb d : Nat) (ops : List (List UInt8)) (hd : d + (f + 1) = 61) (hops : ops.length ≤ 100000) (st : Ps) (w : World) (h : RdP rb B N st w) (hG : Gv w) (hrb : 2 < rb) (hm : TkIs w mb ops) (hB : B ≤ mb) : Calls Tryd.prog 49 #[.pointer (some ⟨rb, 0, none⟩), .agg #[.string ⟨#[111, 110]⟩, .int .u8 18, .int .i64 2], .map (some mb), .int .i64 d] w (PostCl f rb B N mb 1 ops w (pClB f (pN f).1 1 ops st)) := by
  have hlt := h.lt
  have hBw := h.2.2.2.2.1
  have hlb : rb < B := h.2.2.2.1
  have HG : Hid (Gv w) := hG
  have hmb := hm.lt
  have hne : ¬ mb = rb := h.neMap hm
  have IN : Hid (NodeC f) := ihN
  have hmm : ∀ w : World, (Instr.makeMap 83 none).run Tryd.prog w = .ok (.map (some w.heap.size)) (w.alloc (.map #[] 0)) := fun w => by first | rfl | simp [Instr.makeMap]
  have hwd : IntKind.i64.wrap ((d : Int) + 1) = (d : Int) + 1 := i64w _ (by omega) (by omega)
  have e0 : pClB f (pN f).1 1 ops st = (match pName ops st with
    | .error e => .error e
    | .ok (s, st4) => pFinC f (pN f).1 1 s (pNms (2 - 0) [] st4)) := rfl
  rw [e0]
  have CM : Hid (∀ w', BW w w' → Calls Tryd.prog 40 #[.pointer (some ⟨rb, 0, none⟩), .map (some mb)] w' (PostM rb B N mb ops w' (pName ops st))) := fun w' hb => name_any rb B N mb ops st w' (h.bw hb) (hm.same (hb.block _ hmb)) hB hops
  clear e0 hm hG ihN h
  cases hq : pName ops st with
  | error er =>
    rw [hq] at CM
    show Calls Tryd.prog 49 _ w (fun e w' => e = .panicked (thrP N er) ∧ F2 rb mb w w')
    have CM2 : Hid (∀ w', BW w w' → Calls Tryd.prog 40 #[.pointer (some ⟨rb, 0, none⟩), .map (some mb)] w' (fun e w'' => e = .panicked (thrP N er) ∧ F2 rb mb w' w'')) := CM.out
    clear CM hq
    go_enter Tryd.func49, Tryd.ntmps49
    go_wp2_with (go_at_call 40; refine (CM2.out _ (by repeat (first | exact BW.refl _ | assumption | apply BW.alloc | apply BW.drewN | apply BW.drew | (refine BW.setCell ?_ (by first | omega | (simp; done) | (simp; omega)) _) | (refine BW.trans ?_ (by assumption))))).mono ?_; rintro e w3 ⟨rfl, f3⟩)
    exact ⟨rfl, rfl, F2.trans (BW.f2 (by repeat (first | exact BW.refl _ | assumption | apply BW.alloc | apply BW.drewN | apply BW.drew | (refine BW.setCell ?_ (by first | omega | (simp; done) | (simp; omega)) _) | (refine BW.trans ?_ (by assumption))))) f3⟩
  | ok p =>
    obtain ⟨s0, q0⟩ := p
    rw [hq] at CM
    have CM2 : Hid (∀ w', BW w w' → Calls Tryd.prog 40 #[.pointer (some ⟨rb, 0, none⟩), .map (some mb)] w' (fun e w'' => e = .returned (.string ⟨s0.toArray⟩) ∧ RdP rb B N q0 w'' ∧ TkIs w'' mb (ops ++ [s0]) ∧ s0.length ≤ 100000 ∧ F2 rb mb w' w'')) := CM.out
    clear CM hq
    dsimp only
    generalize hR : pFinC f (pN f).1 1 s0 (pNms (2 - 0) [] q0) = R
    have HR0 : Hid (pFinC f (pN f).1 1 s0 (pNms (2 - 0) [] q0) = R) := hR
    clear hR
    go_enter Tryd.func49, Tryd.ntmps49
    go_wp2_with (fail)
    refine (CM2.out _ (by repeat (first | exact BW.refl _ | assumption | apply BW.alloc | apply BW.drewN | apply BW.drew | (refine BW.setCell ?_ (by first | omega | (simp; done) | (simp; omega)) _) | (refine BW.trans ?_ (by assumption))))).mono ?_
    rintro e wn ⟨rfl, Rn, Tn, hsb, fn⟩
    obtain ⟨W0, hW0⟩ : ∃ W0, W0 = (((w.alloc (.cells #[.string ⟨#[111, 110]⟩, .int .u8 18, .int .i64 2] 92)).alloc (.cells #[.int .u8 0, .int .i64 0, .string ⟨#[]⟩, .slice none 0 0, .slice none 0 0] 26)).alloc (.cells #[.int .u8 18, .int .i64 0, .string ⟨#[]⟩, .slice none 0 0, .slice none 0 0] 26)) := ⟨_, rfl⟩
    rw [← hW0] at fn
    have hz0 : W0.heap.size = w.heap.size + 1 + 1 + 1 := by rw [hW0]; simp
    have HBW0 : Hid (BW w W0) := by show BW w W0; rw [hW0]; exact (by repeat (first | exact BW.refl _ | assumption | apply BW.alloc | apply BW.drewN | apply BW.drew | (refine BW.setCell ?_ (by first | omega | (simp; done) | (simp; omega)) _) | (refine BW.trans ?_ (by assumption))))
    have HGn0 : Hid (wn.heap[w.heap.size + 1 + 1]? = some (.cells #[.int .u8 18, .int .i64 0, .string ⟨#[]⟩, .slice none 0 0, .slice none 0 0] 26 (0, 0))) := by
      refine (fn.block _ (by omega) (by omega) (by omega)).trans ?_
      rw [hW0]
      have := heap_alloc_new ((w.alloc (.cells #[.string ⟨#[111, 110]⟩, .int .u8 18, .int .i64 2] 92)).alloc (.cells #[.int .u8 0, .int .i64 0, .string ⟨#[]⟩, .slice none 0 0, .slice none 0 0] 26)) (.cells #[.int .u8 18, .int .i64 0, .string ⟨#[]⟩, .slice none 0 0, .slice none 0 0] 26)
      simpa using this
    have HGr0 : Hid (wn.heap[w.heap.size + 1]? = some (.cells #[.int .u8 0, .int .i64 0, .string ⟨#[]⟩, .slice none 0 0, .slice none 0 0] 26 (0, 0))) := by
      refine (fn.block _ (by omega) (by omega) (by omega)).trans ?_
      rw [hW0]
      refine ((BW.alloc (BW.refl _) _).block _ (by simp)).trans ?_
      have := heap_alloc_new (w.alloc (.cells #[.string ⟨#[111, 110]⟩, .int .u8 18, .int .i64 2] 92)) (.cells #[.int .u8 0, .int .i64 0, .string ⟨#[]⟩, .slice none 0 0, .slice none 0 0] 26)
      simpa using this
    have HGa0 : Hid (wn.heap[w.heap.size]? = some (.cells #[.string ⟨#[111, 110]⟩, .int .u8 18, .int .i64 2] 92 (0, 0))) := by
      refine (fn.block _ (by omega) (by omega) (by omega)).trans ?_
      rw [hW0]
      refine ((BW.alloc (BW.alloc (BW.refl _) _) _).block _ (by simp)).trans ?_
      exact heap_alloc_new w _
    have Hn0 : Hid (F2 rb mb w wn) := F2.trans (HBW0.out.f2) fn
    have HRn : Hid (RdP rb B N q0 wn) := Rn
    have HTm : Hid (TkIs wn mb (ops ++ [s0])) := Tn
    have HSB : Hid (s0.length ≤ 100000) := hsb
    have hzn := fn.size
    have HGa1 : (wn.setCell ⟨w.heap.size + 1 + 1, 2, none⟩ (.string ⟨s0.toArray⟩)).heap[w.heap.size]? = some (.cells #[.string ⟨#[111, 110]⟩, .int .u8 18, .int .i64 2] 92 (0, 0)) := (sco _ (by omega)).trans HGa0.out
    have a3 : (wn.setCell ⟨w.heap.size + 1 + 1, 2, none⟩ (.string ⟨s0.toArray⟩)).cell? ⟨w.heap.size, 2, none⟩ = some (.int .i64 2) := by rw [Lib.cell_of_heap HGa1]; rfl
    have a2 : ∀ o, ((wn.setCell ⟨w.heap.size + 1 + 1, 2, none⟩ (.string ⟨s0.toArray⟩)).alloc o).cell? ⟨w.heap.size, 2, none⟩ = some (.int .i64 2) := fun o => (World.cell?_alloc_some _ _ _ (by rw [a3]; rfl)).trans a3
    have n0 : wn.cell? ⟨w.heap.size + 1 + 1, 0, none⟩ = some (.int .u8 18) := by rw [Lib.cell_of_heap HGn0.out]; rfl
    have n1 : wn.cell? ⟨w.heap.size + 1 + 1, 1, none⟩ = some (.int .i64 0) := by rw [Lib.cell_of_heap HGn0.out]; rfl
    have n2 : wn.cell? ⟨w.heap.size + 1 + 1, 2, none⟩ = some (.string ⟨#[]⟩) := by rw [Lib.cell_of_heap HGn0.out]; rfl
    have n3 : wn.cell? ⟨w.heap.size + 1 + 1, 3, none⟩ = some (.slice none 0 0) := by rw [Lib.cell_of_heap HGn0.out]; rfl
    have n4 : wn.cell? ⟨w.heap.size + 1 + 1, 4, none⟩ = some (.slice none 0 0) := by rw [Lib.cell_of_heap HGn0.out]; rfl
    have nz : ∀ o, wn.frozen? ⟨w.heap.size + 1 + 1, o, none⟩ = false := fun o => Lib.frozen_of_heap HGn0.out o
    clear Rn Tn fn HBW0 HGa0 CM2 hW0 HGa1 a3
    go_wp2_with (fail)
    obtain ⟨mo, hmo⟩ : ∃ mo, mo = wn.heap.size := ⟨_, rfl⟩
    have hmw : w.heap.size + 1 + 1 + 1 ≤ mo := by omega
    obtain ⟨W, hW⟩ : ∃ W, W = (wn.setCell ⟨w.heap.size + 1 + 1, 2, none⟩ (.string ⟨s0.toArray⟩)).alloc (.map #[] 0) := ⟨_, rfl⟩
    have hsz : (wn.setCell ⟨w.heap.size + 1 + 1, 2, none⟩ (.string ⟨s0.toArray⟩)).heap.size = mo := by rw [hmo]; simp [World.setCell]
    have hzW : mo < W.heap.size := by rw [hW]; simp [hsz]
    have HSC : BW (wn.setCell ⟨w.heap.size + 1 + 1, 2, none⟩ (.string ⟨s0.toArray⟩)) W := by rw [hW]; exact BW.alloc (BW.refl _) _
    have HF0 : Hid (F2 rb mb w W) := (Hn0.out.setC (g := w.heap.size + 1 + 1) (o := 2) (by omega) _).trans HSC.f2
    have HGn : Hid (W.heap[w.heap.size + 1 + 1]? = some (.cells #[.int .u8 18, .int .i64 0, .string ⟨s0.toArray⟩, .slice none 0 0, .slice none 0 0] 26 (0, 0))) := (HSC.block _ (by omega)).trans (heap_setCell_same wn (w.heap.size + 1 + 1) 2 _ 26 _ HGn0.out)
    have HGr : Hid (W.heap[w.heap.size + 1]? = some (.cells #[.int .u8 0, .int .i64 0, .string ⟨#[]⟩, .slice none 0 0, .slice none 0 0] 26 (0, 0))) := (HSC.block _ (by omega)).trans ((sco _ (by omega)).trans HGr0.out)
    have HTn : Hid (TkIs W mo []) := by
      show TkIs _ _ _
      have := TkIs.new (wn.setCell ⟨w.heap.size + 1 + 1, 2, none⟩ (.string ⟨s0.toArray⟩))
      rw [hW]; rw [hsz] at this; exact this
    have HRW : Hid (RdP rb B N q0 W) := HRn.out.up (fun j hj => (HSC.block j (by omega)).trans (sco _ (by omega))) (by omega)
    have HTm0 : Hid (TkIs W mb (ops ++ [s0])) := HTm.out.same ((HSC.block mb (by omega)).trans (sco _ (by omega)))
    rw [← hW, ← hmo]
    clear hW hsz HSC Hn0 HGn0 HGr0 HRn HTm a2 n0 n1 n2 n3 n4 nz hmo hzn hz0 hsb
    go_loopw [24] (fun i wr => ∃ (ns : List (List UInt8)) (q : Ps) (j : Nat) (v : Value), i = .int .i64 j ∧ j ≤ 2 ∧ ns.length = j ∧ mo < wr.heap.size ∧ Hid (RdP rb B N q wr) ∧ Hid (TkIs wr (mo) ns) ∧ Hid (wr.heap[w.heap.size + 1 + 1]? = some (.cells #[.int .u8 18, .int .i64 0, .string ⟨s0.toArray⟩, v, .slice none 0 0] 26 (0, 0))) ∧ Hid (wr.heap[w.heap.size + 1]? = some (.cells #[.int .u8 0, .int .i64 0, .string ⟨#[]⟩, .slice none 0 0, .slice none 0 0] 26 (0, 0))) ∧ Hid (wr.ownsRow (mo + 1) 9 1 v ns.length ((ns.map bsB).map Value.string)) ∧ Hid ((∀ s ∈ ns, s.length ≤ 100000) ∧ pFinC f (pN f).1 1 s0 (pNms (2 - j) ns q) = R) ∧ Hid (F2 rb mb w wr) ∧ Hid (TkIs wr mb (ops ++ [s0]))) (fun i _ => 2 - (intOf i).toNat)
    case atStart => exact ⟨[], q0, 0, .slice none 0 0, rfl, by omega, rfl, hzW, HRW, HTn, HGn, HGr, World.ownsRow_nil _ _ _ _, ⟨by simp, HR0.out⟩, HF0, HTm0⟩
    case round =>
      clear HR0 HRW HTn HGn HGr HTm0 HF0
      obtain ⟨ns, q, j, v, rfl, hj, hnl, hzr, HRq, HTn, HGn, HGr, HO, HQ, HF2, HTm⟩ := hrel
      have x3 : wr.cell? ⟨w.heap.size + 1 + 1, 3, none⟩ = some v := by rw [Lib.cell_of_heap HGn.out]; rfl
      have xz : ∀ o, wr.frozen? ⟨w.heap.size + 1 + 1, o, none⟩ = false := fun o => Lib.frozen_of_heap HGn.out o
      by_cases hjc : j < 2
      · obtain ⟨m, hm⟩ : ∃ m, 2 - j = m + 1 := ⟨2 - j - 1, by omega⟩
        have HQ2 : Hid (pFinC f (pN f).1 1 s0 (match pName ns q with
          | .error e => .error e
          | .ok (x, st1) => pNms m (ns ++ [x]) st1) = R) := by
          show _ = R
          rw [← HQ.out.2, hm]
          rfl
        have HS : Hid (∀ s ∈ ns, s.length ≤ 100000) := HQ.out.1
        have CNm : Hid (∀ w', BW wr w' → Calls Tryd.prog 40 #[.pointer (some ⟨rb, 0, none⟩), .map (some (mo))] w' (PostM rb B N (mo) ns w' (pName ns q))) := fun w' hb => name_any rb B N _ ns q w' (HRq.out.bw hb) (HTn.out.same (hb.block _ hzr)) (by omega) (by omega)
        clear HQ
        go_wp2_with (fail)
        cases hp : pName ns q with
        | error er =>
          rw [hp] at CNm HQ2
          obtain rfl : R = .error er := HQ2.out.symm
          clear hp HQ2
          refine wp_region_held_drew (S := fun _ => True) (by kernel_rfl) trivial (fun hHeld => ?_)
          refine wpAnyH_take (i := 0) (v := ?va0) rfl (by kernel_rfl) (by kernel_rfl) (by kernel_rfl) (fun _ _ _ h => h) (Or.inl ⟨by kernel_rfl, ?hya0⟩) (by trivial) ?resta0
          case hya0 => (intro w hSw; (try dsimp only at hSw); go_simp; first | done | with_reducible rfl)
          try simp only [Act.put, List.setIfInBounds_toArray, List.set_cons_zero, List.set_cons_succ]
          refine wpAnyH_take (i := 2) (v := ?va2) rfl (by kernel_rfl) (by kernel_rfl) (by kernel_rfl) (fun _ _ _ h => h) (Or.inl ⟨by kernel_rfl, ?hya2⟩) (by trivial) ?resta2
          case hya2 => (intro w hSw; (try dsimp only at hSw); go_simp; first | done | with_reducible rfl)
          try simp only [Act.put, List.setIfInBounds_toArray, List.set_cons_zero, List.set_cons_succ]
          refine wpAnyH_take (i := 3) (v := ?va3) rfl (by kernel_rfl) (by kernel_rfl) (by kernel_rfl) (fun _ _ _ h => h) (Or.inl ⟨by kernel_rfl, ?hya3⟩) (by trivial) ?resta3
          case hya3 => (intro w hSw; (try dsimp only at hSw); go_simp; first | done | with_reducible rfl)
          try simp only [Act.put, List.setIfInBounds_toArray, List.set_cons_zero, List.set_cons_succ]
          refine wpAnyH_ready (rs := [1, 4]) (by kernel_rfl) (by simp) ?_
          refine AllReadyH.cons rfl (fun K hK => ?_) (AllReadyH.cons rfl (fun K hK => ?_) AllReadyH.nil)
          · go_simp
            refine hK.out _ _ trivial (fun _ => ?_)
            clear hK K
            try simp only [Act.put, List.setIfInBounds_toArray, List.set_cons_zero, List.set_cons_succ]
            refine wpAnyH_ready (rs := [4]) (by kernel_rfl) (by simp) ?_
            refine AllReadyH.cons rfl (fun K hK => ?_) AllReadyH.nil
            go_simp
            refine (CNm.out _ (by repeat (first | exact BW.refl _ | assumption | apply BW.alloc | apply BW.drewN | apply BW.drew | (refine BW.setCell ?_ (by first | omega | (simp; done) | (simp; omega)) _) | (refine BW.trans ?_ (by assumption))))).mono ?_
            rintro e w3 ⟨rfl, f3⟩
            exact ⟨rfl, rfl, HF2.out.own ((BW.f2 (by repeat (first | exact BW.refl _ | assumption | apply BW.alloc | apply BW.drewN | apply BW.drew | (refine BW.setCell ?_ (by first | omega | (simp; done) | (simp; omega)) _) | (refine BW.trans ?_ (by assumption))))).trans f3) (by omega)⟩
          · clear hK
            go_simp
            refine (CNm.out _ (by repeat (first | exact BW.refl _ | assumption | apply BW.alloc | apply BW.drewN | apply BW.drew | (refine BW.setCell ?_ (by first | omega | (simp; done) | (simp; omega)) _) | (refine BW.trans ?_ (by assumption))))).mono ?_
            rintro e w3 ⟨rfl, f3⟩
            exact ⟨rfl, rfl, HF2.out.own ((BW.f2 (by repeat (first | exact BW.refl _ | assumption | apply BW.alloc | apply BW.drewN | apply BW.drew | (refine BW.setCell ?_ (by first | omega | (simp; done) | (simp; omega)) _) | (refine BW.trans ?_ (by assumption))))).trans f3) (by omega)⟩
        | ok p =>
          obtain ⟨s, q2⟩ := p
          rw [hp] at CNm HQ2
          clear hp
          refine wp_region_held_drew (S := fun _ => True) (by kernel_rfl) trivial (fun hHeld => ?_)
          refine wpAnyH_take (i := 0) (v := ?vb0) rfl (by kernel_rfl) (by kernel_rfl) (by kernel_rfl) (fun _ _ _ h => h) (Or.inl ⟨by kernel_rfl, ?hyb0⟩) (by trivial) ?restb0
          case hyb0 => (intro w hSw; (try dsimp only at hSw); go_simp; first | done | with_reducible rfl)
          try simp only [Act.put, List.setIfInBounds_toArray, List.set_cons_zero, List.set_cons_succ]
          refine wpAnyH_take (i := 2) (v := ?vb2) rfl (by kernel_rfl) (by kernel_rfl) (by kernel_rfl) (fun _ _ _ h => h) (Or.inl ⟨by kernel_rfl, ?hyb2⟩) (by trivial) ?restb2
          case hyb2 => (intro w hSw; (try dsimp only at hSw); go_simp; first | done | with_reducible rfl)
          try simp only [Act.put, List.setIfInBounds_toArray, List.set_cons_zero, List.set_cons_succ]
          refine wpAnyH_take (i := 3) (v := ?vb3) rfl (by kernel_rfl) (by kernel_rfl) (by kernel_rfl) (fun _ _ _ h => h) (Or.inl ⟨by kernel_rfl, ?hyb3⟩) (by trivial) ?restb3
          case hyb3 => (intro w hSw; (try dsimp only at hSw); go_simp; first | done | with_reducible rfl)
          try simp only [Act.put, List.setIfInBounds_toArray, List.set_cons_zero, List.set_cons_succ]
          refine wpAnyH_ready (rs := [1, 4]) (by kernel_rfl) (by simp) ?_
          refine AllReadyH.cons rfl (fun K hK => ?_) (AllReadyH.cons rfl (fun K hK => ?_) AllReadyH.nil)
          · go_simp
            refine hK.out _ _ trivial (fun _ => ?_)
            clear hK K
            try simp only [Act.put, List.setIfInBounds_toArray, List.set_cons_zero, List.set_cons_succ]
            refine wpAnyH_ready (rs := [4]) (by kernel_rfl) (by simp) ?_
            refine AllReadyH.cons rfl (fun K hK => ?_) AllReadyH.nil
            go_simp
            refine (CNm.out _ (by repeat (first | exact BW.refl _ | assumption | apply BW.alloc | apply BW.drewN | apply BW.drew | (refine BW.setCell ?_ (by first | omega | (simp; done) | (simp; omega)) _) | (refine BW.trans ?_ (by assumption))))).mono ?_
            rintro e w3 ⟨rfl, R3, T3, hs3, f3⟩
            dsimp only
            refine hK.out _ _ trivial (fun _ => ?_)
            clear hK K
            try simp only [Act.put, List.setIfInBounds_toArray, List.set_cons_zero, List.set_cons_succ]
            have bD : BW wr wr.drew := (by repeat (first | exact BW.refl _ | assumption | apply BW.alloc | apply BW.drewN | apply BW.drew | (refine BW.setCell ?_ (by first | omega | (simp; done) | (simp; omega)) _) | (refine BW.trans ?_ (by assumption))))
            have hz3 := f3.size
            simp at hz3
            have hB3 := R3.2.2.2.2.1
            have HGn3 : Hid (w3.heap[w.heap.size + 1 + 1]? = some (.cells #[.int .u8 18, .int .i64 0, .string ⟨s0.toArray⟩, v, .slice none 0 0] 26 (0, 0))) := (f3.block _ (by simp; omega) (by omega) (by omega)).trans HGn.out
            have HGr3 : Hid (w3.heap[w.heap.size + 1]? = some (.cells #[.int .u8 0, .int .i64 0, .string ⟨#[]⟩, .slice none 0 0, .slice none 0 0] 26 (0, 0))) := (f3.block _ (by simp; omega) (by omega) (by omega)).trans HGr.out
            have HO3 : w3.ownsRow (mo + 1) 9 1 v ns.length ((ns.map bsB).map Value.string) := own_f2 (own_bw HO.out bD) (HRq.out.bw bD) (HTn.out.same rfl) f3 (by decide)
            have HO3' : Hid (w3.ownsRow (mo + 1) 9 1 v (ns.map bsB).length ((ns.map bsB).map Value.string)) := by show World.ownsRow _ _ _ _ _ _ _; simpa using HO3
            have HT3 : Hid (TkIs w3 (mo) (ns ++ [s])) := T3
            have HR3 : Hid (RdP rb B N q2 w3) := R3
            have HF3 : Hid (F2 rb mb w w3) := HF2.out.own ((BW.f2 bD).trans f3) (by omega)
            have HTm3 : Hid (TkIs w3 mb (ops ++ [s0])) := HTm.out.same (f3.block mb (by simp; omega) hne (by omega))
            have y3 : w3.cell? ⟨w.heap.size + 1 + 1, 3, none⟩ = some v := by rw [Lib.cell_of_heap HGn3.out]; rfl
            have y3' : ∀ o, (w3.alloc o).cell? ⟨w.heap.size + 1 + 1, 3, none⟩ = some v := fun o => (World.cell?_alloc_some _ _ _ (by rw [y3]; rfl)).trans y3
            have HHS : Hid (∀ x ∈ ns ++ [s], x.length ≤ 100000) := fun x hx => by
              rcases List.mem_append.1 hx with h | h
              · exact HS.out x h
              · simp at h; subst h; exact hs3
            have hls : (⟨s.toArray⟩ : ByteArray).size ≤ maxLen := by unfold maxLen; show s.toArray.size ≤ _; simp; omega
            clear R3 T3 f3 HO3 HO HTn HGn HGr HRq HF2 HTm CNm HS bD x3 xz
            refine wpAnyH_ready (rs := [5]) (by kernel_rfl) (by simp) ?_
            refine AllReadyH.cons rfl (fun K hK => ?_) AllReadyH.nil
            go_simp
            refine hK.out _ _ trivial (fun _ => ?_)
            clear hK K
            try simp only [Act.put, List.setIfInBounds_toArray, List.set_cons_zero, List.set_cons_succ]
            obtain ⟨v', w4, hrun, hown4, hgrow4⟩ := append_strs 23 (mo + 1) v (ns.map bsB) [⟨s.toArray⟩] (some ⟨w3.heap.size, 0, none⟩) 1 1 (w3.alloc (.cells #[.string ⟨s.toArray⟩] 9)) (own_bw HO3'.out (BW.alloc (BW.refl _) _)) (strs_one w3 _ hls) (by simp; omega) (by simp; omega)
            have hgb : ∀ k, k < mo + 1 → w4.heap[k]? = w3.heap[k]? := fun k hk => (hgrow4.block k (by simp; omega) (fun e => by have := own_ge HO3'.out k e.symm; omega)).trans ((BW.alloc (BW.refl w3) _).block k (by omega))
            have hz4 := hgrow4.size
            simp at hz4
            have HGn4 : Hid (w4.heap[w.heap.size + 1 + 1]? = some (.cells #[.int .u8 18, .int .i64 0, .string ⟨s0.toArray⟩, v, .slice none 0 0] 26 (0, 0))) := (hgb _ (by omega)).trans HGn3.out
            have k3 : w4.cell? ⟨w.heap.size + 1 + 1, 3, none⟩ = some v := by rw [Lib.cell_of_heap HGn4.out]; rfl
            have kz : ∀ o, w4.frozen? ⟨w.heap.size + 1 + 1, o, none⟩ = false := fun o => Lib.frozen_of_heap HGn4.out o
            have HF4 : Hid (F2 rb mb w w4) := HF3.out.hi hgb (by omega) hgrow4.os hgrow4.tape hgrow4.output (by omega)
            obtain ⟨vo, vl, vc, hve⟩ : ∃ a b c, v' = .slice a b c := by
              rcases hown4.2 with ⟨e, _⟩ | ⟨g, cap, cur, e, _⟩
              · exact ⟨_, _, _, e⟩
              · exact ⟨_, _, _, e⟩
            subst hve
            have HO4 : Hid (w4.ownsRow (mo + 1) 9 1 (.slice vo vl vc) (ns ++ [s]).length (((ns ++ [s]).map bsB).map Value.string)) := by show World.ownsRow _ _ _ _ _ _ _; rw [show (ns ++ [s]).map bsB = ns.map bsB ++ [⟨s.toArray⟩] by rw [List.map_append]; rfl, show (ns ++ [s]).length = (ns.map bsB ++ [(⟨s.toArray⟩ : ByteArray)]).length by simp]; exact hown4
            clear hown4
            refine wpAnyH_ready (rs := [6]) (by kernel_rfl) (by simp) ?_
            refine AllReadyH.cons rfl (fun K hK => ?_) AllReadyH.nil
            refine if_w (by kernel_rfl) ?_
            refine wp_append_strs _ _ rfl rfl rfl hrun ?_
            refine hK.out _ _ trivial (fun _ => ?_)
            clear hK K hrun
            try simp only [Act.put, List.setIfInBounds_toArray, List.set_cons_zero, List.set_cons_succ]
            refine wpAnyH_take (i := 7) (v := ?vc7) rfl (by kernel_rfl) (by kernel_rfl) (by kernel_rfl) (fun _ _ _ h => h) (Or.inl ⟨by kernel_rfl, ?hyc7⟩) (by trivial) ?restc7
            case hyc7 => (intro w hSw; (try dsimp only at hSw); go_simp; first | done | with_reducible rfl)
            try simp only [Act.put, List.setIfInBounds_toArray, List.set_cons_zero, List.set_cons_succ]
            refine wpAnyH_ready (rs := [8]) (by kernel_rfl) (by simp) ?_
            refine AllReadyH.cons rfl (fun K hK => ?_) AllReadyH.nil
            go_simp
            refine hK.out _ _ trivial (fun _ => ?_)
            clear hK K
            try simp only [Act.put, List.setIfInBounds_toArray, List.set_cons_zero, List.set_cons_succ]
            refine wpAnyH_done (by kernel_rfl) ?_ _
            go_wp2_with (fail)
            go_roundw
            case measure => simp [intOf]; omega
            case rel =>
              have hset : ∀ k, ¬ k = w.heap.size + 1 + 1 → k < mo + 1 → (w4.setCell ⟨w.heap.size + 1 + 1, 3, none⟩ (.slice vo vl vc)).heap[k]? = w3.heap[k]? := fun k h1 h2 => (heap_setCell_other _ ⟨w.heap.size + 1 + 1, 3, none⟩ k _ h1).trans (hgb k h2)
              exact ⟨ns ++ [s], q2, j + 1, .slice vo vl vc, by go_num, by omega, by simp; omega, by simp [World.setCell]; omega, HR3.out.up (fun k hk => hset k (by omega) (by omega)) (by simp [World.setCell]; omega), HT3.out.same (hset _ (by omega) (by omega)), heap_setCell_same w4 (w.heap.size + 1 + 1) 3 _ 26 _ HGn4.out, (hset _ (by omega) (by omega)).trans HGr3.out, own_cset HO4.out (by omega), ⟨HHS.out, by rw [show 2 - (j + 1) = m by omega]; exact HQ2.out⟩, HF4.out.setC (by omega) _, HTm3.out.same (hset _ (by omega) (by omega))⟩
          · go_simp
            refine (CNm.out _ (by repeat (first | exact BW.refl _ | assumption | apply BW.alloc | apply BW.drewN | apply BW.drew | (refine BW.setCell ?_ (by first | omega | (simp; done) | (simp; omega)) _) | (refine BW.trans ?_ (by assumption))))).mono ?_
            rintro e w3 ⟨rfl, R3, T3, hs3, f3⟩
            dsimp only
            refine hK.out _ _ trivial (fun _ => ?_)
            clear hK K
            try simp only [Act.put, List.setIfInBounds_toArray, List.set_cons_zero, List.set_cons_succ]
            have bD : BW wr wr.drew := (by repeat (first | exact BW.refl _ | assumption | apply BW.alloc | apply BW.drewN | apply BW.drew | (refine BW.setCell ?_ (by first | omega | (simp; done) | (simp; omega)) _) | (refine BW.trans ?_ (by assumption))))
            have hz3 := f3.size
            simp at hz3
            have hB3 := R3.2.2.2.2.1
            have HGn3 : Hid (w3.heap[w.heap.size + 1 + 1]? = some (.cells #[.int .u8 18, .int .i64 0, .string ⟨s0.toArray⟩, v, .slice none 0 0] 26 (0, 0))) := (f3.block _ (by simp; omega) (by omega) (by omega)).trans HGn.out
            have HGr3 : Hid (w3.heap[w.heap.size + 1]? = some (.cells #[.int .u8 0, .int .i64 0, .string ⟨#[]⟩, .slice none 0 0, .slice none 0 0] 26 (0, 0))) := (f3.block _ (by simp; omega) (by omega) (by omega)).trans HGr.out
            have HO3 : w3.ownsRow (mo + 1) 9 1 v ns.length ((ns.map bsB).map Value.string) := own_f2 (own_bw HO.out bD) (HRq.out.bw bD) (HTn.out.same rfl) f3 (by decide)
            have HO3' : Hid (w3.ownsRow (mo + 1) 9 1 v (ns.map bsB).length ((ns.map bsB).map Value.string)) := by show World.ownsRow _ _ _ _ _ _ _; simpa using HO3
            have HT3 : Hid (TkIs w3 (mo) (ns ++ [s])) := T3
            have HR3 : Hid (RdP rb B N q2 w3) := R3
            have HF3 : Hid (F2 rb mb w w3) := HF2.out.own ((BW.f2 bD).trans f3) (by omega)
            have HTm3 : Hid (TkIs w3 mb (ops ++ [s0])) := HTm.out.same (f3.block mb (by simp; omega) hne (by omega))
            have y3 : w3.cell? ⟨w.heap.size + 1 + 1, 3, none⟩ = some v := by rw [Lib.cell_of_heap HGn3.out]; rfl
            have y3' : ∀ o, (w3.alloc o).cell? ⟨w.heap.size + 1 + 1, 3, none⟩ = some v := fun o => (World.cell?_alloc_some _ _ _ (by rw [y3]; rfl)).trans y3
            have HHS : Hid (∀ x ∈ ns ++ [s], x.length ≤ 100000) := fun x hx => by
              rcases List.mem_append.1 hx with h | h
              · exact HS.out x h
              · simp at h; subst h; exact hs3
            have hls : (⟨s.toArray⟩ : ByteArray).size ≤ maxLen := by unfold maxLen; show s.toArray.size ≤ _; simp; omega
            clear R3 T3 f3 HO3 HO HTn HGn HGr HRq HF2 HTm CNm HS bD x3 xz
            refine wpAnyH_ready (rs := [1, 5]) (by kernel_rfl) (by simp) ?_
            refine AllReadyH.cons rfl (fun K hK => ?_) (AllReadyH.cons rfl (fun K hK => ?_) AllReadyH.nil)
            · go_simp
              refine hK.out _ _ trivial (fun _ => ?_)
              clear hK K
              try simp only [Act.put, List.setIfInBounds_toArray, List.set_cons_zero, List.set_cons_succ]
              refine wpAnyH_ready (rs := [5]) (by kernel_rfl) (by simp) ?_
              refine AllReadyH.cons rfl (fun K hK => ?_) AllReadyH.nil
              go_simp
              refine hK.out _ _ trivial (fun _ => ?_)
              clear hK K
              try simp only [Act.put, List.setIfInBounds_toArray, List.set_cons_zero, List.set_cons_succ]
              obtain ⟨v', w4, hrun, hown4, hgrow4⟩ := append_strs 23 (mo + 1) v (ns.map bsB) [⟨s.toArray⟩] (some ⟨w3.heap.size, 0, none⟩) 1 1 (w3.alloc (.cells #[.string ⟨s.toArray⟩] 9)) (own_bw HO3'.out (BW.alloc (BW.refl _) _)) (strs_one w3 _ hls) (by simp; omega) (by simp; omega)
              have hgb : ∀ k, k < mo + 1 → w4.heap[k]? = w3.heap[k]? := fun k hk => (hgrow4.block k (by simp; omega) (fun e => by have := own_ge HO3'.out k e.symm; omega)).trans ((BW.alloc (BW.refl w3) _).block k (by omega))
              have hz4 := hgrow4.size
              simp at hz4
              have HGn4 : Hid (w4.heap[w.heap.size + 1 + 1]? = some (.cells #[.int .u8 18, .int .i64 0, .string ⟨s0.toArray⟩, v, .slice none 0 0] 26 (0, 0))) := (hgb _ (by omega)).trans HGn3.out
              have k3 : w4.cell? ⟨w.heap.size + 1 + 1, 3, none⟩ = some v := by rw [Lib.cell_of_heap HGn4.out]; rfl
              have kz : ∀ o, w4.frozen? ⟨w.heap.size + 1 + 1, o, none⟩ = false := fun o => Lib.frozen_of_heap HGn4.out o
              have HF4 : Hid (F2 rb mb w w4) := HF3.out.hi hgb (by omega) hgrow4.os hgrow4.tape hgrow4.output (by omega)
              obtain ⟨vo, vl, vc, hve⟩ : ∃ a b c, v' = .slice a b c := by
                rcases hown4.2 with ⟨e, _⟩ | ⟨g, cap, cur, e, _⟩
                · exact ⟨_, _, _, e⟩
                · exact ⟨_, _, _, e⟩
              subst hve
              have HO4 : Hid (w4.ownsRow (mo + 1) 9 1 (.slice vo vl vc) (ns ++ [s]).length (((ns ++ [s]).map bsB).map Value.string)) := by show World.ownsRow _ _ _ _ _ _ _; rw [show (ns ++ [s]).map bsB = ns.map bsB ++ [⟨s.toArray⟩] by rw [List.map_append]; rfl, show (ns ++ [s]).length = (ns.map bsB ++ [(⟨s.toArray⟩ : ByteArray)]).length by simp]; exact hown4
              clear hown4
              refine wpAnyH_ready (rs := [6]) (by kernel_rfl) (by simp) ?_
              refine AllReadyH.cons rfl (fun K hK => ?_) AllReadyH.nil
              refine if_w (by kernel_rfl) ?_
              refine wp_append_strs _ _ rfl rfl rfl hrun ?_
              refine hK.out _ _ trivial (fun _ => ?_)
              clear hK K hrun
              try simp only [Act.put, List.setIfInBounds_toArray, List.set_cons_zero, List.set_cons_succ]
              refine wpAnyH_take (i := 7) (v := ?vd7) rfl (by kernel_rfl) (by kernel_rfl) (by kernel_rfl) (fun _ _ _ h => h) (Or.inl ⟨by kernel_rfl, ?hyd7⟩) (by trivial) ?restd7
              case hyd7 => (intro w hSw; (try dsimp only at hSw); go_simp; first | done | with_reducible rfl)
              try simp only [Act.put, List.setIfInBounds_toArray, List.set_cons_zero, List.set_cons_succ]
              refine wpAnyH_ready (rs := [8]) (by kernel_rfl) (by simp) ?_
              refine AllReadyH.cons rfl (fun K hK => ?_) AllReadyH.nil
              go_simp
              refine hK.out _ _ trivial (fun _ => ?_)
              clear hK K
              try simp only [Act.put, List.setIfInBounds_toArray, List.set_cons_zero, List.set_cons_succ]
              refine wpAnyH_done (by kernel_rfl) ?_ _
              go_wp2_with (fail)
              go_roundw
              case measure => simp [intOf]; omega
              case rel =>
                have hset : ∀ k, ¬ k = w.heap.size + 1 + 1 → k < mo + 1 → (w4.setCell ⟨w.heap.size + 1 + 1, 3, none⟩ (.slice vo vl vc)).heap[k]? = w3.heap[k]? := fun k h1 h2 => (heap_setCell_other _ ⟨w.heap.size + 1 + 1, 3, none⟩ k _ h1).trans (hgb k h2)
                exact ⟨ns ++ [s], q2, j + 1, .slice vo vl vc, by go_num, by omega, by simp; omega, by simp [World.setCell]; omega, HR3.out.up (fun k hk => hset k (by omega) (by omega)) (by simp [World.setCell]; omega), HT3.out.same (hset _ (by omega) (by omega)), heap_setCell_same w4 (w.heap.size + 1 + 1) 3 _ 26 _ HGn4.out, (hset _ (by omega) (by omega)).trans HGr3.out, own_cset HO4.out (by omega), ⟨HHS.out, by rw [show 2 - (j + 1) = m by omega]; exact HQ2.out⟩, HF4.out.setC (by omega) _, HTm3.out.same (hset _ (by omega) (by omega))⟩
            · go_simp
              refine hK.out _ _ trivial (fun _ => ?_)
              clear hK K
              try simp only [Act.put, List.setIfInBounds_toArray, List.set_cons_zero, List.set_cons_succ]
              refine wpAnyH_ready (rs := [1]) (by kernel_rfl) (by simp) ?_
              refine AllReadyH.cons rfl (fun K hK => ?_) AllReadyH.nil
              go_simp
              refine hK.out _ _ trivial (fun _ => ?_)
              clear hK K
              try simp only [Act.put, List.setIfInBounds_toArray, List.set_cons_zero, List.set_cons_succ]
              obtain ⟨v', w4, hrun, hown4, hgrow4⟩ := append_strs 23 (mo + 1) v (ns.map bsB) [⟨s.toArray⟩] (some ⟨w3.heap.size, 0, none⟩) 1 1 (w3.alloc (.cells #[.string ⟨s.toArray⟩] 9)) (own_bw HO3'.out (BW.alloc (BW.refl _) _)) (strs_one w3 _ hls) (by simp; omega) (by simp; omega)
              have hgb : ∀ k, k < mo + 1 → w4.heap[k]? = w3.heap[k]? := fun k hk => (hgrow4.block k (by simp; omega) (fun e => by have := own_ge HO3'.out k e.symm; omega)).trans ((BW.alloc (BW.refl w3) _).block k (by omega))
              have hz4 := hgrow4.size
              simp at hz4
              have HGn4 : Hid (w4.heap[w.heap.size + 1 + 1]? = some (.cells #[.int .u8 18, .int .i64 0, .string ⟨s0.toArray⟩, v, .slice none 0 0] 26 (0, 0))) := (hgb _ (by omega)).trans HGn3.out
              have k3 : w4.cell? ⟨w.heap.size + 1 + 1, 3, none⟩ = some v := by rw [Lib.cell_of_heap HGn4.out]; rfl
              have kz : ∀ o, w4.frozen? ⟨w.heap.size + 1 + 1, o, none⟩ = false := fun o => Lib.frozen_of_heap HGn4.out o
              have HF4 : Hid (F2 rb mb w w4) := HF3.out.hi hgb (by omega) hgrow4.os hgrow4.tape hgrow4.output (by omega)
              obtain ⟨vo, vl, vc, hve⟩ : ∃ a b c, v' = .slice a b c := by
                rcases hown4.2 with ⟨e, _⟩ | ⟨g, cap, cur, e, _⟩
                · exact ⟨_, _, _, e⟩
                · exact ⟨_, _, _, e⟩
              subst hve
              have HO4 : Hid (w4.ownsRow (mo + 1) 9 1 (.slice vo vl vc) (ns ++ [s]).length (((ns ++ [s]).map bsB).map Value.string)) := by show World.ownsRow _ _ _ _ _ _ _; rw [show (ns ++ [s]).map bsB = ns.map bsB ++ [⟨s.toArray⟩] by rw [List.map_append]; rfl, show (ns ++ [s]).length = (ns.map bsB ++ [(⟨s.toArray⟩ : ByteArray)]).length by simp]; exact hown4
              clear hown4
              refine wpAnyH_ready (rs := [6]) (by kernel_rfl) (by simp) ?_
              refine AllReadyH.cons rfl (fun K hK => ?_) AllReadyH.nil
              refine if_w (by kernel_rfl) ?_
              refine wp_append_strs _ _ rfl rfl rfl hrun ?_
              refine hK.out _ _ trivial (fun _ => ?_)
              clear hK K hrun
              try simp only [Act.put, List.setIfInBounds_toArray, List.set_cons_zero, List.set_cons_succ]
              refine wpAnyH_take (i := 7) (v := ?ve7) rfl (by kernel_rfl) (by kernel_rfl) (by kernel_rfl) (fun _ _ _ h => h) (Or.inl ⟨by kernel_rfl, ?hye7⟩) (by trivial) ?reste7
              case hye7 => (intro w hSw; (try dsimp only at hSw); go_simp; first | done | with_reducible rfl)
              try simp only [Act.put, List.setIfInBounds_toArray, List.set_cons_zero, List.set_cons_succ]
              refine wpAnyH_ready (rs := [8]) (by kernel_rfl) (by simp) ?_
              refine AllReadyH.cons rfl (fun K hK => ?_) AllReadyH.nil
              go_simp
              refine hK.out _ _ trivial (fun _ => ?_)
              clear hK K
              try simp only [Act.put, List.setIfInBounds_toArray, List.set_cons_zero, List.set_cons_succ]
              refine wpAnyH_done (by kernel_rfl) ?_ _
              go_wp2_with (fail)
              go_roundw
              case measure => simp [intOf]; omega
              case rel =>
                have hset : ∀ k, ¬ k = w.heap.size + 1 + 1 → k < mo + 1 → (w4.setCell ⟨w.heap.size + 1 + 1, 3, none⟩ (.slice vo vl vc)).heap[k]? = w3.heap[k]? := fun k h1 h2 => (heap_setCell_other _ ⟨w.heap.size + 1 + 1, 3, none⟩ k _ h1).trans (hgb k h2)
                exact ⟨ns ++ [s], q2, j + 1, .slice vo vl vc, by go_num, by omega, by simp; omega, by simp [World.setCell]; omega, HR3.out.up (fun k hk => hset k (by omega) (by omega)) (by simp [World.setCell]; omega), HT3.out.same (hset _ (by omega) (by omega)), heap_setCell_same w4 (w.heap.size + 1 + 1) 3 _ 26 _ HGn4.out, (hset _ (by omega) (by omega)).trans HGr3.out, own_cset HO4.out (by omega), ⟨HHS.out, by rw [show 2 - (j + 1) = m by omega]; exact HQ2.out⟩, HF4.out.setC (by omega) _, HTm3.out.same (hset _ (by omega) (by omega))⟩
      · obtain rfl : j = 2 := by omega
        obtain ⟨nao, ncp, hve, N1, N2, N3, N4⟩ := own_names HO.out HQ.out.1
        subst hve
        rw [hnl] at N1 N2 N4 HGn
        have HQ2 : Hid ((match pMany (pN f).1 1 q with
          | .error e => .error e
          | .ok (l, st6) => .ok ((⟨18, 0, bsB s0, ns.map bsB, l⟩ : Nd (Tr f)), st6) : Pr (Tr (f + 1))) = R) := by
          show _ = R
          rw [← HQ.out.2]
          rfl
        have HNs : Hid (StrsAt wr nao 2 (ns.map bsB) ∧ (2 = 0 ∨ ∃ b off, nao = some ⟨b, off, none⟩ ∧ mo + 1 ≤ b ∧ b < wr.heap.size)) := ⟨N1, N4⟩
        have HGv : Hid (Gv wr) := HG.out.f2 HF2.out hrb (by omega)
        have CN : Hid (∀ w0, BW wr w0 → Calls Tryd.prog 29 #[.pointer (some ⟨rb, 0, none⟩), .int .i64 1, .int .i64 ((d : Int) + 1)] w0 (PostP (fun w' v l => QRow w' w0.heap.size f v l) rb B N w0 (pMany (pN f).1 1 q))) := fun w0 hb0 => by
          have := nodes_of IN.out rb B N (d + 1) 1 (by omega) (by omega) q w0 (HRq.out.bw hb0) (HGv.out.bw hb0) hrb
          push_cast at this
          exact this
        have hB3 := HRq.out.2.2.2.2.1
        clear N1 N4 HQ HTn
        cases hp : pMany (pN f).1 1 q with
        | error er =>
          rw [hp] at CN HQ2
          obtain rfl : R = .error er := HQ2.out.symm
          clear hp HQ2
          have CW : Hid (∀ w0, BW wr w0 → Calls Tryd.prog 29 #[.pointer (some ⟨rb, 0, none⟩), .int .i64 1, .int .i64 ((d : Int) + 1)] w0 (fun e w' => e = .panicked (thrP N er) ∧ Fl rb w0 w')) := CN.out
          clear CN
          go_wp2_with (go_at_call 29; refine (CW.out _ (by repeat (first | exact BW.refl _ | assumption | apply BW.alloc | apply BW.drewN | apply BW.drew | (refine BW.setCell ?_ (by first | omega | (simp; done) | (simp; omega)) _) | (refine BW.trans ?_ (by assumption))))).mono ?_; rintro e w3 ⟨rfl, f3⟩)
          exact ⟨rfl, rfl, HF2.out.trans (f3.f2 mb)⟩
        | ok p =>
          obtain ⟨l, q3⟩ := p
          rw [hp] at CN HQ2
          obtain rfl : R = .ok ((⟨18, 0, bsB s0, ns.map bsB, l⟩ : Nd (Tr f)), q3) := HQ2.out.symm
          clear hp HQ2
          have CW : Hid (∀ w0, BW wr w0 → Calls Tryd.prog 29 #[.pointer (some ⟨rb, 0, none⟩), .int .i64 1, .int .i64 ((d : Int) + 1)] w0 (fun e w' => ∃ v, e = .returned v ∧ QRow w' w0.heap.size f v l ∧ RdP rb B N q3 w' ∧ Fl rb w0 w')) := CN.out
          clear CN
          go_wp2_with (fail)
          refine (CW.out _ (by repeat (first | exact BW.refl _ | assumption | apply BW.alloc | apply BW.drewN | apply BW.drew | (refine BW.setCell ?_ (by first | omega | (simp; done) | (simp; omega)) _) | (refine BW.trans ?_ (by assumption))))).mono ?_
          rintro e w3 ⟨v3, rfl, W3, R3, F3⟩
          obtain ⟨ao, cp, rfl, S3, q1, q2', q4⟩ := W3.seq
          have hz3 := F3.size
          have HGn3 : Hid (w3.heap[w.heap.size + 1 + 1]? = some (.cells #[.int .u8 18, .int .i64 0, .string ⟨s0.toArray⟩, .slice nao 2 ncp, .slice none 0 0] 26 (0, 0))) := (F3.block _ (by omega) (by omega)).trans HGn.out
          have HGr3 : Hid (w3.heap[w.heap.size + 1]? = some (.cells #[.int .u8 0, .int .i64 0, .string ⟨#[]⟩, .slice none 0 0, .slice none 0 0] 26 (0, 0))) := (F3.block _ (by omega) (by omega)).trans HGr.out
          have HS3 : StrsAt w3 nao 2 (ns.map bsB) := HNs.out.1.fl HRq.out F3
          have HN3 : Hid (NodeQ (fun b => mo + 1 ≤ b ∧ b < w3.heap.size) w3 (f + 1) (ndv 18 0 ⟨s0.toArray⟩ nao 2 ncp ao l.length cp) ((⟨18, 0, bsB s0, ns.map bsB, l⟩ : Nd (Tr f)) : Tr (f + 1))) := ⟨nao, 2, ncp, ao, l.length, cp, rfl, wf_ns 18 s0 ns l (by decide) (by decide) HSB.out, ⟨N2, N3, q1, q2'⟩, HS3, S3.imp (fun v x h => NodeQ.keep (fun b hb => ⟨by omega, hb.2⟩) (fun _ _ _ => rfl) (Nat.le_refl _) h), (by rcases HNs.out.2 with h | ⟨b, off, h1, h2, h3⟩; exact .inl h; exact .inr ⟨b, off, h1, h2, by omega⟩), (by rcases q4 with h | ⟨b, off, h1, h2, h3⟩; exact .inl h; exact .inr ⟨b, off, h1, by omega, h3⟩)⟩
          have HR3 : Hid (RdP rb B N q3 w3) := R3
          have HF3 : Hid (F2 rb mb w w3) := HF2.out.trans (F3.f2 mb)
          have HT3 : Hid (TkIs w3 mb (ops ++ [s0])) := HTm.out.same (F3.block mb (by omega) hne)
          clear W3 R3 F3 S3 q4 CW HGn HGr HS3 x3 xz
          have j0 : w3.cell? ⟨w.heap.size + 1 + 1, 0, none⟩ = some (.int .u8 18) := by rw [Lib.cell_of_heap HGn3.out]; rfl
          have j1 : w3.cell? ⟨w.heap.size + 1 + 1, 1, none⟩ = some (.int .i64 0) := by rw [Lib.cell_of_heap HGn3.out]; rfl
          have j2 : w3.cell? ⟨w.heap.size + 1 + 1, 2, none⟩ = some (.string ⟨s0.toArray⟩) := by rw [Lib.cell_of_heap HGn3.out]; rfl
          have j3 : w3.cell? ⟨w.heap.size + 1 + 1, 3, none⟩ = some (.slice nao 2 ncp) := by rw [Lib.cell_of_heap HGn3.out]; rfl
          have j4 : w3.cell? ⟨w.heap.size + 1 + 1, 4, none⟩ = some (.slice none 0 0) := by rw [Lib.cell_of_heap HGn3.out]; rfl
          have jz : ∀ o, w3.frozen? ⟨w.heap.size + 1 + 1, o, none⟩ = false := fun o => Lib.frozen_of_heap HGn3.out o
          have k0 : w3.cell? ⟨w.heap.size + 1, 0, none⟩ = some (.int .u8 0) := by rw [Lib.cell_of_heap HGr3.out]; rfl
          have k1 : w3.cell? ⟨w.heap.size + 1, 1, none⟩ = some (.int .i64 0) := by rw [Lib.cell_of_heap HGr3.out]; rfl
          have k2 : w3.cell? ⟨w.heap.size + 1, 2, none⟩ = some (.string ⟨#[]⟩) := by rw [Lib.cell_of_heap HGr3.out]; rfl
          have k3 : w3.cell? ⟨w.heap.size + 1, 3, none⟩ = some (.slice none 0 0) := by rw [Lib.cell_of_heap HGr3.out]; rfl
          have k4 : w3.cell? ⟨w.heap.size + 1, 4, none⟩ = some (.slice none 0 0) := by rw [Lib.cell_of_heap HGr3.out]; rfl
          have kz : ∀ o, w3.frozen? ⟨w.heap.size + 1, o, none⟩ = false := fun o => Lib.frozen_of_heap HGr3.out o
          go_wp2_with (fail)
          have HS4 : Hid ((w3.setCell ⟨w.heap.size + 1 + 1, 4, none⟩ (.slice ao l.length cp)).heap[w.heap.size + 1]? = some (.cells #[.int .u8 0, .int .i64 0, .string ⟨#[]⟩, .slice none 0 0, .slice none 0 0] 26 (0, 0))) := (heap_setCell_other _ ⟨w.heap.size + 1 + 1, 4, none⟩ (w.heap.size + 1) _ (by simp)).trans HGr3.out
          have HK : ∀ b, ¬ b = w.heap.size + 1 → ¬ b = w.heap.size + 1 + 1 → (((((((w3.setCell ⟨w.heap.size + 1 + 1, 4, none⟩ (.slice ao l.length cp)).setCell ⟨w.heap.size + 1, 0, none⟩ (.int .u8 18)).setCell ⟨w.heap.size + 1, 1, none⟩ (.int .i64 0)).setCell ⟨w.heap.size + 1, 2, none⟩ (.string ⟨s0.toArray⟩)).setCell ⟨w.heap.size + 1, 3, none⟩ (.slice nao 2 ncp)).setCell ⟨w.heap.size + 1, 4, none⟩ (.slice ao l.length cp))).heap[b]? = w3.heap[b]? := fun b h1 h2 => (set5o h1).trans (heap_setCell_other _ ⟨w.heap.size + 1 + 1, 4, none⟩ b _ h2)
          clear hwd hmm
          have G1 : RdP rb B N q3 (((((((w3.setCell ⟨w.heap.size + 1 + 1, 4, none⟩ (.slice ao l.length cp)).setCell ⟨w.heap.size + 1, 0, none⟩ (.int .u8 18)).setCell ⟨w.heap.size + 1, 1, none⟩ (.int .i64 0)).setCell ⟨w.heap.size + 1, 2, none⟩ (.string ⟨s0.toArray⟩)).setCell ⟨w.heap.size + 1, 3, none⟩ (.slice nao 2 ncp)).setCell ⟨w.heap.size + 1, 4, none⟩ (.slice ao l.length cp))) := HR3.out.up (fun j hj => HK j (by omega) (by omega)) (by simp [World.setCell]; omega)
          have G2 := HT3.out.same (HK mb (by omega) (by omega))
          have G3 := (HF3.out.setC (g := w.heap.size + 1 + 1) (o := 4) (by omega) (.slice ao l.length cp)).set5 (g := w.heap.size + 1) (a := .int .u8 18) (c := .int .i64 0) (d := .string ⟨s0.toArray⟩) (e := .slice nao 2 ncp) (f := .slice ao l.length cp) (by omega)
          have S5 := set5 (a := .int .u8 18) (c := .int .i64 0) (d := .string ⟨s0.toArray⟩) (e := .slice nao 2 ncp) (f := .slice ao l.length cp) HS4.out
          generalize hWf : (((((((w3.setCell ⟨w.heap.size + 1 + 1, 4, none⟩ (.slice ao l.length cp)).setCell ⟨w.heap.size + 1, 0, none⟩ (.int .u8 18)).setCell ⟨w.heap.size + 1, 1, none⟩ (.int .i64 0)).setCell ⟨w.heap.size + 1, 2, none⟩ (.string ⟨s0.toArray⟩)).setCell ⟨w.heap.size + 1, 3, none⟩ (.slice nao 2 ncp)).setCell ⟨w.heap.size + 1, 4, none⟩ (.slice ao l.length cp))) = wf at HK G1 G2 G3 S5 ⊢
          have hzf : wf.heap.size = w3.heap.size := by rw [← hWf]; simp [World.setCell]
          have G4 : NodeQ (fun b => w.heap.size ≤ b ∧ b < wf.heap.size) wf (f + 1) (ndv 18 0 ⟨s0.toArray⟩ nao 2 ncp ao l.length cp) ((⟨18, 0, bsB s0, ns.map bsB, l⟩ : Nd (Tr f)) : Tr (f + 1)) := NodeQ.keep (fun b hb => ⟨by omega, by omega⟩) (fun b hb hl => HK b (by omega) (by omega)) (by omega) HN3.out
          exact end_node Tryd.func49 8 rfl rfl S5 (postcl1 G4 G1 G2 G3)

end Go.Proofs.YtlacjiihbbgbeaaDoor
