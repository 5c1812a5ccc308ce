import Derived.Test.YtlacjiihbbgbeaaDoorN12
namespace Go.Proofs.YtlacjiihbbgbeaaDoor
open Go.RowKit
set_option linter.unusedVariables false
set_option linter.unusedSimpArgs false

theorem BW.f2 {rb mb : Nat} {w w' : World} (h : BW w w') : F2 rb mb w w' := (h.fl rb).f2 mb
theorem F2.own {rb mb mo : Nat} {W w w' : World} (h : F2 rb mb W w) (k : F2 rb mo w w') (hm : W.heap.size ≤ mo) : F2 rb mb W w' := ⟨k.os.trans h.os, k.tape.trans h.tape, k.output.trans h.output, Nat.le_trans h.size k.size, fun j hj h1 h2 => (k.block j (Nat.lt_of_lt_of_le hj h.size) h1 (by omega)).trans (h.block j hj h1 h2)⟩
theorem F2.hi {rb mb lo : Nat} {W w w' : World} (h : F2 rb mb W w) (k : ∀ j, j < lo → w'.heap[j]? = w.heap[j]?) (hl : W.heap.size ≤ lo) (ho : w'.os = w.os) (ht : w'.tape = w.tape) (hp : w'.output = w.output) (hz : w.heap.size ≤ w'.heap.size) : F2 rb mb W w' := ⟨ho.trans h.os, ht.trans h.tape, hp.trans h.output, Nat.le_trans h.size hz, fun j hj h1 h2 => (k j (by omega)).trans (h.block j hj h1 h2)⟩
theorem F2.setC {rb mb g o : Nat} {W w : World} (h : F2 rb mb W w) (hg : W.heap.size ≤ g) (u : Value) : F2 rb mb W (w.setCell ⟨g, o, none⟩ u) := ⟨h.os, h.tape, h.output, by simpa [World.setCell] using h.size, fun j hj h1 h2 => (heap_setCell_other w ⟨g, o, none⟩ j u (by show ¬ j = g; omega)).trans (h.block j hj h1 h2)⟩
theorem F2.set5 {rb mb g : Nat} {W w : World} {a c d e f : Value} (h : F2 rb mb W w) (hg : W.heap.size ≤ g) : F2 rb mb W (((((w.setCell ⟨g, 0, none⟩ a).setCell ⟨g, 1, none⟩ c).setCell ⟨g, 2, none⟩ d).setCell ⟨g, 3, none⟩ e).setCell ⟨g, 4, none⟩ f) := ((((h.setC hg a).setC hg c).setC hg d).setC hg e).setC hg f
theorem own_cset {w : World} {base e z n g o : Nat} {v u : Value} {xs : List Value} (h : w.ownsRow base e z v n xs) (hg : g < base) : (w.setCell ⟨g, o, none⟩ u).ownsRow base e z v n xs := by
  obtain ⟨h2, h3⟩ := h
  refine ⟨h2, ?_⟩
  rcases h3 with h3 | ⟨k, cap, cur, e', hk, hh, r⟩
  · exact .inl h3
  · exact .inr ⟨k, cap, cur, e', hk, (heap_setCell_other w ⟨g, o, none⟩ k u (by show ¬ k = g; omega)).trans hh, r⟩
theorem if_w {c : Bool} {A B : Prop} (h : c = true) (ha : A) : if c = true then A else B := by rw [if_pos h]; exact ha
theorem wp_append_strs {o : Oper} {a : Act} {w w' : World} {K : Act → World → Prop} {Q : Exit → Act → World → Prop} {v v' : Value} {na : Option Addr} {nl nc : Nat} (s x : Operand)
    (ho : o.op = .call { callee := .builtin .append, args := #[s, x], argTypes := #[23, 23] }) (hsv : a.eval s = v) (hxv : a.eval x = .slice na nl nc) (hrun : (Builtin.append_ #[23, 23] o.type #[v, .slice na nl nc]).run Tryd.prog w = .ok v' w') (h : K (a.put o.dst v') w') : Oper.wp Tryd.prog o a w K Q := by
  unfold Oper.wp execOp
  simp only [ho, resolve, invoke, builtin, Sem.run_bind, Sem.run_pure, Result.andThen_ok, List.map_toArray, List.map_cons, List.map_nil, hsv, hxv, hrun]
  exact h
theorem Gv.f2 {w w' : World} {rb mb : Nat} (h : Gv w) (k : F2 rb mb w w') (hr : 2 < rb) (hm : 2 < mb) : Gv w' := by
  obtain ⟨h1, h2, h3, h4⟩ := h
  have C : ∀ b o, b < w.heap.size → b ≤ 2 → w'.cell? ⟨b, o, none⟩ = w.cell? ⟨b, o, none⟩ := fun b o hb hn => cell_block (k.block b hb (by omega) (by omega)) o
  refine ⟨Nat.lt_of_lt_of_le h1 k.size, ⟨Nat.lt_of_lt_of_le h2.1 k.size, fun j x hx => (C 1 _ (by omega) (by omega)).trans (h2.2 j x hx)⟩, fun j x hx => (C 0 _ (by omega) (by omega)).trans (h3 j x hx), fun j x hx => (C 2 _ (by omega) (by omega)).trans (h4 j x hx)⟩
theorem wf_ns {K : Type} (k : Int) (s : List UInt8) (ns : List (List UInt8)) (l : List K) (h0 : 0 ≤ k) (h1 : k ≤ 255) (h4 : s.length ≤ 100000) : Wf (⟨k, 0, ⟨s.toArray⟩, ns.map bsB, l⟩ : Nd K) := ⟨h0, h1, by show (-9223372036854775808 : Int) ≤ 0; decide, by show (0 : Int) ≤ 9223372036854775807; decide, by show s.toArray.size ≤ maxLen; simp; unfold maxLen; omega⟩
theorem postcl0 {f rb B N mb : Nat} {ops : List (List UInt8)} {w w' : World} {x : Tr (f + 1)} {st : Ps} {v : Value} (h1 : NodeQ (fun b => w.heap.size ≤ b ∧ b < w'.heap.size) w' (f + 1) v x) (h2 : RdP rb B N st w') (h3 : TkIs w' mb ops) (h4 : F2 rb mb w w') : PostCl f rb B N mb 0 ops w (.ok (x, st)) (.returned v) w' := ⟨v, rfl, h1, h2, h3, h4⟩
/-- What stands behind a clause's names. -/
def pFinC (f : Nat) (node : Ps → Pr (Tr f)) (k : Nat) (s : List UInt8) (x : Pr (List (List UInt8))) : Pr (Tr (f + 1)) := match x with
  | .error e => .error e
  | .ok (ns, st5) => match pMany node 1 st5 with
    | .error e => .error e
    | .ok (l, st6) => .ok ((⟨17 + k, 0, bsB s, ns.map bsB, l⟩ : Nd (Tr f)), st6)
set_option maxRecDepth 100000 in
set_option maxHeartbeats 4000000 in
theorem clause_ret {f : Nat} (ihN : NodeC f) (rb B N mb d : Nat) (ops : List (List UInt8)) (hd : d + (f + 1) = 61) (st : Ps) (w : World) (h : RdP rb B N st w) (hG : Gv w) (hrb : 2 < rb) (hm : TkIs w mb ops) (hB : B ≤ mb) : Calls Tryd.prog 49 #[.pointer (some ⟨rb, 0, none⟩), .agg #[.string ⟨#[114, 101, 116, 117, 114, 110]⟩, .int .u8 17, .int .i64 1], .map (some mb), .int .i64 d] w (PostCl f rb B N mb 0 ops w (pClB f (pN f).1 0 ops st)) := by
  have hlt := h.lt
  have hBw := h.2.2.2.2.1
  have hlb : rb < B := h.2.2.2.1
  have HG : Hid (Gv w) := hG
  have hmb := hm.lt
  have hne : ¬ mb = rb := h.neMap hm
  have IN : Hid (NodeC f) := ihN
  have hmm : ∀ w : World, (Instr.makeMap 83 none).run Tryd.prog w = .ok (.map (some w.heap.size)) (w.alloc (.map #[] 0)) := fun w => by first | rfl | simp [Instr.makeMap]
  have hwd : IntKind.i64.wrap ((d : Int) + 1) = (d : Int) + 1 := i64w _ (by omega) (by omega)
  have e0 : pClB f (pN f).1 0 ops st = pFinC f (pN f).1 0 [] (pNms (1 - 0) [] st) := rfl
  rw [e0]
  generalize hR : pFinC f (pN f).1 0 [] (pNms (1 - 0) [] st) = R
  have HR0 : Hid (pFinC f (pN f).1 0 [] (pNms (1 - 0) [] st) = R) := hR
  have H0 : Hid (RdP rb B N st w ∧ TkIs w mb ops) := ⟨h, hm⟩
  clear hR e0 hm hG ihN h
  go_enter Tryd.func49, Tryd.ntmps49
  go_wp2_with (fail)
  obtain ⟨W, hW⟩ : ∃ W, W = (((w.alloc (.cells #[.string ⟨#[114, 101, 116, 117, 114, 110]⟩, .int .u8 17, .int .i64 1] 92)).alloc (.cells #[.int .u8 0, .int .i64 0, .string ⟨#[]⟩, .slice none 0 0, .slice none 0 0] 26)).alloc (.cells #[.int .u8 17, .int .i64 0, .string ⟨#[]⟩, .slice none 0 0, .slice none 0 0] 26)).alloc (.map #[] 0) := ⟨_, rfl⟩
  have HBW : Hid (BW w W) := by show BW w W; rw [hW]; exact (by repeat (first | exact BW.refl _ | assumption | apply BW.alloc | apply BW.drewN | apply BW.drew | (refine BW.setCell ?_ (by first | omega | (simp; done) | (simp; omega)) _) | (refine BW.trans ?_ (by assumption))))
  have hzW : w.heap.size + 1 + 1 + 1 < W.heap.size := by rw [hW]; simp
  have HGn : Hid (W.heap[w.heap.size + 1 + 1]? = some (.cells #[.int .u8 17, .int .i64 0, .string ⟨#[]⟩, .slice none 0 0, .slice none 0 0] 26 (0, 0))) := by
    show _ = _
    rw [hW]
    refine ((BW.alloc (BW.refl _) _).block _ (by simp)).trans ?_
    have := heap_alloc_new ((w.alloc (.cells #[.string ⟨#[114, 101, 116, 117, 114, 110]⟩, .int .u8 17, .int .i64 1] 92)).alloc (.cells #[.int .u8 0, .int .i64 0, .string ⟨#[]⟩, .slice none 0 0, .slice none 0 0] 26)) (.cells #[.int .u8 17, .int .i64 0, .string ⟨#[]⟩, .slice none 0 0, .slice none 0 0] 26)
    simpa using this
  have HGr : Hid (W.heap[w.heap.size + 1]? = some (.cells #[.int .u8 0, .int .i64 0, .string ⟨#[]⟩, .slice none 0 0, .slice none 0 0] 26 (0, 0))) := by
    show _ = _
    rw [hW]
    refine ((BW.alloc (BW.alloc (BW.refl _) _) _).block _ (by simp)).trans ?_
    have := heap_alloc_new (w.alloc (.cells #[.string ⟨#[114, 101, 116, 117, 114, 110]⟩, .int .u8 17, .int .i64 1] 92)) (.cells #[.int .u8 0, .int .i64 0, .string ⟨#[]⟩, .slice none 0 0, .slice none 0 0] 26)
    simpa using this
  have HTn : Hid (TkIs W (w.heap.size + 1 + 1 + 1) []) := by
    show TkIs _ _ _
    have := TkIs.new (((w.alloc (.cells #[.string ⟨#[114, 101, 116, 117, 114, 110]⟩, .int .u8 17, .int .i64 1] 92)).alloc (.cells #[.int .u8 0, .int .i64 0, .string ⟨#[]⟩, .slice none 0 0, .slice none 0 0] 26)).alloc (.cells #[.int .u8 17, .int .i64 0, .string ⟨#[]⟩, .slice none 0 0, .slice none 0 0] 26))
    rw [hW]; simpa using this
  rw [← hW]
  clear hW
  go_loopw [24] (fun i wr => ∃ (ns : List (List UInt8)) (q : Ps) (j : Nat) (v : Value), i = .int .i64 j ∧ j ≤ 1 ∧ ns.length = j ∧ w.heap.size + 1 + 1 + 1 < wr.heap.size ∧ Hid (RdP rb B N q wr) ∧ Hid (TkIs wr (w.heap.size + 1 + 1 + 1) ns) ∧ Hid (wr.heap[w.heap.size + 1 + 1]? = some (.cells #[.int .u8 17, .int .i64 0, .string ⟨#[]⟩, v, .slice none 0 0] 26 (0, 0))) ∧ Hid (wr.heap[w.heap.size + 1]? = some (.cells #[.int .u8 0, .int .i64 0, .string ⟨#[]⟩, .slice none 0 0, .slice none 0 0] 26 (0, 0))) ∧ Hid (wr.ownsRow (w.heap.size + 1 + 1 + 1 + 1) 9 1 v ns.length ((ns.map bsB).map Value.string)) ∧ Hid ((∀ s ∈ ns, s.length ≤ 100000) ∧ pFinC f (pN f).1 0 [] (pNms (1 - j) ns q) = R) ∧ Hid (F2 rb mb w wr) ∧ Hid (TkIs wr mb ops)) (fun i _ => 1 - (intOf i).toNat)
  case atStart => exact ⟨[], st, 0, .slice none 0 0, rfl, by omega, rfl, hzW, H0.out.1.bw HBW.out, HTn, HGn, HGr, World.ownsRow_nil _ _ _ _, ⟨by simp, HR0.out⟩, HBW.out.f2, H0.out.2.same (HBW.out.block mb hmb)⟩
  case round =>
    clear H0 HR0 HTn HGn HGr
    obtain ⟨ns, q, j, v, rfl, hj, hnl, hzr, HRq, HTn, HGn, HGr, HO, HQ, HF2, HTm⟩ := hrel
    have x3 : wr.cell? ⟨w.heap.size + 1 + 1, 3, none⟩ = some v := by rw [Lib.cell_of_heap HGn.out]; rfl
    have xz : ∀ o, wr.frozen? ⟨w.heap.size + 1 + 1, o, none⟩ = false := fun o => Lib.frozen_of_heap HGn.out o
    by_cases hjc : j < 1
    · obtain ⟨m, hm⟩ : ∃ m, 1 - j = m + 1 := ⟨1 - j - 1, by omega⟩
      have HQ2 : Hid (pFinC f (pN f).1 0 [] (match pName ns q with
        | .error e => .error e
        | .ok (x, st1) => pNms m (ns ++ [x]) st1) = R) := by
        show _ = R
        rw [← HQ.out.2, hm]
        rfl
      have HS : Hid (∀ s ∈ ns, s.length ≤ 100000) := HQ.out.1
      have CNm : Hid (∀ w', BW wr w' → Calls Tryd.prog 40 #[.pointer (some ⟨rb, 0, none⟩), .map (some (w.heap.size + 1 + 1 + 1))] w' (PostM rb B N (w.heap.size + 1 + 1 + 1) ns w' (pName ns q))) := fun w' hb => name_any rb B N _ ns q w' (HRq.out.bw hb) (HTn.out.same (hb.block _ hzr)) (by omega) (by omega)
      clear HQ
      go_wp2_with (fail)
      cases hp : pName ns q with
      | error er =>
        rw [hp] at CNm HQ2
        obtain rfl : R = .error er := HQ2.out.symm
        clear hp HQ2
        refine wp_region_held_drew (S := fun _ => True) (by kernel_rfl) trivial (fun hHeld => ?_)
        refine wpAnyH_take (i := 0) (v := ?va0) rfl (by kernel_rfl) (by kernel_rfl) (by kernel_rfl) (fun _ _ _ h => h) (Or.inl ⟨by kernel_rfl, ?hya0⟩) (by trivial) ?resta0
        case hya0 => (intro w hSw; (try dsimp only at hSw); go_simp; first | done | with_reducible rfl)
        try simp only [Act.put, List.setIfInBounds_toArray, List.set_cons_zero, List.set_cons_succ]
        refine wpAnyH_take (i := 2) (v := ?va2) rfl (by kernel_rfl) (by kernel_rfl) (by kernel_rfl) (fun _ _ _ h => h) (Or.inl ⟨by kernel_rfl, ?hya2⟩) (by trivial) ?resta2
        case hya2 => (intro w hSw; (try dsimp only at hSw); go_simp; first | done | with_reducible rfl)
        try simp only [Act.put, List.setIfInBounds_toArray, List.set_cons_zero, List.set_cons_succ]
        refine wpAnyH_take (i := 3) (v := ?va3) rfl (by kernel_rfl) (by kernel_rfl) (by kernel_rfl) (fun _ _ _ h => h) (Or.inl ⟨by kernel_rfl, ?hya3⟩) (by trivial) ?resta3
        case hya3 => (intro w hSw; (try dsimp only at hSw); go_simp; first | done | with_reducible rfl)
        try simp only [Act.put, List.setIfInBounds_toArray, List.set_cons_zero, List.set_cons_succ]
        refine wpAnyH_ready (rs := [1, 4]) (by kernel_rfl) (by simp) ?_
        refine AllReadyH.cons rfl (fun K hK => ?_) (AllReadyH.cons rfl (fun K hK => ?_) AllReadyH.nil)
        · go_simp
          refine hK.out _ _ trivial (fun _ => ?_)
          clear hK K
          try simp only [Act.put, List.setIfInBounds_toArray, List.set_cons_zero, List.set_cons_succ]
          refine wpAnyH_ready (rs := [4]) (by kernel_rfl) (by simp) ?_
          refine AllReadyH.cons rfl (fun K hK => ?_) AllReadyH.nil
          go_simp
          refine (CNm.out _ (by repeat (first | exact BW.refl _ | assumption | apply BW.alloc | apply BW.drewN | apply BW.drew | (refine BW.setCell ?_ (by first | omega | (simp; done) | (simp; omega)) _) | (refine BW.trans ?_ (by assumption))))).mono ?_
          rintro e w3 ⟨rfl, f3⟩
          exact ⟨rfl, rfl, HF2.out.own ((BW.f2 (by repeat (first | exact BW.refl _ | assumption | apply BW.alloc | apply BW.drewN | apply BW.drew | (refine BW.setCell ?_ (by first | omega | (simp; done) | (simp; omega)) _) | (refine BW.trans ?_ (by assumption))))).trans f3) (by omega)⟩
        · clear hK
          go_simp
          refine (CNm.out _ (by repeat (first | exact BW.refl _ | assumption | apply BW.alloc | apply BW.drewN | apply BW.drew | (refine BW.setCell ?_ (by first | omega | (simp; done) | (simp; omega)) _) | (refine BW.trans ?_ (by assumption))))).mono ?_
          rintro e w3 ⟨rfl, f3⟩
          exact ⟨rfl, rfl, HF2.out.own ((BW.f2 (by repeat (first | exact BW.refl _ | assumption | apply BW.alloc | apply BW.drewN | apply BW.drew | (refine BW.setCell ?_ (by first | omega | (simp; done) | (simp; omega)) _) | (refine BW.trans ?_ (by assumption))))).trans f3) (by omega)⟩
      | ok p =>
        obtain ⟨s, q2⟩ := p
        rw [hp] at CNm HQ2
        clear hp
        refine wp_region_held_drew (S := fun _ => True) (by kernel_rfl) trivial (fun hHeld => ?_)
        refine wpAnyH_take (i := 0) (v := ?vb0) rfl (by kernel_rfl) (by kernel_rfl) (by kernel_rfl) (fun _ _ _ h => h) (Or.inl ⟨by kernel_rfl, ?hyb0⟩) (by trivial) ?restb0
        case hyb0 => (intro w hSw; (try dsimp only at hSw); go_simp; first | done | with_reducible rfl)
        try simp only [Act.put, List.setIfInBounds_toArray, List.set_cons_zero, List.set_cons_succ]
        refine wpAnyH_take (i := 2) (v := ?vb2) rfl (by kernel_rfl) (by kernel_rfl) (by kernel_rfl) (fun _ _ _ h => h) (Or.inl ⟨by kernel_rfl, ?hyb2⟩) (by trivial) ?restb2
        case hyb2 => (intro w hSw; (try dsimp only at hSw); go_simp; first | done | with_reducible rfl)
        try simp only [Act.put, List.setIfInBounds_toArray, List.set_cons_zero, List.set_cons_succ]
        refine wpAnyH_take (i := 3) (v := ?vb3) rfl (by kernel_rfl) (by kernel_rfl) (by kernel_rfl) (fun _ _ _ h => h) (Or.inl ⟨by kernel_rfl, ?hyb3⟩) (by trivial) ?restb3
        case hyb3 => (intro w hSw; (try dsimp only at hSw); go_simp; first | done | with_reducible rfl)
        try simp only [Act.put, List.setIfInBounds_toArray, List.set_cons_zero, List.set_cons_succ]
        refine wpAnyH_ready (rs := [1, 4]) (by kernel_rfl) (by simp) ?_
        refine AllReadyH.cons rfl (fun K hK => ?_) (AllReadyH.cons rfl (fun K hK => ?_) AllReadyH.nil)
        · go_simp
          refine hK.out _ _ trivial (fun _ => ?_)
          clear hK K
          try simp only [Act.put, List.setIfInBounds_toArray, List.set_cons_zero, List.set_cons_succ]
          refine wpAnyH_ready (rs := [4]) (by kernel_rfl) (by simp) ?_
          refine AllReadyH.cons rfl (fun K hK => ?_) AllReadyH.nil
          go_simp
          refine (CNm.out _ (by repeat (first | exact BW.refl _ | assumption | apply BW.alloc | apply BW.drewN | apply BW.drew | (refine BW.setCell ?_ (by first | omega | (simp; done) | (simp; omega)) _) | (refine BW.trans ?_ (by assumption))))).mono ?_
          rintro e w3 ⟨rfl, R3, T3, hs3, f3⟩
          dsimp only
          refine hK.out _ _ trivial (fun _ => ?_)
          clear hK K
          try simp only [Act.put, List.setIfInBounds_toArray, List.set_cons_zero, List.set_cons_succ]
          have bD : BW wr wr.drew := (by repeat (first | exact BW.refl _ | assumption | apply BW.alloc | apply BW.drewN | apply BW.drew | (refine BW.setCell ?_ (by first | omega | (simp; done) | (simp; omega)) _) | (refine BW.trans ?_ (by assumption))))
          have hz3 := f3.size
          simp at hz3
          have hB3 := R3.2.2.2.2.1
          have HGn3 : Hid (w3.heap[w.heap.size + 1 + 1]? = some (.cells #[.int .u8 17, .int .i64 0, .string ⟨#[]⟩, v, .slice none 0 0] 26 (0, 0))) := (f3.block _ (by simp; omega) (by omega) (by omega)).trans HGn.out
          have HGr3 : Hid (w3.heap[w.heap.size + 1]? = some (.cells #[.int .u8 0, .int .i64 0, .string ⟨#[]⟩, .slice none 0 0, .slice none 0 0] 26 (0, 0))) := (f3.block _ (by simp; omega) (by omega) (by omega)).trans HGr.out
          have HO3 : w3.ownsRow (w.heap.size + 1 + 1 + 1 + 1) 9 1 v ns.length ((ns.map bsB).map Value.string) := own_f2 (own_bw HO.out bD) (HRq.out.bw bD) (HTn.out.same rfl) f3 (by decide)
          have HO3' : Hid (w3.ownsRow (w.heap.size + 1 + 1 + 1 + 1) 9 1 v (ns.map bsB).length ((ns.map bsB).map Value.string)) := by show World.ownsRow _ _ _ _ _ _ _; simpa using HO3
          have HT3 : Hid (TkIs w3 (w.heap.size + 1 + 1 + 1) (ns ++ [s])) := T3
          have HR3 : Hid (RdP rb B N q2 w3) := R3
          have HF3 : Hid (F2 rb mb w w3) := HF2.out.own ((BW.f2 bD).trans f3) (by omega)
          have HTm3 : Hid (TkIs w3 mb ops) := HTm.out.same (f3.block mb (by simp; omega) hne (by omega))
          have y3 : w3.cell? ⟨w.heap.size + 1 + 1, 3, none⟩ = some v := by rw [Lib.cell_of_heap HGn3.out]; rfl
          have y3' : ∀ o, (w3.alloc o).cell? ⟨w.heap.size + 1 + 1, 3, none⟩ = some v := fun o => (World.cell?_alloc_some _ _ _ (by rw [y3]; rfl)).trans y3
          have HHS : Hid (∀ x ∈ ns ++ [s], x.length ≤ 100000) := fun x hx => by
            rcases List.mem_append.1 hx with h | h
            · exact HS.out x h
            · simp at h; subst h; exact hs3
          have hls : (⟨s.toArray⟩ : ByteArray).size ≤ maxLen := by unfold maxLen; show s.toArray.size ≤ _; simp; omega
          clear R3 T3 f3 HO3 HO HTn HGn HGr HRq HF2 HTm CNm HS bD x3 xz
          refine wpAnyH_ready (rs := [5]) (by kernel_rfl) (by simp) ?_
          refine AllReadyH.cons rfl (fun K hK => ?_) AllReadyH.nil
          go_simp
          refine hK.out _ _ trivial (fun _ => ?_)
          clear hK K
          try simp only [Act.put, List.setIfInBounds_toArray, List.set_cons_zero, List.set_cons_succ]
          obtain ⟨v', w4, hrun, hown4, hgrow4⟩ := append_strs 23 (w.heap.size + 1 + 1 + 1 + 1) v (ns.map bsB) [⟨s.toArray⟩] (some ⟨w3.heap.size, 0, none⟩) 1 1 (w3.alloc (.cells #[.string ⟨s.toArray⟩] 9)) (own_bw HO3'.out (BW.alloc (BW.refl _) _)) (strs_one w3 _ hls) (by simp; omega) (by simp; omega)
          have hgb : ∀ k, k < w.heap.size + 1 + 1 + 1 + 1 → w4.heap[k]? = w3.heap[k]? := fun k hk => (hgrow4.block k (by simp; omega) (fun e => by have := own_ge HO3'.out k e.symm; omega)).trans ((BW.alloc (BW.refl w3) _).block k (by omega))
          have hz4 := hgrow4.size
          simp at hz4
          have HGn4 : Hid (w4.heap[w.heap.size + 1 + 1]? = some (.cells #[.int .u8 17, .int .i64 0, .string ⟨#[]⟩, v, .slice none 0 0] 26 (0, 0))) := (hgb _ (by omega)).trans HGn3.out
          have k3 : w4.cell? ⟨w.heap.size + 1 + 1, 3, none⟩ = some v := by rw [Lib.cell_of_heap HGn4.out]; rfl
          have kz : ∀ o, w4.frozen? ⟨w.heap.size + 1 + 1, o, none⟩ = false := fun o => Lib.frozen_of_heap HGn4.out o
          have HF4 : Hid (F2 rb mb w w4) := HF3.out.hi hgb (by omega) hgrow4.os hgrow4.tape hgrow4.output (by omega)
          obtain ⟨vo, vl, vc, hve⟩ : ∃ a b c, v' = .slice a b c := by
            rcases hown4.2 with ⟨e, _⟩ | ⟨g, cap, cur, e, _⟩
            · exact ⟨_, _, _, e⟩
            · exact ⟨_, _, _, e⟩
          subst hve
          have HO4 : Hid (w4.ownsRow (w.heap.size + 1 + 1 + 1 + 1) 9 1 (.slice vo vl vc) (ns ++ [s]).length (((ns ++ [s]).map bsB).map Value.string)) := by show World.ownsRow _ _ _ _ _ _ _; rw [show (ns ++ [s]).map bsB = ns.map bsB ++ [⟨s.toArray⟩] by rw [List.map_append]; rfl, show (ns ++ [s]).length = (ns.map bsB ++ [(⟨s.toArray⟩ : ByteArray)]).length by simp]; exact hown4
          clear hown4
          refine wpAnyH_ready (rs := [6]) (by kernel_rfl) (by simp) ?_
          refine AllReadyH.cons rfl (fun K hK => ?_) AllReadyH.nil
          refine if_w (by kernel_rfl) ?_
          refine wp_append_strs _ _ rfl rfl rfl hrun ?_
          refine hK.out _ _ trivial (fun _ => ?_)
          clear hK K hrun
          try simp only [Act.put, List.setIfInBounds_toArray, List.set_cons_zero, List.set_cons_succ]
          refine wpAnyH_take (i := 7) (v := ?vc7) rfl (by kernel_rfl) (by kernel_rfl) (by kernel_rfl) (fun _ _ _ h => h) (Or.inl ⟨by kernel_rfl, ?hyc7⟩) (by trivial) ?restc7
          case hyc7 => (intro w hSw; (try dsimp only at hSw); go_simp; first | done | with_reducible rfl)
          try simp only [Act.put, List.setIfInBounds_toArray, List.set_cons_zero, List.set_cons_succ]
          refine wpAnyH_ready (rs := [8]) (by kernel_rfl) (by simp) ?_
          refine AllReadyH.cons rfl (fun K hK => ?_) AllReadyH.nil
          go_simp
          refine hK.out _ _ trivial (fun _ => ?_)
          clear hK K
          try simp only [Act.put, List.setIfInBounds_toArray, List.set_cons_zero, List.set_cons_succ]
          refine wpAnyH_done (by kernel_rfl) ?_ _
          go_wp2_with (fail)
          go_roundw
          case measure => simp [intOf]; omega
          case rel =>
            have hset : ∀ k, ¬ k = w.heap.size + 1 + 1 → k < w.heap.size + 1 + 1 + 1 + 1 → (w4.setCell ⟨w.heap.size + 1 + 1, 3, none⟩ (.slice vo vl vc)).heap[k]? = w3.heap[k]? := fun k h1 h2 => (heap_setCell_other _ ⟨w.heap.size + 1 + 1, 3, none⟩ k _ h1).trans (hgb k h2)
            exact ⟨ns ++ [s], q2, j + 1, .slice vo vl vc, by go_num, by omega, by simp; omega, by simp [World.setCell]; omega, HR3.out.up (fun k hk => hset k (by omega) (by omega)) (by simp [World.setCell]; omega), HT3.out.same (hset _ (by omega) (by omega)), heap_setCell_same w4 (w.heap.size + 1 + 1) 3 _ 26 _ HGn4.out, (hset _ (by omega) (by omega)).trans HGr3.out, own_cset HO4.out (by omega), ⟨HHS.out, by rw [show 1 - (j + 1) = m by omega]; exact HQ2.out⟩, HF4.out.setC (by omega) _, HTm3.out.same (hset _ (by omega) (by omega))⟩
        · go_simp
          refine (CNm.out _ (by repeat (first | exact BW.refl _ | assumption | apply BW.alloc | apply BW.drewN | apply BW.drew | (refine BW.setCell ?_ (by first | omega | (simp; done) | (simp; omega)) _) | (refine BW.trans ?_ (by assumption))))).mono ?_
          rintro e w3 ⟨rfl, R3, T3, hs3, f3⟩
          dsimp only
          refine hK.out _ _ trivial (fun _ => ?_)
          clear hK K
          try simp only [Act.put, List.setIfInBounds_toArray, List.set_cons_zero, List.set_cons_succ]
          have bD : BW wr wr.drew := (by repeat (first | exact BW.refl _ | assumption | apply BW.alloc | apply BW.drewN | apply BW.drew | (refine BW.setCell ?_ (by first | omega | (simp; done) | (simp; omega)) _) | (refine BW.trans ?_ (by assumption))))
          have hz3 := f3.size
          simp at hz3
          have hB3 := R3.2.2.2.2.1
          have HGn3 : Hid (w3.heap[w.heap.size + 1 + 1]? = some (.cells #[.int .u8 17, .int .i64 0, .string ⟨#[]⟩, v, .slice none 0 0] 26 (0, 0))) := (f3.block _ (by simp; omega) (by omega) (by omega)).trans HGn.out
          have HGr3 : Hid (w3.heap[w.heap.size + 1]? = some (.cells #[.int .u8 0, .int .i64 0, .string ⟨#[]⟩, .slice none 0 0, .slice none 0 0] 26 (0, 0))) := (f3.block _ (by simp; omega) (by omega) (by omega)).trans HGr.out
          have HO3 : w3.ownsRow (w.heap.size + 1 + 1 + 1 + 1) 9 1 v ns.length ((ns.map bsB).map Value.string) := own_f2 (own_bw HO.out bD) (HRq.out.bw bD) (HTn.out.same rfl) f3 (by decide)
          have HO3' : Hid (w3.ownsRow (w.heap.size + 1 + 1 + 1 + 1) 9 1 v (ns.map bsB).length ((ns.map bsB).map Value.string)) := by show World.ownsRow _ _ _ _ _ _ _; simpa using HO3
          have HT3 : Hid (TkIs w3 (w.heap.size + 1 + 1 + 1) (ns ++ [s])) := T3
          have HR3 : Hid (RdP rb B N q2 w3) := R3
          have HF3 : Hid (F2 rb mb w w3) := HF2.out.own ((BW.f2 bD).trans f3) (by omega)
          have HTm3 : Hid (TkIs w3 mb ops) := HTm.out.same (f3.block mb (by simp; omega) hne (by omega))
          have y3 : w3.cell? ⟨w.heap.size + 1 + 1, 3, none⟩ = some v := by rw [Lib.cell_of_heap HGn3.out]; rfl
          have y3' : ∀ o, (w3.alloc o).cell? ⟨w.heap.size + 1 + 1, 3, none⟩ = some v := fun o => (World.cell?_alloc_some _ _ _ (by rw [y3]; rfl)).trans y3
          have HHS : Hid (∀ x ∈ ns ++ [s], x.length ≤ 100000) := fun x hx => by
            rcases List.mem_append.1 hx with h | h
            · exact HS.out x h
            · simp at h; subst h; exact hs3
          have hls : (⟨s.toArray⟩ : ByteArray).size ≤ maxLen := by unfold maxLen; show s.toArray.size ≤ _; simp; omega
          clear R3 T3 f3 HO3 HO HTn HGn HGr HRq HF2 HTm CNm HS bD x3 xz
          refine wpAnyH_ready (rs := [1, 5]) (by kernel_rfl) (by simp) ?_
          refine AllReadyH.cons rfl (fun K hK => ?_) (AllReadyH.cons rfl (fun K hK => ?_) AllReadyH.nil)
          · go_simp
            refine hK.out _ _ trivial (fun _ => ?_)
            clear hK K
            try simp only [Act.put, List.setIfInBounds_toArray, List.set_cons_zero, List.set_cons_succ]
            refine wpAnyH_ready (rs := [5]) (by kernel_rfl) (by simp) ?_
            refine AllReadyH.cons rfl (fun K hK => ?_) AllReadyH.nil
            go_simp
            refine hK.out _ _ trivial (fun _ => ?_)
            clear hK K
            try simp only [Act.put, List.setIfInBounds_toArray, List.set_cons_zero, List.set_cons_succ]
            obtain ⟨v', w4, hrun, hown4, hgrow4⟩ := append_strs 23 (w.heap.size + 1 + 1 + 1 + 1) v (ns.map bsB) [⟨s.toArray⟩] (some ⟨w3.heap.size, 0, none⟩) 1 1 (w3.alloc (.cells #[.string ⟨s.toArray⟩] 9)) (own_bw HO3'.out (BW.alloc (BW.refl _) _)) (strs_one w3 _ hls) (by simp; omega) (by simp; omega)
            have hgb : ∀ k, k < w.heap.size + 1 + 1 + 1 + 1 → w4.heap[k]? = w3.heap[k]? := fun k hk => (hgrow4.block k (by simp; omega) (fun e => by have := own_ge HO3'.out k e.symm; omega)).trans ((BW.alloc (BW.refl w3) _).block k (by omega))
            have hz4 := hgrow4.size
            simp at hz4
            have HGn4 : Hid (w4.heap[w.heap.size + 1 + 1]? = some (.cells #[.int .u8 17, .int .i64 0, .string ⟨#[]⟩, v, .slice none 0 0] 26 (0, 0))) := (hgb _ (by omega)).trans HGn3.out
            have k3 : w4.cell? ⟨w.heap.size + 1 + 1, 3, none⟩ = some v := by rw [Lib.cell_of_heap HGn4.out]; rfl
            have kz : ∀ o, w4.frozen? ⟨w.heap.size + 1 + 1, o, none⟩ = false := fun o => Lib.frozen_of_heap HGn4.out o
            have HF4 : Hid (F2 rb mb w w4) := HF3.out.hi hgb (by omega) hgrow4.os hgrow4.tape hgrow4.output (by omega)
            obtain ⟨vo, vl, vc, hve⟩ : ∃ a b c, v' = .slice a b c := by
              rcases hown4.2 with ⟨e, _⟩ | ⟨g, cap, cur, e, _⟩
              · exact ⟨_, _, _, e⟩
              · exact ⟨_, _, _, e⟩
            subst hve
            have HO4 : Hid (w4.ownsRow (w.heap.size + 1 + 1 + 1 + 1) 9 1 (.slice vo vl vc) (ns ++ [s]).length (((ns ++ [s]).map bsB).map Value.string)) := by show World.ownsRow _ _ _ _ _ _ _; rw [show (ns ++ [s]).map bsB = ns.map bsB ++ [⟨s.toArray⟩] by rw [List.map_append]; rfl, show (ns ++ [s]).length = (ns.map bsB ++ [(⟨s.toArray⟩ : ByteArray)]).length by simp]; exact hown4
            clear hown4
            refine wpAnyH_ready (rs := [6]) (by kernel_rfl) (by simp) ?_
            refine AllReadyH.cons rfl (fun K hK => ?_) AllReadyH.nil
            refine if_w (by kernel_rfl) ?_
            refine wp_append_strs _ _ rfl rfl rfl hrun ?_
            refine hK.out _ _ trivial (fun _ => ?_)
            clear hK K hrun
            try simp only [Act.put, List.setIfInBounds_toArray, List.set_cons_zero, List.set_cons_succ]
            refine wpAnyH_take (i := 7) (v := ?vd7) rfl (by kernel_rfl) (by kernel_rfl) (by kernel_rfl) (fun _ _ _ h => h) (Or.inl ⟨by kernel_rfl, ?hyd7⟩) (by trivial) ?restd7
            case hyd7 => (intro w hSw; (try dsimp only at hSw); go_simp; first | done | with_reducible rfl)
            try simp only [Act.put, List.setIfInBounds_toArray, List.set_cons_zero, List.set_cons_succ]
            refine wpAnyH_ready (rs := [8]) (by kernel_rfl) (by simp) ?_
            refine AllReadyH.cons rfl (fun K hK => ?_) AllReadyH.nil
            go_simp
            refine hK.out _ _ trivial (fun _ => ?_)
            clear hK K
            try simp only [Act.put, List.setIfInBounds_toArray, List.set_cons_zero, List.set_cons_succ]
            refine wpAnyH_done (by kernel_rfl) ?_ _
            go_wp2_with (fail)
            go_roundw
            case measure => simp [intOf]; omega
            case rel =>
              have hset : ∀ k, ¬ k = w.heap.size + 1 + 1 → k < w.heap.size + 1 + 1 + 1 + 1 → (w4.setCell ⟨w.heap.size + 1 + 1, 3, none⟩ (.slice vo vl vc)).heap[k]? = w3.heap[k]? := fun k h1 h2 => (heap_setCell_other _ ⟨w.heap.size + 1 + 1, 3, none⟩ k _ h1).trans (hgb k h2)
              exact ⟨ns ++ [s], q2, j + 1, .slice vo vl vc, by go_num, by omega, by simp; omega, by simp [World.setCell]; omega, HR3.out.up (fun k hk => hset k (by omega) (by omega)) (by simp [World.setCell]; omega), HT3.out.same (hset _ (by omega) (by omega)), heap_setCell_same w4 (w.heap.size + 1 + 1) 3 _ 26 _ HGn4.out, (hset _ (by omega) (by omega)).trans HGr3.out, own_cset HO4.out (by omega), ⟨HHS.out, by rw [show 1 - (j + 1) = m by omega]; exact HQ2.out⟩, HF4.out.setC (by omega) _, HTm3.out.same (hset _ (by omega) (by omega))⟩
          · go_simp
            refine hK.out _ _ trivial (fun _ => ?_)
            clear hK K
            try simp only [Act.put, List.setIfInBounds_toArray, List.set_cons_zero, List.set_cons_succ]
            refine wpAnyH_ready (rs := [1]) (by kernel_rfl) (by simp) ?_
            refine AllReadyH.cons rfl (fun K hK => ?_) AllReadyH.nil
            go_simp
            refine hK.out _ _ trivial (fun _ => ?_)
            clear hK K
            try simp only [Act.put, List.setIfInBounds_toArray, List.set_cons_zero, List.set_cons_succ]
            obtain ⟨v', w4, hrun, hown4, hgrow4⟩ := append_strs 23 (w.heap.size + 1 + 1 + 1 + 1) v (ns.map bsB) [⟨s.toArray⟩] (some ⟨w3.heap.size, 0, none⟩) 1 1 (w3.alloc (.cells #[.string ⟨s.toArray⟩] 9)) (own_bw HO3'.out (BW.alloc (BW.refl _) _)) (strs_one w3 _ hls) (by simp; omega) (by simp; omega)
            have hgb : ∀ k, k < w.heap.size + 1 + 1 + 1 + 1 → w4.heap[k]? = w3.heap[k]? := fun k hk => (hgrow4.block k (by simp; omega) (fun e => by have := own_ge HO3'.out k e.symm; omega)).trans ((BW.alloc (BW.refl w3) _).block k (by omega))
            have hz4 := hgrow4.size
            simp at hz4
            have HGn4 : Hid (w4.heap[w.heap.size + 1 + 1]? = some (.cells #[.int .u8 17, .int .i64 0, .string ⟨#[]⟩, v, .slice none 0 0] 26 (0, 0))) := (hgb _ (by omega)).trans HGn3.out
            have k3 : w4.cell? ⟨w.heap.size + 1 + 1, 3, none⟩ = some v := by rw [Lib.cell_of_heap HGn4.out]; rfl
            have kz : ∀ o, w4.frozen? ⟨w.heap.size + 1 + 1, o, none⟩ = false := fun o => Lib.frozen_of_heap HGn4.out o
            have HF4 : Hid (F2 rb mb w w4) := HF3.out.hi hgb (by omega) hgrow4.os hgrow4.tape hgrow4.output (by omega)
            obtain ⟨vo, vl, vc, hve⟩ : ∃ a b c, v' = .slice a b c := by
              rcases hown4.2 with ⟨e, _⟩ | ⟨g, cap, cur, e, _⟩
              · exact ⟨_, _, _, e⟩
              · exact ⟨_, _, _, e⟩
            subst hve
            have HO4 : Hid (w4.ownsRow (w.heap.size + 1 + 1 + 1 + 1) 9 1 (.slice vo vl vc) (ns ++ [s]).length (((ns ++ [s]).map bsB).map Value.string)) := by show World.ownsRow _ _ _ _ _ _ _; rw [show (ns ++ [s]).map bsB = ns.map bsB ++ [⟨s.toArray⟩] by rw [List.map_append]; rfl, show (ns ++ [s]).length = (ns.map bsB ++ [(⟨s.toArray⟩ : ByteArray)]).length by simp]; exact hown4
            clear hown4
            refine wpAnyH_ready (rs := [6]) (by kernel_rfl) (by simp) ?_
            refine AllReadyH.cons rfl (fun K hK => ?_) AllReadyH.nil
            refine if_w (by kernel_rfl) ?_
            refine wp_append_strs _ _ rfl rfl rfl hrun ?_
            refine hK.out _ _ trivial (fun _ => ?_)
            clear hK K hrun
            try simp only [Act.put, List.setIfInBounds_toArray, List.set_cons_zero, List.set_cons_succ]
            refine wpAnyH_take (i := 7) (v := ?ve7) rfl (by kernel_rfl) (by kernel_rfl) (by kernel_rfl) (fun _ _ _ h => h) (Or.inl ⟨by kernel_rfl, ?hye7⟩) (by trivial) ?reste7
            case hye7 => (intro w hSw; (try dsimp only at hSw); go_simp; first | done | with_reducible rfl)
            try simp only [Act.put, List.setIfInBounds_toArray, List.set_cons_zero, List.set_cons_succ]
            refine wpAnyH_ready (rs := [8]) (by kernel_rfl) (by simp) ?_
            refine AllReadyH.cons rfl (fun K hK => ?_) AllReadyH.nil
            go_simp
            refine hK.out _ _ trivial (fun _ => ?_)
            clear hK K
            try simp only [Act.put, List.setIfInBounds_toArray, List.set_cons_zero, List.set_cons_succ]
            refine wpAnyH_done (by kernel_rfl) ?_ _
            go_wp2_with (fail)
            go_roundw
            case measure => simp [intOf]; omega
            case rel =>
              have hset : ∀ k, ¬ k = w.heap.size + 1 + 1 → k < w.heap.size + 1 + 1 + 1 + 1 → (w4.setCell ⟨w.heap.size + 1 + 1, 3, none⟩ (.slice vo vl vc)).heap[k]? = w3.heap[k]? := fun k h1 h2 => (heap_setCell_other _ ⟨w.heap.size + 1 + 1, 3, none⟩ k _ h1).trans (hgb k h2)
              exact ⟨ns ++ [s], q2, j + 1, .slice vo vl vc, by go_num, by omega, by simp; omega, by simp [World.setCell]; omega, HR3.out.up (fun k hk => hset k (by omega) (by omega)) (by simp [World.setCell]; omega), HT3.out.same (hset _ (by omega) (by omega)), heap_setCell_same w4 (w.heap.size + 1 + 1) 3 _ 26 _ HGn4.out, (hset _ (by omega) (by omega)).trans HGr3.out, own_cset HO4.out (by omega), ⟨HHS.out, by rw [show 1 - (j + 1) = m by omega]; exact HQ2.out⟩, HF4.out.setC (by omega) _, HTm3.out.same (hset _ (by omega) (by omega))⟩
    · obtain rfl : j = 1 := by omega
      obtain ⟨nao, ncp, hve, N1, N2, N3, N4⟩ := own_names HO.out HQ.out.1
      subst hve
      rw [hnl] at N1 N2 N4 HGn
      have HQ2 : Hid ((match pMany (pN f).1 1 q with
        | .error e => .error e
        | .ok (l, st6) => .ok ((⟨17, 0, bsB [], ns.map bsB, l⟩ : Nd (Tr f)), st6) : Pr (Tr (f + 1))) = R) := by
        show _ = R
        rw [← HQ.out.2]
        rfl
      have HNs : Hid (StrsAt wr nao 1 (ns.map bsB) ∧ (1 = 0 ∨ ∃ b off, nao = some ⟨b, off, none⟩ ∧ w.heap.size + 1 + 1 + 1 + 1 ≤ b ∧ b < wr.heap.size)) := ⟨N1, N4⟩
      have HGv : Hid (Gv wr) := HG.out.f2 HF2.out hrb (by omega)
      have CN : Hid (∀ w0, BW wr w0 → Calls Tryd.prog 29 #[.pointer (some ⟨rb, 0, none⟩), .int .i64 1, .int .i64 ((d : Int) + 1)] w0 (PostP (fun w' v l => QRow w' w0.heap.size f v l) rb B N w0 (pMany (pN f).1 1 q))) := fun w0 hb0 => by
        have := nodes_of IN.out rb B N (d + 1) 1 (by omega) (by omega) q w0 (HRq.out.bw hb0) (HGv.out.bw hb0) hrb
        push_cast at this
        exact this
      have hB3 := HRq.out.2.2.2.2.1
      clear N1 N4 HQ HTn
      cases hp : pMany (pN f).1 1 q with
      | error er =>
        rw [hp] at CN HQ2
        obtain rfl : R = .error er := HQ2.out.symm
        clear hp HQ2
        have CW : Hid (∀ w0, BW wr w0 → Calls Tryd.prog 29 #[.pointer (some ⟨rb, 0, none⟩), .int .i64 1, .int .i64 ((d : Int) + 1)] w0 (fun e w' => e = .panicked (thrP N er) ∧ Fl rb w0 w')) := CN.out
        clear CN
        go_wp2_with (go_at_call 29; refine (CW.out _ (by repeat (first | exact BW.refl _ | assumption | apply BW.alloc | apply BW.drewN | apply BW.drew | (refine BW.setCell ?_ (by first | omega | (simp; done) | (simp; omega)) _) | (refine BW.trans ?_ (by assumption))))).mono ?_; rintro e w3 ⟨rfl, f3⟩)
        exact ⟨rfl, rfl, HF2.out.trans (f3.f2 mb)⟩
      | ok p =>
        obtain ⟨l, q3⟩ := p
        rw [hp] at CN HQ2
        obtain rfl : R = .ok ((⟨17, 0, bsB [], ns.map bsB, l⟩ : Nd (Tr f)), q3) := HQ2.out.symm
        clear hp HQ2
        have CW : Hid (∀ w0, BW wr w0 → Calls Tryd.prog 29 #[.pointer (some ⟨rb, 0, none⟩), .int .i64 1, .int .i64 ((d : Int) + 1)] w0 (fun e w' => ∃ v, e = .returned v ∧ QRow w' w0.heap.size f v l ∧ RdP rb B N q3 w' ∧ Fl rb w0 w')) := CN.out
        clear CN
        go_wp2_with (fail)
        refine (CW.out _ (by repeat (first | exact BW.refl _ | assumption | apply BW.alloc | apply BW.drewN | apply BW.drew | (refine BW.setCell ?_ (by first | omega | (simp; done) | (simp; omega)) _) | (refine BW.trans ?_ (by assumption))))).mono ?_
        rintro e w3 ⟨v3, rfl, W3, R3, F3⟩
        obtain ⟨ao, cp, rfl, S3, q1, q2', q4⟩ := W3.seq
        have hz3 := F3.size
        have HGn3 : Hid (w3.heap[w.heap.size + 1 + 1]? = some (.cells #[.int .u8 17, .int .i64 0, .string ⟨#[]⟩, .slice nao 1 ncp, .slice none 0 0] 26 (0, 0))) := (F3.block _ (by omega) (by omega)).trans HGn.out
        have HGr3 : Hid (w3.heap[w.heap.size + 1]? = some (.cells #[.int .u8 0, .int .i64 0, .string ⟨#[]⟩, .slice none 0 0, .slice none 0 0] 26 (0, 0))) := (F3.block _ (by omega) (by omega)).trans HGr.out
        have HS3 : StrsAt w3 nao 1 (ns.map bsB) := HNs.out.1.fl HRq.out F3
        have HN3 : Hid (NodeQ (fun b => w.heap.size + 1 + 1 + 1 + 1 ≤ b ∧ b < w3.heap.size) w3 (f + 1) (ndv 17 0 ⟨#[]⟩ nao 1 ncp ao l.length cp) ((⟨17, 0, bsB [], ns.map bsB, l⟩ : Nd (Tr f)) : Tr (f + 1))) := ⟨nao, 1, ncp, ao, l.length, cp, rfl, wf_ns 17 [] ns l (by decide) (by decide) (by simp), ⟨N2, N3, q1, q2'⟩, HS3, S3.imp (fun v x h => NodeQ.keep (fun b hb => ⟨by omega, hb.2⟩) (fun _ _ _ => rfl) (Nat.le_refl _) h), (by rcases HNs.out.2 with h | ⟨b, off, h1, h2, h3⟩; exact .inl h; exact .inr ⟨b, off, h1, h2, by omega⟩), (by rcases q4 with h | ⟨b, off, h1, h2, h3⟩; exact .inl h; exact .inr ⟨b, off, h1, by omega, h3⟩)⟩
        have HR3 : Hid (RdP rb B N q3 w3) := R3
        have HF3 : Hid (F2 rb mb w w3) := HF2.out.trans (F3.f2 mb)
        have HT3 : Hid (TkIs w3 mb ops) := HTm.out.same (F3.block mb (by omega) hne)
        clear W3 R3 F3 S3 q4 CW HGn HGr HS3 x3 xz
        have j0 : w3.cell? ⟨w.heap.size + 1 + 1, 0, none⟩ = some (.int .u8 17) := by rw [Lib.cell_of_heap HGn3.out]; rfl
        have j1 : w3.cell? ⟨w.heap.size + 1 + 1, 1, none⟩ = some (.int .i64 0) := by rw [Lib.cell_of_heap HGn3.out]; rfl
        have j2 : w3.cell? ⟨w.heap.size + 1 + 1, 2, none⟩ = some (.string ⟨#[]⟩) := by rw [Lib.cell_of_heap HGn3.out]; rfl
        have j3 : w3.cell? ⟨w.heap.size + 1 + 1, 3, none⟩ = some (.slice nao 1 ncp) := by rw [Lib.cell_of_heap HGn3.out]; rfl
        have j4 : w3.cell? ⟨w.heap.size + 1 + 1, 4, none⟩ = some (.slice none 0 0) := by rw [Lib.cell_of_heap HGn3.out]; rfl
        have jz : ∀ o, w3.frozen? ⟨w.heap.size + 1 + 1, o, none⟩ = false := fun o => Lib.frozen_of_heap HGn3.out o
        have k0 : w3.cell? ⟨w.heap.size + 1, 0, none⟩ = some (.int .u8 0) := by rw [Lib.cell_of_heap HGr3.out]; rfl
        have k1 : w3.cell? ⟨w.heap.size + 1, 1, none⟩ = some (.int .i64 0) := by rw [Lib.cell_of_heap HGr3.out]; rfl
        have k2 : w3.cell? ⟨w.heap.size + 1, 2, none⟩ = some (.string ⟨#[]⟩) := by rw [Lib.cell_of_heap HGr3.out]; rfl
        have k3 : w3.cell? ⟨w.heap.size + 1, 3, none⟩ = some (.slice none 0 0) := by rw [Lib.cell_of_heap HGr3.out]; rfl
        have k4 : w3.cell? ⟨w.heap.size + 1, 4, none⟩ = some (.slice none 0 0) := by rw [Lib.cell_of_heap HGr3.out]; rfl
        have kz : ∀ o, w3.frozen? ⟨w.heap.size + 1, o, none⟩ = false := fun o => Lib.frozen_of_heap HGr3.out o
        go_wp2_with (fail)
        have HS4 : Hid ((w3.setCell ⟨w.heap.size + 1 + 1, 4, none⟩ (.slice ao l.length cp)).heap[w.heap.size + 1]? = some (.cells #[.int .u8 0, .int .i64 0, .string ⟨#[]⟩, .slice none 0 0, .slice none 0 0] 26 (0, 0))) := (heap_setCell_other _ ⟨w.heap.size + 1 + 1, 4, none⟩ (w.heap.size + 1) _ (by simp)).trans HGr3.out
        have HK : ∀ b, ¬ b = w.heap.size + 1 → ¬ b = w.heap.size + 1 + 1 → (((((((w3.setCell ⟨w.heap.size + 1 + 1, 4, none⟩ (.slice ao l.length cp)).setCell ⟨w.heap.size + 1, 0, none⟩ (.int .u8 17)).setCell ⟨w.heap.size + 1, 1, none⟩ (.int .i64 0)).setCell ⟨w.heap.size + 1, 2, none⟩ (.string ⟨#[]⟩)).setCell ⟨w.heap.size + 1, 3, none⟩ (.slice nao 1 ncp)).setCell ⟨w.heap.size + 1, 4, none⟩ (.slice ao l.length cp))).heap[b]? = w3.heap[b]? := fun b h1 h2 => (set5o h1).trans (heap_setCell_other _ ⟨w.heap.size + 1 + 1, 4, none⟩ b _ h2)
        clear hwd hmm
        have G1 : RdP rb B N q3 (((((((w3.setCell ⟨w.heap.size + 1 + 1, 4, none⟩ (.slice ao l.length cp)).setCell ⟨w.heap.size + 1, 0, none⟩ (.int .u8 17)).setCell ⟨w.heap.size + 1, 1, none⟩ (.int .i64 0)).setCell ⟨w.heap.size + 1, 2, none⟩ (.string ⟨#[]⟩)).setCell ⟨w.heap.size + 1, 3, none⟩ (.slice nao 1 ncp)).setCell ⟨w.heap.size + 1, 4, none⟩ (.slice ao l.length cp))) := HR3.out.up (fun j hj => HK j (by omega) (by omega)) (by simp [World.setCell]; omega)
        have G2 := HT3.out.same (HK mb (by omega) (by omega))
        have G3 := (HF3.out.setC (g := w.heap.size + 1 + 1) (o := 4) (by omega) (.slice ao l.length cp)).set5 (g := w.heap.size + 1) (a := .int .u8 17) (c := .int .i64 0) (d := .string ⟨#[]⟩) (e := .slice nao 1 ncp) (f := .slice ao l.length cp) (by omega)
        have S5 := set5 (a := .int .u8 17) (c := .int .i64 0) (d := .string ⟨#[]⟩) (e := .slice nao 1 ncp) (f := .slice ao l.length cp) HS4.out
        generalize hWf : (((((((w3.setCell ⟨w.heap.size + 1 + 1, 4, none⟩ (.slice ao l.length cp)).setCell ⟨w.heap.size + 1, 0, none⟩ (.int .u8 17)).setCell ⟨w.heap.size + 1, 1, none⟩ (.int .i64 0)).setCell ⟨w.heap.size + 1, 2, none⟩ (.string ⟨#[]⟩)).setCell ⟨w.heap.size + 1, 3, none⟩ (.slice nao 1 ncp)).setCell ⟨w.heap.size + 1, 4, none⟩ (.slice ao l.length cp))) = wf at HK G1 G2 G3 S5 ⊢
        have hzf : wf.heap.size = w3.heap.size := by rw [← hWf]; simp [World.setCell]
        have G4 : NodeQ (fun b => w.heap.size ≤ b ∧ b < wf.heap.size) wf (f + 1) (ndv 17 0 ⟨#[]⟩ nao 1 ncp ao l.length cp) ((⟨17, 0, bsB [], ns.map bsB, l⟩ : Nd (Tr f)) : Tr (f + 1)) := NodeQ.keep (fun b hb => ⟨by omega, by omega⟩) (fun b hb hl => HK b (by omega) (by omega)) (by omega) HN3.out
        exact end_node Tryd.func49 8 rfl rfl S5 (postcl0 G4 G1 G2 G3)

end Go.Proofs.YtlacjiihbbgbeaaDoor
