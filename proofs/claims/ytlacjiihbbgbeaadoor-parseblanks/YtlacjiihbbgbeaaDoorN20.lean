import Derived.Test.YtlacjiihbbgbeaaDoorN19
namespace Go.Proofs.YtlacjiihbbgbeaaDoor
open Go.RowKit
set_option linter.unusedVariables false
set_option linter.unusedSimpArgs false

theorem append_none (ty : TypeId) (base : Nat) (v : Value) (n : Nat) (xs : List Value) (w : World) (hown : w.ownsRow base 26 5 v n xs) : (Builtin.append_ #[24, 24] ty #[v, .slice none 0 0]).run Tryd.prog w = .ok v w := by
  obtain ⟨i, hi, hz0, hz1, hz2⟩ := info_parts Tryd.info26
  rcases hown.2 with ⟨rfl, rfl⟩ | ⟨g, cap, cur, rfl, hbg, hgb, hnc, hcm, hcs, htake⟩
  · simp [Builtin.append_, run_underlying Tryd.underlying24, sizeOf, typeInfo, hi, Builtin.lenOf, Builtin.firstCells, loadCells, loadCellsFrom]
  · simp [Builtin.append_, run_underlying Tryd.underlying24, sizeOf, typeInfo, hi, Builtin.lenOf, Builtin.firstCells, loadCells, loadCellsFrom, hnc, storeCells]
theorem rcs_len (rs : List Rw) : (rs.flatMap rcs).length = rs.length * 5 := by
  induction rs with
  | nil => rfl
  | cons r rs ih => simp [List.flatMap_cons, ih, rcs]; omega
theorem rcs_ones (rs : List Rw) : ∀ u ∈ rs.flatMap rcs, u.oneCell' = true := by
  intro u hu
  obtain ⟨r, _, h⟩ := List.mem_flatMap.1 hu
  exact rcs_one r u h
theorem QRow.app {w w' : World} {lo f : Nat} {v v' : Value} {l m : List (Tr f)} {rs rm : List Rw} (h1 : rs.length = l.length) (h3 : ∀ (i : Nat) r x, rs[i]? = some r → l[i]? = some x → NodeQ (fun b => lo ≤ b ∧ b < w.heap.size ∧ v.ownBlock ≠ some b) w f r.v x) (h4 : rm.length = m.length) (h5 : ∀ (i : Nat) r x, rm[i]? = some r → m[i]? = some x → NodeQ (fun b => lo ≤ b ∧ b < w.heap.size ∧ v.ownBlock ≠ some b) w f r.v x) (ho : w'.ownsRow lo 26 5 v' (l.length + m.length) (rs.flatMap rcs ++ rm.flatMap rcs)) (hg : w.grownBy w' v.ownBlock) (hv : v'.ownBlock = v.ownBlock ∨ v'.ownBlock = some w.heap.size) : QRow w' lo f v' (l ++ m) := by
  have hzz := hg.size
  have K : ∀ {y : Tr f} {u : Value}, NodeQ (fun b => lo ≤ b ∧ b < w.heap.size ∧ v.ownBlock ≠ some b) w f u y → NodeQ (fun b => lo ≤ b ∧ b < w'.heap.size ∧ v'.ownBlock ≠ some b) w' f u y := fun h => NodeQ.keep (fun b hb => ⟨hb.1, by omega, by
      rcases hv with hv | hv
      · rw [hv]; exact hb.2.2
      · rw [hv]; intro e; have := Option.some.inj e; omega⟩) (fun b hb hl => hg.block b hl (fun e => hb.2.2 e.symm)) (by omega) h
  refine ⟨rs ++ rm, by simp [h1, h4], by simpa using ho, fun i r x a c => ?_⟩
  by_cases hi : i < l.length
  · rw [List.getElem?_append_left (by omega)] at a
    rw [List.getElem?_append_left hi] at c
    exact K (h3 i r x a c)
  · rw [List.getElem?_append_right (by omega)] at a c
    rw [h1] at a
    exact K (h5 _ r x a c)
theorem append_row {w : World} {lo lo2 f : Nat} {v v3 : Value} {l m : List (Tr f)} (h : QRow w lo f v l) (h2 : QRow w lo2 f v3 m) (hv : ∀ b, v.ownBlock = some b → b < lo2) (hle : lo ≤ lo2) (hb : l.length + m.length ≤ 1000000) (hbase : lo ≤ w.heap.size) : ∃ a n c w', (Builtin.append_ #[24, 24] 24 #[v, v3]).run Tryd.prog w = .ok (.slice a n c) w' ∧ QRow w' lo f (.slice a n c) (l ++ m) ∧ (∀ b, b < lo → w'.heap[b]? = w.heap[b]?) ∧ w.heap.size ≤ w'.heap.size ∧ w'.os = w.os ∧ w'.tape = w.tape ∧ w'.output = w.output := by
  have h' := h
  obtain ⟨rs, r1, r2, r3⟩ := h
  obtain ⟨rm, s1, s2, s3⟩ := h2
  rcases s2.2 with ⟨e3, h0⟩ | ⟨g, cap, cur, e3, hbg, hgb, hnc, hcm, hcs, htake⟩
  · have hr := append_none 24 lo v l.length _ w r2
    obtain ⟨ao, cp, e, _⟩ := h'.seq
    have hm : m = [] := List.eq_nil_of_length_eq_zero h0
    subst hm e3 e
    exact ⟨ao, l.length, cp, w, hr, by simpa using h', fun _ _ => rfl, Nat.le_refl _, rfl, rfl, rfl⟩
  · obtain ⟨v', w', hr, ho, hg, hv'⟩ := append_nodes 24 lo v l.length (rs.flatMap rcs) ⟨g, 0, none⟩ m.length cap (rm.flatMap rcs) w r2 (by rw [rcs_len, s1]) (s2.cells (g := g) (by rw [e3]; rfl)) (rcs_ones rm) hb hbase
    have hq : QRow w' lo f v' (l ++ m) := QRow.app r1 r3 s1 (fun i r x a c => NodeQ.keep (fun b hb => ⟨by omega, hb.2.1, fun e => by have := hv b e; omega⟩) (fun _ _ _ => rfl) (Nat.le_refl _) (s3 i r x a c)) ho hg hv'
    obtain ⟨ao, cp, e, _⟩ := hq.seq
    rw [e] at hr hq
    rw [e3]
    exact ⟨ao, _, cp, w', hr, hq, fun b hb => hg.block b (by omega) (fun e => by have := (r2.lt b e.symm).1; omega), hg.size, hg.os, hg.tape, hg.output⟩
theorem cls_len {X : Type} {kd : X → Int} {tt : X → List UInt8} {cl : Nat → List (List UInt8) → Ps → Pr X} : ∀ {c a : Nat} {o : List (List UInt8)} {st : Ps} {l : List X} {q : Ps}, pCls kd tt cl c a o st = .ok (l, q) → l.length ≤ c := by
  intro c
  induction c with
  | zero => intro a o st l q h; cases h; exact Nat.le_refl _
  | succ c ih =>
    intro a o st l q h
    obtain ⟨ts, g⟩ := st
    unfold pCls at h
    cases ts with
    | nil => cases h
    | cons t r =>
      simp only at h
      split at h
      · cases h; simp
      · cases hx : cl a o (t :: r, g) with
        | error e => rw [hx] at h; cases h
        | ok p =>
          obtain ⟨x, q'⟩ := p
          rw [hx] at h
          simp only at h
          cases hy : pCls kd tt cl c (if kd x = 18 then 1 else (kd x).toNat - 16) (if kd x = 18 then o ++ [tt x] else o) q' with
          | error e => rw [hy] at h; cases h
          | ok p =>
            obtain ⟨l', q2⟩ := p
            rw [hy] at h
            cases h
            have := ih hy
            simp; omega
set_option maxRecDepth 100000 in
set_option maxHeartbeats 4000000 in
theorem form_hand {f : Nat} (ihN : NodeC f) (ihC : ∀ g, f = g + 1 → NodeC g) (rb B N d : Nat) (word : List UInt8) (parts : Nat) (hpt : parts ≤ 3) (hd : d + (f + 1) = 61) (st : Ps) (w : World) (h : RdP rb B N st w) (hG : Gv w) (hrb : 2 < rb) : Calls Tryd.prog 30 #[.pointer (some ⟨rb, 0, none⟩), foV ⟨word, 13, false, parts, false⟩, .int .i64 d] w (PostP (fun w' v x => NodeQ (fun b => w.heap.size ≤ b ∧ b < w'.heap.size) w' (f + 1) v x) rb B N w (pForm f (pN f).1 (pN f).2 ⟨word, 13, false, parts, false⟩ st)) := by
  have hlt := h.lt
  have hBw := h.2.2.2.2.1
  have hlb : rb < B := h.2.2.2.1
  have HG : Hid (Gv w) := hG
  have IN : Hid (NodeC f) := ihN
  have H0 : Hid (RdP rb B N st w) := h
  have hsl : st.1.length ≤ 100000 := h.2.2.1.2
  have hmm : ∀ w : World, (Instr.makeMap 83 none).run Tryd.prog w = .ok (.map (some w.heap.size)) (w.alloc (.map #[] 0)) := fun w => by first | rfl | simp [Instr.makeMap]
  have hfd : ∀ (v0 v1 v2 v3 : Value) (w : World), (Instr.field 50 (.agg #[v0, v1, v2, v3]) 0).run Tryd.prog w = .ok v0 w := fun v0 v1 v2 v3 w => by kernel_rfl
  have hwd : IntKind.i64.wrap ((d : Int) + 1) = (d : Int) + 1 := i64w _ (by omega) (by omega)
  have IC : Hid (∀ g, f = g + 1 → NodeC g) := ihC
  clear ihC
  have e0 : pForm f (pN f).1 (pN f).2 ⟨word, 13, false, parts, false⟩ st = (match pMany (pN f).1 parts st with
      | .error e => .error e
      | .ok (l, st3) => match pCls (knd f) (ttL f) (pN f).2 (st3.1.length + 1) 0 [] st3 with
        | .error e => .error e
        | .ok (l3, st5) => .ok ((⟨13, 0, bsB [], [], l ++ [] ++ l3⟩ : Nd (Tr f)), st5)) := by
    unfold pForm
    simp 
    try rfl
  rw [e0]
  generalize hR : (match pMany (pN f).1 parts st with
      | .error e => .error e
      | .ok (l, st3) => match pCls (knd f) (ttL f) (pN f).2 (st3.1.length + 1) 0 [] st3 with
        | .error e => .error e
        | .ok (l3, st5) => .ok ((⟨13, 0, bsB [], [], l ++ [] ++ l3⟩ : Nd (Tr f)), st5) : Pr (Tr (f + 1))) = R
  have HQ : Hid ((match pMany (pN f).1 parts st with
      | .error e => .error e
      | .ok (l, st3) => match pCls (knd f) (ttL f) (pN f).2 (st3.1.length + 1) 0 [] st3 with
        | .error e => .error e
        | .ok (l3, st5) => .ok ((⟨13, 0, bsB [], [], l ++ [] ++ l3⟩ : Nd (Tr f)), st5) : Pr (Tr (f + 1))) = R) := hR
  clear hR e0 hG ihN h
  show Calls Tryd.prog 30 #[.pointer (some ⟨rb, 0, none⟩), .agg #[.string ⟨word.toArray⟩, .int .u8 13, .bool false, .int .i64 parts, .bool false], .int .i64 d] w _
  go_enter Tryd.func30, Tryd.ntmps30
  go_wp2_with (fail)
  obtain ⟨W, hW⟩ : ∃ W, W = (((w.alloc (.cells #[.string ⟨word.toArray⟩, .int .u8 13, .bool false, .int .i64 parts, .bool false] 64)).alloc (.cells #[.int .u8 0, .int .i64 0, .string ⟨#[]⟩, .slice none 0 0, .slice none 0 0] 26)).alloc (.cells #[.int .u8 13, .int .i64 0, .string ⟨#[]⟩, .slice none 0 0, .slice none 0 0] 26)) := ⟨_, rfl⟩
  have HBW : Hid (BW w W) := by show BW w W; rw [hW]; exact (by repeat (first | exact BW.refl _ | assumption | apply BW.alloc | apply BW.drewN | apply BW.drew | (refine BW.setCell ?_ (by first | omega | (simp; done) | (simp; omega)) _) | (refine BW.trans ?_ (by assumption))))
  have hzW : W.heap.size = w.heap.size + 1 + 1 + 1 := by rw [hW]; simp
  have HGn : Hid (W.heap[w.heap.size + 1 + 1]? = some (.cells #[.int .u8 13, .int .i64 0, .string ⟨#[]⟩, .slice none 0 0, .slice none 0 0] 26 (0, 0))) := by
    show _ = _
    rw [hW]
    
    have := heap_alloc_new ((w.alloc (.cells #[.string ⟨word.toArray⟩, .int .u8 13, .bool false, .int .i64 parts, .bool false] 64)).alloc (.cells #[.int .u8 0, .int .i64 0, .string ⟨#[]⟩, .slice none 0 0, .slice none 0 0] 26)) (.cells #[.int .u8 13, .int .i64 0, .string ⟨#[]⟩, .slice none 0 0, .slice none 0 0] 26)
    simpa using this
  have HGr : Hid (W.heap[w.heap.size + 1]? = some (.cells #[.int .u8 0, .int .i64 0, .string ⟨#[]⟩, .slice none 0 0, .slice none 0 0] 26 (0, 0))) := by
    show _ = _
    rw [hW]
    refine ((BW.alloc (BW.refl _) _).block _ (by simp)).trans ?_
    have := heap_alloc_new (w.alloc (.cells #[.string ⟨word.toArray⟩, .int .u8 13, .bool false, .int .i64 parts, .bool false] 64)) (.cells #[.int .u8 0, .int .i64 0, .string ⟨#[]⟩, .slice none 0 0, .slice none 0 0] 26)
    simpa using this
  have HGa : Hid (W.heap[w.heap.size]? = some (.cells #[.string ⟨word.toArray⟩, .int .u8 13, .bool false, .int .i64 parts, .bool false] 64 (0, 0))) := by
    show _ = _
    rw [hW]
    refine ((BW.alloc (BW.alloc (BW.refl _) _) _).block _ (by simp)).trans ?_
    exact heap_alloc_new w _
  rw [← hW]
  clear hW
  have HRk : Hid (RdP rb B N st W) := H0.out.bw HBW.out
  have HFk : Hid (Fl rb w W) := HBW.out.fl rb
  have HGv : Hid (Gv W) := HG.out.fl HFk.out hrb
  have CN : Hid (Calls Tryd.prog 29 #[.pointer (some ⟨rb, 0, none⟩), .int .i64 parts, .int .i64 ((d : Int) + 1)] W (PostP (fun w' v l => QRow w' W.heap.size f v l) rb B N W (pMany (pN f).1 parts st))) := by
    have := nodes_of IN.out rb B N (d + 1) parts (by omega) (by omega) st W HRk.out HGv.out hrb
    push_cast at this
    exact this
  cases hp : pMany (pN f).1 parts st with
  | error er =>
    rw [hp] at CN HQ
    obtain rfl : R = .error er := HQ.out.symm
    have CN2 : Hid (Calls Tryd.prog 29 #[.pointer (some ⟨rb, 0, none⟩), .int .i64 parts, .int .i64 ((d : Int) + 1)] W (fun e w' => e = .panicked (thrP N er) ∧ Fl rb W w')) := CN.out
    clear hp HQ CN
    refine CN2.out.mono ?_
    rintro e w9 ⟨rfl, f9⟩
    exact ⟨rfl, rfl, HFk.out.trans f9⟩
  | ok p =>
    obtain ⟨l, q3⟩ := p
    have hlq3 : Hid (l.length = parts) := many_len hp
    have hle3 : Hid (q3.1.length ≤ st.1.length) := many_le (fun st x q h => Nat.le_of_lt ((pN_lt f).1 st x q h)) parts hp
    rw [hp] at CN HQ
    have CN2 : Hid (Calls Tryd.prog 29 #[.pointer (some ⟨rb, 0, none⟩), .int .i64 parts, .int .i64 ((d : Int) + 1)] W (fun e w' => ∃ v, e = .returned v ∧ QRow w' W.heap.size f v l ∧ RdP rb B N q3 w' ∧ Fl rb W w')) := CN.out
    clear hp CN
    refine CN2.out.mono ?_
    rintro e w3 ⟨v3, rfl, Q3, R3, F3⟩
    obtain ⟨ao, cp, rfl, _⟩ := Q3.seq
    have hz3 := F3.size
    have HGn3 : Hid (w3.heap[w.heap.size + 1 + 1]? = some (.cells #[.int .u8 13, .int .i64 0, .string ⟨#[]⟩, .slice none 0 0, .slice none 0 0] 26 (0, 0))) := (F3.block _ (by omega) (by omega)).trans HGn.out
    have HGr3 : Hid (w3.heap[w.heap.size + 1]? = some (.cells #[.int .u8 0, .int .i64 0, .string ⟨#[]⟩, .slice none 0 0, .slice none 0 0] 26 (0, 0))) := (F3.block _ (by omega) (by omega)).trans HGr.out
    have HGa3 : Hid (w3.heap[w.heap.size]? = some (.cells _ 64 (0, 0))) := (F3.block _ (by omega) (by omega)).trans HGa.out
    have j0 : w3.cell? ⟨w.heap.size + 1 + 1, 0, none⟩ = some (.int .u8 13) := by rw [Lib.cell_of_heap HGn3.out]; rfl
    have j1 : w3.cell? ⟨w.heap.size + 1 + 1, 1, none⟩ = some (.int .i64 0) := by rw [Lib.cell_of_heap HGn3.out]; rfl
    have j2 : w3.cell? ⟨w.heap.size + 1 + 1, 2, none⟩ = some (.string ⟨#[]⟩) := by rw [Lib.cell_of_heap HGn3.out]; rfl
    have j3 : w3.cell? ⟨w.heap.size + 1 + 1, 3, none⟩ = some (.slice none 0 0) := by rw [Lib.cell_of_heap HGn3.out]; rfl
    have j4 : w3.cell? ⟨w.heap.size + 1 + 1, 4, none⟩ = some (.slice none 0 0) := by rw [Lib.cell_of_heap HGn3.out]; rfl
    have jz : ∀ o, w3.frozen? ⟨w.heap.size + 1 + 1, o, none⟩ = false := fun o => Lib.frozen_of_heap HGn3.out o
    have HR3 : Hid (RdP rb B N q3 w3) := R3
    have HF3 : Hid (Fl rb w w3) := HFk.out.trans F3
    have HFk3 : Hid (Fl rb W w3) := F3
    have HQ3 : Hid (QRow w3 W.heap.size f (.slice ao l.length cp) l) := Q3
    clear R3 F3 Q3 CN2 HGn HGr HGa HGv HFk
    go_wp2_with (fail)
    obtain ⟨X, hX⟩ : ∃ X, X = w3.setCell ⟨w.heap.size + 1 + 1, 4, none⟩ (.slice ao l.length cp) := ⟨_, rfl⟩
    have hzX : X.heap.size = w3.heap.size := by rw [hX]; simp [World.setCell]
    have hXo : ∀ b, ¬ b = w.heap.size + 1 + 1 → X.heap[b]? = w3.heap[b]? := fun b hb => by rw [hX]; exact sco _ hb
    have HGn : Hid (X.heap[w.heap.size + 1 + 1]? = some (.cells #[.int .u8 13, .int .i64 0, .string ⟨#[]⟩, .slice none 0 0, .slice ao l.length cp] 26 (0, 0))) := by show _ = _; rw [hX]; exact heap_setCell_same w3 (w.heap.size + 1 + 1) 4 _ 26 _ HGn3.out
    have HGr : Hid (X.heap[w.heap.size + 1]? = some (.cells #[.int .u8 0, .int .i64 0, .string ⟨#[]⟩, .slice none 0 0, .slice none 0 0] 26 (0, 0))) := (hXo _ (by omega)).trans HGr3.out
    have HGa : Hid (X.heap[w.heap.size]? = some (.cells _ 64 (0, 0))) := (hXo _ (by omega)).trans HGa3.out
    have HRX : Hid (RdP rb B N q3 X) := HR3.out.up (fun b hb => hXo b (by omega)) (by omega)
    have HFX : Hid (Fl rb w X) := HF3.out.hi (fun b hb => hXo b (by omega)) (by rw [hX]; rfl) (by rw [hX]; rfl) (by rw [hX]; rfl) (by omega)
    have HQX : Hid (QRow X W.heap.size f (.slice ao l.length cp) l) := HQ3.out.keep (fun b hb _ => hXo b (by omega)) (by omega)
    have hBX : B ≤ X.heap.size := by omega

    rw [← hX]
    clear hX j0 j1 j2 j3 j4 jz HGn3 HGr3 HGa3 HR3 HF3 HQ3 HRk
    have a1 : X.cell? ⟨w.heap.size, 1, none⟩ = some (.int .u8 13) := by rw [Lib.cell_of_heap HGa.out]; rfl
    have a4 : X.cell? ⟨w.heap.size, 4, none⟩ = some (.bool false) := by rw [Lib.cell_of_heap HGa.out]; rfl
    go_loopw [30] (fun _ wr => wr = X) (fun _ _ => 0)
    case atStart => rfl
    case round =>
      subst wr
      have hll : l.length ≤ 3 := by have := hlq3.out; omega
      have hle := hle3.out
      have HRGv : Hid (Gv X) := HG.out.fl HFX.out hrb
      have CC : Hid (∀ w', BW X w' → Calls Tryd.prog 42 #[.pointer (some ⟨rb, 0, none⟩), .int .i64 ((d : Int) + 1)] w' (PostP (fun w'' v l => QRow w'' w'.heap.size f v l) rb B N w' (pCls (knd f) (ttL f) (pN f).2 (q3.1.length + 1) 0 [] q3))) := fun w' hb => by
        have := clauses_any IC.out rb B N (d + 1) (by omega) q3 w' (HRX.out.bw hb) (HRGv.out.bw hb) hrb
        push_cast at this
        exact this
      have x4 : X.cell? ⟨w.heap.size + 1 + 1, 4, none⟩ = some (.slice ao l.length cp) := by rw [Lib.cell_of_heap HGn.out]; rfl
      have xz : ∀ o, X.frozen? ⟨w.heap.size + 1 + 1, o, none⟩ = false := fun o => Lib.frozen_of_heap HGn.out o
      clear hlq3 hle3 HFk3 hXo
      cases hp : pCls (knd f) (ttL f) (pN f).2 (q3.1.length + 1) 0 [] q3 with
      | error er =>
        rw [hp] at CC HQ
        obtain rfl : R = .error er := HQ.out.symm
        have CC2 : Hid (∀ w', BW X w' → Calls Tryd.prog 42 #[.pointer (some ⟨rb, 0, none⟩), .int .i64 ((d : Int) + 1)] w' (fun e w'' => e = .panicked (thrP N er) ∧ Fl rb w' w'')) := CC.out
        clear hp HQ CC
        go_wp2_with (fail)
        refine wp_region_held_drew (S := fun _ => True) (by kernel_rfl) trivial (fun hHeld => ?_)
        refine wpAnyH_take (i := 0) (v := ?va0) rfl (by kernel_rfl) (by kernel_rfl) (by kernel_rfl) (fun _ _ _ h => h) (Or.inl ⟨by kernel_rfl, ?hya0⟩) (by trivial) ?resta0
        case hya0 => (intro w hSw; (try dsimp only at hSw); go_simp; first | done | with_reducible rfl)
        try simp only [Act.put, List.setIfInBounds_toArray, List.set_cons_zero, List.set_cons_succ]
        refine wpAnyH_take (i := 2) (v := ?va2) rfl (by kernel_rfl) (by kernel_rfl) (by kernel_rfl) (fun _ _ _ h => h) (Or.inl ⟨by kernel_rfl, ?hya2⟩) (by trivial) ?resta2
        case hya2 => (intro w hSw; (try dsimp only at hSw); go_simp; first | done | with_reducible rfl)
        try simp only [Act.put, List.setIfInBounds_toArray, List.set_cons_zero, List.set_cons_succ]
        refine wpAnyH_take (i := 3) (v := ?va3) rfl (by kernel_rfl) (by kernel_rfl) (by kernel_rfl) (fun _ _ _ h => h) (Or.inl ⟨by kernel_rfl, ?hya3⟩) (by trivial) ?resta3
        case hya3 => (intro w hSw; (try dsimp only at hSw); go_simp; first | done | with_reducible rfl)
        try simp only [Act.put, List.setIfInBounds_toArray, List.set_cons_zero, List.set_cons_succ]
        refine wpAnyH_take (i := 4) (v := ?va4) rfl (by kernel_rfl) (by kernel_rfl) (by kernel_rfl) (fun _ _ _ h => h) (Or.inl ⟨by kernel_rfl, ?hya4⟩) (by trivial) ?resta4
        case hya4 => (intro w hSw; (try dsimp only at hSw); go_simp; first | done | with_reducible rfl)
        try simp only [Act.put, List.setIfInBounds_toArray, List.set_cons_zero, List.set_cons_succ]
        refine wpAnyH_ready (rs := [1, 5]) (by kernel_rfl) (by simp) ?_
        refine AllReadyH.cons rfl (fun K hK => ?_) (AllReadyH.cons rfl (fun K hK => ?_) AllReadyH.nil)
        · go_simp
          refine hK.out _ _ trivial (fun _ => ?_)
          clear hK K
          try simp only [Act.put, List.setIfInBounds_toArray, List.set_cons_zero, List.set_cons_succ]
          refine wpAnyH_ready (rs := [5]) (by kernel_rfl) (by simp) ?_
          refine AllReadyH.cons rfl (fun K hK => ?_) AllReadyH.nil
          go_simp
          refine (CC2.out _ (by repeat (first | exact BW.refl _ | assumption | apply BW.alloc | apply BW.drewN | apply BW.drew | (refine BW.setCell ?_ (by first | omega | (simp; done) | (simp; omega)) _) | (refine BW.trans ?_ (by assumption))))).mono ?_
          rintro e w3 ⟨rfl, f3⟩
          exact ⟨rfl, rfl, HFX.out.trans (Fl.trans (BW.fl (by repeat (first | exact BW.refl _ | assumption | apply BW.alloc | apply BW.drewN | apply BW.drew | (refine BW.setCell ?_ (by first | omega | (simp; done) | (simp; omega)) _) | (refine BW.trans ?_ (by assumption)))) rb) f3)⟩
        · clear hK
          go_simp
          refine (CC2.out _ (by repeat (first | exact BW.refl _ | assumption | apply BW.alloc | apply BW.drewN | apply BW.drew | (refine BW.setCell ?_ (by first | omega | (simp; done) | (simp; omega)) _) | (refine BW.trans ?_ (by assumption))))).mono ?_
          rintro e w3 ⟨rfl, f3⟩
          exact ⟨rfl, rfl, HFX.out.trans (Fl.trans (BW.fl (by repeat (first | exact BW.refl _ | assumption | apply BW.alloc | apply BW.drewN | apply BW.drew | (refine BW.setCell ?_ (by first | omega | (simp; done) | (simp; omega)) _) | (refine BW.trans ?_ (by assumption)))) rb) f3)⟩
      | ok p =>
        obtain ⟨m, q4⟩ := p
        have hml := cls_len hp
        rw [hp] at CC HQ
        obtain rfl : R = .ok ((⟨13, 0, bsB [], [], l ++ m⟩ : Nd (Tr f)), q4) := by rw [← HQ.out]; simp
        have CC2 : Hid (∀ w', BW X w' → Calls Tryd.prog 42 #[.pointer (some ⟨rb, 0, none⟩), .int .i64 ((d : Int) + 1)] w' (fun e w'' => ∃ v, e = .returned v ∧ QRow w'' w'.heap.size f v m ∧ RdP rb B N q4 w'' ∧ Fl rb w' w'')) := CC.out
        clear hp HQ CC
        go_wp2_with (fail)
        refine wp_region_held_drew (S := fun _ => True) (by kernel_rfl) trivial (fun hHeld => ?_)
        refine wpAnyH_take (i := 0) (v := ?vb0) rfl (by kernel_rfl) (by kernel_rfl) (by kernel_rfl) (fun _ _ _ h => h) (Or.inl ⟨by kernel_rfl, ?hyb0⟩) (by trivial) ?restb0
        case hyb0 => (intro w hSw; (try dsimp only at hSw); go_simp; first | done | with_reducible rfl)
        try simp only [Act.put, List.setIfInBounds_toArray, List.set_cons_zero, List.set_cons_succ]
        refine wpAnyH_take (i := 2) (v := ?vb2) rfl (by kernel_rfl) (by kernel_rfl) (by kernel_rfl) (fun _ _ _ h => h) (Or.inl ⟨by kernel_rfl, ?hyb2⟩) (by trivial) ?restb2
        case hyb2 => (intro w hSw; (try dsimp only at hSw); go_simp; first | done | with_reducible rfl)
        try simp only [Act.put, List.setIfInBounds_toArray, List.set_cons_zero, List.set_cons_succ]
        refine wpAnyH_take (i := 3) (v := ?vb3) rfl (by kernel_rfl) (by kernel_rfl) (by kernel_rfl) (fun _ _ _ h => h) (Or.inl ⟨by kernel_rfl, ?hyb3⟩) (by trivial) ?restb3
        case hyb3 => (intro w hSw; (try dsimp only at hSw); go_simp; first | done | with_reducible rfl)
        try simp only [Act.put, List.setIfInBounds_toArray, List.set_cons_zero, List.set_cons_succ]
        refine wpAnyH_take (i := 4) (v := ?vb4) rfl (by kernel_rfl) (by kernel_rfl) (by kernel_rfl) (fun _ _ _ h => h) (Or.inl ⟨by kernel_rfl, ?hyb4⟩) (by trivial) ?restb4
        case hyb4 => (intro w hSw; (try dsimp only at hSw); go_simp; first | done | with_reducible rfl)
        try simp only [Act.put, List.setIfInBounds_toArray, List.set_cons_zero, List.set_cons_succ]
        refine wpAnyH_ready (rs := [1, 5]) (by kernel_rfl) (by simp) ?_
        refine AllReadyH.cons rfl (fun K hK => ?_) (AllReadyH.cons rfl (fun K hK => ?_) AllReadyH.nil)
        · go_simp
          refine hK.out _ _ trivial (fun _ => ?_)
          clear hK K
          try simp only [Act.put, List.setIfInBounds_toArray, List.set_cons_zero, List.set_cons_succ]
          refine wpAnyH_ready (rs := [5]) (by kernel_rfl) (by simp) ?_
          refine AllReadyH.cons rfl (fun K hK => ?_) AllReadyH.nil
          go_simp
          refine (CC2.out _ (by repeat (first | exact BW.refl _ | assumption | apply BW.alloc | apply BW.drewN | apply BW.drew | (refine BW.setCell ?_ (by first | omega | (simp; done) | (simp; omega)) _) | (refine BW.trans ?_ (by assumption))))).mono ?_
          rintro e w3 ⟨v3, rfl, Q3, R3, f3⟩
          dsimp only
          refine hK.out _ _ trivial (fun _ => ?_)
          clear hK K
          try simp only [Act.put, List.setIfInBounds_toArray, List.set_cons_zero, List.set_cons_succ]
          have bD : BW X X.drew := (by repeat (first | exact BW.refl _ | assumption | apply BW.alloc | apply BW.drewN | apply BW.drew | (refine BW.setCell ?_ (by first | omega | (simp; done) | (simp; omega)) _) | (refine BW.trans ?_ (by assumption))))
          have hz3 := f3.size
          simp at hz3
          have HGn3 : Hid (w3.heap[w.heap.size + 1 + 1]? = some (.cells #[.int .u8 13, .int .i64 0, .string ⟨#[]⟩, .slice none 0 0, .slice ao l.length cp] 26 (0, 0))) := (f3.block _ (by simp; omega) (by omega)).trans HGn.out
          have HGr3 : Hid (w3.heap[w.heap.size + 1]? = some (.cells #[.int .u8 0, .int .i64 0, .string ⟨#[]⟩, .slice none 0 0, .slice none 0 0] 26 (0, 0))) := (f3.block _ (by simp; omega) (by omega)).trans HGr.out
          have HR3 : Hid (RdP rb B N q4 w3) := R3
          have HF3 : Hid (Fl rb w w3) := HFX.out.trans ((bD.fl rb).trans f3)
          have hB3 := R3.2.2.2.2.1
          have HW3 : Hid (QRow w3 (w.heap.size + 1 + 1 + 1) f (.slice ao l.length cp) l) := (HQX.out.keep (fun b hb hl => f3.block b (by simpa using hl) (by omega)) (by omega)).low (by omega)
          have HC3 : Hid (QRow w3 X.heap.size f v3 m) := by show QRow _ _ _ _ _; simpa using Q3
          have hvo : ∀ b, (.slice ao l.length cp : Value).ownBlock = some b → b < X.heap.size := fun b e => by
            obtain ⟨rs', _, ho', _⟩ := HQX.out
            exact (ho'.lt b e).2
          have y4 : w3.cell? ⟨w.heap.size + 1 + 1, 4, none⟩ = some (.slice ao l.length cp) := by rw [Lib.cell_of_heap HGn3.out]; rfl
          clear Q3 R3 f3 CC2 HRX HFX HQX HGn HGr HGa bD x4 xz
          obtain ⟨a4', n4', c4', w4, hrun, HA, hlo, hz4, ho4, ht4, hp4⟩ := append_row HW3.out HC3.out hvo (by omega) (by omega) (by omega)
          have HW4 : Hid (QRow w4 (w.heap.size + 1 + 1 + 1) f (.slice a4' n4' c4') (l ++ m)) := HA
          have HGn4 : Hid (w4.heap[w.heap.size + 1 + 1]? = some (.cells #[.int .u8 13, .int .i64 0, .string ⟨#[]⟩, .slice none 0 0, .slice ao l.length cp] 26 (0, 0))) := (hlo _ (by omega)).trans HGn3.out
          have HGr4 : Hid (w4.heap[w.heap.size + 1]? = some (.cells #[.int .u8 0, .int .i64 0, .string ⟨#[]⟩, .slice none 0 0, .slice none 0 0] 26 (0, 0))) := (hlo _ (by omega)).trans HGr3.out
          have HR4 : Hid (RdP rb B N q4 w4) := HR3.out.up (fun b hb => hlo b (by omega)) (by omega)
          have HF4 : Hid (Fl rb w w4) := HF3.out.hi (fun b hb => hlo b (by omega)) ho4 ht4 hp4 (by omega)
          have i0 : w4.cell? ⟨w.heap.size + 1 + 1, 0, none⟩ = some (.int .u8 13) := by rw [Lib.cell_of_heap HGn4.out]; rfl
          have i1 : w4.cell? ⟨w.heap.size + 1 + 1, 1, none⟩ = some (.int .i64 0) := by rw [Lib.cell_of_heap HGn4.out]; rfl
          have i2 : w4.cell? ⟨w.heap.size + 1 + 1, 2, none⟩ = some (.string ⟨#[]⟩) := by rw [Lib.cell_of_heap HGn4.out]; rfl
          have i3 : w4.cell? ⟨w.heap.size + 1 + 1, 3, none⟩ = some (.slice none 0 0) := by rw [Lib.cell_of_heap HGn4.out]; rfl
          have i4 : w4.cell? ⟨w.heap.size + 1 + 1, 4, none⟩ = some (.slice ao l.length cp) := by rw [Lib.cell_of_heap HGn4.out]; rfl
          have iz : ∀ o, w4.frozen? ⟨w.heap.size + 1 + 1, o, none⟩ = false := fun o => Lib.frozen_of_heap HGn4.out o
          clear HA hlo ho4 ht4 hp4 HW3 HC3 HR3 HF3 HGn3 HGr3 hvo y4
          refine wpAnyH_ready (rs := [6]) (by kernel_rfl) (by simp) ?_
          refine AllReadyH.cons rfl (fun K hK => ?_) AllReadyH.nil
          refine if_w (by kernel_rfl) ?_
          refine wp_append_nds _ _ rfl rfl rfl hrun ?_
          refine hK.out _ _ trivial (fun _ => ?_)
          clear hK K hrun
          try simp only [Act.put, List.setIfInBounds_toArray, List.set_cons_zero, List.set_cons_succ]
          refine wpAnyH_take (i := 7) (v := ?vc7) rfl (by kernel_rfl) (by kernel_rfl) (by kernel_rfl) (fun _ _ _ h => h) (Or.inl ⟨by kernel_rfl, ?hyc7⟩) (by trivial) ?restc7
          case hyc7 => (intro w hSw; (try dsimp only at hSw); go_simp; first | done | with_reducible rfl)
          try simp only [Act.put, List.setIfInBounds_toArray, List.set_cons_zero, List.set_cons_succ]
          refine wpAnyH_ready (rs := [8]) (by kernel_rfl) (by simp) ?_
          refine AllReadyH.cons rfl (fun K hK => ?_) AllReadyH.nil
          go_simp
          refine hK.out _ _ trivial (fun _ => ?_)
          clear hK K
          try simp only [Act.put, List.setIfInBounds_toArray, List.set_cons_zero, List.set_cons_succ]
          refine wpAnyH_done (by kernel_rfl) ?_ _
          obtain ⟨w5, hw5⟩ : ∃ w5, w5 = w4.setCell ⟨w.heap.size + 1 + 1, 4, none⟩ (.slice a4' n4' c4') := ⟨_, rfl⟩
          have hz5 : w5.heap.size = w4.heap.size := by rw [hw5]; simp [World.setCell]
          have h5o : ∀ b, ¬ b = w.heap.size + 1 + 1 → w5.heap[b]? = w4.heap[b]? := fun b hb => by rw [hw5]; exact sco _ hb
          have HGn : Hid (w5.heap[w.heap.size + 1 + 1]? = some (.cells #[.int .u8 13, .int .i64 0, .string ⟨#[]⟩, .slice none 0 0, (.slice a4' n4' c4')] 26 (0, 0))) := by show _ = _; rw [hw5]; exact heap_setCell_same w4 (w.heap.size + 1 + 1) 4 _ 26 _ HGn4.out
          have HGr : Hid (w5.heap[w.heap.size + 1]? = some (.cells #[.int .u8 0, .int .i64 0, .string ⟨#[]⟩, .slice none 0 0, .slice none 0 0] 26 (0, 0))) := (h5o _ (by omega)).trans HGr4.out
          have HRX : Hid (RdP rb B N q4 w5) := HR4.out.up (fun b hb => h5o b (by omega)) (by omega)
          have HFX : Hid (Fl rb w w5) := HF4.out.hi (fun b hb => h5o b (by omega)) (by rw [hw5]; rfl) (by rw [hw5]; rfl) (by rw [hw5]; rfl) (by omega)
          have HQ5 : QRow w5 (w.heap.size + 1 + 1 + 1) f (.slice a4' n4' c4') (l ++ m) := HW4.out.keep (fun b hb _ => h5o b (by omega)) (by omega)
          have hB5 : B ≤ w5.heap.size := by omega
          rw [← hw5]
          clear hw5 h5o HGn4 HGr4 HR4 HF4 HW4 i0 i1 i2 i3 i4 iz
          generalize hL : l ++ m = L at HQ5
          have HL : Hid (l ++ m = L) := hL
          clear hL
          obtain ⟨ao5, cp5, heq, S, q1, q2, q4'⟩ := HQ5.seq
          cases heq
          have j0 : w5.cell? ⟨w.heap.size + 1 + 1, 0, none⟩ = some (.int .u8 13) := by rw [Lib.cell_of_heap HGn.out]; rfl
          have j1 : w5.cell? ⟨w.heap.size + 1 + 1, 1, none⟩ = some (.int .i64 0) := by rw [Lib.cell_of_heap HGn.out]; rfl
          have j2 : w5.cell? ⟨w.heap.size + 1 + 1, 2, none⟩ = some (.string ⟨#[]⟩) := by rw [Lib.cell_of_heap HGn.out]; rfl
          have j3 : w5.cell? ⟨w.heap.size + 1 + 1, 3, none⟩ = some (.slice none 0 0) := by rw [Lib.cell_of_heap HGn.out]; rfl
          have j4 : w5.cell? ⟨w.heap.size + 1 + 1, 4, none⟩ = some (.slice a4' L.length c4') := by rw [Lib.cell_of_heap HGn.out]; rfl
          have jz : ∀ o, w5.frozen? ⟨w.heap.size + 1 + 1, o, none⟩ = false := fun o => Lib.frozen_of_heap HGn.out o
          have k0 : w5.cell? ⟨w.heap.size + 1, 0, none⟩ = some (.int .u8 0) := by rw [Lib.cell_of_heap HGr.out]; rfl
          have k1 : w5.cell? ⟨w.heap.size + 1, 1, none⟩ = some (.int .i64 0) := by rw [Lib.cell_of_heap HGr.out]; rfl
          have k2 : w5.cell? ⟨w.heap.size + 1, 2, none⟩ = some (.string ⟨#[]⟩) := by rw [Lib.cell_of_heap HGr.out]; rfl
          have k3 : w5.cell? ⟨w.heap.size + 1, 3, none⟩ = some (.slice none 0 0) := by rw [Lib.cell_of_heap HGr.out]; rfl
          have k4 : w5.cell? ⟨w.heap.size + 1, 4, none⟩ = some (.slice none 0 0) := by rw [Lib.cell_of_heap HGr.out]; rfl
          have kz : ∀ o, w5.frozen? ⟨w.heap.size + 1, o, none⟩ = false := fun o => Lib.frozen_of_heap HGr.out o
          go_wp2_with (fail)
          have HK : ∀ b, ¬ b = w.heap.size + 1 → (((((w5.setCell ⟨w.heap.size + 1, 0, none⟩ (.int .u8 13)).setCell ⟨w.heap.size + 1, 1, none⟩ (.int .i64 0)).setCell ⟨w.heap.size + 1, 2, none⟩ (.string ⟨#[]⟩)).setCell ⟨w.heap.size + 1, 3, none⟩ (.slice none 0 0)).setCell ⟨w.heap.size + 1, 4, none⟩ (.slice a4' (L).length c4')).heap[b]? = w5.heap[b]? := fun b h1 => set5o h1
          have S5 := set5 (a := .int .u8 13) (c := .int .i64 0) (d := .string ⟨#[]⟩) (e := .slice none 0 0) (f := .slice a4' (L).length c4') HGr.out
          have G1 : RdP rb B N q4 (((((w5.setCell ⟨w.heap.size + 1, 0, none⟩ (.int .u8 13)).setCell ⟨w.heap.size + 1, 1, none⟩ (.int .i64 0)).setCell ⟨w.heap.size + 1, 2, none⟩ (.string ⟨#[]⟩)).setCell ⟨w.heap.size + 1, 3, none⟩ (.slice none 0 0)).setCell ⟨w.heap.size + 1, 4, none⟩ (.slice a4' (L).length c4')) := HRX.out.up (fun j hj => HK j (by omega)) (by simp [World.setCell]; omega)
          have G3 : Fl rb w (((((w5.setCell ⟨w.heap.size + 1, 0, none⟩ (.int .u8 13)).setCell ⟨w.heap.size + 1, 1, none⟩ (.int .i64 0)).setCell ⟨w.heap.size + 1, 2, none⟩ (.string ⟨#[]⟩)).setCell ⟨w.heap.size + 1, 3, none⟩ (.slice none 0 0)).setCell ⟨w.heap.size + 1, 4, none⟩ (.slice a4' (L).length c4')) := HFX.out.set5 (by omega)
          generalize hWf : (((((w5.setCell ⟨w.heap.size + 1, 0, none⟩ (.int .u8 13)).setCell ⟨w.heap.size + 1, 1, none⟩ (.int .i64 0)).setCell ⟨w.heap.size + 1, 2, none⟩ (.string ⟨#[]⟩)).setCell ⟨w.heap.size + 1, 3, none⟩ (.slice none 0 0)).setCell ⟨w.heap.size + 1, 4, none⟩ (.slice a4' (L).length c4')) = wf at HK G1 G3 S5 ⊢
          have hzf : wf.heap.size = w5.heap.size := by rw [← hWf]; simp [World.setCell]
          have HN : NodeQ (fun b => w.heap.size + 1 + 1 + 1 ≤ b ∧ b < w5.heap.size) w5 (f + 1) (ndv 13 0 ⟨#[]⟩ none 0 0 a4' (L).length c4') ((⟨13, 0, bsB [], [], L⟩ : Nd (Tr f)) : Tr (f + 1)) := ⟨none, 0, 0, a4', (L).length, c4', rfl, wf_any 13 0 [] [] (L) (by omega) (by omega) (by decide) (by decide) (by simp), ⟨Nat.le_refl _, Nat.zero_le _, q1, q2⟩, ⟨rfl, Nat.zero_le _, (by intro s hs; cases hs), .inl rfl⟩, S.imp (fun v x h => NodeQ.keep (fun b hb => ⟨by omega, hb.2⟩) (fun _ _ _ => rfl) (Nat.le_refl _) h), .inl rfl, (by rcases q4' with h | ⟨b, off, h1, h2, h3⟩; exact .inl h; exact .inr ⟨b, off, h1, by omega, h3⟩)⟩
          have G4 : NodeQ (fun b => w.heap.size ≤ b ∧ b < wf.heap.size) wf (f + 1) (ndv 13 0 ⟨#[]⟩ none 0 0 a4' (L).length c4') ((⟨13, 0, bsB [], [], L⟩ : Nd (Tr f)) : Tr (f + 1)) := NodeQ.keep (fun b hb => ⟨by omega, by omega⟩) (fun b hb hl => HK b (by omega)) (by omega) HN
          have eL := HL.out
          subst eL
          exact end_node Tryd.func30 6 rfl rfl S5 ⟨_, rfl, G4, G1, G3⟩
        · go_simp
          refine (CC2.out _ (by repeat (first | exact BW.refl _ | assumption | apply BW.alloc | apply BW.drewN | apply BW.drew | (refine BW.setCell ?_ (by first | omega | (simp; done) | (simp; omega)) _) | (refine BW.trans ?_ (by assumption))))).mono ?_
          rintro e w3 ⟨v3, rfl, Q3, R3, f3⟩
          dsimp only
          refine hK.out _ _ trivial (fun _ => ?_)
          clear hK K
          try simp only [Act.put, List.setIfInBounds_toArray, List.set_cons_zero, List.set_cons_succ]
          have bD : BW X X.drew := (by repeat (first | exact BW.refl _ | assumption | apply BW.alloc | apply BW.drewN | apply BW.drew | (refine BW.setCell ?_ (by first | omega | (simp; done) | (simp; omega)) _) | (refine BW.trans ?_ (by assumption))))
          have hz3 := f3.size
          simp at hz3
          have HGn3 : Hid (w3.heap[w.heap.size + 1 + 1]? = some (.cells #[.int .u8 13, .int .i64 0, .string ⟨#[]⟩, .slice none 0 0, .slice ao l.length cp] 26 (0, 0))) := (f3.block _ (by simp; omega) (by omega)).trans HGn.out
          have HGr3 : Hid (w3.heap[w.heap.size + 1]? = some (.cells #[.int .u8 0, .int .i64 0, .string ⟨#[]⟩, .slice none 0 0, .slice none 0 0] 26 (0, 0))) := (f3.block _ (by simp; omega) (by omega)).trans HGr.out
          have HR3 : Hid (RdP rb B N q4 w3) := R3
          have HF3 : Hid (Fl rb w w3) := HFX.out.trans ((bD.fl rb).trans f3)
          have hB3 := R3.2.2.2.2.1
          have HW3 : Hid (QRow w3 (w.heap.size + 1 + 1 + 1) f (.slice ao l.length cp) l) := (HQX.out.keep (fun b hb hl => f3.block b (by simpa using hl) (by omega)) (by omega)).low (by omega)
          have HC3 : Hid (QRow w3 X.heap.size f v3 m) := by show QRow _ _ _ _ _; simpa using Q3
          have hvo : ∀ b, (.slice ao l.length cp : Value).ownBlock = some b → b < X.heap.size := fun b e => by
            obtain ⟨rs', _, ho', _⟩ := HQX.out
            exact (ho'.lt b e).2
          have y4 : w3.cell? ⟨w.heap.size + 1 + 1, 4, none⟩ = some (.slice ao l.length cp) := by rw [Lib.cell_of_heap HGn3.out]; rfl
          clear Q3 R3 f3 CC2 HRX HFX HQX HGn HGr HGa bD x4 xz
          refine wpAnyH_ready (rs := [1]) (by kernel_rfl) (by simp) ?_
          refine AllReadyH.cons rfl (fun K hK => ?_) AllReadyH.nil
          go_simp
          refine hK.out _ _ trivial (fun _ => ?_)
          clear hK K
          try simp only [Act.put, List.setIfInBounds_toArray, List.set_cons_zero, List.set_cons_succ]
          obtain ⟨a4', n4', c4', w4, hrun, HA, hlo, hz4, ho4, ht4, hp4⟩ := append_row HW3.out HC3.out hvo (by omega) (by omega) (by omega)
          have HW4 : Hid (QRow w4 (w.heap.size + 1 + 1 + 1) f (.slice a4' n4' c4') (l ++ m)) := HA
          have HGn4 : Hid (w4.heap[w.heap.size + 1 + 1]? = some (.cells #[.int .u8 13, .int .i64 0, .string ⟨#[]⟩, .slice none 0 0, .slice ao l.length cp] 26 (0, 0))) := (hlo _ (by omega)).trans HGn3.out
          have HGr4 : Hid (w4.heap[w.heap.size + 1]? = some (.cells #[.int .u8 0, .int .i64 0, .string ⟨#[]⟩, .slice none 0 0, .slice none 0 0] 26 (0, 0))) := (hlo _ (by omega)).trans HGr3.out
          have HR4 : Hid (RdP rb B N q4 w4) := HR3.out.up (fun b hb => hlo b (by omega)) (by omega)
          have HF4 : Hid (Fl rb w w4) := HF3.out.hi (fun b hb => hlo b (by omega)) ho4 ht4 hp4 (by omega)
          have i0 : w4.cell? ⟨w.heap.size + 1 + 1, 0, none⟩ = some (.int .u8 13) := by rw [Lib.cell_of_heap HGn4.out]; rfl
          have i1 : w4.cell? ⟨w.heap.size + 1 + 1, 1, none⟩ = some (.int .i64 0) := by rw [Lib.cell_of_heap HGn4.out]; rfl
          have i2 : w4.cell? ⟨w.heap.size + 1 + 1, 2, none⟩ = some (.string ⟨#[]⟩) := by rw [Lib.cell_of_heap HGn4.out]; rfl
          have i3 : w4.cell? ⟨w.heap.size + 1 + 1, 3, none⟩ = some (.slice none 0 0) := by rw [Lib.cell_of_heap HGn4.out]; rfl
          have i4 : w4.cell? ⟨w.heap.size + 1 + 1, 4, none⟩ = some (.slice ao l.length cp) := by rw [Lib.cell_of_heap HGn4.out]; rfl
          have iz : ∀ o, w4.frozen? ⟨w.heap.size + 1 + 1, o, none⟩ = false := fun o => Lib.frozen_of_heap HGn4.out o
          clear HA hlo ho4 ht4 hp4 HW3 HC3 HR3 HF3 HGn3 HGr3 hvo y4
          refine wpAnyH_ready (rs := [6]) (by kernel_rfl) (by simp) ?_
          refine AllReadyH.cons rfl (fun K hK => ?_) AllReadyH.nil
          refine if_w (by kernel_rfl) ?_
          refine wp_append_nds _ _ rfl rfl rfl hrun ?_
          refine hK.out _ _ trivial (fun _ => ?_)
          clear hK K hrun
          try simp only [Act.put, List.setIfInBounds_toArray, List.set_cons_zero, List.set_cons_succ]
          refine wpAnyH_take (i := 7) (v := ?vd7) rfl (by kernel_rfl) (by kernel_rfl) (by kernel_rfl) (fun _ _ _ h => h) (Or.inl ⟨by kernel_rfl, ?hyd7⟩) (by trivial) ?restd7
          case hyd7 => (intro w hSw; (try dsimp only at hSw); go_simp; first | done | with_reducible rfl)
          try simp only [Act.put, List.setIfInBounds_toArray, List.set_cons_zero, List.set_cons_succ]
          refine wpAnyH_ready (rs := [8]) (by kernel_rfl) (by simp) ?_
          refine AllReadyH.cons rfl (fun K hK => ?_) AllReadyH.nil
          go_simp
          refine hK.out _ _ trivial (fun _ => ?_)
          clear hK K
          try simp only [Act.put, List.setIfInBounds_toArray, List.set_cons_zero, List.set_cons_succ]
          refine wpAnyH_done (by kernel_rfl) ?_ _
          obtain ⟨w5, hw5⟩ : ∃ w5, w5 = w4.setCell ⟨w.heap.size + 1 + 1, 4, none⟩ (.slice a4' n4' c4') := ⟨_, rfl⟩
          have hz5 : w5.heap.size = w4.heap.size := by rw [hw5]; simp [World.setCell]
          have h5o : ∀ b, ¬ b = w.heap.size + 1 + 1 → w5.heap[b]? = w4.heap[b]? := fun b hb => by rw [hw5]; exact sco _ hb
          have HGn : Hid (w5.heap[w.heap.size + 1 + 1]? = some (.cells #[.int .u8 13, .int .i64 0, .string ⟨#[]⟩, .slice none 0 0, (.slice a4' n4' c4')] 26 (0, 0))) := by show _ = _; rw [hw5]; exact heap_setCell_same w4 (w.heap.size + 1 + 1) 4 _ 26 _ HGn4.out
          have HGr : Hid (w5.heap[w.heap.size + 1]? = some (.cells #[.int .u8 0, .int .i64 0, .string ⟨#[]⟩, .slice none 0 0, .slice none 0 0] 26 (0, 0))) := (h5o _ (by omega)).trans HGr4.out
          have HRX : Hid (RdP rb B N q4 w5) := HR4.out.up (fun b hb => h5o b (by omega)) (by omega)
          have HFX : Hid (Fl rb w w5) := HF4.out.hi (fun b hb => h5o b (by omega)) (by rw [hw5]; rfl) (by rw [hw5]; rfl) (by rw [hw5]; rfl) (by omega)
          have HQ5 : QRow w5 (w.heap.size + 1 + 1 + 1) f (.slice a4' n4' c4') (l ++ m) := HW4.out.keep (fun b hb _ => h5o b (by omega)) (by omega)
          have hB5 : B ≤ w5.heap.size := by omega
          rw [← hw5]
          clear hw5 h5o HGn4 HGr4 HR4 HF4 HW4 i0 i1 i2 i3 i4 iz
          generalize hL : l ++ m = L at HQ5
          have HL : Hid (l ++ m = L) := hL
          clear hL
          obtain ⟨ao5, cp5, heq, S, q1, q2, q4'⟩ := HQ5.seq
          cases heq
          have j0 : w5.cell? ⟨w.heap.size + 1 + 1, 0, none⟩ = some (.int .u8 13) := by rw [Lib.cell_of_heap HGn.out]; rfl
          have j1 : w5.cell? ⟨w.heap.size + 1 + 1, 1, none⟩ = some (.int .i64 0) := by rw [Lib.cell_of_heap HGn.out]; rfl
          have j2 : w5.cell? ⟨w.heap.size + 1 + 1, 2, none⟩ = some (.string ⟨#[]⟩) := by rw [Lib.cell_of_heap HGn.out]; rfl
          have j3 : w5.cell? ⟨w.heap.size + 1 + 1, 3, none⟩ = some (.slice none 0 0) := by rw [Lib.cell_of_heap HGn.out]; rfl
          have j4 : w5.cell? ⟨w.heap.size + 1 + 1, 4, none⟩ = some (.slice a4' L.length c4') := by rw [Lib.cell_of_heap HGn.out]; rfl
          have jz : ∀ o, w5.frozen? ⟨w.heap.size + 1 + 1, o, none⟩ = false := fun o => Lib.frozen_of_heap HGn.out o
          have k0 : w5.cell? ⟨w.heap.size + 1, 0, none⟩ = some (.int .u8 0) := by rw [Lib.cell_of_heap HGr.out]; rfl
          have k1 : w5.cell? ⟨w.heap.size + 1, 1, none⟩ = some (.int .i64 0) := by rw [Lib.cell_of_heap HGr.out]; rfl
          have k2 : w5.cell? ⟨w.heap.size + 1, 2, none⟩ = some (.string ⟨#[]⟩) := by rw [Lib.cell_of_heap HGr.out]; rfl
          have k3 : w5.cell? ⟨w.heap.size + 1, 3, none⟩ = some (.slice none 0 0) := by rw [Lib.cell_of_heap HGr.out]; rfl
          have k4 : w5.cell? ⟨w.heap.size + 1, 4, none⟩ = some (.slice none 0 0) := by rw [Lib.cell_of_heap HGr.out]; rfl
          have kz : ∀ o, w5.frozen? ⟨w.heap.size + 1, o, none⟩ = false := fun o => Lib.frozen_of_heap HGr.out o
          go_wp2_with (fail)
          have HK : ∀ b, ¬ b = w.heap.size + 1 → (((((w5.setCell ⟨w.heap.size + 1, 0, none⟩ (.int .u8 13)).setCell ⟨w.heap.size + 1, 1, none⟩ (.int .i64 0)).setCell ⟨w.heap.size + 1, 2, none⟩ (.string ⟨#[]⟩)).setCell ⟨w.heap.size + 1, 3, none⟩ (.slice none 0 0)).setCell ⟨w.heap.size + 1, 4, none⟩ (.slice a4' (L).length c4')).heap[b]? = w5.heap[b]? := fun b h1 => set5o h1
          have S5 := set5 (a := .int .u8 13) (c := .int .i64 0) (d := .string ⟨#[]⟩) (e := .slice none 0 0) (f := .slice a4' (L).length c4') HGr.out
          have G1 : RdP rb B N q4 (((((w5.setCell ⟨w.heap.size + 1, 0, none⟩ (.int .u8 13)).setCell ⟨w.heap.size + 1, 1, none⟩ (.int .i64 0)).setCell ⟨w.heap.size + 1, 2, none⟩ (.string ⟨#[]⟩)).setCell ⟨w.heap.size + 1, 3, none⟩ (.slice none 0 0)).setCell ⟨w.heap.size + 1, 4, none⟩ (.slice a4' (L).length c4')) := HRX.out.up (fun j hj => HK j (by omega)) (by simp [World.setCell]; omega)
          have G3 : Fl rb w (((((w5.setCell ⟨w.heap.size + 1, 0, none⟩ (.int .u8 13)).setCell ⟨w.heap.size + 1, 1, none⟩ (.int .i64 0)).setCell ⟨w.heap.size + 1, 2, none⟩ (.string ⟨#[]⟩)).setCell ⟨w.heap.size + 1, 3, none⟩ (.slice none 0 0)).setCell ⟨w.heap.size + 1, 4, none⟩ (.slice a4' (L).length c4')) := HFX.out.set5 (by omega)
          generalize hWf : (((((w5.setCell ⟨w.heap.size + 1, 0, none⟩ (.int .u8 13)).setCell ⟨w.heap.size + 1, 1, none⟩ (.int .i64 0)).setCell ⟨w.heap.size + 1, 2, none⟩ (.string ⟨#[]⟩)).setCell ⟨w.heap.size + 1, 3, none⟩ (.slice none 0 0)).setCell ⟨w.heap.size + 1, 4, none⟩ (.slice a4' (L).length c4')) = wf at HK G1 G3 S5 ⊢
          have hzf : wf.heap.size = w5.heap.size := by rw [← hWf]; simp [World.setCell]
          have HN : NodeQ (fun b => w.heap.size + 1 + 1 + 1 ≤ b ∧ b < w5.heap.size) w5 (f + 1) (ndv 13 0 ⟨#[]⟩ none 0 0 a4' (L).length c4') ((⟨13, 0, bsB [], [], L⟩ : Nd (Tr f)) : Tr (f + 1)) := ⟨none, 0, 0, a4', (L).length, c4', rfl, wf_any 13 0 [] [] (L) (by omega) (by omega) (by decide) (by decide) (by simp), ⟨Nat.le_refl _, Nat.zero_le _, q1, q2⟩, ⟨rfl, Nat.zero_le _, (by intro s hs; cases hs), .inl rfl⟩, S.imp (fun v x h => NodeQ.keep (fun b hb => ⟨by omega, hb.2⟩) (fun _ _ _ => rfl) (Nat.le_refl _) h), .inl rfl, (by rcases q4' with h | ⟨b, off, h1, h2, h3⟩; exact .inl h; exact .inr ⟨b, off, h1, by omega, h3⟩)⟩
          have G4 : NodeQ (fun b => w.heap.size ≤ b ∧ b < wf.heap.size) wf (f + 1) (ndv 13 0 ⟨#[]⟩ none 0 0 a4' (L).length c4') ((⟨13, 0, bsB [], [], L⟩ : Nd (Tr f)) : Tr (f + 1)) := NodeQ.keep (fun b hb => ⟨by omega, by omega⟩) (fun b hb hl => HK b (by omega)) (by omega) HN
          have eL := HL.out
          subst eL
          exact end_node Tryd.func30 6 rfl rfl S5 ⟨_, rfl, G4, G1, G3⟩

end Go.Proofs.YtlacjiihbbgbeaaDoor
