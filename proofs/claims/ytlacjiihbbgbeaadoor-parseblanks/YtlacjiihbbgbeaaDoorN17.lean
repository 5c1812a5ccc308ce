import Derived.Test.YtlacjiihbbgbeaaDoorN16
namespace Go.Proofs.YtlacjiihbbgbeaaDoor
open Go.RowKit
set_option linter.unusedVariables false
set_option linter.unusedSimpArgs false

theorem many_len {X : Type} {node : Ps → Pr X} : ∀ {c : Nat} {st : Ps} {l : List X} {q : Ps}, pMany node c st = .ok (l, q) → l.length = c := by
  intro c
  induction c with
  | zero => intro st l q h; cases h; rfl
  | succ c ih =>
    intro st l q h
    unfold pMany at h
    cases hx : node st with
    | error e => rw [hx] at h; cases h
    | ok p =>
      obtain ⟨x, q'⟩ := p
      rw [hx] at h
      simp only at h
      cases hy : pMany node c q' with
      | error e => rw [hy] at h; cases h
      | ok p =>
        obtain ⟨l', q2⟩ := p
        rw [hy] at h
        cases h
        simp [ih hy]
set_option maxRecDepth 100000 in
set_option maxHeartbeats 4000000 in
theorem form_plain {f : Nat} (ihN : NodeC f) (rb B N d : Nat) (word : List UInt8) (k parts : Nat) (hk : k ≤ 255) (h6 : ¬ k = 6) (h13 : ¬ k = 13) (hpt : parts ≤ 3) (hd : d + (f + 1) = 61) (st : Ps) (w : World) (h : RdP rb B N st w) (hG : Gv w) (hrb : 2 < rb) : Calls Tryd.prog 30 #[.pointer (some ⟨rb, 0, none⟩), foV ⟨word, k, false, parts, false⟩, .int .i64 d] w (PostP (fun w' v x => NodeQ (fun b => w.heap.size ≤ b ∧ b < w'.heap.size) w' (f + 1) v x) rb B N w (pForm f (pN f).1 (pN f).2 ⟨word, k, false, parts, false⟩ st)) := by
  have hlt := h.lt
  have hBw := h.2.2.2.2.1
  have hlb : rb < B := h.2.2.2.1
  have HG : Hid (Gv w) := hG
  have IN : Hid (NodeC f) := ihN
  have H0 : Hid (RdP rb B N st w) := h
  have hsl : st.1.length ≤ 100000 := h.2.2.1.2
  have hmm : ∀ w : World, (Instr.makeMap 83 none).run Tryd.prog w = .ok (.map (some w.heap.size)) (w.alloc (.map #[] 0)) := fun w => by first | rfl | simp [Instr.makeMap]
  have hfd : ∀ (v0 v1 v2 v3 : Value) (w : World), (Instr.field 50 (.agg #[v0, v1, v2, v3]) 0).run Tryd.prog w = .ok v0 w := fun v0 v1 v2 v3 w => by kernel_rfl
  have hwd : IntKind.i64.wrap ((d : Int) + 1) = (d : Int) + 1 := i64w _ (by omega) (by omega)
  have c6 : ((k : Int) == 6) = false := by simp; omega
  have c13 : ((k : Int) == 13) = false := by simp; omega
  have e0 : pForm f (pN f).1 (pN f).2 ⟨word, k, false, parts, false⟩ st = (match pMany (pN f).1 parts st with
    | .error e => .error e
    | .ok (l, st3) => .ok ((⟨k, 0, bsB [], [], l ++ [] ++ []⟩ : Nd (Tr f)), st3)) := by
    unfold pForm
    simp [h6, h13]
    rfl
  rw [e0]
  generalize hR : (match pMany (pN f).1 parts st with
    | .error e => .error e
    | .ok (l, st3) => .ok ((⟨k, 0, bsB [], [], l ++ [] ++ []⟩ : Nd (Tr f)), st3) : Pr (Tr (f + 1))) = R
  have HQ : Hid ((match pMany (pN f).1 parts st with
    | .error e => .error e
    | .ok (l, st3) => .ok ((⟨k, 0, bsB [], [], l ++ [] ++ []⟩ : Nd (Tr f)), st3) : Pr (Tr (f + 1))) = R) := hR
  clear hR e0 hG ihN h
  show Calls Tryd.prog 30 #[.pointer (some ⟨rb, 0, none⟩), .agg #[.string ⟨word.toArray⟩, .int .u8 k, .bool false, .int .i64 parts, .bool false], .int .i64 d] w _
  go_enter Tryd.func30, Tryd.ntmps30
  go_wp2_with (fail)
  obtain ⟨W, hW⟩ : ∃ W, W = (((w.alloc (.cells #[.string ⟨word.toArray⟩, .int .u8 k, .bool false, .int .i64 parts, .bool false] 64)).alloc (.cells #[.int .u8 0, .int .i64 0, .string ⟨#[]⟩, .slice none 0 0, .slice none 0 0] 26)).alloc (.cells #[.int .u8 k, .int .i64 0, .string ⟨#[]⟩, .slice none 0 0, .slice none 0 0] 26)) := ⟨_, rfl⟩
  have HBW : Hid (BW w W) := by show BW w W; rw [hW]; exact (by repeat (first | exact BW.refl _ | assumption | apply BW.alloc | apply BW.drewN | apply BW.drew | (refine BW.setCell ?_ (by first | omega | (simp; done) | (simp; omega)) _) | (refine BW.trans ?_ (by assumption))))
  have hzW : W.heap.size = w.heap.size + 1 + 1 + 1 := by rw [hW]; simp
  have HGn : Hid (W.heap[w.heap.size + 1 + 1]? = some (.cells #[.int .u8 k, .int .i64 0, .string ⟨#[]⟩, .slice none 0 0, .slice none 0 0] 26 (0, 0))) := by
    show _ = _
    rw [hW]
    
    have := heap_alloc_new ((w.alloc (.cells #[.string ⟨word.toArray⟩, .int .u8 k, .bool false, .int .i64 parts, .bool false] 64)).alloc (.cells #[.int .u8 0, .int .i64 0, .string ⟨#[]⟩, .slice none 0 0, .slice none 0 0] 26)) (.cells #[.int .u8 k, .int .i64 0, .string ⟨#[]⟩, .slice none 0 0, .slice none 0 0] 26)
    simpa using this
  have HGr : Hid (W.heap[w.heap.size + 1]? = some (.cells #[.int .u8 0, .int .i64 0, .string ⟨#[]⟩, .slice none 0 0, .slice none 0 0] 26 (0, 0))) := by
    show _ = _
    rw [hW]
    refine ((BW.alloc (BW.refl _) _).block _ (by simp)).trans ?_
    have := heap_alloc_new (w.alloc (.cells #[.string ⟨word.toArray⟩, .int .u8 k, .bool false, .int .i64 parts, .bool false] 64)) (.cells #[.int .u8 0, .int .i64 0, .string ⟨#[]⟩, .slice none 0 0, .slice none 0 0] 26)
    simpa using this
  have HGa : Hid (W.heap[w.heap.size]? = some (.cells #[.string ⟨word.toArray⟩, .int .u8 k, .bool false, .int .i64 parts, .bool false] 64 (0, 0))) := by
    show _ = _
    rw [hW]
    refine ((BW.alloc (BW.alloc (BW.refl _) _) _).block _ (by simp)).trans ?_
    exact heap_alloc_new w _
  rw [← hW]
  clear hW
  have HRk : Hid (RdP rb B N st W) := H0.out.bw HBW.out
  have HFk : Hid (Fl rb w W) := HBW.out.fl rb
  have HGv : Hid (Gv W) := HG.out.fl HFk.out hrb
  have CN : Hid (Calls Tryd.prog 29 #[.pointer (some ⟨rb, 0, none⟩), .int .i64 parts, .int .i64 ((d : Int) + 1)] W (PostP (fun w' v l => QRow w' W.heap.size f v l) rb B N W (pMany (pN f).1 parts st))) := by
    have := nodes_of IN.out rb B N (d + 1) parts (by omega) (by omega) st W HRk.out HGv.out hrb
    push_cast at this
    exact this
  cases hp : pMany (pN f).1 parts st with
  | error er =>
    rw [hp] at CN HQ
    obtain rfl : R = .error er := HQ.out.symm
    have CN2 : Hid (Calls Tryd.prog 29 #[.pointer (some ⟨rb, 0, none⟩), .int .i64 parts, .int .i64 ((d : Int) + 1)] W (fun e w' => e = .panicked (thrP N er) ∧ Fl rb W w')) := CN.out
    clear hp HQ CN
    refine CN2.out.mono ?_
    rintro e w9 ⟨rfl, f9⟩
    exact ⟨rfl, rfl, HFk.out.trans f9⟩
  | ok p =>
    obtain ⟨l, q3⟩ := p
    have hlq3 : Hid (l.length = parts) := many_len hp
    rw [hp] at CN HQ
    have CN2 : Hid (Calls Tryd.prog 29 #[.pointer (some ⟨rb, 0, none⟩), .int .i64 parts, .int .i64 ((d : Int) + 1)] W (fun e w' => ∃ v, e = .returned v ∧ QRow w' W.heap.size f v l ∧ RdP rb B N q3 w' ∧ Fl rb W w')) := CN.out
    clear hp CN
    refine CN2.out.mono ?_
    rintro e w3 ⟨v3, rfl, Q3, R3, F3⟩
    obtain ⟨ao, cp, rfl, _⟩ := Q3.seq
    have hz3 := F3.size
    have HGn3 : Hid (w3.heap[w.heap.size + 1 + 1]? = some (.cells #[.int .u8 k, .int .i64 0, .string ⟨#[]⟩, .slice none 0 0, .slice none 0 0] 26 (0, 0))) := (F3.block _ (by omega) (by omega)).trans HGn.out
    have HGr3 : Hid (w3.heap[w.heap.size + 1]? = some (.cells #[.int .u8 0, .int .i64 0, .string ⟨#[]⟩, .slice none 0 0, .slice none 0 0] 26 (0, 0))) := (F3.block _ (by omega) (by omega)).trans HGr.out
    have HGa3 : Hid (w3.heap[w.heap.size]? = some (.cells _ 64 (0, 0))) := (F3.block _ (by omega) (by omega)).trans HGa.out
    have j0 : w3.cell? ⟨w.heap.size + 1 + 1, 0, none⟩ = some (.int .u8 k) := by rw [Lib.cell_of_heap HGn3.out]; rfl
    have j1 : w3.cell? ⟨w.heap.size + 1 + 1, 1, none⟩ = some (.int .i64 0) := by rw [Lib.cell_of_heap HGn3.out]; rfl
    have j2 : w3.cell? ⟨w.heap.size + 1 + 1, 2, none⟩ = some (.string ⟨#[]⟩) := by rw [Lib.cell_of_heap HGn3.out]; rfl
    have j3 : w3.cell? ⟨w.heap.size + 1 + 1, 3, none⟩ = some (.slice none 0 0) := by rw [Lib.cell_of_heap HGn3.out]; rfl
    have j4 : w3.cell? ⟨w.heap.size + 1 + 1, 4, none⟩ = some (.slice none 0 0) := by rw [Lib.cell_of_heap HGn3.out]; rfl
    have jz : ∀ o, w3.frozen? ⟨w.heap.size + 1 + 1, o, none⟩ = false := fun o => Lib.frozen_of_heap HGn3.out o
    have HR3 : Hid (RdP rb B N q3 w3) := R3
    have HF3 : Hid (Fl rb w w3) := HFk.out.trans F3
    have HFk3 : Hid (Fl rb W w3) := F3
    have HQ3 : Hid (QRow w3 W.heap.size f (.slice ao l.length cp) l) := Q3
    clear R3 F3 Q3 CN2 HGn HGr HGa HGv HFk
    go_wp2_with (fail)
    obtain ⟨X, hX⟩ : ∃ X, X = w3.setCell ⟨w.heap.size + 1 + 1, 4, none⟩ (.slice ao l.length cp) := ⟨_, rfl⟩
    have hzX : X.heap.size = w3.heap.size := by rw [hX]; simp [World.setCell]
    have hXo : ∀ b, ¬ b = w.heap.size + 1 + 1 → X.heap[b]? = w3.heap[b]? := fun b hb => by rw [hX]; exact sco _ hb
    have HGn : Hid (X.heap[w.heap.size + 1 + 1]? = some (.cells #[.int .u8 k, .int .i64 0, .string ⟨#[]⟩, .slice none 0 0, .slice ao l.length cp] 26 (0, 0))) := by show _ = _; rw [hX]; exact heap_setCell_same w3 (w.heap.size + 1 + 1) 4 _ 26 _ HGn3.out
    have HGr : Hid (X.heap[w.heap.size + 1]? = some (.cells #[.int .u8 0, .int .i64 0, .string ⟨#[]⟩, .slice none 0 0, .slice none 0 0] 26 (0, 0))) := (hXo _ (by omega)).trans HGr3.out
    have HGa : Hid (X.heap[w.heap.size]? = some (.cells _ 64 (0, 0))) := (hXo _ (by omega)).trans HGa3.out
    have HRX : Hid (RdP rb B N q3 X) := HR3.out.up (fun b hb => hXo b (by omega)) (by omega)
    have HFX : Hid (Fl rb w X) := HF3.out.hi (fun b hb => hXo b (by omega)) (by rw [hX]; rfl) (by rw [hX]; rfl) (by rw [hX]; rfl) (by omega)
    have HQX : Hid (QRow X W.heap.size f (.slice ao l.length cp) l) := HQ3.out.keep (fun b hb _ => hXo b (by omega)) (by omega)
    have hBX : B ≤ X.heap.size := by omega

    rw [← hX]
    clear hX j0 j1 j2 j3 j4 jz HGn3 HGr3 HGa3 HR3 HF3 HQ3 HRk
    have a1 : X.cell? ⟨w.heap.size, 1, none⟩ = some (.int .u8 k) := by rw [Lib.cell_of_heap HGa.out]; rfl
    have a4 : X.cell? ⟨w.heap.size, 4, none⟩ = some (.bool false) := by rw [Lib.cell_of_heap HGa.out]; rfl
    go_loopw [30] (fun _ wr => wr = X) (fun _ _ => 0)
    case atStart => rfl
    case round =>
      subst wr
      obtain rfl : R = .ok ((⟨k, 0, bsB [], [], l⟩ : Nd (Tr f)), q3) := by rw [← HQ.out]; simp
      clear HQ
      obtain ⟨ao2, cp2, heq, S, q1, q2, q4⟩ := HQX.out.seq
      cases heq
      have j0 : X.cell? ⟨w.heap.size + 1 + 1, 0, none⟩ = some (.int .u8 k) := by rw [Lib.cell_of_heap HGn.out]; rfl
      have j1 : X.cell? ⟨w.heap.size + 1 + 1, 1, none⟩ = some (.int .i64 0) := by rw [Lib.cell_of_heap HGn.out]; rfl
      have j2 : X.cell? ⟨w.heap.size + 1 + 1, 2, none⟩ = some (.string ⟨#[]⟩) := by rw [Lib.cell_of_heap HGn.out]; rfl
      have j3 : X.cell? ⟨w.heap.size + 1 + 1, 3, none⟩ = some (.slice none 0 0) := by rw [Lib.cell_of_heap HGn.out]; rfl
      have j4 : X.cell? ⟨w.heap.size + 1 + 1, 4, none⟩ = some (.slice ao l.length cp) := by rw [Lib.cell_of_heap HGn.out]; rfl
      have jz : ∀ o, X.frozen? ⟨w.heap.size + 1 + 1, o, none⟩ = false := fun o => Lib.frozen_of_heap HGn.out o
      have k0 : X.cell? ⟨w.heap.size + 1, 0, none⟩ = some (.int .u8 0) := by rw [Lib.cell_of_heap HGr.out]; rfl
      have k1 : X.cell? ⟨w.heap.size + 1, 1, none⟩ = some (.int .i64 0) := by rw [Lib.cell_of_heap HGr.out]; rfl
      have k2 : X.cell? ⟨w.heap.size + 1, 2, none⟩ = some (.string ⟨#[]⟩) := by rw [Lib.cell_of_heap HGr.out]; rfl
      have k3 : X.cell? ⟨w.heap.size + 1, 3, none⟩ = some (.slice none 0 0) := by rw [Lib.cell_of_heap HGr.out]; rfl
      have k4 : X.cell? ⟨w.heap.size + 1, 4, none⟩ = some (.slice none 0 0) := by rw [Lib.cell_of_heap HGr.out]; rfl
      have kz : ∀ o, X.frozen? ⟨w.heap.size + 1, o, none⟩ = false := fun o => Lib.frozen_of_heap HGr.out o
      go_wp2_with (fail)
      obtain ⟨qe, hqe⟩ : ∃ qe, qe = q3 := ⟨_, rfl⟩
      subst hqe
      have HK : ∀ b, ¬ b = w.heap.size + 1 → (((((X.setCell ⟨w.heap.size + 1, 0, none⟩ (.int .u8 k)).setCell ⟨w.heap.size + 1, 1, none⟩ (.int .i64 0)).setCell ⟨w.heap.size + 1, 2, none⟩ (.string ⟨#[]⟩)).setCell ⟨w.heap.size + 1, 3, none⟩ (.slice none 0 0)).setCell ⟨w.heap.size + 1, 4, none⟩ (.slice ao (l).length cp)).heap[b]? = X.heap[b]? := fun b h1 => set5o h1
      have S5 := set5 (a := .int .u8 k) (c := .int .i64 0) (d := .string ⟨#[]⟩) (e := .slice none 0 0) (f := .slice ao (l).length cp) HGr.out
      have G1 : RdP rb B N qe (((((X.setCell ⟨w.heap.size + 1, 0, none⟩ (.int .u8 k)).setCell ⟨w.heap.size + 1, 1, none⟩ (.int .i64 0)).setCell ⟨w.heap.size + 1, 2, none⟩ (.string ⟨#[]⟩)).setCell ⟨w.heap.size + 1, 3, none⟩ (.slice none 0 0)).setCell ⟨w.heap.size + 1, 4, none⟩ (.slice ao (l).length cp)) := HRX.out.up (fun j hj => HK j (by omega)) (by simp [World.setCell]; omega)
      have G3 : Fl rb w (((((X.setCell ⟨w.heap.size + 1, 0, none⟩ (.int .u8 k)).setCell ⟨w.heap.size + 1, 1, none⟩ (.int .i64 0)).setCell ⟨w.heap.size + 1, 2, none⟩ (.string ⟨#[]⟩)).setCell ⟨w.heap.size + 1, 3, none⟩ (.slice none 0 0)).setCell ⟨w.heap.size + 1, 4, none⟩ (.slice ao (l).length cp)) := HFX.out.set5 (by omega)
      generalize hWf : (((((X.setCell ⟨w.heap.size + 1, 0, none⟩ (.int .u8 k)).setCell ⟨w.heap.size + 1, 1, none⟩ (.int .i64 0)).setCell ⟨w.heap.size + 1, 2, none⟩ (.string ⟨#[]⟩)).setCell ⟨w.heap.size + 1, 3, none⟩ (.slice none 0 0)).setCell ⟨w.heap.size + 1, 4, none⟩ (.slice ao (l).length cp)) = wf at HK G1 G3 S5 ⊢
      have hzf : wf.heap.size = X.heap.size := by rw [← hWf]; simp [World.setCell]
      have HN : NodeQ (fun b => w.heap.size + 1 + 1 + 1 ≤ b ∧ b < X.heap.size) X (f + 1) (ndv k 0 ⟨#[]⟩ none 0 0 ao (l).length cp) ((⟨k, 0, bsB [], [], l⟩ : Nd (Tr f)) : Tr (f + 1)) := ⟨none, 0, 0, ao, (l).length, cp, rfl, wf_any k 0 [] [] (l) (by omega) (by omega) (by decide) (by decide) (by simp), ⟨Nat.le_refl _, Nat.zero_le _, q1, q2⟩, ⟨rfl, Nat.zero_le _, (by intro s hs; cases hs), .inl rfl⟩, S.imp (fun v x h => NodeQ.keep (fun b hb => ⟨by omega, hb.2⟩) (fun _ _ _ => rfl) (Nat.le_refl _) h), .inl rfl, (by rcases q4 with h | ⟨b, off, h1, h2, h3⟩; exact .inl h; exact .inr ⟨b, off, h1, by omega, h3⟩)⟩
      have G4 : NodeQ (fun b => w.heap.size ≤ b ∧ b < wf.heap.size) wf (f + 1) (ndv k 0 ⟨#[]⟩ none 0 0 ao (l).length cp) ((⟨k, 0, bsB [], [], l⟩ : Nd (Tr f)) : Tr (f + 1)) := NodeQ.keep (fun b hb => ⟨by omega, by omega⟩) (fun b hb hl => HK b (by omega)) (by omega) HN
      exact end_node Tryd.func30 6 rfl rfl S5 ⟨_, rfl, G4, G1, G3⟩

end Go.Proofs.YtlacjiihbbgbeaaDoor
