import Derived.Test.YtlacjiihbbgbeaaDoorN17
namespace Go.Proofs.YtlacjiihbbgbeaaDoor
open Go.RowKit
set_option linter.unusedVariables false
set_option linter.unusedSimpArgs false

/-- Names that lie in blocks from lo on. -/
def NmQ (w : World) (lo : Nat) (na : Option Addr) (n : Nat) (ns : List ByteArray) : Prop := StrsAt w na n ns ∧ (n = 0 ∨ ∃ b off, na = some ⟨b, off, none⟩ ∧ lo ≤ b ∧ b < w.heap.size)
theorem NmQ.keep {w w' : World} {lo n : Nat} {na : Option Addr} {ns : List ByteArray} (h : NmQ w lo na n ns) (k : ∀ b, lo ≤ b → b < w.heap.size → w'.heap[b]? = w.heap[b]?) (hz : w.heap.size ≤ w'.heap.size) : NmQ w' lo na n ns := by
  obtain ⟨⟨h1, h2, h3, h4⟩, p⟩ := h
  rcases p with p | ⟨b, off, rfl, pb, pl⟩
  · exact ⟨⟨h1, h2, h3, .inl p⟩, .inl p⟩
  · refine ⟨⟨h1, h2, h3, ?_⟩, .inr ⟨b, off, rfl, pb, by omega⟩⟩
    rcases h4 with h4 | ⟨b', off', e', hb, hc⟩
    · exact .inl h4
    · cases e'
      exact .inr ⟨b, off, rfl, by omega, fun i s hs => (cell_block (k b pb pl) _).trans (hc i s hs)⟩
set_option maxRecDepth 100000 in
set_option maxHeartbeats 4000000 in
theorem form_named {f : Nat} (ihN : NodeC f) (rb B N d : Nat) (word : List UInt8) (k parts : Nat) (hk : k ≤ 255) (h6 : ¬ k = 6) (h13 : ¬ k = 13) (hpt : parts ≤ 3) (hd : d + (f + 1) = 61) (st : Ps) (w : World) (h : RdP rb B N st w) (hG : Gv w) (hrb : 2 < rb) : Calls Tryd.prog 30 #[.pointer (some ⟨rb, 0, none⟩), foV ⟨word, k, true, parts, false⟩, .int .i64 d] w (PostP (fun w' v x => NodeQ (fun b => w.heap.size ≤ b ∧ b < w'.heap.size) w' (f + 1) v x) rb B N w (pForm f (pN f).1 (pN f).2 ⟨word, k, true, parts, false⟩ st)) := by
  have hlt := h.lt
  have hBw := h.2.2.2.2.1
  have hlb : rb < B := h.2.2.2.1
  have HG : Hid (Gv w) := hG
  have IN : Hid (NodeC f) := ihN
  have H0 : Hid (RdP rb B N st w) := h
  have hsl : st.1.length ≤ 100000 := h.2.2.1.2
  have hmm : ∀ w : World, (Instr.makeMap 83 none).run Tryd.prog w = .ok (.map (some w.heap.size)) (w.alloc (.map #[] 0)) := fun w => by first | rfl | simp [Instr.makeMap]
  have hfd : ∀ (v0 v1 v2 v3 : Value) (w : World), (Instr.field 50 (.agg #[v0, v1, v2, v3]) 0).run Tryd.prog w = .ok v0 w := fun v0 v1 v2 v3 w => by kernel_rfl
  have hwd : IntKind.i64.wrap ((d : Int) + 1) = (d : Int) + 1 := i64w _ (by omega) (by omega)
  have c6 : ((k : Int) == 6) = false := by simp; omega
  have c13 : ((k : Int) == 13) = false := by simp; omega
  have e0 : pForm f (pN f).1 (pN f).2 ⟨word, k, true, parts, false⟩ st = (match pName [] st with
    | .error e => .error e
    | .ok (s, st1) => match pMany (pN f).1 parts st1 with
      | .error e => .error e
      | .ok (l, st3) => .ok ((⟨k, 0, bsB s, [], l ++ [] ++ []⟩ : Nd (Tr f)), st3)) := by
    unfold pForm
    simp [h6, h13]
    try rfl
  rw [e0]
  generalize hR : (match pName [] st with
    | .error e => .error e
    | .ok (s, st1) => match pMany (pN f).1 parts st1 with
      | .error e => .error e
      | .ok (l, st3) => .ok ((⟨k, 0, bsB s, [], l ++ [] ++ []⟩ : Nd (Tr f)), st3) : Pr (Tr (f + 1))) = R
  have HQ : Hid ((match pName [] st with
    | .error e => .error e
    | .ok (s, st1) => match pMany (pN f).1 parts st1 with
      | .error e => .error e
      | .ok (l, st3) => .ok ((⟨k, 0, bsB s, [], l ++ [] ++ []⟩ : Nd (Tr f)), st3) : Pr (Tr (f + 1))) = R) := hR
  clear hR e0 hG ihN h
  show Calls Tryd.prog 30 #[.pointer (some ⟨rb, 0, none⟩), .agg #[.string ⟨word.toArray⟩, .int .u8 k, .bool true, .int .i64 parts, .bool false], .int .i64 d] w _
  go_enter Tryd.func30, Tryd.ntmps30
  go_wp2_with (fail)
  obtain ⟨W, hW⟩ : ∃ W, W = (((w.alloc (.cells #[.string ⟨word.toArray⟩, .int .u8 k, .bool true, .int .i64 parts, .bool false] 64)).alloc (.cells #[.int .u8 0, .int .i64 0, .string ⟨#[]⟩, .slice none 0 0, .slice none 0 0] 26)).alloc (.cells #[.int .u8 k, .int .i64 0, .string ⟨#[]⟩, .slice none 0 0, .slice none 0 0] 26)).alloc (.map #[] 0) := ⟨_, rfl⟩
  have HBW : Hid (BW w W) := by show BW w W; rw [hW]; exact (by repeat (first | exact BW.refl _ | assumption | apply BW.alloc | apply BW.drewN | apply BW.drew | (refine BW.setCell ?_ (by first | omega | (simp; done) | (simp; omega)) _) | (refine BW.trans ?_ (by assumption))))
  have hzW : W.heap.size = w.heap.size + 1 + 1 + 1 + 1 := by rw [hW]; simp
  have HGn : Hid (W.heap[w.heap.size + 1 + 1]? = some (.cells #[.int .u8 k, .int .i64 0, .string ⟨#[]⟩, .slice none 0 0, .slice none 0 0] 26 (0, 0))) := by
    show _ = _
    rw [hW]
    refine ((BW.alloc (BW.refl _) _).block _ (by simp)).trans ?_
    have := heap_alloc_new ((w.alloc (.cells #[.string ⟨word.toArray⟩, .int .u8 k, .bool true, .int .i64 parts, .bool false] 64)).alloc (.cells #[.int .u8 0, .int .i64 0, .string ⟨#[]⟩, .slice none 0 0, .slice none 0 0] 26)) (.cells #[.int .u8 k, .int .i64 0, .string ⟨#[]⟩, .slice none 0 0, .slice none 0 0] 26)
    simpa using this
  have HGr : Hid (W.heap[w.heap.size + 1]? = some (.cells #[.int .u8 0, .int .i64 0, .string ⟨#[]⟩, .slice none 0 0, .slice none 0 0] 26 (0, 0))) := by
    show _ = _
    rw [hW]
    refine ((BW.alloc (BW.alloc (BW.refl _) _) _).block _ (by simp)).trans ?_
    have := heap_alloc_new (w.alloc (.cells #[.string ⟨word.toArray⟩, .int .u8 k, .bool true, .int .i64 parts, .bool false] 64)) (.cells #[.int .u8 0, .int .i64 0, .string ⟨#[]⟩, .slice none 0 0, .slice none 0 0] 26)
    simpa using this
  have HGa : Hid (W.heap[w.heap.size]? = some (.cells #[.string ⟨word.toArray⟩, .int .u8 k, .bool true, .int .i64 parts, .bool false] 64 (0, 0))) := by
    show _ = _
    rw [hW]
    refine ((BW.alloc (BW.alloc (BW.alloc (BW.refl _) _) _) _).block _ (by simp)).trans ?_
    exact heap_alloc_new w _
  have HTn : Hid (TkIs W (w.heap.size + 1 + 1 + 1) []) := by
    show TkIs _ _ _
    have := TkIs.new (((w.alloc (.cells #[.string ⟨word.toArray⟩, .int .u8 k, .bool true, .int .i64 parts, .bool false] 64)).alloc (.cells #[.int .u8 0, .int .i64 0, .string ⟨#[]⟩, .slice none 0 0, .slice none 0 0] 26)).alloc (.cells #[.int .u8 k, .int .i64 0, .string ⟨#[]⟩, .slice none 0 0, .slice none 0 0] 26))
    rw [hW]; simpa using this
  rw [← hW]
  clear hW
  have CM : Hid (Calls Tryd.prog 40 #[.pointer (some ⟨rb, 0, none⟩), .map (some (w.heap.size + 1 + 1 + 1))] W (PostM rb B N (w.heap.size + 1 + 1 + 1) [] W (pName [] st))) := name_any rb B N _ [] st W (H0.out.bw HBW.out) HTn.out (by omega) (by simp)
  cases hn : pName [] st with
  | error er =>
    rw [hn] at CM HQ
    obtain rfl : R = .error er := HQ.out.symm
    have CM2 : Hid (Calls Tryd.prog 40 #[.pointer (some ⟨rb, 0, none⟩), .map (some (w.heap.size + 1 + 1 + 1))] W (fun e w' => e = .panicked (thrP N er) ∧ F2 rb (w.heap.size + 1 + 1 + 1) W w')) := CM.out
    clear hn HQ CM
    refine CM2.out.mono ?_
    rintro e w9 ⟨rfl, f9⟩
    exact ⟨rfl, rfl, F2.fl f9 (HBW.out.fl rb) (by omega)⟩
  | ok p =>
    obtain ⟨s, st1⟩ := p
    rw [hn] at CM HQ
    have CM2 : Hid (Calls Tryd.prog 40 #[.pointer (some ⟨rb, 0, none⟩), .map (some (w.heap.size + 1 + 1 + 1))] W (fun e w' => e = .returned (.string ⟨s.toArray⟩) ∧ RdP rb B N st1 w' ∧ TkIs w' (w.heap.size + 1 + 1 + 1) ([] ++ [s]) ∧ s.length ≤ 100000 ∧ F2 rb (w.heap.size + 1 + 1 + 1) W w')) := CM.out
    clear hn CM
    refine CM2.out.mono ?_
    rintro e w1 ⟨rfl, R1, _, hs1, f1⟩
    have hz1 := f1.size
    have HSB : Hid (s.length ≤ 100000) := hs1
    have HGn1 : Hid (w1.heap[w.heap.size + 1 + 1]? = some (.cells #[.int .u8 k, .int .i64 0, .string ⟨#[]⟩, .slice none 0 0, .slice none 0 0] 26 (0, 0))) := (f1.block _ (by omega) (by omega) (by omega)).trans HGn.out
    have HGr1 : Hid (w1.heap[w.heap.size + 1]? = some (.cells #[.int .u8 0, .int .i64 0, .string ⟨#[]⟩, .slice none 0 0, .slice none 0 0] 26 (0, 0))) := (f1.block _ (by omega) (by omega) (by omega)).trans HGr.out
    have HGa1 : Hid (w1.heap[w.heap.size]? = some (.cells _ 64 (0, 0))) := (f1.block _ (by omega) (by omega) (by omega)).trans HGa.out
    have HR1 : Hid (RdP rb B N st1 w1) := R1
    have HF1 : Hid (Fl rb w w1) := F2.fl f1 (HBW.out.fl rb) (by omega)
    clear HGn HGr HGa HTn R1 f1 CM2 hs1 HBW
    obtain ⟨Y, hY⟩ : ∃ Y, Y = w1.setCell ⟨w.heap.size + 1 + 1, 2, none⟩ (.string ⟨s.toArray⟩) := ⟨_, rfl⟩
    have hzY : Y.heap.size = w1.heap.size := by rw [hY]; simp [World.setCell]
    have hYo : ∀ b, ¬ b = w.heap.size + 1 + 1 → Y.heap[b]? = w1.heap[b]? := fun b hb => by rw [hY]; exact sco _ hb
    have HGn : Hid (Y.heap[w.heap.size + 1 + 1]? = some (.cells #[.int .u8 k, .int .i64 0, .string ⟨s.toArray⟩, .slice none 0 0, .slice none 0 0] 26 (0, 0))) := by show _ = _; rw [hY]; exact heap_setCell_same w1 (w.heap.size + 1 + 1) 2 _ 26 _ HGn1.out
    have HGr : Hid (Y.heap[w.heap.size + 1]? = some (.cells #[.int .u8 0, .int .i64 0, .string ⟨#[]⟩, .slice none 0 0, .slice none 0 0] 26 (0, 0))) := (hYo _ (by omega)).trans HGr1.out
    have HGa : Hid (Y.heap[w.heap.size]? = some (.cells _ 64 (0, 0))) := (hYo _ (by omega)).trans HGa1.out
    have HRk : Hid (RdP rb B N st1 Y) := HR1.out.up (fun b hb => hYo b (by omega)) (by omega)
    have HFk : Hid (Fl rb w Y) := HF1.out.hi (fun b hb => hYo b (by omega)) (by rw [hY]; rfl) (by rw [hY]; rfl) (by rw [hY]; rfl) (by omega)
    have j0 : w1.cell? ⟨w.heap.size + 1 + 1, 0, none⟩ = some (.int .u8 k) := by rw [Lib.cell_of_heap HGn1.out]; rfl
    have j1 : w1.cell? ⟨w.heap.size + 1 + 1, 1, none⟩ = some (.int .i64 0) := by rw [Lib.cell_of_heap HGn1.out]; rfl
    have j2 : w1.cell? ⟨w.heap.size + 1 + 1, 2, none⟩ = some (.string ⟨#[]⟩) := by rw [Lib.cell_of_heap HGn1.out]; rfl
    have j3 : w1.cell? ⟨w.heap.size + 1 + 1, 3, none⟩ = some (.slice none 0 0) := by rw [Lib.cell_of_heap HGn1.out]; rfl
    have j4 : w1.cell? ⟨w.heap.size + 1 + 1, 4, none⟩ = some (.slice none 0 0) := by rw [Lib.cell_of_heap HGn1.out]; rfl
    have jz : ∀ o, w1.frozen? ⟨w.heap.size + 1 + 1, o, none⟩ = false := fun o => Lib.frozen_of_heap HGn1.out o
    have a1 : (w1.setCell ⟨w.heap.size + 1 + 1, 2, none⟩ (.string ⟨s.toArray⟩)).cell? ⟨w.heap.size, 1, none⟩ = some (.int .u8 k) := by rw [← hY, Lib.cell_of_heap HGa.out]; rfl
    have a3 : (w1.setCell ⟨w.heap.size + 1 + 1, 2, none⟩ (.string ⟨s.toArray⟩)).cell? ⟨w.heap.size, 3, none⟩ = some (.int .i64 parts) := by rw [← hY, Lib.cell_of_heap HGa.out]; rfl
    clear HGn1 HGr1 HGa1 HR1 HF1
    go_wp2_with (fail)
    rw [← hY]
    clear hY j0 j1 j2 j3 j4 jz a1 a3 hYo
    have HGv : Hid (Gv Y) := HG.out.fl HFk.out hrb
    have CN : Hid (Calls Tryd.prog 29 #[.pointer (some ⟨rb, 0, none⟩), .int .i64 parts, .int .i64 ((d : Int) + 1)] Y (PostP (fun w' v l => QRow w' Y.heap.size f v l) rb B N Y (pMany (pN f).1 parts st1))) := by
      have := nodes_of IN.out rb B N (d + 1) parts (by omega) (by omega) st1 Y HRk.out HGv.out hrb
      push_cast at this
      exact this
    cases hp : pMany (pN f).1 parts st1 with
    | error er =>
      rw [hp] at CN HQ
      obtain rfl : R = .error er := HQ.out.symm
      have CN2 : Hid (Calls Tryd.prog 29 #[.pointer (some ⟨rb, 0, none⟩), .int .i64 parts, .int .i64 ((d : Int) + 1)] Y (fun e w' => e = .panicked (thrP N er) ∧ Fl rb Y w')) := CN.out
      clear hp HQ CN
      refine CN2.out.mono ?_
      rintro e w9 ⟨rfl, f9⟩
      exact ⟨rfl, rfl, HFk.out.trans f9⟩
    | ok p =>
      obtain ⟨l, q3⟩ := p
      have hlq3 : Hid (l.length = parts) := many_len hp
      rw [hp] at CN HQ
      have CN2 : Hid (Calls Tryd.prog 29 #[.pointer (some ⟨rb, 0, none⟩), .int .i64 parts, .int .i64 ((d : Int) + 1)] Y (fun e w' => ∃ v, e = .returned v ∧ QRow w' Y.heap.size f v l ∧ RdP rb B N q3 w' ∧ Fl rb Y w')) := CN.out
      clear hp CN
      refine CN2.out.mono ?_
      rintro e w3 ⟨v3, rfl, Q3, R3, F3⟩
      obtain ⟨ao, cp, rfl, _⟩ := Q3.seq
      have hz3 := F3.size
      have HGn3 : Hid (w3.heap[w.heap.size + 1 + 1]? = some (.cells #[.int .u8 k, .int .i64 0, .string ⟨s.toArray⟩, .slice none 0 0, .slice none 0 0] 26 (0, 0))) := (F3.block _ (by omega) (by omega)).trans HGn.out
      have HGr3 : Hid (w3.heap[w.heap.size + 1]? = some (.cells #[.int .u8 0, .int .i64 0, .string ⟨#[]⟩, .slice none 0 0, .slice none 0 0] 26 (0, 0))) := (F3.block _ (by omega) (by omega)).trans HGr.out
      have HGa3 : Hid (w3.heap[w.heap.size]? = some (.cells _ 64 (0, 0))) := (F3.block _ (by omega) (by omega)).trans HGa.out
      have j0 : w3.cell? ⟨w.heap.size + 1 + 1, 0, none⟩ = some (.int .u8 k) := by rw [Lib.cell_of_heap HGn3.out]; rfl
      have j1 : w3.cell? ⟨w.heap.size + 1 + 1, 1, none⟩ = some (.int .i64 0) := by rw [Lib.cell_of_heap HGn3.out]; rfl
      have j2 : w3.cell? ⟨w.heap.size + 1 + 1, 2, none⟩ = some (.string ⟨s.toArray⟩) := by rw [Lib.cell_of_heap HGn3.out]; rfl
      have j3 : w3.cell? ⟨w.heap.size + 1 + 1, 3, none⟩ = some (.slice none 0 0) := by rw [Lib.cell_of_heap HGn3.out]; rfl
      have j4 : w3.cell? ⟨w.heap.size + 1 + 1, 4, none⟩ = some (.slice none 0 0) := by rw [Lib.cell_of_heap HGn3.out]; rfl
      have jz : ∀ o, w3.frozen? ⟨w.heap.size + 1 + 1, o, none⟩ = false := fun o => Lib.frozen_of_heap HGn3.out o
      have HR3 : Hid (RdP rb B N q3 w3) := R3
      have HF3 : Hid (Fl rb w w3) := HFk.out.trans F3
      have HFk3 : Hid (Fl rb Y w3) := F3
      have HQ3 : Hid (QRow w3 Y.heap.size f (.slice ao l.length cp) l) := Q3
      clear R3 F3 Q3 CN2 HGn HGr HGa HGv HFk
      go_wp2_with (fail)
      obtain ⟨X, hX⟩ : ∃ X, X = w3.setCell ⟨w.heap.size + 1 + 1, 4, none⟩ (.slice ao l.length cp) := ⟨_, rfl⟩
      have hzX : X.heap.size = w3.heap.size := by rw [hX]; simp [World.setCell]
      have hXo : ∀ b, ¬ b = w.heap.size + 1 + 1 → X.heap[b]? = w3.heap[b]? := fun b hb => by rw [hX]; exact sco _ hb
      have HGn : Hid (X.heap[w.heap.size + 1 + 1]? = some (.cells #[.int .u8 k, .int .i64 0, .string ⟨s.toArray⟩, .slice none 0 0, .slice ao l.length cp] 26 (0, 0))) := by show _ = _; rw [hX]; exact heap_setCell_same w3 (w.heap.size + 1 + 1) 4 _ 26 _ HGn3.out
      have HGr : Hid (X.heap[w.heap.size + 1]? = some (.cells #[.int .u8 0, .int .i64 0, .string ⟨#[]⟩, .slice none 0 0, .slice none 0 0] 26 (0, 0))) := (hXo _ (by omega)).trans HGr3.out
      have HGa : Hid (X.heap[w.heap.size]? = some (.cells _ 64 (0, 0))) := (hXo _ (by omega)).trans HGa3.out
      have HRX : Hid (RdP rb B N q3 X) := HR3.out.up (fun b hb => hXo b (by omega)) (by omega)
      have HFX : Hid (Fl rb w X) := HF3.out.hi (fun b hb => hXo b (by omega)) (by rw [hX]; rfl) (by rw [hX]; rfl) (by rw [hX]; rfl) (by omega)
      have HQX : Hid (QRow X Y.heap.size f (.slice ao l.length cp) l) := HQ3.out.keep (fun b hb _ => hXo b (by omega)) (by omega)
      have hBX : B ≤ X.heap.size := by omega

      rw [← hX]
      clear hX j0 j1 j2 j3 j4 jz HGn3 HGr3 HGa3 HR3 HF3 HQ3 HRk
      have a1 : X.cell? ⟨w.heap.size, 1, none⟩ = some (.int .u8 k) := by rw [Lib.cell_of_heap HGa.out]; rfl
      have a4 : X.cell? ⟨w.heap.size, 4, none⟩ = some (.bool false) := by rw [Lib.cell_of_heap HGa.out]; rfl
      go_loopw [30] (fun _ wr => wr = X) (fun _ _ => 0)
      case atStart => rfl
      case round =>
        subst wr
        obtain rfl : R = .ok ((⟨k, 0, bsB s, [], l⟩ : Nd (Tr f)), q3) := by rw [← HQ.out]; simp
        clear HQ
        obtain ⟨ao2, cp2, heq, S, q1, q2, q4⟩ := HQX.out.seq
        cases heq
        have j0 : X.cell? ⟨w.heap.size + 1 + 1, 0, none⟩ = some (.int .u8 k) := by rw [Lib.cell_of_heap HGn.out]; rfl
        have j1 : X.cell? ⟨w.heap.size + 1 + 1, 1, none⟩ = some (.int .i64 0) := by rw [Lib.cell_of_heap HGn.out]; rfl
        have j2 : X.cell? ⟨w.heap.size + 1 + 1, 2, none⟩ = some (.string ⟨s.toArray⟩) := by rw [Lib.cell_of_heap HGn.out]; rfl
        have j3 : X.cell? ⟨w.heap.size + 1 + 1, 3, none⟩ = some (.slice none 0 0) := by rw [Lib.cell_of_heap HGn.out]; rfl
        have j4 : X.cell? ⟨w.heap.size + 1 + 1, 4, none⟩ = some (.slice ao l.length cp) := by rw [Lib.cell_of_heap HGn.out]; rfl
        have jz : ∀ o, X.frozen? ⟨w.heap.size + 1 + 1, o, none⟩ = false := fun o => Lib.frozen_of_heap HGn.out o
        have k0 : X.cell? ⟨w.heap.size + 1, 0, none⟩ = some (.int .u8 0) := by rw [Lib.cell_of_heap HGr.out]; rfl
        have k1 : X.cell? ⟨w.heap.size + 1, 1, none⟩ = some (.int .i64 0) := by rw [Lib.cell_of_heap HGr.out]; rfl
        have k2 : X.cell? ⟨w.heap.size + 1, 2, none⟩ = some (.string ⟨#[]⟩) := by rw [Lib.cell_of_heap HGr.out]; rfl
        have k3 : X.cell? ⟨w.heap.size + 1, 3, none⟩ = some (.slice none 0 0) := by rw [Lib.cell_of_heap HGr.out]; rfl
        have k4 : X.cell? ⟨w.heap.size + 1, 4, none⟩ = some (.slice none 0 0) := by rw [Lib.cell_of_heap HGr.out]; rfl
        have kz : ∀ o, X.frozen? ⟨w.heap.size + 1, o, none⟩ = false := fun o => Lib.frozen_of_heap HGr.out o
        go_wp2_with (fail)
        obtain ⟨qe, hqe⟩ : ∃ qe, qe = q3 := ⟨_, rfl⟩
        subst hqe
        have HK : ∀ b, ¬ b = w.heap.size + 1 → (((((X.setCell ⟨w.heap.size + 1, 0, none⟩ (.int .u8 k)).setCell ⟨w.heap.size + 1, 1, none⟩ (.int .i64 0)).setCell ⟨w.heap.size + 1, 2, none⟩ (.string ⟨s.toArray⟩)).setCell ⟨w.heap.size + 1, 3, none⟩ (.slice none 0 0)).setCell ⟨w.heap.size + 1, 4, none⟩ (.slice ao (l).length cp)).heap[b]? = X.heap[b]? := fun b h1 => set5o h1
        have S5 := set5 (a := .int .u8 k) (c := .int .i64 0) (d := .string ⟨s.toArray⟩) (e := .slice none 0 0) (f := .slice ao (l).length cp) HGr.out
        have G1 : RdP rb B N qe (((((X.setCell ⟨w.heap.size + 1, 0, none⟩ (.int .u8 k)).setCell ⟨w.heap.size + 1, 1, none⟩ (.int .i64 0)).setCell ⟨w.heap.size + 1, 2, none⟩ (.string ⟨s.toArray⟩)).setCell ⟨w.heap.size + 1, 3, none⟩ (.slice none 0 0)).setCell ⟨w.heap.size + 1, 4, none⟩ (.slice ao (l).length cp)) := HRX.out.up (fun j hj => HK j (by omega)) (by simp [World.setCell]; omega)
        have G3 : Fl rb w (((((X.setCell ⟨w.heap.size + 1, 0, none⟩ (.int .u8 k)).setCell ⟨w.heap.size + 1, 1, none⟩ (.int .i64 0)).setCell ⟨w.heap.size + 1, 2, none⟩ (.string ⟨s.toArray⟩)).setCell ⟨w.heap.size + 1, 3, none⟩ (.slice none 0 0)).setCell ⟨w.heap.size + 1, 4, none⟩ (.slice ao (l).length cp)) := HFX.out.set5 (by omega)
        generalize hWf : (((((X.setCell ⟨w.heap.size + 1, 0, none⟩ (.int .u8 k)).setCell ⟨w.heap.size + 1, 1, none⟩ (.int .i64 0)).setCell ⟨w.heap.size + 1, 2, none⟩ (.string ⟨s.toArray⟩)).setCell ⟨w.heap.size + 1, 3, none⟩ (.slice none 0 0)).setCell ⟨w.heap.size + 1, 4, none⟩ (.slice ao (l).length cp)) = wf at HK G1 G3 S5 ⊢
        have hzf : wf.heap.size = X.heap.size := by rw [← hWf]; simp [World.setCell]
        have HN : NodeQ (fun b => w.heap.size + 1 + 1 + 1 ≤ b ∧ b < X.heap.size) X (f + 1) (ndv k 0 ⟨s.toArray⟩ none 0 0 ao (l).length cp) ((⟨k, 0, bsB s, [], l⟩ : Nd (Tr f)) : Tr (f + 1)) := ⟨none, 0, 0, ao, (l).length, cp, rfl, wf_any k 0 s [] (l) (by omega) (by omega) (by decide) (by decide) HSB.out, ⟨Nat.le_refl _, Nat.zero_le _, q1, q2⟩, ⟨rfl, Nat.zero_le _, (by intro s hs; cases hs), .inl rfl⟩, S.imp (fun v x h => NodeQ.keep (fun b hb => ⟨by omega, hb.2⟩) (fun _ _ _ => rfl) (Nat.le_refl _) h), .inl rfl, (by rcases q4 with h | ⟨b, off, h1, h2, h3⟩; exact .inl h; exact .inr ⟨b, off, h1, by omega, h3⟩)⟩
        have G4 : NodeQ (fun b => w.heap.size ≤ b ∧ b < wf.heap.size) wf (f + 1) (ndv k 0 ⟨s.toArray⟩ none 0 0 ao (l).length cp) ((⟨k, 0, bsB s, [], l⟩ : Nd (Tr f)) : Tr (f + 1)) := NodeQ.keep (fun b hb => ⟨by omega, by omega⟩) (fun b hb hl => HK b (by omega)) (by omega) HN
        exact end_node Tryd.func30 6 rfl rfl S5 ⟨_, rfl, G4, G1, G3⟩
set_option maxRecDepth 100000 in
set_option maxHeartbeats 4000000 in
theorem form_six {f : Nat} (ihN : NodeC f) (rb B N d : Nat) (word : List UInt8) (parts : Nat) (hpt : parts ≤ 3) (hd : d + (f + 1) = 61) (st : Ps) (w : World) (h : RdP rb B N st w) (hG : Gv w) (hrb : 2 < rb) : Calls Tryd.prog 30 #[.pointer (some ⟨rb, 0, none⟩), foV ⟨word, 6, true, parts, false⟩, .int .i64 d] w (PostP (fun w' v x => NodeQ (fun b => w.heap.size ≤ b ∧ b < w'.heap.size) w' (f + 1) v x) rb B N w (pForm f (pN f).1 (pN f).2 ⟨word, 6, true, parts, false⟩ st)) := by
  have hlt := h.lt
  have hBw := h.2.2.2.2.1
  have hlb : rb < B := h.2.2.2.1
  have HG : Hid (Gv w) := hG
  have IN : Hid (NodeC f) := ihN
  have H0 : Hid (RdP rb B N st w) := h
  have hsl : st.1.length ≤ 100000 := h.2.2.1.2
  have hmm : ∀ w : World, (Instr.makeMap 83 none).run Tryd.prog w = .ok (.map (some w.heap.size)) (w.alloc (.map #[] 0)) := fun w => by first | rfl | simp [Instr.makeMap]
  have hfd : ∀ (v0 v1 v2 v3 : Value) (w : World), (Instr.field 50 (.agg #[v0, v1, v2, v3]) 0).run Tryd.prog w = .ok v0 w := fun v0 v1 v2 v3 w => by kernel_rfl
  have hwd : IntKind.i64.wrap ((d : Int) + 1) = (d : Int) + 1 := i64w _ (by omega) (by omega)
  have e0 : pForm f (pN f).1 (pN f).2 ⟨word, 6, true, parts, false⟩ st = (match pName [] st with
    | .error e => .error e
    | .ok (s, st1) => match pParams st1 with
      | .error e => .error e
      | .ok (ns, st2) => match pMany (pN f).1 parts st2 with
      | .error e => .error e
      | .ok (l, st3) => .ok ((⟨6, 0, bsB s, ns.map bsB, l ++ [] ++ []⟩ : Nd (Tr f)), st3)) := by
    unfold pForm
    simp 
    try rfl
  rw [e0]
  generalize hR : (match pName [] st with
    | .error e => .error e
    | .ok (s, st1) => match pParams st1 with
      | .error e => .error e
      | .ok (ns, st2) => match pMany (pN f).1 parts st2 with
      | .error e => .error e
      | .ok (l, st3) => .ok ((⟨6, 0, bsB s, ns.map bsB, l ++ [] ++ []⟩ : Nd (Tr f)), st3) : Pr (Tr (f + 1))) = R
  have HQ : Hid ((match pName [] st with
    | .error e => .error e
    | .ok (s, st1) => match pParams st1 with
      | .error e => .error e
      | .ok (ns, st2) => match pMany (pN f).1 parts st2 with
      | .error e => .error e
      | .ok (l, st3) => .ok ((⟨6, 0, bsB s, ns.map bsB, l ++ [] ++ []⟩ : Nd (Tr f)), st3) : Pr (Tr (f + 1))) = R) := hR
  clear hR e0 hG ihN h
  show Calls Tryd.prog 30 #[.pointer (some ⟨rb, 0, none⟩), .agg #[.string ⟨word.toArray⟩, .int .u8 6, .bool true, .int .i64 parts, .bool false], .int .i64 d] w _
  go_enter Tryd.func30, Tryd.ntmps30
  go_wp2_with (fail)
  obtain ⟨W, hW⟩ : ∃ W, W = (((w.alloc (.cells #[.string ⟨word.toArray⟩, .int .u8 6, .bool true, .int .i64 parts, .bool false] 64)).alloc (.cells #[.int .u8 0, .int .i64 0, .string ⟨#[]⟩, .slice none 0 0, .slice none 0 0] 26)).alloc (.cells #[.int .u8 6, .int .i64 0, .string ⟨#[]⟩, .slice none 0 0, .slice none 0 0] 26)).alloc (.map #[] 0) := ⟨_, rfl⟩
  have HBW : Hid (BW w W) := by show BW w W; rw [hW]; exact (by repeat (first | exact BW.refl _ | assumption | apply BW.alloc | apply BW.drewN | apply BW.drew | (refine BW.setCell ?_ (by first | omega | (simp; done) | (simp; omega)) _) | (refine BW.trans ?_ (by assumption))))
  have hzW : W.heap.size = w.heap.size + 1 + 1 + 1 + 1 := by rw [hW]; simp
  have HGn : Hid (W.heap[w.heap.size + 1 + 1]? = some (.cells #[.int .u8 6, .int .i64 0, .string ⟨#[]⟩, .slice none 0 0, .slice none 0 0] 26 (0, 0))) := by
    show _ = _
    rw [hW]
    refine ((BW.alloc (BW.refl _) _).block _ (by simp)).trans ?_
    have := heap_alloc_new ((w.alloc (.cells #[.string ⟨word.toArray⟩, .int .u8 6, .bool true, .int .i64 parts, .bool false] 64)).alloc (.cells #[.int .u8 0, .int .i64 0, .string ⟨#[]⟩, .slice none 0 0, .slice none 0 0] 26)) (.cells #[.int .u8 6, .int .i64 0, .string ⟨#[]⟩, .slice none 0 0, .slice none 0 0] 26)
    simpa using this
  have HGr : Hid (W.heap[w.heap.size + 1]? = some (.cells #[.int .u8 0, .int .i64 0, .string ⟨#[]⟩, .slice none 0 0, .slice none 0 0] 26 (0, 0))) := by
    show _ = _
    rw [hW]
    refine ((BW.alloc (BW.alloc (BW.refl _) _) _).block _ (by simp)).trans ?_
    have := heap_alloc_new (w.alloc (.cells #[.string ⟨word.toArray⟩, .int .u8 6, .bool true, .int .i64 parts, .bool false] 64)) (.cells #[.int .u8 0, .int .i64 0, .string ⟨#[]⟩, .slice none 0 0, .slice none 0 0] 26)
    simpa using this
  have HGa : Hid (W.heap[w.heap.size]? = some (.cells #[.string ⟨word.toArray⟩, .int .u8 6, .bool true, .int .i64 parts, .bool false] 64 (0, 0))) := by
    show _ = _
    rw [hW]
    refine ((BW.alloc (BW.alloc (BW.alloc (BW.refl _) _) _) _).block _ (by simp)).trans ?_
    exact heap_alloc_new w _
  have HTn : Hid (TkIs W (w.heap.size + 1 + 1 + 1) []) := by
    show TkIs _ _ _
    have := TkIs.new (((w.alloc (.cells #[.string ⟨word.toArray⟩, .int .u8 6, .bool true, .int .i64 parts, .bool false] 64)).alloc (.cells #[.int .u8 0, .int .i64 0, .string ⟨#[]⟩, .slice none 0 0, .slice none 0 0] 26)).alloc (.cells #[.int .u8 6, .int .i64 0, .string ⟨#[]⟩, .slice none 0 0, .slice none 0 0] 26))
    rw [hW]; simpa using this
  rw [← hW]
  clear hW
  have CM : Hid (Calls Tryd.prog 40 #[.pointer (some ⟨rb, 0, none⟩), .map (some (w.heap.size + 1 + 1 + 1))] W (PostM rb B N (w.heap.size + 1 + 1 + 1) [] W (pName [] st))) := name_any rb B N _ [] st W (H0.out.bw HBW.out) HTn.out (by omega) (by simp)
  cases hn : pName [] st with
  | error er =>
    rw [hn] at CM HQ
    obtain rfl : R = .error er := HQ.out.symm
    have CM2 : Hid (Calls Tryd.prog 40 #[.pointer (some ⟨rb, 0, none⟩), .map (some (w.heap.size + 1 + 1 + 1))] W (fun e w' => e = .panicked (thrP N er) ∧ F2 rb (w.heap.size + 1 + 1 + 1) W w')) := CM.out
    clear hn HQ CM
    refine CM2.out.mono ?_
    rintro e w9 ⟨rfl, f9⟩
    exact ⟨rfl, rfl, F2.fl f9 (HBW.out.fl rb) (by omega)⟩
  | ok p =>
    obtain ⟨s, st1⟩ := p
    rw [hn] at CM HQ
    have CM2 : Hid (Calls Tryd.prog 40 #[.pointer (some ⟨rb, 0, none⟩), .map (some (w.heap.size + 1 + 1 + 1))] W (fun e w' => e = .returned (.string ⟨s.toArray⟩) ∧ RdP rb B N st1 w' ∧ TkIs w' (w.heap.size + 1 + 1 + 1) ([] ++ [s]) ∧ s.length ≤ 100000 ∧ F2 rb (w.heap.size + 1 + 1 + 1) W w')) := CM.out
    clear hn CM
    refine CM2.out.mono ?_
    rintro e w1 ⟨rfl, R1, _, hs1, f1⟩
    have hz1 := f1.size
    have HSB : Hid (s.length ≤ 100000) := hs1
    have HGn1 : Hid (w1.heap[w.heap.size + 1 + 1]? = some (.cells #[.int .u8 6, .int .i64 0, .string ⟨#[]⟩, .slice none 0 0, .slice none 0 0] 26 (0, 0))) := (f1.block _ (by omega) (by omega) (by omega)).trans HGn.out
    have HGr1 : Hid (w1.heap[w.heap.size + 1]? = some (.cells #[.int .u8 0, .int .i64 0, .string ⟨#[]⟩, .slice none 0 0, .slice none 0 0] 26 (0, 0))) := (f1.block _ (by omega) (by omega) (by omega)).trans HGr.out
    have HGa1 : Hid (w1.heap[w.heap.size]? = some (.cells _ 64 (0, 0))) := (f1.block _ (by omega) (by omega) (by omega)).trans HGa.out
    have HR1 : Hid (RdP rb B N st1 w1) := R1
    have HF1 : Hid (Fl rb w w1) := F2.fl f1 (HBW.out.fl rb) (by omega)
    clear HGn HGr HGa HTn R1 f1 CM2 hs1 HBW
    obtain ⟨Y, hY⟩ : ∃ Y, Y = w1.setCell ⟨w.heap.size + 1 + 1, 2, none⟩ (.string ⟨s.toArray⟩) := ⟨_, rfl⟩
    have hzY : Y.heap.size = w1.heap.size := by rw [hY]; simp [World.setCell]
    have hYo : ∀ b, ¬ b = w.heap.size + 1 + 1 → Y.heap[b]? = w1.heap[b]? := fun b hb => by rw [hY]; exact sco _ hb
    have HGn : Hid (Y.heap[w.heap.size + 1 + 1]? = some (.cells #[.int .u8 6, .int .i64 0, .string ⟨s.toArray⟩, .slice none 0 0, .slice none 0 0] 26 (0, 0))) := by show _ = _; rw [hY]; exact heap_setCell_same w1 (w.heap.size + 1 + 1) 2 _ 26 _ HGn1.out
    have HGr : Hid (Y.heap[w.heap.size + 1]? = some (.cells #[.int .u8 0, .int .i64 0, .string ⟨#[]⟩, .slice none 0 0, .slice none 0 0] 26 (0, 0))) := (hYo _ (by omega)).trans HGr1.out
    have HGa : Hid (Y.heap[w.heap.size]? = some (.cells _ 64 (0, 0))) := (hYo _ (by omega)).trans HGa1.out
    have HRk : Hid (RdP rb B N st1 Y) := HR1.out.up (fun b hb => hYo b (by omega)) (by omega)
    have HFk : Hid (Fl rb w Y) := HF1.out.hi (fun b hb => hYo b (by omega)) (by rw [hY]; rfl) (by rw [hY]; rfl) (by rw [hY]; rfl) (by omega)
    have j0 : w1.cell? ⟨w.heap.size + 1 + 1, 0, none⟩ = some (.int .u8 6) := by rw [Lib.cell_of_heap HGn1.out]; rfl
    have j1 : w1.cell? ⟨w.heap.size + 1 + 1, 1, none⟩ = some (.int .i64 0) := by rw [Lib.cell_of_heap HGn1.out]; rfl
    have j2 : w1.cell? ⟨w.heap.size + 1 + 1, 2, none⟩ = some (.string ⟨#[]⟩) := by rw [Lib.cell_of_heap HGn1.out]; rfl
    have j3 : w1.cell? ⟨w.heap.size + 1 + 1, 3, none⟩ = some (.slice none 0 0) := by rw [Lib.cell_of_heap HGn1.out]; rfl
    have j4 : w1.cell? ⟨w.heap.size + 1 + 1, 4, none⟩ = some (.slice none 0 0) := by rw [Lib.cell_of_heap HGn1.out]; rfl
    have jz : ∀ o, w1.frozen? ⟨w.heap.size + 1 + 1, o, none⟩ = false := fun o => Lib.frozen_of_heap HGn1.out o
    have a1 : (w1.setCell ⟨w.heap.size + 1 + 1, 2, none⟩ (.string ⟨s.toArray⟩)).cell? ⟨w.heap.size, 1, none⟩ = some (.int .u8 6) := by rw [← hY, Lib.cell_of_heap HGa.out]; rfl
    have a3 : (w1.setCell ⟨w.heap.size + 1 + 1, 2, none⟩ (.string ⟨s.toArray⟩)).cell? ⟨w.heap.size, 3, none⟩ = some (.int .i64 parts) := by rw [← hY, Lib.cell_of_heap HGa.out]; rfl
    clear HGn1 HGr1 HGa1 HR1 HF1
    go_wp2_with (fail)
    rw [← hY]
    clear hY j0 j1 j2 j3 j4 jz a1 a3 hYo
    have CP : Hid (Calls Tryd.prog 41 #[.pointer (some ⟨rb, 0, none⟩)] Y (PostP (nmsV Y.heap.size) rb B N Y (pParams st1))) := params_any rb B N st1 Y HRk.out
    cases hps : pParams st1 with
    | error er =>
      rw [hps] at CP HQ
      obtain rfl : R = .error er := HQ.out.symm
      have CP2 : Hid (Calls Tryd.prog 41 #[.pointer (some ⟨rb, 0, none⟩)] Y (fun e w' => e = .panicked (thrP N er) ∧ Fl rb Y w')) := CP.out
      clear hps HQ CP
      refine CP2.out.mono ?_
      rintro e w9 ⟨rfl, f9⟩
      exact ⟨rfl, rfl, HFk.out.trans f9⟩
    | ok p =>
      obtain ⟨ns, st2⟩ := p
      rw [hps] at CP HQ
      have CP2 : Hid (Calls Tryd.prog 41 #[.pointer (some ⟨rb, 0, none⟩)] Y (fun e w' => ∃ v, e = .returned v ∧ nmsV Y.heap.size w' v ns ∧ RdP rb B N st2 w' ∧ Fl rb Y w')) := CP.out
      clear hps CP
      refine CP2.out.mono ?_
      rintro e w2 ⟨v2, rfl, ⟨na, nc, rfl, NS, n1, n2, n4⟩, R2, F2'⟩
      have HNC : Hid (ns.length ≤ nc ∧ nc ≤ maxLen) := ⟨n1, n2⟩
      have HN0 : Hid (NmQ w2 (w.heap.size + 1 + 1 + 1) na ns.length (ns.map bsB)) := ⟨NS, by
        rcases n4 with h | ⟨b, off, h1, h2, h3⟩
        · exact .inl h
        · exact .inr ⟨b, off, h1, by omega, h3⟩⟩
      have hz2 := F2'.size
      have HGn1 : Hid (w2.heap[w.heap.size + 1 + 1]? = some (.cells #[.int .u8 6, .int .i64 0, .string ⟨s.toArray⟩, .slice none 0 0, .slice none 0 0] 26 (0, 0))) := (F2'.block _ (by omega) (by omega)).trans HGn.out
      have HGr1 : Hid (w2.heap[w.heap.size + 1]? = some (.cells #[.int .u8 0, .int .i64 0, .string ⟨#[]⟩, .slice none 0 0, .slice none 0 0] 26 (0, 0))) := (F2'.block _ (by omega) (by omega)).trans HGr.out
      have HGa1 : Hid (w2.heap[w.heap.size]? = some (.cells _ 64 (0, 0))) := (F2'.block _ (by omega) (by omega)).trans HGa.out
      have HR1 : Hid (RdP rb B N st2 w2) := R2
      have HF1 : Hid (Fl rb w w2) := HFk.out.trans F2'
      clear HGn HGr HGa HRk HFk R2 F2' CP2 NS n1 n2 n4
      obtain ⟨Z, hZ⟩ : ∃ Z, Z = w2.setCell ⟨w.heap.size + 1 + 1, 3, none⟩ (.slice na ns.length nc) := ⟨_, rfl⟩
      have hzZ : Z.heap.size = w2.heap.size := by rw [hZ]; simp [World.setCell]
      have hZo : ∀ b, ¬ b = w.heap.size + 1 + 1 → Z.heap[b]? = w2.heap[b]? := fun b hb => by rw [hZ]; exact sco _ hb
      have HGn : Hid (Z.heap[w.heap.size + 1 + 1]? = some (.cells #[.int .u8 6, .int .i64 0, .string ⟨s.toArray⟩, .slice na ns.length nc, .slice none 0 0] 26 (0, 0))) := by show _ = _; rw [hZ]; exact heap_setCell_same w2 (w.heap.size + 1 + 1) 3 _ 26 _ HGn1.out
      have HGr : Hid (Z.heap[w.heap.size + 1]? = some (.cells #[.int .u8 0, .int .i64 0, .string ⟨#[]⟩, .slice none 0 0, .slice none 0 0] 26 (0, 0))) := (hZo _ (by omega)).trans HGr1.out
      have HGa : Hid (Z.heap[w.heap.size]? = some (.cells _ 64 (0, 0))) := (hZo _ (by omega)).trans HGa1.out
      have HRk : Hid (RdP rb B N st2 Z) := HR1.out.up (fun b hb => hZo b (by omega)) (by omega)
      have HFk : Hid (Fl rb w Z) := HF1.out.hi (fun b hb => hZo b (by omega)) (by rw [hZ]; rfl) (by rw [hZ]; rfl) (by rw [hZ]; rfl) (by omega)
      have HN1 : Hid (NmQ Z (w.heap.size + 1 + 1 + 1) na ns.length (ns.map bsB)) := HN0.out.keep (fun b hb _ => hZo b (by omega)) (by omega)
      have j0 : w2.cell? ⟨w.heap.size + 1 + 1, 0, none⟩ = some (.int .u8 6) := by rw [Lib.cell_of_heap HGn1.out]; rfl
      have j1 : w2.cell? ⟨w.heap.size + 1 + 1, 1, none⟩ = some (.int .i64 0) := by rw [Lib.cell_of_heap HGn1.out]; rfl
      have j2 : w2.cell? ⟨w.heap.size + 1 + 1, 2, none⟩ = some (.string ⟨s.toArray⟩) := by rw [Lib.cell_of_heap HGn1.out]; rfl
      have j3 : w2.cell? ⟨w.heap.size + 1 + 1, 3, none⟩ = some (.slice none 0 0) := by rw [Lib.cell_of_heap HGn1.out]; rfl
      have j4 : w2.cell? ⟨w.heap.size + 1 + 1, 4, none⟩ = some (.slice none 0 0) := by rw [Lib.cell_of_heap HGn1.out]; rfl
      have jz : ∀ o, w2.frozen? ⟨w.heap.size + 1 + 1, o, none⟩ = false := fun o => Lib.frozen_of_heap HGn1.out o
      have a3 : (w2.setCell ⟨w.heap.size + 1 + 1, 3, none⟩ (.slice na ns.length nc)).cell? ⟨w.heap.size, 3, none⟩ = some (.int .i64 parts) := by rw [← hZ, Lib.cell_of_heap HGa.out]; rfl
      clear HGn1 HGr1 HGa1 HR1 HF1 HN0
      go_wp2_with (fail)
      rw [← hZ]
      clear hZ j0 j1 j2 j3 j4 jz a3 hZo
      have HGv : Hid (Gv Z) := HG.out.fl HFk.out hrb
      have CN : Hid (Calls Tryd.prog 29 #[.pointer (some ⟨rb, 0, none⟩), .int .i64 parts, .int .i64 ((d : Int) + 1)] Z (PostP (fun w' v l => QRow w' Z.heap.size f v l) rb B N Z (pMany (pN f).1 parts st2))) := by
        have := nodes_of IN.out rb B N (d + 1) parts (by omega) (by omega) st2 Z HRk.out HGv.out hrb
        push_cast at this
        exact this
      cases hp : pMany (pN f).1 parts st2 with
      | error er =>
        rw [hp] at CN HQ
        obtain rfl : R = .error er := HQ.out.symm
        have CN2 : Hid (Calls Tryd.prog 29 #[.pointer (some ⟨rb, 0, none⟩), .int .i64 parts, .int .i64 ((d : Int) + 1)] Z (fun e w' => e = .panicked (thrP N er) ∧ Fl rb Z w')) := CN.out
        clear hp HQ CN
        refine CN2.out.mono ?_
        rintro e w9 ⟨rfl, f9⟩
        exact ⟨rfl, rfl, HFk.out.trans f9⟩
      | ok p =>
        obtain ⟨l, q3⟩ := p
        have hlq3 : Hid (l.length = parts) := many_len hp
        rw [hp] at CN HQ
        have CN2 : Hid (Calls Tryd.prog 29 #[.pointer (some ⟨rb, 0, none⟩), .int .i64 parts, .int .i64 ((d : Int) + 1)] Z (fun e w' => ∃ v, e = .returned v ∧ QRow w' Z.heap.size f v l ∧ RdP rb B N q3 w' ∧ Fl rb Z w')) := CN.out
        clear hp CN
        refine CN2.out.mono ?_
        rintro e w3 ⟨v3, rfl, Q3, R3, F3⟩
        obtain ⟨ao, cp, rfl, _⟩ := Q3.seq
        have hz3 := F3.size
        have HGn3 : Hid (w3.heap[w.heap.size + 1 + 1]? = some (.cells #[.int .u8 6, .int .i64 0, .string ⟨s.toArray⟩, .slice na ns.length nc, .slice none 0 0] 26 (0, 0))) := (F3.block _ (by omega) (by omega)).trans HGn.out
        have HGr3 : Hid (w3.heap[w.heap.size + 1]? = some (.cells #[.int .u8 0, .int .i64 0, .string ⟨#[]⟩, .slice none 0 0, .slice none 0 0] 26 (0, 0))) := (F3.block _ (by omega) (by omega)).trans HGr.out
        have HGa3 : Hid (w3.heap[w.heap.size]? = some (.cells _ 64 (0, 0))) := (F3.block _ (by omega) (by omega)).trans HGa.out
        have j0 : w3.cell? ⟨w.heap.size + 1 + 1, 0, none⟩ = some (.int .u8 6) := by rw [Lib.cell_of_heap HGn3.out]; rfl
        have j1 : w3.cell? ⟨w.heap.size + 1 + 1, 1, none⟩ = some (.int .i64 0) := by rw [Lib.cell_of_heap HGn3.out]; rfl
        have j2 : w3.cell? ⟨w.heap.size + 1 + 1, 2, none⟩ = some (.string ⟨s.toArray⟩) := by rw [Lib.cell_of_heap HGn3.out]; rfl
        have j3 : w3.cell? ⟨w.heap.size + 1 + 1, 3, none⟩ = some (.slice na ns.length nc) := by rw [Lib.cell_of_heap HGn3.out]; rfl
        have j4 : w3.cell? ⟨w.heap.size + 1 + 1, 4, none⟩ = some (.slice none 0 0) := by rw [Lib.cell_of_heap HGn3.out]; rfl
        have jz : ∀ o, w3.frozen? ⟨w.heap.size + 1 + 1, o, none⟩ = false := fun o => Lib.frozen_of_heap HGn3.out o
        have HR3 : Hid (RdP rb B N q3 w3) := R3
        have HF3 : Hid (Fl rb w w3) := HFk.out.trans F3
        have HFk3 : Hid (Fl rb Z w3) := F3
        have HQ3 : Hid (QRow w3 Z.heap.size f (.slice ao l.length cp) l) := Q3
        clear R3 F3 Q3 CN2 HGn HGr HGa HGv HFk
        go_wp2_with (fail)
        obtain ⟨X, hX⟩ : ∃ X, X = w3.setCell ⟨w.heap.size + 1 + 1, 4, none⟩ (.slice ao l.length cp) := ⟨_, rfl⟩
        have hzX : X.heap.size = w3.heap.size := by rw [hX]; simp [World.setCell]
        have hXo : ∀ b, ¬ b = w.heap.size + 1 + 1 → X.heap[b]? = w3.heap[b]? := fun b hb => by rw [hX]; exact sco _ hb
        have HGn : Hid (X.heap[w.heap.size + 1 + 1]? = some (.cells #[.int .u8 6, .int .i64 0, .string ⟨s.toArray⟩, .slice na ns.length nc, .slice ao l.length cp] 26 (0, 0))) := by show _ = _; rw [hX]; exact heap_setCell_same w3 (w.heap.size + 1 + 1) 4 _ 26 _ HGn3.out
        have HGr : Hid (X.heap[w.heap.size + 1]? = some (.cells #[.int .u8 0, .int .i64 0, .string ⟨#[]⟩, .slice none 0 0, .slice none 0 0] 26 (0, 0))) := (hXo _ (by omega)).trans HGr3.out
        have HGa : Hid (X.heap[w.heap.size]? = some (.cells _ 64 (0, 0))) := (hXo _ (by omega)).trans HGa3.out
        have HRX : Hid (RdP rb B N q3 X) := HR3.out.up (fun b hb => hXo b (by omega)) (by omega)
        have HFX : Hid (Fl rb w X) := HF3.out.hi (fun b hb => hXo b (by omega)) (by rw [hX]; rfl) (by rw [hX]; rfl) (by rw [hX]; rfl) (by omega)
        have HQX : Hid (QRow X Z.heap.size f (.slice ao l.length cp) l) := HQ3.out.keep (fun b hb _ => hXo b (by omega)) (by omega)
        have hBX : B ≤ X.heap.size := by omega
        have HNX : Hid (NmQ X (w.heap.size + 1 + 1 + 1) na ns.length (ns.map bsB)) := HN1.out.keep (fun b hb hl => (hXo b (by omega)).trans (HFk3.out.block b hl (by omega))) (by omega)
        rw [← hX]
        clear hX j0 j1 j2 j3 j4 jz HGn3 HGr3 HGa3 HR3 HF3 HQ3 HRk
        have a1 : X.cell? ⟨w.heap.size, 1, none⟩ = some (.int .u8 6) := by rw [Lib.cell_of_heap HGa.out]; rfl
        have a4 : X.cell? ⟨w.heap.size, 4, none⟩ = some (.bool false) := by rw [Lib.cell_of_heap HGa.out]; rfl
        go_loopw [30] (fun _ wr => wr = X) (fun _ _ => 0)
        case atStart => rfl
        case round =>
          subst wr
          obtain rfl : R = .ok ((⟨6, 0, bsB s, ns.map bsB, l⟩ : Nd (Tr f)), q3) := by rw [← HQ.out]; simp
          clear HQ
          obtain ⟨ao2, cp2, heq, S, q1, q2, q4⟩ := HQX.out.seq
          cases heq
          have j0 : X.cell? ⟨w.heap.size + 1 + 1, 0, none⟩ = some (.int .u8 6) := by rw [Lib.cell_of_heap HGn.out]; rfl
          have j1 : X.cell? ⟨w.heap.size + 1 + 1, 1, none⟩ = some (.int .i64 0) := by rw [Lib.cell_of_heap HGn.out]; rfl
          have j2 : X.cell? ⟨w.heap.size + 1 + 1, 2, none⟩ = some (.string ⟨s.toArray⟩) := by rw [Lib.cell_of_heap HGn.out]; rfl
          have j3 : X.cell? ⟨w.heap.size + 1 + 1, 3, none⟩ = some (.slice na ns.length nc) := by rw [Lib.cell_of_heap HGn.out]; rfl
          have j4 : X.cell? ⟨w.heap.size + 1 + 1, 4, none⟩ = some (.slice ao l.length cp) := by rw [Lib.cell_of_heap HGn.out]; rfl
          have jz : ∀ o, X.frozen? ⟨w.heap.size + 1 + 1, o, none⟩ = false := fun o => Lib.frozen_of_heap HGn.out o
          have k0 : X.cell? ⟨w.heap.size + 1, 0, none⟩ = some (.int .u8 0) := by rw [Lib.cell_of_heap HGr.out]; rfl
          have k1 : X.cell? ⟨w.heap.size + 1, 1, none⟩ = some (.int .i64 0) := by rw [Lib.cell_of_heap HGr.out]; rfl
          have k2 : X.cell? ⟨w.heap.size + 1, 2, none⟩ = some (.string ⟨#[]⟩) := by rw [Lib.cell_of_heap HGr.out]; rfl
          have k3 : X.cell? ⟨w.heap.size + 1, 3, none⟩ = some (.slice none 0 0) := by rw [Lib.cell_of_heap HGr.out]; rfl
          have k4 : X.cell? ⟨w.heap.size + 1, 4, none⟩ = some (.slice none 0 0) := by rw [Lib.cell_of_heap HGr.out]; rfl
          have kz : ∀ o, X.frozen? ⟨w.heap.size + 1, o, none⟩ = false := fun o => Lib.frozen_of_heap HGr.out o
          go_wp2_with (fail)
          obtain ⟨qe, hqe⟩ : ∃ qe, qe = q3 := ⟨_, rfl⟩
          subst hqe
          have HK : ∀ b, ¬ b = w.heap.size + 1 → (((((X.setCell ⟨w.heap.size + 1, 0, none⟩ (.int .u8 6)).setCell ⟨w.heap.size + 1, 1, none⟩ (.int .i64 0)).setCell ⟨w.heap.size + 1, 2, none⟩ (.string ⟨s.toArray⟩)).setCell ⟨w.heap.size + 1, 3, none⟩ (.slice na ns.length nc)).setCell ⟨w.heap.size + 1, 4, none⟩ (.slice ao (l).length cp)).heap[b]? = X.heap[b]? := fun b h1 => set5o h1
          have S5 := set5 (a := .int .u8 6) (c := .int .i64 0) (d := .string ⟨s.toArray⟩) (e := .slice na ns.length nc) (f := .slice ao (l).length cp) HGr.out
          have G1 : RdP rb B N qe (((((X.setCell ⟨w.heap.size + 1, 0, none⟩ (.int .u8 6)).setCell ⟨w.heap.size + 1, 1, none⟩ (.int .i64 0)).setCell ⟨w.heap.size + 1, 2, none⟩ (.string ⟨s.toArray⟩)).setCell ⟨w.heap.size + 1, 3, none⟩ (.slice na ns.length nc)).setCell ⟨w.heap.size + 1, 4, none⟩ (.slice ao (l).length cp)) := HRX.out.up (fun j hj => HK j (by omega)) (by simp [World.setCell]; omega)
          have G3 : Fl rb w (((((X.setCell ⟨w.heap.size + 1, 0, none⟩ (.int .u8 6)).setCell ⟨w.heap.size + 1, 1, none⟩ (.int .i64 0)).setCell ⟨w.heap.size + 1, 2, none⟩ (.string ⟨s.toArray⟩)).setCell ⟨w.heap.size + 1, 3, none⟩ (.slice na ns.length nc)).setCell ⟨w.heap.size + 1, 4, none⟩ (.slice ao (l).length cp)) := HFX.out.set5 (by omega)
          generalize hWf : (((((X.setCell ⟨w.heap.size + 1, 0, none⟩ (.int .u8 6)).setCell ⟨w.heap.size + 1, 1, none⟩ (.int .i64 0)).setCell ⟨w.heap.size + 1, 2, none⟩ (.string ⟨s.toArray⟩)).setCell ⟨w.heap.size + 1, 3, none⟩ (.slice na ns.length nc)).setCell ⟨w.heap.size + 1, 4, none⟩ (.slice ao (l).length cp)) = wf at HK G1 G3 S5 ⊢
          have hzf : wf.heap.size = X.heap.size := by rw [← hWf]; simp [World.setCell]
          have HN : NodeQ (fun b => w.heap.size + 1 + 1 + 1 ≤ b ∧ b < X.heap.size) X (f + 1) (ndv 6 0 ⟨s.toArray⟩ na ns.length nc ao (l).length cp) ((⟨6, 0, bsB s, (ns.map bsB), l⟩ : Nd (Tr f)) : Tr (f + 1)) := ⟨na, ns.length, nc, ao, (l).length, cp, rfl, wf_any 6 0 s (ns.map bsB) (l) (by omega) (by omega) (by decide) (by decide) HSB.out, ⟨HNC.out.1, HNC.out.2, q1, q2⟩, HNX.out.1, S.imp (fun v x h => NodeQ.keep (fun b hb => ⟨by omega, hb.2⟩) (fun _ _ _ => rfl) (Nat.le_refl _) h), (by rcases HNX.out.2 with h | ⟨b, off, h1, h2, h3⟩; exact .inl h; exact .inr ⟨b, off, h1, h2, h3⟩), (by rcases q4 with h | ⟨b, off, h1, h2, h3⟩; exact .inl h; exact .inr ⟨b, off, h1, by omega, h3⟩)⟩
          have G4 : NodeQ (fun b => w.heap.size ≤ b ∧ b < wf.heap.size) wf (f + 1) (ndv 6 0 ⟨s.toArray⟩ na ns.length nc ao (l).length cp) ((⟨6, 0, bsB s, (ns.map bsB), l⟩ : Nd (Tr f)) : Tr (f + 1)) := NodeQ.keep (fun b hb => ⟨by omega, by omega⟩) (fun b hb hl => HK b (by omega)) (by omega) HN
          exact end_node Tryd.func30 6 rfl rfl S5 ⟨_, rfl, G4, G1, G3⟩

end Go.Proofs.YtlacjiihbbgbeaaDoor
