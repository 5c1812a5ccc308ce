import Derived.Test.YtlacjiihbbgbeaaDoorM7
import Derived.Test.YtlacjiihbbgbeaaDoorL1
namespace Go.Proofs.YtlacjiihbbgbeaaDoor
open Go.RowKit
set_option linter.unusedVariables false
set_option linter.unusedSimpArgs false

/-- How a clause's reading ends: the map of operations grows at 'on' alone. -/
def PostCl (f rb B N mb k : Nat) (ops : List (List UInt8)) (w : World) (R : Pr (Tr (f + 1))) (e : Ending) (w' : World) : Prop := match R with
  | .ok (x, st) => ∃ v, e = .returned v ∧ NodeQ (fun b => w.heap.size ≤ b ∧ b < w'.heap.size) w' (f + 1) v x ∧ RdP rb B N st w' ∧ TkIs w' mb (if k = 1 then ops ++ [(Nd.s (K := Tr f) x).toList] else ops) ∧ F2 rb mb w w'
  | .error er => e = .panicked (thrP N er) ∧ F2 rb mb w w'
set_option maxRecDepth 100000 in
set_option maxHeartbeats 4000000 in
theorem clause_fin {f : Nat} (ihN : NodeC f) (rb B N mb d : Nat) (ops : List (List UInt8)) (hd : d + (f + 1) = 61) (st : Ps) (w : World) (h : RdP rb B N st w) (hG : Gv w) (hrb : 2 < rb) (hm : TkIs w mb ops) (hB : B ≤ mb) : Calls Tryd.prog 49 #[.pointer (some ⟨rb, 0, none⟩), .agg #[.string ⟨#[102, 105, 110, 97, 108, 108, 121]⟩, .int .u8 19, .int .i64 0], .map (some mb), .int .i64 d] w (PostCl f rb B N mb 2 ops w (pClB f (pN f).1 2 ops st)) := by
  have hlt := h.lt
  have hBw := h.2.2.2.2.1
  have hlb : rb < B := h.2.2.2.1
  have HG : Hid (Gv w) := hG
  have hmb := hm.lt
  have HM : Hid (TkIs w mb ops) := hm
  have hne : ¬ mb = rb := h.neMap hm
  have IN : Hid (NodeC f) := ihN
  have hmm : ∀ w : World, (Instr.makeMap 83 none).run Tryd.prog w = .ok (.map (some w.heap.size)) (w.alloc (.map #[] 0)) := fun w => by first | rfl | simp [Instr.makeMap]
  have CN : Hid (∀ w0, BW w w0 → Calls Tryd.prog 29 #[.pointer (some ⟨rb, 0, none⟩), .int .i64 1, .int .i64 ((d : Int) + 1)] w0 (PostP (fun w' v l => QRow w' w0.heap.size f v l) rb B N w0 (pMany (pN f).1 1 st))) := fun w0 hb0 => by
    have := nodes_of IN.out rb B N (d + 1) 1 (by omega) (by omega) st w0 (h.bw hb0) (HG.out.fl (hb0.fl rb) hrb) hrb
    push_cast at this
    exact this
  have hwd : IntKind.i64.wrap ((d : Int) + 1) = (d : Int) + 1 := i64w _ (by omega) (by omega)
  have e0 : pClB f (pN f).1 2 ops st = (match pMany (pN f).1 1 st with
      | .error e => .error e
      | .ok (l, st6) => .ok ((⟨19, 0, bsB [], [], l⟩ : Nd (Tr f)), st6)) := rfl
  rw [e0]
  clear e0 hm hG ihN h
  cases hp : pMany (pN f).1 1 st with
  | error er =>
    rw [hp] at CN
    clear hp
    show Calls Tryd.prog 49 _ w (fun e w' => e = .panicked (thrP N er) ∧ F2 rb mb w w')
    have CN2 : Hid (∀ w0, BW w w0 → Calls Tryd.prog 29 #[.pointer (some ⟨rb, 0, none⟩), .int .i64 1, .int .i64 ((d : Int) + 1)] w0 (fun e w' => e = .panicked (thrP N er) ∧ Fl rb w0 w')) := CN.out
    clear CN
    go_enter Tryd.func49, Tryd.ntmps49
    go_wp2_with (fail)
    obtain ⟨W, hW⟩ : ∃ W, W = (((w.alloc (.cells #[.string ⟨#[102, 105, 110, 97, 108, 108, 121]⟩, .int .u8 19, .int .i64 0] 92)).alloc (.cells #[.int .u8 0, .int .i64 0, .string ⟨#[]⟩, .slice none 0 0, .slice none 0 0] 26)).alloc (.cells #[.int .u8 19, .int .i64 0, .string ⟨#[]⟩, .slice none 0 0, .slice none 0 0] 26)).alloc (.map #[] 0) := ⟨_, rfl⟩
    have HBW : Hid (BW w W) := by show BW w W; rw [hW]; exact (by repeat (first | exact BW.refl _ | assumption | apply BW.alloc | apply BW.drewN | apply BW.drew | (refine BW.setCell ?_ (by first | omega | (simp; done) | (simp; omega)) _) | (refine BW.trans ?_ (by assumption))))
    have hzW : w.heap.size + 1 + 1 + 1 < W.heap.size := by rw [hW]; simp
    have HGn : Hid (W.heap[w.heap.size + 1 + 1]? = some (.cells #[.int .u8 19, .int .i64 0, .string ⟨#[]⟩, .slice none 0 0, .slice none 0 0] 26 (0, 0))) := by
      show _ = _
      rw [hW]
      refine ((BW.alloc (BW.refl _) _).block _ (by simp)).trans ?_
      have := heap_alloc_new ((w.alloc (.cells #[.string ⟨#[102, 105, 110, 97, 108, 108, 121]⟩, .int .u8 19, .int .i64 0] 92)).alloc (.cells #[.int .u8 0, .int .i64 0, .string ⟨#[]⟩, .slice none 0 0, .slice none 0 0] 26)) (.cells #[.int .u8 19, .int .i64 0, .string ⟨#[]⟩, .slice none 0 0, .slice none 0 0] 26)
      simpa using this
    have HGr : Hid (W.heap[w.heap.size + 1]? = some (.cells #[.int .u8 0, .int .i64 0, .string ⟨#[]⟩, .slice none 0 0, .slice none 0 0] 26 (0, 0))) := by
      show _ = _
      rw [hW]
      refine ((BW.alloc (BW.alloc (BW.refl _) _) _).block _ (by simp)).trans ?_
      have := heap_alloc_new (w.alloc (.cells #[.string ⟨#[102, 105, 110, 97, 108, 108, 121]⟩, .int .u8 19, .int .i64 0] 92)) (.cells #[.int .u8 0, .int .i64 0, .string ⟨#[]⟩, .slice none 0 0, .slice none 0 0] 26)
      simpa using this
    rw [← hW]
    clear hW
    go_loopw [24] (fun i wr => i = .int .i64 0 ∧ wr = W) (fun _ _ => 0)
    case atStart => exact ⟨rfl, rfl⟩
    case round =>
      obtain ⟨rfl, hwr⟩ := hrel
      subst wr
      have CW : Hid (Calls Tryd.prog 29 #[.pointer (some ⟨rb, 0, none⟩), .int .i64 1, .int .i64 ((d : Int) + 1)] W (fun e w' => e = .panicked (thrP N er) ∧ Fl rb W w')) := CN2.out W HBW.out
      clear CN2
      go_wp2_with (go_at_call 29; refine CW.out.mono ?_; rintro e w3 ⟨rfl, f3⟩)
      exact ⟨rfl, rfl, (Fl.trans (HBW.out.fl rb) f3).f2 mb⟩
  | ok p =>
    obtain ⟨l, q⟩ := p
    rw [hp] at CN
    clear hp
    show Calls Tryd.prog 49 _ w (fun e w' => ∃ v, e = .returned v ∧ NodeQ (fun b => w.heap.size ≤ b ∧ b < w'.heap.size) w' (f + 1) v ((⟨19, 0, bsB [], [], l⟩ : Nd (Tr f)) : Tr (f + 1)) ∧ RdP rb B N q w' ∧ TkIs w' mb ops ∧ F2 rb mb w w')
    go_enter Tryd.func49, Tryd.ntmps49
    go_wp2_with (fail)
    obtain ⟨W, hW⟩ : ∃ W, W = (((w.alloc (.cells #[.string ⟨#[102, 105, 110, 97, 108, 108, 121]⟩, .int .u8 19, .int .i64 0] 92)).alloc (.cells #[.int .u8 0, .int .i64 0, .string ⟨#[]⟩, .slice none 0 0, .slice none 0 0] 26)).alloc (.cells #[.int .u8 19, .int .i64 0, .string ⟨#[]⟩, .slice none 0 0, .slice none 0 0] 26)).alloc (.map #[] 0) := ⟨_, rfl⟩
    have HBW : Hid (BW w W) := by show BW w W; rw [hW]; exact (by repeat (first | exact BW.refl _ | assumption | apply BW.alloc | apply BW.drewN | apply BW.drew | (refine BW.setCell ?_ (by first | omega | (simp; done) | (simp; omega)) _) | (refine BW.trans ?_ (by assumption))))
    have hzW : w.heap.size + 1 + 1 + 1 < W.heap.size := by rw [hW]; simp
    have HGn : Hid (W.heap[w.heap.size + 1 + 1]? = some (.cells #[.int .u8 19, .int .i64 0, .string ⟨#[]⟩, .slice none 0 0, .slice none 0 0] 26 (0, 0))) := by
      show _ = _
      rw [hW]
      refine ((BW.alloc (BW.refl _) _).block _ (by simp)).trans ?_
      have := heap_alloc_new ((w.alloc (.cells #[.string ⟨#[102, 105, 110, 97, 108, 108, 121]⟩, .int .u8 19, .int .i64 0] 92)).alloc (.cells #[.int .u8 0, .int .i64 0, .string ⟨#[]⟩, .slice none 0 0, .slice none 0 0] 26)) (.cells #[.int .u8 19, .int .i64 0, .string ⟨#[]⟩, .slice none 0 0, .slice none 0 0] 26)
      simpa using this
    have HGr : Hid (W.heap[w.heap.size + 1]? = some (.cells #[.int .u8 0, .int .i64 0, .string ⟨#[]⟩, .slice none 0 0, .slice none 0 0] 26 (0, 0))) := by
      show _ = _
      rw [hW]
      refine ((BW.alloc (BW.alloc (BW.refl _) _) _).block _ (by simp)).trans ?_
      have := heap_alloc_new (w.alloc (.cells #[.string ⟨#[102, 105, 110, 97, 108, 108, 121]⟩, .int .u8 19, .int .i64 0] 92)) (.cells #[.int .u8 0, .int .i64 0, .string ⟨#[]⟩, .slice none 0 0, .slice none 0 0] 26)
      simpa using this
    rw [← hW]
    clear hW
    go_loopw [24] (fun i wr => i = .int .i64 0 ∧ wr = W) (fun _ _ => 0)
    case atStart => exact ⟨rfl, rfl⟩
    case round =>
      obtain ⟨rfl, hwr⟩ := hrel
      subst wr
      have CW : Hid (Calls Tryd.prog 29 #[.pointer (some ⟨rb, 0, none⟩), .int .i64 1, .int .i64 ((d : Int) + 1)] W (fun e w' => ∃ v, e = .returned v ∧ QRow w' W.heap.size f v l ∧ RdP rb B N q w' ∧ Fl rb W w')) := CN.out W HBW.out
      clear CN
      go_wp2_with (fail)
      refine CW.out.mono ?_
      rintro e w3 ⟨v3, rfl, W3, R3, F3⟩
      obtain ⟨ao, cp, rfl, S3, q1, q2', q3⟩ := W3.seq
      have hz3 := F3.size
      have HGn3 : Hid (w3.heap[w.heap.size + 1 + 1]? = some (.cells #[.int .u8 19, .int .i64 0, .string ⟨#[]⟩, .slice none 0 0, .slice none 0 0] 26 (0, 0))) := (F3.block _ (by omega) (by omega)).trans HGn.out
      have HGr3 : Hid (w3.heap[w.heap.size + 1]? = some (.cells #[.int .u8 0, .int .i64 0, .string ⟨#[]⟩, .slice none 0 0, .slice none 0 0] 26 (0, 0))) := (F3.block _ (by omega) (by omega)).trans HGr.out
      have HN3 : Hid (NodeQ (fun b => W.heap.size ≤ b ∧ b < w3.heap.size) w3 (f + 1) (ndv 19 0 ⟨#[]⟩ none 0 0 ao l.length cp) ((⟨19, 0, bsB [], [], l⟩ : Nd (Tr f)) : Tr (f + 1))) := ⟨none, 0, 0, ao, l.length, cp, rfl, wf_any 19 0 [] [] l (by decide) (by decide) (by decide) (by decide) (by simp), ⟨Nat.le_refl _, Nat.zero_le _, q1, q2'⟩, ⟨rfl, Nat.zero_le _, (by intro s hs; cases hs), .inl rfl⟩, S3, .inl rfl, q3⟩
      have HR3 : Hid (RdP rb B N q w3) := R3
      have HF3 : Hid (Fl rb w w3) := Fl.trans (HBW.out.fl rb) F3
      have HT3 : Hid (TkIs w3 mb ops) := HM.out.same (HF3.out.block mb hmb hne)
      clear W3 R3 F3 S3 q3 CW HGn HGr HBW
      have j0 : w3.cell? ⟨w.heap.size + 1 + 1, 0, none⟩ = some (.int .u8 19) := by rw [Lib.cell_of_heap HGn3.out]; rfl
      have j1 : w3.cell? ⟨w.heap.size + 1 + 1, 1, none⟩ = some (.int .i64 0) := by rw [Lib.cell_of_heap HGn3.out]; rfl
      have j2 : w3.cell? ⟨w.heap.size + 1 + 1, 2, none⟩ = some (.string ⟨#[]⟩) := by rw [Lib.cell_of_heap HGn3.out]; rfl
      have j3 : w3.cell? ⟨w.heap.size + 1 + 1, 3, none⟩ = some (.slice none 0 0) := by rw [Lib.cell_of_heap HGn3.out]; rfl
      have j4 : w3.cell? ⟨w.heap.size + 1 + 1, 4, none⟩ = some (.slice none 0 0) := by rw [Lib.cell_of_heap HGn3.out]; rfl
      have jz : ∀ o, w3.frozen? ⟨w.heap.size + 1 + 1, o, none⟩ = false := fun o => Lib.frozen_of_heap HGn3.out o
      have k0 : w3.cell? ⟨w.heap.size + 1, 0, none⟩ = some (.int .u8 0) := by rw [Lib.cell_of_heap HGr3.out]; rfl
      have k1 : w3.cell? ⟨w.heap.size + 1, 1, none⟩ = some (.int .i64 0) := by rw [Lib.cell_of_heap HGr3.out]; rfl
      have k2 : w3.cell? ⟨w.heap.size + 1, 2, none⟩ = some (.string ⟨#[]⟩) := by rw [Lib.cell_of_heap HGr3.out]; rfl
      have k3 : w3.cell? ⟨w.heap.size + 1, 3, none⟩ = some (.slice none 0 0) := by rw [Lib.cell_of_heap HGr3.out]; rfl
      have k4 : w3.cell? ⟨w.heap.size + 1, 4, none⟩ = some (.slice none 0 0) := by rw [Lib.cell_of_heap HGr3.out]; rfl
      have kz : ∀ o, w3.frozen? ⟨w.heap.size + 1, o, none⟩ = false := fun o => Lib.frozen_of_heap HGr3.out o
      go_wp2_with (fail)
      have HS4 : Hid ((w3.setCell ⟨w.heap.size + 1 + 1, 4, none⟩ (.slice ao l.length cp)).heap[w.heap.size + 1]? = some (.cells #[.int .u8 0, .int .i64 0, .string ⟨#[]⟩, .slice none 0 0, .slice none 0 0] 26 (0, 0))) := (heap_setCell_other _ ⟨w.heap.size + 1 + 1, 4, none⟩ (w.heap.size + 1) _ (by simp)).trans HGr3.out
      have HK : ∀ b, ¬ b = w.heap.size + 1 → ¬ b = w.heap.size + 1 + 1 → (((((((w3.setCell ⟨w.heap.size + 1 + 1, 4, none⟩ (.slice ao l.length cp)).setCell ⟨w.heap.size + 1, 0, none⟩ (.int .u8 19)).setCell ⟨w.heap.size + 1, 1, none⟩ (.int .i64 0)).setCell ⟨w.heap.size + 1, 2, none⟩ (.string ⟨#[]⟩)).setCell ⟨w.heap.size + 1, 3, none⟩ (.slice none 0 0)).setCell ⟨w.heap.size + 1, 4, none⟩ (.slice ao l.length cp))).heap[b]? = w3.heap[b]? := fun b h1 h2 => (set5o h1).trans (heap_setCell_other _ ⟨w.heap.size + 1 + 1, 4, none⟩ b _ h2)
      refine end_node Tryd.func49 8 rfl rfl (set5 HS4.out) ⟨_, rfl, ?_, HR3.out.up (fun j hj => HK j (by omega) (by omega)) (by simp [World.setCell]; omega), HT3.out.same (HK mb (by omega) (by omega)), (((HF3.out.setC _ 4 (.inl (by omega)) _).set5 (by omega)).f2 mb)⟩
      exact NodeQ.keep (fun b hb => ⟨by omega, by simp [World.setCell]; omega⟩) (fun b hb hl => HK b (by omega) (by omega)) (by simp [World.setCell]) HN3.out

end Go.Proofs.YtlacjiihbbgbeaaDoor
