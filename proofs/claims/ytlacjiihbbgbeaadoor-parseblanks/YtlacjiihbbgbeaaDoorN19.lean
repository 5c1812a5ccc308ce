import Derived.Test.YtlacjiihbbgbeaaDoorN18
namespace Go.Proofs.YtlacjiihbbgbeaaDoor
open Go.RowKit
set_option linter.unusedVariables false
set_option linter.unusedSimpArgs false

def leftOf (w : World) (rb : Nat) : Nat := match w.cell? ⟨rb, 0, none⟩ with
  | some v => rowLen v
  | none => 0
theorem RdP.leftOf {rb B N : Nat} {st : Ps} {w : World} (h : RdP rb B N st w) : leftOf w rb = st.1.length := by
  obtain ⟨_, _, _, _, _, ao, cp, _, _, hh, _⟩ := h
  have : w.cell? ⟨rb, 0, none⟩ = some (.slice ao st.1.length cp) := by rw [Lib.cell_of_heap hh]; rfl
  simp only [Go.Proofs.YtlacjiihbbgbeaaDoor.leftOf, this, rowLen]
def pEnd (f : Nat) (k : Nat) (s : List UInt8) (ns : List ByteArray) (R : Pr (List (Tr f))) : Pr (Tr (f + 1)) := match R with
  | .error e => .error e
  | .ok (l, q) => .ok ((⟨k, 0, bsB s, ns, l⟩ : Nd (Tr f)), q)
theorem wp_append_nds {o : Oper} {a : Act} {w w' : World} {K : Act → World → Prop} {Q : Exit → Act → World → Prop} {v v' : Value} {x : Value} (s t : Operand)
    (ho : o.op = .call { callee := .builtin .append, args := #[s, t], argTypes := #[24, 24] }) (hsv : a.eval s = v) (hxv : a.eval t = x) (hrun : (Builtin.append_ #[24, 24] o.type #[v, x]).run Tryd.prog w = .ok v' w') (h : K (a.put o.dst v') w') : Oper.wp Tryd.prog o a w K Q := by
  unfold Oper.wp execOp
  simp only [ho, resolve, invoke, builtin, Sem.run_bind, Sem.run_pure, Result.andThen_ok, List.map_toArray, List.map_cons, List.map_nil, hsv, hxv, hrun]
  exact h
theorem more_nil {X : Type} {node : Ps → Pr X} (c g : Nat) : pMore node (c + 1) ([], g) = .error (11, 0) := rfl
theorem more_shut {X : Type} {node : Ps → Pr X} (c g : Nat) (t : Tok) (r : List Tok) (h : t.kind = 2) : pMore node (c + 1) (t :: r, g) = .ok ([], (t :: r, g)) := by simp only [pMore, if_pos h]
theorem more_err {X : Type} {node : Ps → Pr X} (c g : Nat) (t : Tok) (r : List Tok) (h : ¬ t.kind = 2) {e : Pe} (hn : node (t :: r, g) = .error e) : pMore node (c + 1) (t :: r, g) = .error e := by
  simp only [pMore, if_neg h, hn]
theorem more_ok {X : Type} {node : Ps → Pr X} (c g : Nat) (t : Tok) (r : List Tok) (h : ¬ t.kind = 2) {x : X} {q : Ps} (hn : node (t :: r, g) = .ok (x, q)) (l : List X) : pPre l (pMore node (c + 1) (t :: r, g)) = pPre (l ++ [x]) (pMore node c q) := by
  simp only [pMore, if_neg h, hn]
  cases pMore node c q with
  | error e => rfl
  | ok p => obtain ⟨m, q2⟩ := p; simp [pPre]
set_option maxRecDepth 100000 in
set_option maxHeartbeats 4000000 in
theorem form_more {f : Nat} (ihN : NodeC f) (rb B N d : Nat) (word : List UInt8) (k parts : Nat) (hk : k ≤ 255) (h6 : ¬ k = 6) (h13 : ¬ k = 13) (hpt : parts ≤ 3) (hd : d + (f + 1) = 61) (st : Ps) (w : World) (h : RdP rb B N st w) (hG : Gv w) (hrb : 2 < rb) : Calls Tryd.prog 30 #[.pointer (some ⟨rb, 0, none⟩), foV ⟨word, k, false, parts, true⟩, .int .i64 d] w (PostP (fun w' v x => NodeQ (fun b => w.heap.size ≤ b ∧ b < w'.heap.size) w' (f + 1) v x) rb B N w (pForm f (pN f).1 (pN f).2 ⟨word, k, false, parts, true⟩ st)) := by
  have hlt := h.lt
  have hBw := h.2.2.2.2.1
  have hlb : rb < B := h.2.2.2.1
  have HG : Hid (Gv w) := hG
  have IN : Hid (NodeC f) := ihN
  have H0 : Hid (RdP rb B N st w) := h
  have hsl : st.1.length ≤ 100000 := h.2.2.1.2
  have hmm : ∀ w : World, (Instr.makeMap 83 none).run Tryd.prog w = .ok (.map (some w.heap.size)) (w.alloc (.map #[] 0)) := fun w => by first | rfl | simp [Instr.makeMap]
  have hfd : ∀ (v0 v1 v2 v3 : Value) (w : World), (Instr.field 50 (.agg #[v0, v1, v2, v3]) 0).run Tryd.prog w = .ok v0 w := fun v0 v1 v2 v3 w => by kernel_rfl
  have hwd : IntKind.i64.wrap ((d : Int) + 1) = (d : Int) + 1 := i64w _ (by omega) (by omega)
  have c6 : ((k : Int) == 6) = false := by simp; omega
  have c13 : ((k : Int) == 13) = false := by simp; omega
  have e0 : pForm f (pN f).1 (pN f).2 ⟨word, k, false, parts, true⟩ st = (match pMany (pN f).1 parts st with
      | .error e => .error e
      | .ok (l, st3) => match pMore (pN f).1 (st3.1.length + 1) st3 with
        | .error e => .error e
        | .ok (l2, st4) => .ok ((⟨k, 0, bsB [], [], l ++ l2 ++ []⟩ : Nd (Tr f)), st4)) := by
    unfold pForm
    simp [h6, h13]
    try rfl
  rw [e0]
  generalize hR : (match pMany (pN f).1 parts st with
      | .error e => .error e
      | .ok (l, st3) => match pMore (pN f).1 (st3.1.length + 1) st3 with
        | .error e => .error e
        | .ok (l2, st4) => .ok ((⟨k, 0, bsB [], [], l ++ l2 ++ []⟩ : Nd (Tr f)), st4) : Pr (Tr (f + 1))) = R
  have HQ : Hid ((match pMany (pN f).1 parts st with
      | .error e => .error e
      | .ok (l, st3) => match pMore (pN f).1 (st3.1.length + 1) st3 with
        | .error e => .error e
        | .ok (l2, st4) => .ok ((⟨k, 0, bsB [], [], l ++ l2 ++ []⟩ : Nd (Tr f)), st4) : Pr (Tr (f + 1))) = R) := hR
  clear hR e0 hG ihN h
  show Calls Tryd.prog 30 #[.pointer (some ⟨rb, 0, none⟩), .agg #[.string ⟨word.toArray⟩, .int .u8 k, .bool false, .int .i64 parts, .bool true], .int .i64 d] w _
  go_enter Tryd.func30, Tryd.ntmps30
  go_wp2_with (fail)
  obtain ⟨W, hW⟩ : ∃ W, W = (((w.alloc (.cells #[.string ⟨word.toArray⟩, .int .u8 k, .bool false, .int .i64 parts, .bool true] 64)).alloc (.cells #[.int .u8 0, .int .i64 0, .string ⟨#[]⟩, .slice none 0 0, .slice none 0 0] 26)).alloc (.cells #[.int .u8 k, .int .i64 0, .string ⟨#[]⟩, .slice none 0 0, .slice none 0 0] 26)) := ⟨_, rfl⟩
  have HBW : Hid (BW w W) := by show BW w W; rw [hW]; exact (by repeat (first | exact BW.refl _ | assumption | apply BW.alloc | apply BW.drewN | apply BW.drew | (refine BW.setCell ?_ (by first | omega | (simp; done) | (simp; omega)) _) | (refine BW.trans ?_ (by assumption))))
  have hzW : W.heap.size = w.heap.size + 1 + 1 + 1 := by rw [hW]; simp
  have HGn : Hid (W.heap[w.heap.size + 1 + 1]? = some (.cells #[.int .u8 k, .int .i64 0, .string ⟨#[]⟩, .slice none 0 0, .slice none 0 0] 26 (0, 0))) := by
    show _ = _
    rw [hW]
    
    have := heap_alloc_new ((w.alloc (.cells #[.string ⟨word.toArray⟩, .int .u8 k, .bool false, .int .i64 parts, .bool true] 64)).alloc (.cells #[.int .u8 0, .int .i64 0, .string ⟨#[]⟩, .slice none 0 0, .slice none 0 0] 26)) (.cells #[.int .u8 k, .int .i64 0, .string ⟨#[]⟩, .slice none 0 0, .slice none 0 0] 26)
    simpa using this
  have HGr : Hid (W.heap[w.heap.size + 1]? = some (.cells #[.int .u8 0, .int .i64 0, .string ⟨#[]⟩, .slice none 0 0, .slice none 0 0] 26 (0, 0))) := by
    show _ = _
    rw [hW]
    refine ((BW.alloc (BW.refl _) _).block _ (by simp)).trans ?_
    have := heap_alloc_new (w.alloc (.cells #[.string ⟨word.toArray⟩, .int .u8 k, .bool false, .int .i64 parts, .bool true] 64)) (.cells #[.int .u8 0, .int .i64 0, .string ⟨#[]⟩, .slice none 0 0, .slice none 0 0] 26)
    simpa using this
  have HGa : Hid (W.heap[w.heap.size]? = some (.cells #[.string ⟨word.toArray⟩, .int .u8 k, .bool false, .int .i64 parts, .bool true] 64 (0, 0))) := by
    show _ = _
    rw [hW]
    refine ((BW.alloc (BW.alloc (BW.refl _) _) _).block _ (by simp)).trans ?_
    exact heap_alloc_new w _
  rw [← hW]
  clear hW
  have HRk : Hid (RdP rb B N st W) := H0.out.bw HBW.out
  have HFk : Hid (Fl rb w W) := HBW.out.fl rb
  have HGv : Hid (Gv W) := HG.out.fl HFk.out hrb
  have CN : Hid (Calls Tryd.prog 29 #[.pointer (some ⟨rb, 0, none⟩), .int .i64 parts, .int .i64 ((d : Int) + 1)] W (PostP (fun w' v l => QRow w' W.heap.size f v l) rb B N W (pMany (pN f).1 parts st))) := by
    have := nodes_of IN.out rb B N (d + 1) parts (by omega) (by omega) st W HRk.out HGv.out hrb
    push_cast at this
    exact this
  cases hp : pMany (pN f).1 parts st with
  | error er =>
    rw [hp] at CN HQ
    obtain rfl : R = .error er := HQ.out.symm
    have CN2 : Hid (Calls Tryd.prog 29 #[.pointer (some ⟨rb, 0, none⟩), .int .i64 parts, .int .i64 ((d : Int) + 1)] W (fun e w' => e = .panicked (thrP N er) ∧ Fl rb W w')) := CN.out
    clear hp HQ CN
    refine CN2.out.mono ?_
    rintro e w9 ⟨rfl, f9⟩
    exact ⟨rfl, rfl, HFk.out.trans f9⟩
  | ok p =>
    obtain ⟨l, q3⟩ := p
    have hlq3 : Hid (l.length = parts) := many_len hp
    have hle3 : Hid (q3.1.length ≤ st.1.length) := many_le (fun st x q h => Nat.le_of_lt ((pN_lt f).1 st x q h)) parts hp
    rw [hp] at CN HQ
    have CN2 : Hid (Calls Tryd.prog 29 #[.pointer (some ⟨rb, 0, none⟩), .int .i64 parts, .int .i64 ((d : Int) + 1)] W (fun e w' => ∃ v, e = .returned v ∧ QRow w' W.heap.size f v l ∧ RdP rb B N q3 w' ∧ Fl rb W w')) := CN.out
    clear hp CN
    refine CN2.out.mono ?_
    rintro e w3 ⟨v3, rfl, Q3, R3, F3⟩
    obtain ⟨ao, cp, rfl, _⟩ := Q3.seq
    have hz3 := F3.size
    have HGn3 : Hid (w3.heap[w.heap.size + 1 + 1]? = some (.cells #[.int .u8 k, .int .i64 0, .string ⟨#[]⟩, .slice none 0 0, .slice none 0 0] 26 (0, 0))) := (F3.block _ (by omega) (by omega)).trans HGn.out
    have HGr3 : Hid (w3.heap[w.heap.size + 1]? = some (.cells #[.int .u8 0, .int .i64 0, .string ⟨#[]⟩, .slice none 0 0, .slice none 0 0] 26 (0, 0))) := (F3.block _ (by omega) (by omega)).trans HGr.out
    have HGa3 : Hid (w3.heap[w.heap.size]? = some (.cells #[.string ⟨word.toArray⟩, .int .u8 k, .bool false, .int .i64 parts, .bool true] 64 (0, 0))) := (F3.block _ (by omega) (by omega)).trans HGa.out
    have j0 : w3.cell? ⟨w.heap.size + 1 + 1, 0, none⟩ = some (.int .u8 k) := by rw [Lib.cell_of_heap HGn3.out]; rfl
    have j1 : w3.cell? ⟨w.heap.size + 1 + 1, 1, none⟩ = some (.int .i64 0) := by rw [Lib.cell_of_heap HGn3.out]; rfl
    have j2 : w3.cell? ⟨w.heap.size + 1 + 1, 2, none⟩ = some (.string ⟨#[]⟩) := by rw [Lib.cell_of_heap HGn3.out]; rfl
    have j3 : w3.cell? ⟨w.heap.size + 1 + 1, 3, none⟩ = some (.slice none 0 0) := by rw [Lib.cell_of_heap HGn3.out]; rfl
    have j4 : w3.cell? ⟨w.heap.size + 1 + 1, 4, none⟩ = some (.slice none 0 0) := by rw [Lib.cell_of_heap HGn3.out]; rfl
    have jz : ∀ o, w3.frozen? ⟨w.heap.size + 1 + 1, o, none⟩ = false := fun o => Lib.frozen_of_heap HGn3.out o
    have HR3 : Hid (RdP rb B N q3 w3) := R3
    have HF3 : Hid (Fl rb w w3) := HFk.out.trans F3
    have HFk3 : Hid (Fl rb W w3) := F3
    have HQ3 : Hid (QRow w3 W.heap.size f (.slice ao l.length cp) l) := Q3
    clear R3 F3 Q3 CN2 HGn HGr HGa HGv HFk
    go_wp2_with (fail)
    obtain ⟨X, hX⟩ : ∃ X, X = w3.setCell ⟨w.heap.size + 1 + 1, 4, none⟩ (.slice ao l.length cp) := ⟨_, rfl⟩
    have hzX : X.heap.size = w3.heap.size := by rw [hX]; simp [World.setCell]
    have hXo : ∀ b, ¬ b = w.heap.size + 1 + 1 → X.heap[b]? = w3.heap[b]? := fun b hb => by rw [hX]; exact sco _ hb
    have HGn : Hid (X.heap[w.heap.size + 1 + 1]? = some (.cells #[.int .u8 k, .int .i64 0, .string ⟨#[]⟩, .slice none 0 0, .slice ao l.length cp] 26 (0, 0))) := by show _ = _; rw [hX]; exact heap_setCell_same w3 (w.heap.size + 1 + 1) 4 _ 26 _ HGn3.out
    have HGr : Hid (X.heap[w.heap.size + 1]? = some (.cells #[.int .u8 0, .int .i64 0, .string ⟨#[]⟩, .slice none 0 0, .slice none 0 0] 26 (0, 0))) := (hXo _ (by omega)).trans HGr3.out
    have HGa : Hid (X.heap[w.heap.size]? = some (.cells #[.string ⟨word.toArray⟩, .int .u8 k, .bool false, .int .i64 parts, .bool true] 64 (0, 0))) := (hXo _ (by omega)).trans HGa3.out
    have HRX : Hid (RdP rb B N q3 X) := HR3.out.up (fun b hb => hXo b (by omega)) (by omega)
    have HFX : Hid (Fl rb w X) := HF3.out.hi (fun b hb => hXo b (by omega)) (by rw [hX]; rfl) (by rw [hX]; rfl) (by rw [hX]; rfl) (by omega)
    have HQX : Hid (QRow X W.heap.size f (.slice ao l.length cp) l) := HQ3.out.keep (fun b hb _ => hXo b (by omega)) (by omega)
    have hBX : B ≤ X.heap.size := by omega

    rw [← hX]
    clear hX j0 j1 j2 j3 j4 jz HGn3 HGr3 HGa3 HR3 HF3 HQ3 HRk
    have HE0 : Hid (pEnd f k [] [] (pPre l (pMore (pN f).1 (q3.1.length + 1) q3)) = R) := by
      show _ = R
      rw [← HQ.out]
      cases pMore (pN f).1 (q3.1.length + 1) q3 with
      | error e => rfl
      | ok p => obtain ⟨m, q⟩ := p; simp [pPre, pEnd]
    have hle := hle3.out
    have hll := hlq3.out
    clear HQ hlq3
    go_loopw [30] (fun _ wr => ∃ (l : List (Tr f)) (q : Ps) (c : Nat) (v : Value), Hid (wr.heap[w.heap.size + 1 + 1]? = some (.cells #[.int .u8 k, .int .i64 0, .string ⟨#[]⟩, .slice none 0 0, v] 26 (0, 0))) ∧ Hid (wr.heap[w.heap.size + 1]? = some (.cells #[.int .u8 0, .int .i64 0, .string ⟨#[]⟩, .slice none 0 0, .slice none 0 0] 26 (0, 0))) ∧ Hid (wr.heap[w.heap.size]? = some (.cells #[.string ⟨word.toArray⟩, .int .u8 k, .bool false, .int .i64 parts, .bool true] 64 (0, 0))) ∧ Hid (QRow wr (w.heap.size + 1 + 1 + 1) f v l) ∧ Hid (RdP rb B N q wr) ∧ l.length + q.1.length ≤ 3 + st.1.length ∧ q.1.length < c ∧ Hid (pEnd f k [] [] (pPre l (pMore (pN f).1 c q)) = R) ∧ w.heap.size + 1 + 1 + 1 ≤ wr.heap.size ∧ Hid (Fl rb w wr)) (fun _ wr => leftOf wr rb)
    case atStart => exact ⟨l, q3, q3.1.length + 1, _, HGn.out, HGr.out, HGa.out, HQX.out.low (by omega), HRX.out, by omega, by omega, HE0.out, by omega, HFX.out⟩
    case round =>
      clear HGn HGr HGa HQX HRX HFX HE0 HFk3 hXo hle hll hle3
      obtain ⟨l, q, c, v, HGn, HGr, HGa, HW, HRq, hlq, hqc, HE, hzr, HFq⟩ := hrel
      obtain ⟨c, rfl⟩ : ∃ c', c = c' + 1 := ⟨c - 1, by omega⟩
      have hlw := HRq.out.leftOf
      have a4 : wr.cell? ⟨w.heap.size, 4, none⟩ = some (.bool true) := by rw [Lib.cell_of_heap HGa.out]; rfl
      obtain ⟨ts, gg⟩ := q
      cases ts with
      | nil =>
        have CP : Hid (∀ w', BW wr w' → Calls Tryd.prog 27 #[.pointer (some ⟨rb, 0, none⟩)] w' fun e w'' => e = .panicked (thrP N (11, 0)) ∧ BW w' w'') := fun w' hb => peek_nil rb B N gg w' (HRq.out.bw hb)
        obtain rfl : R = .error (11, 0) := by rw [← HE.out]; rfl
        go_wp2_with (go_at_call 27; refine (CP.out _ (by repeat (first | exact BW.refl _ | assumption | apply BW.alloc | apply BW.drewN | apply BW.drew | (refine BW.setCell ?_ (by first | omega | (simp; done) | (simp; omega)) _) | (refine BW.trans ?_ (by assumption))))).mono ?_; rintro e w1 ⟨rfl, b1⟩)
        exact ⟨rfl, rfl, HFq.out.trans (BW.fl (by repeat (first | exact BW.refl _ | assumption | apply BW.alloc | apply BW.drewN | apply BW.drew | (refine BW.setCell ?_ (by first | omega | (simp; done) | (simp; omega)) _) | (refine BW.trans ?_ (by assumption)))) rb)⟩
      | cons t r =>
        have CP : Hid (∀ w', BW wr w' → Calls Tryd.prog 27 #[.pointer (some ⟨rb, 0, none⟩)] w' fun e w'' => e = .returned (.agg #[.int .u8 t.kind, .string ⟨t.s.toArray⟩, .int .i64 t.n, .int .i64 ((N - t.back : Nat) : Int)]) ∧ BW w' w'') := fun w' hb => peek_cons rb B N gg t r w' (HRq.out.bw hb)
        by_cases h2 : t.kind = 2
        · have c1 : ((t.kind : Int) != 2) = false := by simp; omega
          obtain rfl : R = .ok ((⟨k, 0, bsB [], [], l⟩ : Nd (Tr f)), (t :: r, gg)) := by rw [← HE.out, more_shut _ _ _ _ h2]; simp [pPre, pEnd]
          clear HE h2
          go_wp2_with (fail)
          refine (CP.out _ (by repeat (first | exact BW.refl _ | assumption | apply BW.alloc | apply BW.drewN | apply BW.drew | (refine BW.setCell ?_ (by first | omega | (simp; done) | (simp; omega)) _) | (refine BW.trans ?_ (by assumption))))).mono ?_
          rintro e w1 ⟨rfl, b1⟩
          have HB1 : Hid (BW wr w1) := b1
          have hz1 := b1.size
          have HW1 : Hid (QRow w1 (w.heap.size + 1 + 1 + 1) f v l) := HW.out.keep (fun b _ hl => b1.block b hl) b1.size
          obtain ⟨ao, cp, rfl, S, q1, q2, q4⟩ := HW1.out.seq
          have HGn1 : Hid (w1.heap[w.heap.size + 1 + 1]? = some (.cells #[.int .u8 k, .int .i64 0, .string ⟨#[]⟩, .slice none 0 0, .slice ao l.length cp] 26 (0, 0))) := (b1.block _ (by omega)).trans HGn.out
          have HGr1 : Hid (w1.heap[w.heap.size + 1]? = some (.cells #[.int .u8 0, .int .i64 0, .string ⟨#[]⟩, .slice none 0 0, .slice none 0 0] 26 (0, 0))) := (b1.block _ (by omega)).trans HGr.out
          have HGa1 : Hid (w1.heap[w.heap.size]? = some (.cells #[.string ⟨word.toArray⟩, .int .u8 k, .bool false, .int .i64 parts, .bool true] 64 (0, 0))) := (b1.block _ (by omega)).trans HGa.out
          have HRX : Hid (RdP rb B N (t :: r, gg) w1) := HRq.out.bw b1
          have HFX : Hid (Fl rb w w1) := HFq.out.trans (b1.fl rb)
          clear HW HGn HGr HGa HRq HFq CP b1
          have HGn := HGn1
          have HGr := HGr1
          clear HGn1 HGr1
          have a1 : w1.cell? ⟨w.heap.size, 1, none⟩ = some (.int .u8 k) := by rw [Lib.cell_of_heap HGa1.out]; rfl
          have j0 : w1.cell? ⟨w.heap.size + 1 + 1, 0, none⟩ = some (.int .u8 k) := by rw [Lib.cell_of_heap HGn.out]; rfl
          have j1 : w1.cell? ⟨w.heap.size + 1 + 1, 1, none⟩ = some (.int .i64 0) := by rw [Lib.cell_of_heap HGn.out]; rfl
          have j2 : w1.cell? ⟨w.heap.size + 1 + 1, 2, none⟩ = some (.string ⟨#[]⟩) := by rw [Lib.cell_of_heap HGn.out]; rfl
          have j3 : w1.cell? ⟨w.heap.size + 1 + 1, 3, none⟩ = some (.slice none 0 0) := by rw [Lib.cell_of_heap HGn.out]; rfl
          have j4 : w1.cell? ⟨w.heap.size + 1 + 1, 4, none⟩ = some (.slice ao l.length cp) := by rw [Lib.cell_of_heap HGn.out]; rfl
          have jz : ∀ o, w1.frozen? ⟨w.heap.size + 1 + 1, o, none⟩ = false := fun o => Lib.frozen_of_heap HGn.out o
          have k0 : w1.cell? ⟨w.heap.size + 1, 0, none⟩ = some (.int .u8 0) := by rw [Lib.cell_of_heap HGr.out]; rfl
          have k1 : w1.cell? ⟨w.heap.size + 1, 1, none⟩ = some (.int .i64 0) := by rw [Lib.cell_of_heap HGr.out]; rfl
          have k2 : w1.cell? ⟨w.heap.size + 1, 2, none⟩ = some (.string ⟨#[]⟩) := by rw [Lib.cell_of_heap HGr.out]; rfl
          have k3 : w1.cell? ⟨w.heap.size + 1, 3, none⟩ = some (.slice none 0 0) := by rw [Lib.cell_of_heap HGr.out]; rfl
          have k4 : w1.cell? ⟨w.heap.size + 1, 4, none⟩ = some (.slice none 0 0) := by rw [Lib.cell_of_heap HGr.out]; rfl
          have kz : ∀ o, w1.frozen? ⟨w.heap.size + 1, o, none⟩ = false := fun o => Lib.frozen_of_heap HGr.out o
          go_wp2_with (fail)
          have HK : ∀ b, ¬ b = w.heap.size + 1 → (((((w1.setCell ⟨w.heap.size + 1, 0, none⟩ (.int .u8 k)).setCell ⟨w.heap.size + 1, 1, none⟩ (.int .i64 0)).setCell ⟨w.heap.size + 1, 2, none⟩ (.string ⟨#[]⟩)).setCell ⟨w.heap.size + 1, 3, none⟩ (.slice none 0 0)).setCell ⟨w.heap.size + 1, 4, none⟩ (.slice ao (l).length cp)).heap[b]? = w1.heap[b]? := fun b h1 => set5o h1
          have S5 := set5 (a := .int .u8 k) (c := .int .i64 0) (d := .string ⟨#[]⟩) (e := .slice none 0 0) (f := .slice ao (l).length cp) HGr.out
          have G1 : RdP rb B N (t :: r, gg) (((((w1.setCell ⟨w.heap.size + 1, 0, none⟩ (.int .u8 k)).setCell ⟨w.heap.size + 1, 1, none⟩ (.int .i64 0)).setCell ⟨w.heap.size + 1, 2, none⟩ (.string ⟨#[]⟩)).setCell ⟨w.heap.size + 1, 3, none⟩ (.slice none 0 0)).setCell ⟨w.heap.size + 1, 4, none⟩ (.slice ao (l).length cp)) := HRX.out.up (fun j hj => HK j (by omega)) (by simp [World.setCell]; omega)
          have G3 : Fl rb w (((((w1.setCell ⟨w.heap.size + 1, 0, none⟩ (.int .u8 k)).setCell ⟨w.heap.size + 1, 1, none⟩ (.int .i64 0)).setCell ⟨w.heap.size + 1, 2, none⟩ (.string ⟨#[]⟩)).setCell ⟨w.heap.size + 1, 3, none⟩ (.slice none 0 0)).setCell ⟨w.heap.size + 1, 4, none⟩ (.slice ao (l).length cp)) := HFX.out.set5 (by omega)
          generalize hWf : (((((w1.setCell ⟨w.heap.size + 1, 0, none⟩ (.int .u8 k)).setCell ⟨w.heap.size + 1, 1, none⟩ (.int .i64 0)).setCell ⟨w.heap.size + 1, 2, none⟩ (.string ⟨#[]⟩)).setCell ⟨w.heap.size + 1, 3, none⟩ (.slice none 0 0)).setCell ⟨w.heap.size + 1, 4, none⟩ (.slice ao (l).length cp)) = wf at HK G1 G3 S5 ⊢
          have hzf : wf.heap.size = w1.heap.size := by rw [← hWf]; simp [World.setCell]
          have HN : NodeQ (fun b => w.heap.size + 1 + 1 + 1 ≤ b ∧ b < w1.heap.size) w1 (f + 1) (ndv k 0 ⟨#[]⟩ none 0 0 ao (l).length cp) ((⟨k, 0, bsB [], [], l⟩ : Nd (Tr f)) : Tr (f + 1)) := ⟨none, 0, 0, ao, (l).length, cp, rfl, wf_any k 0 [] [] (l) (by omega) (by omega) (by decide) (by decide) (by simp), ⟨Nat.le_refl _, Nat.zero_le _, q1, q2⟩, ⟨rfl, Nat.zero_le _, (by intro s hs; cases hs), .inl rfl⟩, S.imp (fun v x h => NodeQ.keep (fun b hb => ⟨by omega, hb.2⟩) (fun _ _ _ => rfl) (Nat.le_refl _) h), .inl rfl, (by rcases q4 with h | ⟨b, off, h1, h2, h3⟩; exact .inl h; exact .inr ⟨b, off, h1, by omega, h3⟩)⟩
          have G4 : NodeQ (fun b => w.heap.size ≤ b ∧ b < wf.heap.size) wf (f + 1) (ndv k 0 ⟨#[]⟩ none 0 0 ao (l).length cp) ((⟨k, 0, bsB [], [], l⟩ : Nd (Tr f)) : Tr (f + 1)) := NodeQ.keep (fun b hb => ⟨by omega, by omega⟩) (fun b hb hl => HK b (by omega)) (by omega) HN
          exact end_node Tryd.func30 6 rfl rfl S5 ⟨_, rfl, G4, G1, G3⟩
        · have c1 : ((t.kind : Int) != 2) = true := by simp; omega
          have CN0 : Hid (∀ w', BW wr w' → Calls Tryd.prog 12 #[.pointer (some ⟨rb, 0, none⟩), .int .i64 ((d : Int) + 1)] w' (PostP (fun w'' v x => NodeQ (fun b => w'.heap.size ≤ b ∧ b < w''.heap.size) w'' f v x) rb B N w' ((pN f).1 (t :: r, gg)))) := fun w' hb => by
            have := IN.out rb B N (d + 1) (t :: r, gg) w' (by omega) (HRq.out.bw hb) ((HG.out.fl HFq.out hrb).bw hb) hrb
            push_cast at this
            exact this
          go_wp2_with (fail)
          refine (CP.out _ (by repeat (first | exact BW.refl _ | assumption | apply BW.alloc | apply BW.drewN | apply BW.drew | (refine BW.setCell ?_ (by first | omega | (simp; done) | (simp; omega)) _) | (refine BW.trans ?_ (by assumption))))).mono ?_
          rintro e w1 ⟨rfl, b1⟩
          have hz1 := b1.size
          have HW1 : Hid (QRow w1 (w.heap.size + 1 + 1 + 1) f v l) := HW.out.keep (fun b _ hl => b1.block b hl) b1.size
          have HGn1 : Hid (w1.heap[w.heap.size + 1 + 1]? = some (.cells #[.int .u8 k, .int .i64 0, .string ⟨#[]⟩, .slice none 0 0, v] 26 (0, 0))) := (b1.block _ (by omega)).trans HGn.out
          have HGr1 : Hid (w1.heap[w.heap.size + 1]? = some (.cells #[.int .u8 0, .int .i64 0, .string ⟨#[]⟩, .slice none 0 0, .slice none 0 0] 26 (0, 0))) := (b1.block _ (by omega)).trans HGr.out
          have HGa1 : Hid (w1.heap[w.heap.size]? = some (.cells #[.string ⟨word.toArray⟩, .int .u8 k, .bool false, .int .i64 parts, .bool true] 64 (0, 0))) := (b1.block _ (by omega)).trans HGa.out
          have HR1 : Hid (RdP rb B N (t :: r, gg) w1) := HRq.out.bw b1
          have HF1 : Hid (Fl rb w w1) := HFq.out.trans (b1.fl rb)
          have CN : Hid (∀ w', BW w1 w' → Calls Tryd.prog 12 #[.pointer (some ⟨rb, 0, none⟩), .int .i64 ((d : Int) + 1)] w' (PostP (fun w'' v x => NodeQ (fun b => w'.heap.size ≤ b ∧ b < w''.heap.size) w'' f v x) rb B N w' ((pN f).1 (t :: r, gg)))) := fun w' hb => CN0.out w' (b1.trans hb)
          clear HW HGn HGr HGa HRq HFq CP b1 CN0
          have x4 : w1.cell? ⟨w.heap.size + 1 + 1, 4, none⟩ = some v := by rw [Lib.cell_of_heap HGn1.out]; rfl
          have xz : ∀ o, w1.frozen? ⟨w.heap.size + 1 + 1, o, none⟩ = false := fun o => Lib.frozen_of_heap HGn1.out o
          cases hp : (pN f).1 (t :: r, gg) with
          | error er =>
            rw [hp] at CN
            obtain rfl : R = .error er := by rw [← HE.out, more_err _ _ _ _ h2 hp]; rfl
            have CN2 : Hid (∀ w', BW w1 w' → Calls Tryd.prog 12 #[.pointer (some ⟨rb, 0, none⟩), .int .i64 ((d : Int) + 1)] w' (fun e w'' => e = .panicked (thrP N er) ∧ Fl rb w' w'')) := CN.out
            clear hp HE h2 CN
            go_wp2_with (fail)
            refine wp_region_held_drew (S := fun _ => True) (by kernel_rfl) trivial (fun hHeld => ?_)
            refine wpAnyH_take (i := 0) (v := ?va0) rfl (by kernel_rfl) (by kernel_rfl) (by kernel_rfl) (fun _ _ _ h => h) (Or.inl ⟨by kernel_rfl, ?hya0⟩) (by trivial) ?resta0
            case hya0 => (intro w hSw; (try dsimp only at hSw); go_simp; first | done | with_reducible rfl)
            try simp only [Act.put, List.setIfInBounds_toArray, List.set_cons_zero, List.set_cons_succ]
            refine wpAnyH_take (i := 2) (v := ?va2) rfl (by kernel_rfl) (by kernel_rfl) (by kernel_rfl) (fun _ _ _ h => h) (Or.inl ⟨by kernel_rfl, ?hya2⟩) (by trivial) ?resta2
            case hya2 => (intro w hSw; (try dsimp only at hSw); go_simp; first | done | with_reducible rfl)
            try simp only [Act.put, List.setIfInBounds_toArray, List.set_cons_zero, List.set_cons_succ]
            refine wpAnyH_take (i := 3) (v := ?va3) rfl (by kernel_rfl) (by kernel_rfl) (by kernel_rfl) (fun _ _ _ h => h) (Or.inl ⟨by kernel_rfl, ?hya3⟩) (by trivial) ?resta3
            case hya3 => (intro w hSw; (try dsimp only at hSw); go_simp; first | done | with_reducible rfl)
            try simp only [Act.put, List.setIfInBounds_toArray, List.set_cons_zero, List.set_cons_succ]
            refine wpAnyH_take (i := 4) (v := ?va4) rfl (by kernel_rfl) (by kernel_rfl) (by kernel_rfl) (fun _ _ _ h => h) (Or.inl ⟨by kernel_rfl, ?hya4⟩) (by trivial) ?resta4
            case hya4 => (intro w hSw; (try dsimp only at hSw); go_simp; first | done | with_reducible rfl)
            try simp only [Act.put, List.setIfInBounds_toArray, List.set_cons_zero, List.set_cons_succ]
            refine wpAnyH_ready (rs := [1, 5]) (by kernel_rfl) (by simp) ?_
            refine AllReadyH.cons rfl (fun K hK => ?_) (AllReadyH.cons rfl (fun K hK => ?_) AllReadyH.nil)
            · go_simp
              refine hK.out _ _ trivial (fun _ => ?_)
              clear hK K
              try simp only [Act.put, List.setIfInBounds_toArray, List.set_cons_zero, List.set_cons_succ]
              refine wpAnyH_ready (rs := [5]) (by kernel_rfl) (by simp) ?_
              refine AllReadyH.cons rfl (fun K hK => ?_) AllReadyH.nil
              go_simp
              refine (CN2.out _ (by repeat (first | exact BW.refl _ | assumption | apply BW.alloc | apply BW.drewN | apply BW.drew | (refine BW.setCell ?_ (by first | omega | (simp; done) | (simp; omega)) _) | (refine BW.trans ?_ (by assumption))))).mono ?_
              rintro e w3 ⟨rfl, f3⟩
              exact ⟨rfl, rfl, HF1.out.trans (Fl.trans (BW.fl (by repeat (first | exact BW.refl _ | assumption | apply BW.alloc | apply BW.drewN | apply BW.drew | (refine BW.setCell ?_ (by first | omega | (simp; done) | (simp; omega)) _) | (refine BW.trans ?_ (by assumption)))) rb) f3)⟩
            · clear hK
              go_simp
              refine (CN2.out _ (by repeat (first | exact BW.refl _ | assumption | apply BW.alloc | apply BW.drewN | apply BW.drew | (refine BW.setCell ?_ (by first | omega | (simp; done) | (simp; omega)) _) | (refine BW.trans ?_ (by assumption))))).mono ?_
              rintro e w3 ⟨rfl, f3⟩
              exact ⟨rfl, rfl, HF1.out.trans (Fl.trans (BW.fl (by repeat (first | exact BW.refl _ | assumption | apply BW.alloc | apply BW.drewN | apply BW.drew | (refine BW.setCell ?_ (by first | omega | (simp; done) | (simp; omega)) _) | (refine BW.trans ?_ (by assumption)))) rb) f3)⟩
          | ok p =>
            obtain ⟨x, q2⟩ := p
            have hlen := (pN_lt f).1 _ _ _ hp
            rw [hp] at CN
            have HQ2 : Hid (pEnd f k [] [] (pPre (l ++ [x]) (pMore (pN f).1 c q2)) = R) := by
              show _ = R
              rw [← HE.out, more_ok _ _ _ _ h2 hp]
            have CN2 : Hid (∀ w', BW w1 w' → Calls Tryd.prog 12 #[.pointer (some ⟨rb, 0, none⟩), .int .i64 ((d : Int) + 1)] w' (fun e w'' => ∃ v, e = .returned v ∧ NodeQ (fun b => w'.heap.size ≤ b ∧ b < w''.heap.size) w'' f v x ∧ RdP rb B N q2 w'' ∧ Fl rb w' w'')) := CN.out
            clear hp HE h2 CN
            simp at hlq hqc hlw hlen
            go_wp2_with (fail)
            refine wp_region_held_drew (S := fun _ => True) (by kernel_rfl) trivial (fun hHeld => ?_)
            refine wpAnyH_take (i := 0) (v := ?vb0) rfl (by kernel_rfl) (by kernel_rfl) (by kernel_rfl) (fun _ _ _ h => h) (Or.inl ⟨by kernel_rfl, ?hyb0⟩) (by trivial) ?restb0
            case hyb0 => (intro w hSw; (try dsimp only at hSw); go_simp; first | done | with_reducible rfl)
            try simp only [Act.put, List.setIfInBounds_toArray, List.set_cons_zero, List.set_cons_succ]
            refine wpAnyH_take (i := 2) (v := ?vb2) rfl (by kernel_rfl) (by kernel_rfl) (by kernel_rfl) (fun _ _ _ h => h) (Or.inl ⟨by kernel_rfl, ?hyb2⟩) (by trivial) ?restb2
            case hyb2 => (intro w hSw; (try dsimp only at hSw); go_simp; first | done | with_reducible rfl)
            try simp only [Act.put, List.setIfInBounds_toArray, List.set_cons_zero, List.set_cons_succ]
            refine wpAnyH_take (i := 3) (v := ?vb3) rfl (by kernel_rfl) (by kernel_rfl) (by kernel_rfl) (fun _ _ _ h => h) (Or.inl ⟨by kernel_rfl, ?hyb3⟩) (by trivial) ?restb3
            case hyb3 => (intro w hSw; (try dsimp only at hSw); go_simp; first | done | with_reducible rfl)
            try simp only [Act.put, List.setIfInBounds_toArray, List.set_cons_zero, List.set_cons_succ]
            refine wpAnyH_take (i := 4) (v := ?vb4) rfl (by kernel_rfl) (by kernel_rfl) (by kernel_rfl) (fun _ _ _ h => h) (Or.inl ⟨by kernel_rfl, ?hyb4⟩) (by trivial) ?restb4
            case hyb4 => (intro w hSw; (try dsimp only at hSw); go_simp; first | done | with_reducible rfl)
            try simp only [Act.put, List.setIfInBounds_toArray, List.set_cons_zero, List.set_cons_succ]
            refine wpAnyH_ready (rs := [1, 5]) (by kernel_rfl) (by simp) ?_
            refine AllReadyH.cons rfl (fun K hK => ?_) (AllReadyH.cons rfl (fun K hK => ?_) AllReadyH.nil)
            · go_simp
              refine hK.out _ _ trivial (fun _ => ?_)
              clear hK K
              try simp only [Act.put, List.setIfInBounds_toArray, List.set_cons_zero, List.set_cons_succ]
              refine wpAnyH_ready (rs := [5]) (by kernel_rfl) (by simp) ?_
              refine AllReadyH.cons rfl (fun K hK => ?_) AllReadyH.nil
              go_simp
              refine (CN2.out _ (by repeat (first | exact BW.refl _ | assumption | apply BW.alloc | apply BW.drewN | apply BW.drew | (refine BW.setCell ?_ (by first | omega | (simp; done) | (simp; omega)) _) | (refine BW.trans ?_ (by assumption))))).mono ?_
              rintro e w3 ⟨v3, rfl, hx, R3, f3⟩
              obtain ⟨r, rfl⟩ := hx.rw
              dsimp only
              refine hK.out _ _ trivial (fun _ => ?_)
              clear hK K
              try simp only [Act.put, List.setIfInBounds_toArray, List.set_cons_zero, List.set_cons_succ]
              have bD : BW w1 w1.drew := (by repeat (first | exact BW.refl _ | assumption | apply BW.alloc | apply BW.drewN | apply BW.drew | (refine BW.setCell ?_ (by first | omega | (simp; done) | (simp; omega)) _) | (refine BW.trans ?_ (by assumption))))
              have hz3 := f3.size
              simp at hz3
              have HGn3 : Hid (w3.heap[w.heap.size + 1 + 1]? = some (.cells #[.int .u8 k, .int .i64 0, .string ⟨#[]⟩, .slice none 0 0, v] 26 (0, 0))) := (f3.block _ (by simp; omega) (by omega)).trans HGn1.out
              have HGr3 : Hid (w3.heap[w.heap.size + 1]? = some (.cells #[.int .u8 0, .int .i64 0, .string ⟨#[]⟩, .slice none 0 0, .slice none 0 0] 26 (0, 0))) := (f3.block _ (by simp; omega) (by omega)).trans HGr1.out
              have HGa3 : Hid (w3.heap[w.heap.size]? = some (.cells #[.string ⟨word.toArray⟩, .int .u8 k, .bool false, .int .i64 parts, .bool true] 64 (0, 0))) := (f3.block _ (by simp; omega) (by omega)).trans HGa1.out
              have HR3 : Hid (RdP rb B N q2 w3) := R3
              have HF3 : Hid (Fl rb w w3) := HF1.out.trans ((bD.fl rb).trans f3)
              have hB3 := R3.2.2.2.2.1
              have HX0 : Hid (NodeQ (fun b => w1.heap.size ≤ b ∧ b < w3.heap.size) w3 f r.v x) := by show NodeQ _ _ _ _ _; simpa using hx
              have HW3 : QRow w3 (w.heap.size + 1 + 1 + 1) f v l := HW1.out.keep (fun b hb hl => f3.block b (by simpa using hl) (by omega)) (by omega)
              obtain ⟨rs, hrl, hown, hnod⟩ := HW3
              have HX : Hid (NodeQ (fun b => w.heap.size + 1 + 1 + 1 ≤ b ∧ b < w3.heap.size ∧ v.ownBlock ≠ some b) w3 f r.v x) := NodeQ.keep (fun b hb => ⟨by omega, hb.2, fun e => by
                obtain ⟨rs', _, ho', _⟩ := HW1.out
                have := (ho'.lt b e).2
                omega⟩) (fun _ _ _ => rfl) (Nat.le_refl _) HX0.out
              have HN3 : Hid (∀ (i : Nat) r x, rs[i]? = some r → l[i]? = some x → NodeQ (fun b => w.heap.size + 1 + 1 + 1 ≤ b ∧ b < w3.heap.size ∧ v.ownBlock ≠ some b) w3 f r.v x) := hnod
              have HO3 : Hid (w3.ownsRow (w.heap.size + 1 + 1 + 1) 26 5 v l.length (rs.flatMap rcs)) := hown
              have HRL : Hid (rs.length = l.length) := hrl
              have y4 : w3.cell? ⟨w.heap.size + 1 + 1, 4, none⟩ = some v := by rw [Lib.cell_of_heap HGn3.out]; rfl
              have y4' : ∀ o, (w3.alloc o).cell? ⟨w.heap.size + 1 + 1, 4, none⟩ = some v := fun o => (World.cell?_alloc_some _ _ _ (by rw [y4]; rfl)).trans y4
              clear hx HX0 R3 f3 hnod hown hrl CN2 HW1 HR1 HF1 HGn1 HGr1 HGa1 bD x4 xz
              refine wpAnyH_ready (rs := [6]) (by kernel_rfl) (by simp) ?_
              refine AllReadyH.cons rfl (fun K hK => ?_) AllReadyH.nil
              go_simp
              refine hK.out _ _ trivial (fun _ => ?_)
              clear hK K
              try simp only [Act.put, List.setIfInBounds_toArray, List.set_cons_zero, List.set_cons_succ]
              obtain ⟨v', w4, hrun, hown4, hgrow4, hv4⟩ := append_nodes 24 (w.heap.size + 1 + 1 + 1) v l.length (rs.flatMap rcs) ⟨w3.heap.size, 0, none⟩ 1 1 (rcs r) (w3.alloc (.cells #[.int .u8 r.k, .int .i64 r.n, .string r.s, .slice r.na r.nl r.nc, .slice r.ka r.kl r.kc] 26)) (HO3.out.alloc _) rfl (cells_new w3 26 (rcs r)) (rcs_one r) (by omega) (by simp; omega)
              obtain ⟨vo, vl, vc, hve⟩ : ∃ a b c, v' = .slice a b c := by
                rcases hown4.2 with ⟨e, _⟩ | ⟨g, cap, cur, e, _⟩
                · exact ⟨_, _, _, e⟩
                · exact ⟨_, _, _, e⟩
              subst hve
              have hgb : ∀ k, k < w.heap.size + 1 + 1 + 1 → w4.heap[k]? = w3.heap[k]? := fun k hk => (hgrow4.block k (by simp; omega) (fun e => by have := (HO3.out.lt k e.symm).1; omega)).trans ((BW.alloc (BW.refl w3) _).block k (by omega))
              have hz4 := hgrow4.size
              simp at hz4
              have HW4 : Hid (QRow w4 (w.heap.size + 1 + 1 + 1) f (.slice vo vl vc) (l ++ [x])) := QRow.snoc HRL.out HO3.out HN3.out HX.out (BW.alloc (BW.refl w3) _) (by simp) hown4 hgrow4 (by simpa using hv4)
              have HGn4 : Hid (w4.heap[w.heap.size + 1 + 1]? = some (.cells #[.int .u8 k, .int .i64 0, .string ⟨#[]⟩, .slice none 0 0, v] 26 (0, 0))) := (hgb _ (by omega)).trans HGn3.out
              have k4 : w4.cell? ⟨w.heap.size + 1 + 1, 4, none⟩ = some v := by rw [Lib.cell_of_heap HGn4.out]; rfl
              have kz : ∀ o, w4.frozen? ⟨w.heap.size + 1 + 1, o, none⟩ = false := fun o => Lib.frozen_of_heap HGn4.out o
              have HF4 : Hid (Fl rb w w4) := HF3.out.hi (fun b hb => hgb b (by omega)) hgrow4.os hgrow4.tape hgrow4.output (by omega)
              clear hown4 hgrow4 hv4
              refine wpAnyH_ready (rs := [7]) (by kernel_rfl) (by simp) ?_
              refine AllReadyH.cons rfl (fun K hK => ?_) AllReadyH.nil
              refine if_w (by kernel_rfl) ?_
              refine wp_append_nds _ _ rfl rfl rfl hrun ?_
              refine hK.out _ _ trivial (fun _ => ?_)
              clear hK K hrun
              try simp only [Act.put, List.setIfInBounds_toArray, List.set_cons_zero, List.set_cons_succ]
              refine wpAnyH_take (i := 8) (v := ?vc8) rfl (by kernel_rfl) (by kernel_rfl) (by kernel_rfl) (fun _ _ _ h => h) (Or.inl ⟨by kernel_rfl, ?hyc8⟩) (by trivial) ?restc8
              case hyc8 => (intro w hSw; (try dsimp only at hSw); go_simp; first | done | with_reducible rfl)
              try simp only [Act.put, List.setIfInBounds_toArray, List.set_cons_zero, List.set_cons_succ]
              refine wpAnyH_ready (rs := [9]) (by kernel_rfl) (by simp) ?_
              refine AllReadyH.cons rfl (fun K hK => ?_) AllReadyH.nil
              go_simp
              refine hK.out _ _ trivial (fun _ => ?_)
              clear hK K
              try simp only [Act.put, List.setIfInBounds_toArray, List.set_cons_zero, List.set_cons_succ]
              refine wpAnyH_done (by kernel_rfl) ?_ _
              go_wp2_with (fail)
              go_roundw
              case measure => 
                  show _ < _
                  have e1 : leftOf (w4.setCell ⟨w.heap.size + 1 + 1, 4, none⟩ (.slice vo vl vc)) rb = q2.1.length := RdP.leftOf (HR3.out.up (B := B) (fun b hb => (sco (o := 4) _ (by omega) : (w4.setCell ⟨w.heap.size + 1 + 1, 4, none⟩ (.slice vo vl vc)).heap[b]? = w4.heap[b]?).trans (hgb b (by omega))) (by simp [World.setCell]; omega))
                  rw [e1]
                  simp only [hlw]
                  omega
              case rel =>
                have hset : ∀ b, ¬ b = w.heap.size + 1 + 1 → (w4.setCell ⟨w.heap.size + 1 + 1, 4, none⟩ (.slice vo vl vc)).heap[b]? = w4.heap[b]? := fun b h1 => sco _ h1
                have hzs : (w4.setCell ⟨w.heap.size + 1 + 1, 4, none⟩ (.slice vo vl vc)).heap.size = w4.heap.size := by simp [World.setCell]
                exact ⟨l ++ [x], q2, c, .slice vo vl vc, heap_setCell_same w4 (w.heap.size + 1 + 1) 4 _ 26 _ HGn4.out, (hset _ (by omega)).trans ((hgb _ (by omega)).trans HGr3.out), (hset _ (by omega)).trans ((hgb _ (by omega)).trans HGa3.out), HW4.out.keep (fun b hb _ => hset b (by omega)) (by omega), HR3.out.up (fun b hb => (hset b (by omega)).trans (hgb b (by omega))) (by omega), by simp; omega, by omega, HQ2.out, by omega, HF4.out.hi (fun b hb => hset b (by omega)) rfl rfl rfl (by omega)⟩
            · go_simp
              refine (CN2.out _ (by repeat (first | exact BW.refl _ | assumption | apply BW.alloc | apply BW.drewN | apply BW.drew | (refine BW.setCell ?_ (by first | omega | (simp; done) | (simp; omega)) _) | (refine BW.trans ?_ (by assumption))))).mono ?_
              rintro e w3 ⟨v3, rfl, hx, R3, f3⟩
              obtain ⟨r, rfl⟩ := hx.rw
              dsimp only
              refine hK.out _ _ trivial (fun _ => ?_)
              clear hK K
              try simp only [Act.put, List.setIfInBounds_toArray, List.set_cons_zero, List.set_cons_succ]
              have bD : BW w1 w1.drew := (by repeat (first | exact BW.refl _ | assumption | apply BW.alloc | apply BW.drewN | apply BW.drew | (refine BW.setCell ?_ (by first | omega | (simp; done) | (simp; omega)) _) | (refine BW.trans ?_ (by assumption))))
              have hz3 := f3.size
              simp at hz3
              have HGn3 : Hid (w3.heap[w.heap.size + 1 + 1]? = some (.cells #[.int .u8 k, .int .i64 0, .string ⟨#[]⟩, .slice none 0 0, v] 26 (0, 0))) := (f3.block _ (by simp; omega) (by omega)).trans HGn1.out
              have HGr3 : Hid (w3.heap[w.heap.size + 1]? = some (.cells #[.int .u8 0, .int .i64 0, .string ⟨#[]⟩, .slice none 0 0, .slice none 0 0] 26 (0, 0))) := (f3.block _ (by simp; omega) (by omega)).trans HGr1.out
              have HGa3 : Hid (w3.heap[w.heap.size]? = some (.cells #[.string ⟨word.toArray⟩, .int .u8 k, .bool false, .int .i64 parts, .bool true] 64 (0, 0))) := (f3.block _ (by simp; omega) (by omega)).trans HGa1.out
              have HR3 : Hid (RdP rb B N q2 w3) := R3
              have HF3 : Hid (Fl rb w w3) := HF1.out.trans ((bD.fl rb).trans f3)
              have hB3 := R3.2.2.2.2.1
              have HX0 : Hid (NodeQ (fun b => w1.heap.size ≤ b ∧ b < w3.heap.size) w3 f r.v x) := by show NodeQ _ _ _ _ _; simpa using hx
              have HW3 : QRow w3 (w.heap.size + 1 + 1 + 1) f v l := HW1.out.keep (fun b hb hl => f3.block b (by simpa using hl) (by omega)) (by omega)
              obtain ⟨rs, hrl, hown, hnod⟩ := HW3
              have HX : Hid (NodeQ (fun b => w.heap.size + 1 + 1 + 1 ≤ b ∧ b < w3.heap.size ∧ v.ownBlock ≠ some b) w3 f r.v x) := NodeQ.keep (fun b hb => ⟨by omega, hb.2, fun e => by
                obtain ⟨rs', _, ho', _⟩ := HW1.out
                have := (ho'.lt b e).2
                omega⟩) (fun _ _ _ => rfl) (Nat.le_refl _) HX0.out
              have HN3 : Hid (∀ (i : Nat) r x, rs[i]? = some r → l[i]? = some x → NodeQ (fun b => w.heap.size + 1 + 1 + 1 ≤ b ∧ b < w3.heap.size ∧ v.ownBlock ≠ some b) w3 f r.v x) := hnod
              have HO3 : Hid (w3.ownsRow (w.heap.size + 1 + 1 + 1) 26 5 v l.length (rs.flatMap rcs)) := hown
              have HRL : Hid (rs.length = l.length) := hrl
              have y4 : w3.cell? ⟨w.heap.size + 1 + 1, 4, none⟩ = some v := by rw [Lib.cell_of_heap HGn3.out]; rfl
              have y4' : ∀ o, (w3.alloc o).cell? ⟨w.heap.size + 1 + 1, 4, none⟩ = some v := fun o => (World.cell?_alloc_some _ _ _ (by rw [y4]; rfl)).trans y4
              clear hx HX0 R3 f3 hnod hown hrl CN2 HW1 HR1 HF1 HGn1 HGr1 HGa1 bD x4 xz
              refine wpAnyH_ready (rs := [1, 6]) (by kernel_rfl) (by simp) ?_
              refine AllReadyH.cons rfl (fun K hK => ?_) (AllReadyH.cons rfl (fun K hK => ?_) AllReadyH.nil)
              · go_simp
                refine hK.out _ _ trivial (fun _ => ?_)
                clear hK K
                try simp only [Act.put, List.setIfInBounds_toArray, List.set_cons_zero, List.set_cons_succ]
                refine wpAnyH_ready (rs := [6]) (by kernel_rfl) (by simp) ?_
                refine AllReadyH.cons rfl (fun K hK => ?_) AllReadyH.nil
                go_simp
                refine hK.out _ _ trivial (fun _ => ?_)
                clear hK K
                try simp only [Act.put, List.setIfInBounds_toArray, List.set_cons_zero, List.set_cons_succ]
                obtain ⟨v', w4, hrun, hown4, hgrow4, hv4⟩ := append_nodes 24 (w.heap.size + 1 + 1 + 1) v l.length (rs.flatMap rcs) ⟨w3.heap.size, 0, none⟩ 1 1 (rcs r) (w3.alloc (.cells #[.int .u8 r.k, .int .i64 r.n, .string r.s, .slice r.na r.nl r.nc, .slice r.ka r.kl r.kc] 26)) (HO3.out.alloc _) rfl (cells_new w3 26 (rcs r)) (rcs_one r) (by omega) (by simp; omega)
                obtain ⟨vo, vl, vc, hve⟩ : ∃ a b c, v' = .slice a b c := by
                  rcases hown4.2 with ⟨e, _⟩ | ⟨g, cap, cur, e, _⟩
                  · exact ⟨_, _, _, e⟩
                  · exact ⟨_, _, _, e⟩
                subst hve
                have hgb : ∀ k, k < w.heap.size + 1 + 1 + 1 → w4.heap[k]? = w3.heap[k]? := fun k hk => (hgrow4.block k (by simp; omega) (fun e => by have := (HO3.out.lt k e.symm).1; omega)).trans ((BW.alloc (BW.refl w3) _).block k (by omega))
                have hz4 := hgrow4.size
                simp at hz4
                have HW4 : Hid (QRow w4 (w.heap.size + 1 + 1 + 1) f (.slice vo vl vc) (l ++ [x])) := QRow.snoc HRL.out HO3.out HN3.out HX.out (BW.alloc (BW.refl w3) _) (by simp) hown4 hgrow4 (by simpa using hv4)
                have HGn4 : Hid (w4.heap[w.heap.size + 1 + 1]? = some (.cells #[.int .u8 k, .int .i64 0, .string ⟨#[]⟩, .slice none 0 0, v] 26 (0, 0))) := (hgb _ (by omega)).trans HGn3.out
                have k4 : w4.cell? ⟨w.heap.size + 1 + 1, 4, none⟩ = some v := by rw [Lib.cell_of_heap HGn4.out]; rfl
                have kz : ∀ o, w4.frozen? ⟨w.heap.size + 1 + 1, o, none⟩ = false := fun o => Lib.frozen_of_heap HGn4.out o
                have HF4 : Hid (Fl rb w w4) := HF3.out.hi (fun b hb => hgb b (by omega)) hgrow4.os hgrow4.tape hgrow4.output (by omega)
                clear hown4 hgrow4 hv4
                refine wpAnyH_ready (rs := [7]) (by kernel_rfl) (by simp) ?_
                refine AllReadyH.cons rfl (fun K hK => ?_) AllReadyH.nil
                refine if_w (by kernel_rfl) ?_
                refine wp_append_nds _ _ rfl rfl rfl hrun ?_
                refine hK.out _ _ trivial (fun _ => ?_)
                clear hK K hrun
                try simp only [Act.put, List.setIfInBounds_toArray, List.set_cons_zero, List.set_cons_succ]
                refine wpAnyH_take (i := 8) (v := ?vd8) rfl (by kernel_rfl) (by kernel_rfl) (by kernel_rfl) (fun _ _ _ h => h) (Or.inl ⟨by kernel_rfl, ?hyd8⟩) (by trivial) ?restd8
                case hyd8 => (intro w hSw; (try dsimp only at hSw); go_simp; first | done | with_reducible rfl)
                try simp only [Act.put, List.setIfInBounds_toArray, List.set_cons_zero, List.set_cons_succ]
                refine wpAnyH_ready (rs := [9]) (by kernel_rfl) (by simp) ?_
                refine AllReadyH.cons rfl (fun K hK => ?_) AllReadyH.nil
                go_simp
                refine hK.out _ _ trivial (fun _ => ?_)
                clear hK K
                try simp only [Act.put, List.setIfInBounds_toArray, List.set_cons_zero, List.set_cons_succ]
                refine wpAnyH_done (by kernel_rfl) ?_ _
                go_wp2_with (fail)
                go_roundw
                case measure => 
                    show _ < _
                    have e1 : leftOf (w4.setCell ⟨w.heap.size + 1 + 1, 4, none⟩ (.slice vo vl vc)) rb = q2.1.length := RdP.leftOf (HR3.out.up (B := B) (fun b hb => (sco (o := 4) _ (by omega) : (w4.setCell ⟨w.heap.size + 1 + 1, 4, none⟩ (.slice vo vl vc)).heap[b]? = w4.heap[b]?).trans (hgb b (by omega))) (by simp [World.setCell]; omega))
                    rw [e1]
                    simp only [hlw]
                    omega
                case rel =>
                  have hset : ∀ b, ¬ b = w.heap.size + 1 + 1 → (w4.setCell ⟨w.heap.size + 1 + 1, 4, none⟩ (.slice vo vl vc)).heap[b]? = w4.heap[b]? := fun b h1 => sco _ h1
                  have hzs : (w4.setCell ⟨w.heap.size + 1 + 1, 4, none⟩ (.slice vo vl vc)).heap.size = w4.heap.size := by simp [World.setCell]
                  exact ⟨l ++ [x], q2, c, .slice vo vl vc, heap_setCell_same w4 (w.heap.size + 1 + 1) 4 _ 26 _ HGn4.out, (hset _ (by omega)).trans ((hgb _ (by omega)).trans HGr3.out), (hset _ (by omega)).trans ((hgb _ (by omega)).trans HGa3.out), HW4.out.keep (fun b hb _ => hset b (by omega)) (by omega), HR3.out.up (fun b hb => (hset b (by omega)).trans (hgb b (by omega))) (by omega), by simp; omega, by omega, HQ2.out, by omega, HF4.out.hi (fun b hb => hset b (by omega)) rfl rfl rfl (by omega)⟩
              · go_simp
                refine hK.out _ _ trivial (fun _ => ?_)
                clear hK K
                try simp only [Act.put, List.setIfInBounds_toArray, List.set_cons_zero, List.set_cons_succ]
                refine wpAnyH_ready (rs := [1]) (by kernel_rfl) (by simp) ?_
                refine AllReadyH.cons rfl (fun K hK => ?_) AllReadyH.nil
                go_simp
                refine hK.out _ _ trivial (fun _ => ?_)
                clear hK K
                try simp only [Act.put, List.setIfInBounds_toArray, List.set_cons_zero, List.set_cons_succ]
                obtain ⟨v', w4, hrun, hown4, hgrow4, hv4⟩ := append_nodes 24 (w.heap.size + 1 + 1 + 1) v l.length (rs.flatMap rcs) ⟨w3.heap.size, 0, none⟩ 1 1 (rcs r) (w3.alloc (.cells #[.int .u8 r.k, .int .i64 r.n, .string r.s, .slice r.na r.nl r.nc, .slice r.ka r.kl r.kc] 26)) (HO3.out.alloc _) rfl (cells_new w3 26 (rcs r)) (rcs_one r) (by omega) (by simp; omega)
                obtain ⟨vo, vl, vc, hve⟩ : ∃ a b c, v' = .slice a b c := by
                  rcases hown4.2 with ⟨e, _⟩ | ⟨g, cap, cur, e, _⟩
                  · exact ⟨_, _, _, e⟩
                  · exact ⟨_, _, _, e⟩
                subst hve
                have hgb : ∀ k, k < w.heap.size + 1 + 1 + 1 → w4.heap[k]? = w3.heap[k]? := fun k hk => (hgrow4.block k (by simp; omega) (fun e => by have := (HO3.out.lt k e.symm).1; omega)).trans ((BW.alloc (BW.refl w3) _).block k (by omega))
                have hz4 := hgrow4.size
                simp at hz4
                have HW4 : Hid (QRow w4 (w.heap.size + 1 + 1 + 1) f (.slice vo vl vc) (l ++ [x])) := QRow.snoc HRL.out HO3.out HN3.out HX.out (BW.alloc (BW.refl w3) _) (by simp) hown4 hgrow4 (by simpa using hv4)
                have HGn4 : Hid (w4.heap[w.heap.size + 1 + 1]? = some (.cells #[.int .u8 k, .int .i64 0, .string ⟨#[]⟩, .slice none 0 0, v] 26 (0, 0))) := (hgb _ (by omega)).trans HGn3.out
                have k4 : w4.cell? ⟨w.heap.size + 1 + 1, 4, none⟩ = some v := by rw [Lib.cell_of_heap HGn4.out]; rfl
                have kz : ∀ o, w4.frozen? ⟨w.heap.size + 1 + 1, o, none⟩ = false := fun o => Lib.frozen_of_heap HGn4.out o
                have HF4 : Hid (Fl rb w w4) := HF3.out.hi (fun b hb => hgb b (by omega)) hgrow4.os hgrow4.tape hgrow4.output (by omega)
                clear hown4 hgrow4 hv4
                refine wpAnyH_ready (rs := [7]) (by kernel_rfl) (by simp) ?_
                refine AllReadyH.cons rfl (fun K hK => ?_) AllReadyH.nil
                refine if_w (by kernel_rfl) ?_
                refine wp_append_nds _ _ rfl rfl rfl hrun ?_
                refine hK.out _ _ trivial (fun _ => ?_)
                clear hK K hrun
                try simp only [Act.put, List.setIfInBounds_toArray, List.set_cons_zero, List.set_cons_succ]
                refine wpAnyH_take (i := 8) (v := ?ve8) rfl (by kernel_rfl) (by kernel_rfl) (by kernel_rfl) (fun _ _ _ h => h) (Or.inl ⟨by kernel_rfl, ?hye8⟩) (by trivial) ?reste8
                case hye8 => (intro w hSw; (try dsimp only at hSw); go_simp; first | done | with_reducible rfl)
                try simp only [Act.put, List.setIfInBounds_toArray, List.set_cons_zero, List.set_cons_succ]
                refine wpAnyH_ready (rs := [9]) (by kernel_rfl) (by simp) ?_
                refine AllReadyH.cons rfl (fun K hK => ?_) AllReadyH.nil
                go_simp
                refine hK.out _ _ trivial (fun _ => ?_)
                clear hK K
                try simp only [Act.put, List.setIfInBounds_toArray, List.set_cons_zero, List.set_cons_succ]
                refine wpAnyH_done (by kernel_rfl) ?_ _
                go_wp2_with (fail)
                go_roundw
                case measure => 
                    show _ < _
                    have e1 : leftOf (w4.setCell ⟨w.heap.size + 1 + 1, 4, none⟩ (.slice vo vl vc)) rb = q2.1.length := RdP.leftOf (HR3.out.up (B := B) (fun b hb => (sco (o := 4) _ (by omega) : (w4.setCell ⟨w.heap.size + 1 + 1, 4, none⟩ (.slice vo vl vc)).heap[b]? = w4.heap[b]?).trans (hgb b (by omega))) (by simp [World.setCell]; omega))
                    rw [e1]
                    simp only [hlw]
                    omega
                case rel =>
                  have hset : ∀ b, ¬ b = w.heap.size + 1 + 1 → (w4.setCell ⟨w.heap.size + 1 + 1, 4, none⟩ (.slice vo vl vc)).heap[b]? = w4.heap[b]? := fun b h1 => sco _ h1
                  have hzs : (w4.setCell ⟨w.heap.size + 1 + 1, 4, none⟩ (.slice vo vl vc)).heap.size = w4.heap.size := by simp [World.setCell]
                  exact ⟨l ++ [x], q2, c, .slice vo vl vc, heap_setCell_same w4 (w.heap.size + 1 + 1) 4 _ 26 _ HGn4.out, (hset _ (by omega)).trans ((hgb _ (by omega)).trans HGr3.out), (hset _ (by omega)).trans ((hgb _ (by omega)).trans HGa3.out), HW4.out.keep (fun b hb _ => hset b (by omega)) (by omega), HR3.out.up (fun b hb => (hset b (by omega)).trans (hgb b (by omega))) (by omega), by simp; omega, by omega, HQ2.out, by omega, HF4.out.hi (fun b hb => hset b (by omega)) rfl rfl rfl (by omega)⟩

end Go.Proofs.YtlacjiihbbgbeaaDoor
