import Derived.Test.YtlacjiihbbgbeaaDoorV4
namespace Go.Proofs.YtlacjiihbbgbeaaDoor
open Go.RowKit
set_option linter.unusedVariables false
set_option linter.unusedSimpArgs false

def fcs : List Value := [.string ⟨#[102, 117, 110]⟩, .int .u8 6, .bool true, .int .i64 1, .bool false, .string ⟨#[99, 97, 108, 108]⟩, .int .u8 7, .bool false, .int .i64 1, .bool true, .string ⟨#[108, 101, 116]⟩, .int .u8 8, .bool true, .int .i64 2, .bool false, .string ⟨#[105, 102]⟩, .int .u8 9, .bool false, .int .i64 3, .bool false, .string ⟨#[100, 111]⟩, .int .u8 10, .bool false, .int .i64 1, .bool true, .string ⟨#[112, 101, 114, 102, 111, 114, 109]⟩, .int .u8 12, .bool true, .int .i64 1, .bool false, .string ⟨#[104, 97, 110, 100, 108, 101]⟩, .int .u8 13, .bool false, .int .i64 1, .bool false, .string ⟨#[114, 101, 115, 117, 109, 101]⟩, .int .u8 14, .bool false, .int .i64 2, .bool false, .string ⟨#[100, 114, 111, 112]⟩, .int .u8 15, .bool false, .int .i64 2, .bool false, .string ⟨#[119, 105, 110, 100]⟩, .int .u8 16, .bool false, .int .i64 3, .bool false]
def ocs : List Value := [.string ⟨#[114, 101, 116, 117, 114, 110]⟩, .int .u8 17, .int .i64 1, .string ⟨#[111, 110]⟩, .int .u8 18, .int .i64 2, .string ⟨#[102, 105, 110, 97, 108, 108, 121]⟩, .int .u8 19, .int .i64 0]
/-- The program's own tables. -/
def Gv (w : World) : Prop := 2 < w.heap.size ∧ Tw w ∧ w.rangeAt 0 0 fcs ∧ w.rangeAt 2 0 ocs
theorem Gv.fl {w w' : World} {rb : Nat} (h : Gv w) (k : Fl rb w w') (hr : 2 < rb) : Gv w' := by
  obtain ⟨h1, h2, h3, h4⟩ := h
  refine ⟨Nat.lt_of_lt_of_le h1 k.size, ⟨Nat.lt_of_lt_of_le h2.1 k.size, fun j x hx => (k.cells 1 _ (by omega) (by omega)).trans (h2.2 j x hx)⟩, fun j x hx => (k.cells 0 _ (by omega) (by omega)).trans (h3 j x hx), fun j x hx => (k.cells 2 _ (by omega) (by omega)).trans (h4 j x hx)⟩
theorem Gv.bw {w w' : World} (h : Gv w) (k : BW w w') : Gv w' := h.fl (k.fl 3) (by omega)
/-- Reading a node, at a level. -/
def NodeC (f : Nat) : Prop := ∀ (rb B N d : Nat) (st : Ps) (w : World), d + f = 61 → RdP rb B N st w → Gv w → 2 < rb → Calls Tryd.prog 12 #[.pointer (some ⟨rb, 0, none⟩), .int .i64 d] w (PostP (fun w' v x => NodeQ (fun b => w.heap.size ≤ b ∧ b < w'.heap.size) w' f v x) rb B N w ((pN f).1 st))
def pPre {X : Type} (l : List X) (R : Pr (List X)) : Pr (List X) := match R with
  | .error e => .error e
  | .ok (m, q) => .ok (l ++ m, q)
theorem pPre_nil {X : Type} (R : Pr (List X)) : pPre [] R = R := by
  cases R with
  | error e => rfl
  | ok p => obtain ⟨m, q⟩ := p; rfl
theorem many_err {X : Type} {node : Ps → Pr X} {c : Nat} {st : Ps} {e : Pe} (h : node st = .error e) : pMany node (c + 1) st = .error e := by simp only [pMany, h]
theorem many_ok {X : Type} {node : Ps → Pr X} {c : Nat} {st st1 : Ps} {x : X} (h : node st = .ok (x, st1)) (l : List X) : pPre l (pMany node (c + 1) st) = pPre (l ++ [x]) (pMany node c st1) := by
  simp only [pMany, h]
  cases pMany node c st1 with
  | error e => rfl
  | ok p => obtain ⟨y, z⟩ := p; simp [pPre]
theorem Fl.hib {rb lo : Nat} {w w' : World} (h : Fl rb w w') (hl : rb < lo) : ∀ b, lo ≤ b → b < w.heap.size → w'.heap[b]? = w.heap[b]? := fun b hb hz => h.block b hz (by omega)
set_option maxRecDepth 100000 in
set_option maxHeartbeats 4000000 in
theorem nodes_of {f : Nat} (ih : NodeC f) (rb B N d m : Nat) (hm : m ≤ 100) (hd : d + f = 61) (st : Ps) (w : World) (h : RdP rb B N st w) (hG : Gv w) (hrb : 2 < rb) : Calls Tryd.prog 29 #[.pointer (some ⟨rb, 0, none⟩), .int .i64 m, .int .i64 d] w (PostP (fun w' v l => QRow w' w.heap.size f v l) rb B N w (pMany (pN f).1 m st)) := by
  obtain ⟨i0, hi, hz0, hz1, hz2⟩ := info_parts Tryd.info26
  have IH : Hid (NodeC f) := ih
  have HG : Hid (Gv w) := hG
  have HR0 : Hid (RdP rb B N st w) := h
  have hlt := h.lt
  have hBw := h.2.2.2.2.1
  generalize hR : pMany (pN f).1 m st = R
  have HR : Hid (pMany (pN f).1 m st = R) := hR
  clear hR ih hG h
  go_enter Tryd.func29, Tryd.ntmps29
  go_wp2_with (fail)
  go_loopw [7, 9] (fun v i wr => ∃ (j : Nat) (l : List (Tr f)) (q : Ps), j ≤ m ∧ l.length = j ∧ i = .int .i64 j ∧ QRow wr w.heap.size f v l ∧ RdP rb B N q wr ∧ Hid (pPre l (pMany (pN f).1 (m - j) q) = R) ∧ Fl rb w wr) (fun _ i _ => m - (intOf i).toNat)
  case atStart => exact ⟨0, [], st, Nat.zero_le _, rfl, rfl, QRow.nil _ _ _, HR0.out, by show pPre [] _ = R; rw [pPre_nil]; exact HR.out, Fl.refl rb w⟩
  case round =>
    obtain ⟨j, l, q, hj, hlj, rfl, hrow, Rq, HQ, Fq⟩ := hrel
    have HRq : Hid (RdP rb B N q wr) := Rq
    have HFq : Hid (Fl rb w wr) := Fq
    have HGq : Hid (Gv wr) := HG.out.fl Fq hrb
    have hrow' := hrow
    obtain ⟨rs, hrl, hown, hnod⟩ := hrow
    have HW : Hid (QRow wr w.heap.size f _ l) := hrow'
    have hzr := Fq.size
    clear Rq Fq hown hnod hrow' hrl rs
    by_cases hlt2 : j < m
    · obtain ⟨c, hc⟩ : ∃ c, m - j = c + 1 := ⟨m - j - 1, by omega⟩
      have CN : Hid (Calls Tryd.prog 12 #[.pointer (some ⟨rb, 0, none⟩), .int .i64 d] wr (PostP (fun w' v x => NodeQ (fun b => wr.heap.size ≤ b ∧ b < w'.heap.size) w' f v x) rb B N wr ((pN f).1 q))) := IH.out rb B N d q wr hd HRq.out HGq.out hrb
      cases hp : (pN f).1 q with
      | error er =>
        rw [hp] at CN
        obtain rfl : R = .error er := by rw [← HQ.out, hc, many_err hp]; rfl
        clear hp HQ HR
        go_wp2_with (fail)
        refine CN.out.mono ?_
        rintro e w2 ⟨rfl, f2⟩
        exact ⟨rfl, rfl, HFq.out.trans f2⟩
      | ok p =>
        obtain ⟨x, q2⟩ := p
        rw [hp] at CN
        have HQ3 : Hid (pPre (l ++ [x]) (pMany (pN f).1 c q2) = R) := by
          show _ = R
          rw [← HQ.out, hc, many_ok hp]
        clear hp HQ
        go_wp2_with (fail)
        refine CN.out.mono ?_
        rintro e w2 ⟨v2, rfl, hx, R2, F2⟩
        obtain ⟨r, rfl⟩ := hx.rw
        have HR2 : Hid (RdP rb B N q2 w2) := R2
        have HF2 : Hid (Fl rb w w2) := HFq.out.trans F2
        have hz2' := F2.size
        have hB2 := R2.2.2.2.2.1
        have HW2 : QRow w2 w.heap.size f _ l := HW.out.keep (F2.hib (by omega)) F2.size
        obtain ⟨rs, hrl, hown, hnod⟩ := HW2
        have HX : Hid (NodeQ (fun b => w.heap.size ≤ b ∧ b < w2.heap.size ∧ Value.ownBlock _ ≠ some b) w2 f r.v x) := NodeQ.keep (fun b hb => ⟨by omega, hb.2, fun e => by
          obtain ⟨rs', _, ho', _⟩ := HW.out
          have := (ho'.lt b e).2
          omega⟩) (fun _ _ _ => rfl) (Nat.le_refl _) hx
        have HN2 : Hid (∀ (i : Nat) r x, rs[i]? = some r → l[i]? = some x → NodeQ (fun b => w.heap.size ≤ b ∧ b < w2.heap.size ∧ Value.ownBlock _ ≠ some b) w2 f r.v x) := hnod
        have HO2 : Hid (w2.ownsRow w.heap.size 26 5 _ l.length (rs.flatMap rcs)) := hown
        clear hx R2 F2 CN HW HRq HGq HFq hnod hown
        go_wp2_with (at_builtin; refine wpList_append_nodes rfl _ _ rfl w.heap.size _ l.length (rs.flatMap rcs) ⟨w2.heap.size, 0, none⟩ 1 1 (rcs r) rfl rfl (HO2.out.alloc _) rfl (cells_new w2 26 (rcs r)) (rcs_one r) (by omega) (by simp; omega) ?_)
        intro v' w3 hown3 hgrow3 hv3
        have hz3 := hgrow3.size
        simp at hz3
        have hgb : ∀ k, k < w.heap.size → w3.heap[k]? = w2.heap[k]? := fun k hk => (hgrow3.block k (by simp; omega) (fun e => by have := (HO2.out.lt k e.symm).1; omega)).trans ((BW.alloc (BW.refl w2) _).block k (by omega))
        have HW3 : Hid (QRow w3 w.heap.size f v' (l ++ [x])) := QRow.snoc hrl HO2.out HN2.out HX.out (BW.alloc (BW.refl w2) _) (by simp) (by rw [hlj]; exact hown3) hgrow3 (by simpa using hv3)
        have HR3 : Hid (RdP rb B N q2 w3) := HR2.out.up (fun k hk => hgb k (by omega)) (by omega)
        have HF3 : Hid (Fl rb w w3) := HF2.out.hi hgb hgrow3.os hgrow3.tape hgrow3.output (by omega)
        clear hown3 hgrow3 hv3 hgb HO2 HN2 HX HR2 HF2
        go_wp2_with (fail)
        go_roundw
        case rel => exact ⟨j + 1, l ++ [x], q2, by omega, by simp [hlj], by go_num, HW3.out, HR3.out, by show pPre _ _ = R; rw [show m - (j + 1) = c by omega]; exact HQ3.out, HF3.out⟩
        case measure => simp [intOf]; omega
    · obtain rfl : m = j := by omega
      have HQ3 : Hid (R = .ok (l, q)) := by
        show R = _
        rw [← HQ.out, Nat.sub_self]
        simp [pMany, pPre]
      clear HQ HR
      go_wp2_with (fail)
      go_ret
      rw [HQ3.out]
      exact ⟨_, rfl, HW.out, HRq.out, HFq.out⟩

end Go.Proofs.YtlacjiihbbgbeaaDoor
