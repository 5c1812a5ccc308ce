import Derived.Test.YtlacjiihbbgbeaaDoorRows
import Derived.Test.YtlacjiihbbgbeaaDoorN8
import Derived.Test.YtlacjiihbbgbeaaDoorR12
import Derived.ProofKit
import Derived.LaidMore
import Derived.OpenShut
import Derived.Stop.Joined
import Derived.Lib.LaidTab
import Derived.Lib.LaidU8
import Derived.Stop.LaidErr
import Derived.Lib.SmallJoins
import Derived.Deep.Strs
namespace Go.Proofs.YtlacjiihbbgbeaaDoor
open Go.RowKit
set_option linter.unusedVariables false
set_option linter.unusedSimpArgs false

open Go.ChangeShapes Go.WideShapes Go.ChangeAt Go.Joins
theorem own : ownKnob Tryd.prog.godebug = none := by kernel_rfl
theorem laidOut : laidOutB Tryd.prog = true := by kernel_rfl
/-- What the row lists. -/
abbrev laid8 : List (String × DataW Unit) := Rows.parseBlanksRow.laid
abbrev nW : String := (laid8.map (fun x => x.1)).getD 5 "x"
abbrev nO : String := (laid8.map (fun x => x.1)).getD 6 "x"
abbrev nF : String := (laid8.map (fun x => x.1)).getD 7 "x"
theorem door_met (os : Os) (args : Array Value) : laidMetH Tryd.prog laid8 ((World.doorLaid Tryd.prog 4000 os).forCall (fun _ _ => 0) ⟨#[], args, []⟩).memory :=
  laidMetH_of_parts3 (fuel := 8) (laidMet_of_run' 8 (by kernel_rfl) (by kernel_rfl)) (by kernel_rfl) (by kernel_rfl)
theorem ord_cells {H : Type} {hf : Bool} {enc : TypeId × Value → H} {W : World} {fuel : Nat} {cs : List Value} {w : List UInt8} {a b : Int} {q : List MemPlace} (h : DataW.trod enc Tryd.prog W 0 (fun _ => true) hf fuel 92 cs = some (.agg [.lit (.string w), .lit (.int .u8 a), .lit (.int .i64 b)], q)) : cs = [.string ⟨w.toArray⟩, .int .u8 a, .int .i64 b] := by
  have c92 : Tryd.prog.cellsOf 92 = 3 := by kernel_rfl
  have c9 : Tryd.prog.cellsOf 9 = 1 := by kernel_rfl
  have c5 : Tryd.prog.cellsOf 5 = 1 := by kernel_rfl
  have c3 : Tryd.prog.cellsOf 3 = 1 := by kernel_rfl
  obtain ⟨y0, y1, y2, m, hx, hl, h0, h1, h2⟩ := Go.Deep.trod_struct3 Tryd.underlying92 h
  rw [c92] at hl
  simp only [c9, c5, c3] at h0 h1 h2
  obtain ⟨s, f0, e0, w0⟩ := DataW.trod_string Tryd.underlying9 h0
  obtain ⟨z, f1, e1, w1⟩ := DataW.trod_int Tryd.underlying5 h1
  obtain ⟨z2, f2, e2, w2⟩ := DataW.trod_int Tryd.underlying3 h2
  simp only [Prod.mk.injEq, DataW.agg.injEq, List.cons.injEq, and_true] at hx
  rw [e0, e1, e2] at hx
  simp only [DataW.lit.injEq, Lit.string.injEq, Lit.int.injEq, true_and] at hx
  obtain ⟨⟨hx0, hx1, hx2⟩, _⟩ := hx
  match cs, hl with
  | [v0, v1, v2], _ =>
    simp at f0 f1 f2
    subst f0 f1 f2 hx0 hx1 hx2
    simp
set_option maxRecDepth 100000 in
theorem form_cells {H : Type} {hf : Bool} {enc : TypeId × Value → H} {W : World} {fuel : Nat} {cs : List Value} {w : List UInt8} {a b : Int} {p r : Bool} {q : List MemPlace} (h : DataW.trod enc Tryd.prog W 0 (fun _ => true) hf fuel 64 cs = some (.agg [.lit (.string w), .lit (.int .u8 a), .lit (.bool p), .lit (.int .i64 b), .lit (.bool r)], q)) : cs = [.string ⟨w.toArray⟩, .int .u8 a, .bool p, .int .i64 b, .bool r] := by
  have c64 : Tryd.prog.cellsOf 64 = 5 := by kernel_rfl
  have c9 : Tryd.prog.cellsOf 9 = 1 := by kernel_rfl
  have c5 : Tryd.prog.cellsOf 5 = 1 := by kernel_rfl
  have c4 : Tryd.prog.cellsOf 4 = 1 := by kernel_rfl
  have c3 : Tryd.prog.cellsOf 3 = 1 := by kernel_rfl
  obtain ⟨xs, m, _, hx, hl, hxl, hff⟩ := DataW.trod_struct Tryd.underlying64 h
  rw [c64] at hl
  have hx' := hx
  simp only [Prod.mk.injEq, DataW.agg.injEq] at hx'
  match xs, hxl with
  | [y0, y1, y2, y3, y4], _ =>
    simp only [List.map_cons, List.map_nil, List.cons.injEq, and_true] at hx'
    obtain ⟨⟨x0, x1, x2, x3, x4⟩, _⟩ := hx'
    have f0 : DataW.trod enc Tryd.prog W 0 (fun _ => true) hf m 9 ((cs.drop 0).take (Tryd.prog.cellsOf 9)) = some y0 := hff 0 _ rfl
    have f1 : DataW.trod enc Tryd.prog W 0 (fun _ => true) hf m 5 ((cs.drop 1).take (Tryd.prog.cellsOf 5)) = some y1 := hff 1 _ rfl
    have f2 : DataW.trod enc Tryd.prog W 0 (fun _ => true) hf m 4 ((cs.drop 2).take (Tryd.prog.cellsOf 4)) = some y2 := hff 2 _ rfl
    have f3 : DataW.trod enc Tryd.prog W 0 (fun _ => true) hf m 3 ((cs.drop 3).take (Tryd.prog.cellsOf 3)) = some y3 := hff 3 _ rfl
    have f4 : DataW.trod enc Tryd.prog W 0 (fun _ => true) hf m 4 ((cs.drop 4).take (Tryd.prog.cellsOf 4)) = some y4 := hff 4 _ rfl
    simp only [c9, c5, c4, c3] at f0 f1 f2 f3 f4
    match cs, hl with
    | [v0, v1, v2, v3, v4], _ =>
      obtain ⟨s, g0, e0, _⟩ := DataW.trod_string Tryd.underlying9 f0
      obtain ⟨z1, g1, e1, _⟩ := DataW.trod_int Tryd.underlying5 f1
      obtain ⟨z2, g2, e2⟩ := DataW.trod_bool Tryd.underlying4 f2
      obtain ⟨z3, g3, e3, _⟩ := DataW.trod_int Tryd.underlying3 f3
      obtain ⟨z4, g4, e4⟩ := DataW.trod_bool Tryd.underlying4 f4
      rw [e0] at x0
      rw [e1] at x1
      rw [e2] at x2
      rw [e3] at x3
      rw [e4] at x4
      simp only [DataW.lit.injEq, Lit.string.injEq, Lit.int.injEq, Lit.bool.injEq, true_and] at x0 x1 x2 x3 x4
      simp at g0 g1 g2 g3 g4
      subst g0 g1 g2 g3 g4 x0 x1 x2 x3 x4
      simp
theorem word_cells {H : Type} {hf : Bool} {enc : TypeId × Value → H} {W : World} {fuel : Nat} {cs : List Value} {w : List UInt8} {b : Int} {q : List MemPlace} (h : DataW.trod enc Tryd.prog W 0 (fun _ => true) hf fuel 79 cs = some (.agg [.lit (.string w), .lit (.int .i64 b)], q)) : cs = [.string ⟨w.toArray⟩, .int .i64 b] := by
  have c79 : Tryd.prog.cellsOf 79 = 2 := by kernel_rfl
  have c9 : Tryd.prog.cellsOf 9 = 1 := by kernel_rfl
  have c3 : Tryd.prog.cellsOf 3 = 1 := by kernel_rfl
  obtain ⟨y0, y2, m, hx, hl, h0, h2⟩ := Go.ChangeShapes.trod_struct2 Tryd.underlying79 h
  rw [c79] at hl
  simp only [c9, c3] at h0 h2
  obtain ⟨s, f0, e0, w0⟩ := DataW.trod_string Tryd.underlying9 h0
  obtain ⟨z2, f2, e2, w2⟩ := DataW.trod_int Tryd.underlying3 h2
  simp only [Prod.mk.injEq, DataW.agg.injEq, List.cons.injEq, and_true] at hx
  rw [e0, e2] at hx
  simp only [DataW.lit.injEq, Lit.string.injEq, Lit.int.injEq, true_and] at hx
  obtain ⟨⟨hx0, hx2⟩, _⟩ := hx
  match cs, hl with
  | [v0, v2], _ =>
    simp at f0 f2
    subst f0 f2 hx0 hx2
    simp
theorem row_get {cs : List Value} {k c : Nat} {row : List Value} (h : (cs.drop (k * c)).take c = row) (i : Nat) (hi : i < c) : cs[k * c + i]? = row[i]? := by
  rw [← h, List.getElem?_take_of_lt hi, List.getElem?_drop]
theorem words_data : (Rows.laid_sacristan_tree_words : DataW Unit) = .agg (wtab.map fun x => .agg [.lit (.string x.1), .lit (.int .i64 x.2)]) := by kernel_rfl
theorem g0 : Tryd.prog.globalNamed nF = some 0 := by kernel_rfl
theorem g0t : (Tryd.prog.globals[0]?).map (·.type) = some 65 := by kernel_rfl
theorem g1 : Tryd.prog.globalNamed nW = some 1 := by kernel_rfl
theorem g1t : (Tryd.prog.globals[1]?).map (·.type) = some 80 := by kernel_rfl
theorem g2 : Tryd.prog.globalNamed nO = some 2 := by kernel_rfl
theorem g2t : (Tryd.prog.globals[2]?).map (·.type) = some 93 := by kernel_rfl
set_option maxRecDepth 100000 in
theorem order_at {W : World} {rest : List (String × DataW Unit)} (h : laidMet Tryd.prog ((nO, Rows.laid_sacristan_parse_order) :: rest) W) : 2 < W.heap.size ∧ W.rangeAt 2 0 ocs := by
  obtain ⟨ps, ⟨g', t', ca, fuel, p, q, hg', ht', hvar, hd, _, _⟩, _⟩ := h
  obtain rfl := Option.some.inj (g2.symm.trans hg')
  obtain rfl := Option.some.inj (g2t.symm.trans ht')
  have cE : Tryd.prog.cellsOf 92 = 3 := by kernel_rfl
  have hd' : DataW.trod (fun _ => ()) Tryd.prog W 0 (fun _ => true) false fuel 93 ca.toList = some (.agg [.agg [.lit (.string [114, 101, 116, 117, 114, 110]), .lit (.int .u8 17), .lit (.int .i64 1)], .agg [.lit (.string [111, 110]), .lit (.int .u8 18), .lit (.int .i64 2)], .agg [.lit (.string [102, 105, 110, 97, 108, 108, 121]), .lit (.int .u8 19), .lit (.int .i64 0)]], p) := hd
  have R := fun (k : Nat) (hk : k < 3) => Lib.array_elem (n := 3) (e := 92) Tryd.underlying93 hd' k hk
  rw [cE] at R
  obtain ⟨f0, d0, q0, x0, e0⟩ := R 0 (by decide)
  cases x0
  have r0 := ord_cells e0
  obtain ⟨f1, d1, q1, x1, e1⟩ := R 1 (by decide)
  cases x1
  have r1 := ord_cells e1
  obtain ⟨f2, d2, q2, x2, e2⟩ := R 2 (by decide)
  cases x2
  have r2 := ord_cells e2
  clear R
  have V := fun j => World.var?_cell g2 hvar j
  have F : ∀ (j : Nat) (v : Value), ocs[j]? = some v → ca.toList[j]? = some v := by
    intro j v hj
    match j, hj with
    | 0, hj => cases hj; exact row_get r0 0 (by decide)
    | 1, hj => cases hj; exact row_get r0 1 (by decide)
    | 2, hj => cases hj; exact row_get r0 2 (by decide)
    | 3, hj => cases hj; exact row_get r1 0 (by decide)
    | 4, hj => cases hj; exact row_get r1 1 (by decide)
    | 5, hj => cases hj; exact row_get r1 2 (by decide)
    | 6, hj => cases hj; exact row_get r2 0 (by decide)
    | 7, hj => cases hj; exact row_get r2 1 (by decide)
    | 8, hj => cases hj; exact row_get r2 2 (by decide)
    | j + 9, hj => exact absurd (List.getElem?_eq_some_iff.1 hj).1 (by have : ocs.length = 9 := rfl; omega)
  have G : W.rangeAt 2 0 ocs := fun j v hj => by
    have h1 := F j v hj
    rw [Array.getElem?_toList] at h1
    have h2 := V j
    rw [h1] at h2
    simpa using h2
  exact ⟨Lib.lt_of_cell (G 0 _ rfl), G⟩
set_option maxRecDepth 100000 in
theorem forms_at {W : World} {rest : List (String × DataW Unit)} (h : laidMet Tryd.prog ((nF, Rows.laid_sacristan_parse_forms) :: rest) W) : 0 < W.heap.size ∧ W.rangeAt 0 0 fcs := by
  obtain ⟨ps, ⟨g', t', ca, fuel, p, q, hg', ht', hvar, hd, _, _⟩, _⟩ := h
  obtain rfl := Option.some.inj (g0.symm.trans hg')
  obtain rfl := Option.some.inj (g0t.symm.trans ht')
  have cE : Tryd.prog.cellsOf 64 = 5 := by kernel_rfl
  have hd' : DataW.trod (fun _ => ()) Tryd.prog W 0 (fun _ => true) false fuel 65 ca.toList = some (.agg [.agg [.lit (.string [102, 117, 110]), .lit (.int .u8 6), .lit (.bool true), .lit (.int .i64 1), .lit (.bool false)], .agg [.lit (.string [99, 97, 108, 108]), .lit (.int .u8 7), .lit (.bool false), .lit (.int .i64 1), .lit (.bool true)], .agg [.lit (.string [108, 101, 116]), .lit (.int .u8 8), .lit (.bool true), .lit (.int .i64 2), .lit (.bool false)], .agg [.lit (.string [105, 102]), .lit (.int .u8 9), .lit (.bool false), .lit (.int .i64 3), .lit (.bool false)], .agg [.lit (.string [100, 111]), .lit (.int .u8 10), .lit (.bool false), .lit (.int .i64 1), .lit (.bool true)], .agg [.lit (.string [112, 101, 114, 102, 111, 114, 109]), .lit (.int .u8 12), .lit (.bool true), .lit (.int .i64 1), .lit (.bool false)], .agg [.lit (.string [104, 97, 110, 100, 108, 101]), .lit (.int .u8 13), .lit (.bool false), .lit (.int .i64 1), .lit (.bool false)], .agg [.lit (.string [114, 101, 115, 117, 109, 101]), .lit (.int .u8 14), .lit (.bool false), .lit (.int .i64 2), .lit (.bool false)], .agg [.lit (.string [100, 114, 111, 112]), .lit (.int .u8 15), .lit (.bool false), .lit (.int .i64 2), .lit (.bool false)], .agg [.lit (.string [119, 105, 110, 100]), .lit (.int .u8 16), .lit (.bool false), .lit (.int .i64 3), .lit (.bool false)]], p) := hd
  have R := fun (k : Nat) (hk : k < 10) => Lib.array_elem (n := 10) (e := 64) Tryd.underlying65 hd' k hk
  rw [cE] at R
  obtain ⟨f0, d0, q0, x0, e0⟩ := R 0 (by decide)
  cases x0
  have r0 := form_cells e0
  obtain ⟨f1, d1, q1, x1, e1⟩ := R 1 (by decide)
  cases x1
  have r1 := form_cells e1
  obtain ⟨f2, d2, q2, x2, e2⟩ := R 2 (by decide)
  cases x2
  have r2 := form_cells e2
  obtain ⟨f3, d3, q3, x3, e3⟩ := R 3 (by decide)
  cases x3
  have r3 := form_cells e3
  obtain ⟨f4, d4, q4, x4, e4⟩ := R 4 (by decide)
  cases x4
  have r4 := form_cells e4
  obtain ⟨f5, d5, q5, x5, e5⟩ := R 5 (by decide)
  cases x5
  have r5 := form_cells e5
  obtain ⟨f6, d6, q6, x6, e6⟩ := R 6 (by decide)
  cases x6
  have r6 := form_cells e6
  obtain ⟨f7, d7, q7, x7, e7⟩ := R 7 (by decide)
  cases x7
  have r7 := form_cells e7
  obtain ⟨f8, d8, q8, x8, e8⟩ := R 8 (by decide)
  cases x8
  have r8 := form_cells e8
  obtain ⟨f9, d9, q9, x9, e9⟩ := R 9 (by decide)
  cases x9
  have r9 := form_cells e9
  clear R
  have V := fun j => World.var?_cell g0 hvar j
  have F : ∀ (j : Nat) (v : Value), fcs[j]? = some v → ca.toList[j]? = some v := by
    intro j v hj
    match j, hj with
    | 0, hj => cases hj; exact row_get r0 0 (by decide)
    | 1, hj => cases hj; exact row_get r0 1 (by decide)
    | 2, hj => cases hj; exact row_get r0 2 (by decide)
    | 3, hj => cases hj; exact row_get r0 3 (by decide)
    | 4, hj => cases hj; exact row_get r0 4 (by decide)
    | 5, hj => cases hj; exact row_get r1 0 (by decide)
    | 6, hj => cases hj; exact row_get r1 1 (by decide)
    | 7, hj => cases hj; exact row_get r1 2 (by decide)
    | 8, hj => cases hj; exact row_get r1 3 (by decide)
    | 9, hj => cases hj; exact row_get r1 4 (by decide)
    | 10, hj => cases hj; exact row_get r2 0 (by decide)
    | 11, hj => cases hj; exact row_get r2 1 (by decide)
    | 12, hj => cases hj; exact row_get r2 2 (by decide)
    | 13, hj => cases hj; exact row_get r2 3 (by decide)
    | 14, hj => cases hj; exact row_get r2 4 (by decide)
    | 15, hj => cases hj; exact row_get r3 0 (by decide)
    | 16, hj => cases hj; exact row_get r3 1 (by decide)
    | 17, hj => cases hj; exact row_get r3 2 (by decide)
    | 18, hj => cases hj; exact row_get r3 3 (by decide)
    | 19, hj => cases hj; exact row_get r3 4 (by decide)
    | 20, hj => cases hj; exact row_get r4 0 (by decide)
    | 21, hj => cases hj; exact row_get r4 1 (by decide)
    | 22, hj => cases hj; exact row_get r4 2 (by decide)
    | 23, hj => cases hj; exact row_get r4 3 (by decide)
    | 24, hj => cases hj; exact row_get r4 4 (by decide)
    | 25, hj => cases hj; exact row_get r5 0 (by decide)
    | 26, hj => cases hj; exact row_get r5 1 (by decide)
    | 27, hj => cases hj; exact row_get r5 2 (by decide)
    | 28, hj => cases hj; exact row_get r5 3 (by decide)
    | 29, hj => cases hj; exact row_get r5 4 (by decide)
    | 30, hj => cases hj; exact row_get r6 0 (by decide)
    | 31, hj => cases hj; exact row_get r6 1 (by decide)
    | 32, hj => cases hj; exact row_get r6 2 (by decide)
    | 33, hj => cases hj; exact row_get r6 3 (by decide)
    | 34, hj => cases hj; exact row_get r6 4 (by decide)
    | 35, hj => cases hj; exact row_get r7 0 (by decide)
    | 36, hj => cases hj; exact row_get r7 1 (by decide)
    | 37, hj => cases hj; exact row_get r7 2 (by decide)
    | 38, hj => cases hj; exact row_get r7 3 (by decide)
    | 39, hj => cases hj; exact row_get r7 4 (by decide)
    | 40, hj => cases hj; exact row_get r8 0 (by decide)
    | 41, hj => cases hj; exact row_get r8 1 (by decide)
    | 42, hj => cases hj; exact row_get r8 2 (by decide)
    | 43, hj => cases hj; exact row_get r8 3 (by decide)
    | 44, hj => cases hj; exact row_get r8 4 (by decide)
    | 45, hj => cases hj; exact row_get r9 0 (by decide)
    | 46, hj => cases hj; exact row_get r9 1 (by decide)
    | 47, hj => cases hj; exact row_get r9 2 (by decide)
    | 48, hj => cases hj; exact row_get r9 3 (by decide)
    | 49, hj => cases hj; exact row_get r9 4 (by decide)
    | j + 50, hj => exact absurd (List.getElem?_eq_some_iff.1 hj).1 (by have : fcs.length = 50 := rfl; omega)
  have G : W.rangeAt 0 0 fcs := fun j v hj => by
    have h1 := F j v hj
    rw [Array.getElem?_toList] at h1
    have h2 := V j
    rw [h1] at h2
    simpa using h2
  exact ⟨Lib.lt_of_cell (G 0 _ rfl), G⟩
set_option maxRecDepth 100000 in
theorem words_at {W : World} {rest : List (String × DataW Unit)} (h : laidMet Tryd.prog ((nW, Rows.laid_sacristan_tree_words) :: rest) W) : 1 < W.heap.size ∧ W.rangeAt 1 0 wcs := by
  obtain ⟨ps, ⟨g', t', ca, fuel, p, q, hg', ht', hvar, hd, _, _⟩, _⟩ := h
  obtain rfl := Option.some.inj (g1.symm.trans hg')
  obtain rfl := Option.some.inj (g1t.symm.trans ht')
  have cE : Tryd.prog.cellsOf 79 = 2 := by kernel_rfl
  have hd' : DataW.trod (fun _ => ()) Tryd.prog W 0 (fun _ => true) false fuel 80 ca.toList = some (.agg [.agg [.lit (.string [105, 110]), .lit (.int .i64 0)], .agg [.lit (.string [110, 101, 103]), .lit (.int .i64 1)], .agg [.lit (.string [110, 111, 116]), .lit (.int .i64 1)], .agg [.lit (.string [108, 101, 110]), .lit (.int .i64 1)], .agg [.lit (.string [105, 56]), .lit (.int .i64 1)], .agg [.lit (.string [105, 49, 54]), .lit (.int .i64 1)], .agg [.lit (.string [105, 51, 50]), .lit (.int .i64 1)], .agg [.lit (.string [117, 56]), .lit (.int .i64 1)], .agg [.lit (.string [117, 49, 54]), .lit (.int .i64 1)], .agg [.lit (.string [117, 51, 50]), .lit (.int .i64 1)], .agg [.lit (.string [102, 115, 116]), .lit (.int .i64 1)], .agg [.lit (.string [115, 110, 100]), .lit (.int .i64 1)], .agg [.lit (.string [99, 101, 108, 108]), .lit (.int .i64 1)], .agg [.lit (.string [103, 101, 116]), .lit (.int .i64 1)], .agg [.lit (.string [111, 117, 116]), .lit (.int .i64 1)], .agg [.lit (.string [43]), .lit (.int .i64 2)], .agg [.lit (.string [45]), .lit (.int .i64 2)], .agg [.lit (.string [42]), .lit (.int .i64 2)], .agg [.lit (.string [47]), .lit (.int .i64 2)], .agg [.lit (.string [37]), .lit (.int .i64 2)], .agg [.lit (.string [97, 110, 100]), .lit (.int .i64 2)], .agg [.lit (.string [111, 114]), .lit (.int .i64 2)], .agg [.lit (.string [120, 111, 114]), .lit (.int .i64 2)], .agg [.lit (.string [115, 104, 108]), .lit (.int .i64 2)], .agg [.lit (.string [115, 104, 114]), .lit (.int .i64 2)], .agg [.lit (.string [117, 115, 104, 114]), .lit (.int .i64 2)], .agg [.lit (.string [60]), .lit (.int .i64 2)], .agg [.lit (.string [61]), .lit (.int .i64 2)], .agg [.lit (.string [99, 97, 116]), .lit (.int .i64 2)], .agg [.lit (.string [97, 116]), .lit (.int .i64 2)], .agg [.lit (.string [112, 97, 105, 114]), .lit (.int .i64 2)], .agg [.lit (.string [115, 101, 116]), .lit (.int .i64 2)]], p) := hd
  have R := fun (k : Nat) (hk : k < 32) => Lib.array_elem (n := 32) (e := 79) Tryd.underlying80 hd' k hk
  rw [cE] at R
  obtain ⟨f0, d0, q0, x0, e0⟩ := R 0 (by decide)
  cases x0
  have r0 := word_cells e0
  obtain ⟨f1, d1, q1, x1, e1⟩ := R 1 (by decide)
  cases x1
  have r1 := word_cells e1
  obtain ⟨f2, d2, q2, x2, e2⟩ := R 2 (by decide)
  cases x2
  have r2 := word_cells e2
  obtain ⟨f3, d3, q3, x3, e3⟩ := R 3 (by decide)
  cases x3
  have r3 := word_cells e3
  obtain ⟨f4, d4, q4, x4, e4⟩ := R 4 (by decide)
  cases x4
  have r4 := word_cells e4
  obtain ⟨f5, d5, q5, x5, e5⟩ := R 5 (by decide)
  cases x5
  have r5 := word_cells e5
  obtain ⟨f6, d6, q6, x6, e6⟩ := R 6 (by decide)
  cases x6
  have r6 := word_cells e6
  obtain ⟨f7, d7, q7, x7, e7⟩ := R 7 (by decide)
  cases x7
  have r7 := word_cells e7
  obtain ⟨f8, d8, q8, x8, e8⟩ := R 8 (by decide)
  cases x8
  have r8 := word_cells e8
  obtain ⟨f9, d9, q9, x9, e9⟩ := R 9 (by decide)
  cases x9
  have r9 := word_cells e9
  obtain ⟨f10, d10, q10, x10, e10⟩ := R 10 (by decide)
  cases x10
  have r10 := word_cells e10
  obtain ⟨f11, d11, q11, x11, e11⟩ := R 11 (by decide)
  cases x11
  have r11 := word_cells e11
  obtain ⟨f12, d12, q12, x12, e12⟩ := R 12 (by decide)
  cases x12
  have r12 := word_cells e12
  obtain ⟨f13, d13, q13, x13, e13⟩ := R 13 (by decide)
  cases x13
  have r13 := word_cells e13
  obtain ⟨f14, d14, q14, x14, e14⟩ := R 14 (by decide)
  cases x14
  have r14 := word_cells e14
  obtain ⟨f15, d15, q15, x15, e15⟩ := R 15 (by decide)
  cases x15
  have r15 := word_cells e15
  obtain ⟨f16, d16, q16, x16, e16⟩ := R 16 (by decide)
  cases x16
  have r16 := word_cells e16
  obtain ⟨f17, d17, q17, x17, e17⟩ := R 17 (by decide)
  cases x17
  have r17 := word_cells e17
  obtain ⟨f18, d18, q18, x18, e18⟩ := R 18 (by decide)
  cases x18
  have r18 := word_cells e18
  obtain ⟨f19, d19, q19, x19, e19⟩ := R 19 (by decide)
  cases x19
  have r19 := word_cells e19
  obtain ⟨f20, d20, q20, x20, e20⟩ := R 20 (by decide)
  cases x20
  have r20 := word_cells e20
  obtain ⟨f21, d21, q21, x21, e21⟩ := R 21 (by decide)
  cases x21
  have r21 := word_cells e21
  obtain ⟨f22, d22, q22, x22, e22⟩ := R 22 (by decide)
  cases x22
  have r22 := word_cells e22
  obtain ⟨f23, d23, q23, x23, e23⟩ := R 23 (by decide)
  cases x23
  have r23 := word_cells e23
  obtain ⟨f24, d24, q24, x24, e24⟩ := R 24 (by decide)
  cases x24
  have r24 := word_cells e24
  obtain ⟨f25, d25, q25, x25, e25⟩ := R 25 (by decide)
  cases x25
  have r25 := word_cells e25
  obtain ⟨f26, d26, q26, x26, e26⟩ := R 26 (by decide)
  cases x26
  have r26 := word_cells e26
  obtain ⟨f27, d27, q27, x27, e27⟩ := R 27 (by decide)
  cases x27
  have r27 := word_cells e27
  obtain ⟨f28, d28, q28, x28, e28⟩ := R 28 (by decide)
  cases x28
  have r28 := word_cells e28
  obtain ⟨f29, d29, q29, x29, e29⟩ := R 29 (by decide)
  cases x29
  have r29 := word_cells e29
  obtain ⟨f30, d30, q30, x30, e30⟩ := R 30 (by decide)
  cases x30
  have r30 := word_cells e30
  obtain ⟨f31, d31, q31, x31, e31⟩ := R 31 (by decide)
  cases x31
  have r31 := word_cells e31
  clear R
  have V := fun j => World.var?_cell g1 hvar j
  have F : ∀ (j : Nat) (v : Value), wcs[j]? = some v → ca.toList[j]? = some v := by
    intro j v hj
    match j, hj with
    | 0, hj => cases hj; exact row_get r0 0 (by decide)
    | 1, hj => cases hj; exact row_get r0 1 (by decide)
    | 2, hj => cases hj; exact row_get r1 0 (by decide)
    | 3, hj => cases hj; exact row_get r1 1 (by decide)
    | 4, hj => cases hj; exact row_get r2 0 (by decide)
    | 5, hj => cases hj; exact row_get r2 1 (by decide)
    | 6, hj => cases hj; exact row_get r3 0 (by decide)
    | 7, hj => cases hj; exact row_get r3 1 (by decide)
    | 8, hj => cases hj; exact row_get r4 0 (by decide)
    | 9, hj => cases hj; exact row_get r4 1 (by decide)
    | 10, hj => cases hj; exact row_get r5 0 (by decide)
    | 11, hj => cases hj; exact row_get r5 1 (by decide)
    | 12, hj => cases hj; exact row_get r6 0 (by decide)
    | 13, hj => cases hj; exact row_get r6 1 (by decide)
    | 14, hj => cases hj; exact row_get r7 0 (by decide)
    | 15, hj => cases hj; exact row_get r7 1 (by decide)
    | 16, hj => cases hj; exact row_get r8 0 (by decide)
    | 17, hj => cases hj; exact row_get r8 1 (by decide)
    | 18, hj => cases hj; exact row_get r9 0 (by decide)
    | 19, hj => cases hj; exact row_get r9 1 (by decide)
    | 20, hj => cases hj; exact row_get r10 0 (by decide)
    | 21, hj => cases hj; exact row_get r10 1 (by decide)
    | 22, hj => cases hj; exact row_get r11 0 (by decide)
    | 23, hj => cases hj; exact row_get r11 1 (by decide)
    | 24, hj => cases hj; exact row_get r12 0 (by decide)
    | 25, hj => cases hj; exact row_get r12 1 (by decide)
    | 26, hj => cases hj; exact row_get r13 0 (by decide)
    | 27, hj => cases hj; exact row_get r13 1 (by decide)
    | 28, hj => cases hj; exact row_get r14 0 (by decide)
    | 29, hj => cases hj; exact row_get r14 1 (by decide)
    | 30, hj => cases hj; exact row_get r15 0 (by decide)
    | 31, hj => cases hj; exact row_get r15 1 (by decide)
    | 32, hj => cases hj; exact row_get r16 0 (by decide)
    | 33, hj => cases hj; exact row_get r16 1 (by decide)
    | 34, hj => cases hj; exact row_get r17 0 (by decide)
    | 35, hj => cases hj; exact row_get r17 1 (by decide)
    | 36, hj => cases hj; exact row_get r18 0 (by decide)
    | 37, hj => cases hj; exact row_get r18 1 (by decide)
    | 38, hj => cases hj; exact row_get r19 0 (by decide)
    | 39, hj => cases hj; exact row_get r19 1 (by decide)
    | 40, hj => cases hj; exact row_get r20 0 (by decide)
    | 41, hj => cases hj; exact row_get r20 1 (by decide)
    | 42, hj => cases hj; exact row_get r21 0 (by decide)
    | 43, hj => cases hj; exact row_get r21 1 (by decide)
    | 44, hj => cases hj; exact row_get r22 0 (by decide)
    | 45, hj => cases hj; exact row_get r22 1 (by decide)
    | 46, hj => cases hj; exact row_get r23 0 (by decide)
    | 47, hj => cases hj; exact row_get r23 1 (by decide)
    | 48, hj => cases hj; exact row_get r24 0 (by decide)
    | 49, hj => cases hj; exact row_get r24 1 (by decide)
    | 50, hj => cases hj; exact row_get r25 0 (by decide)
    | 51, hj => cases hj; exact row_get r25 1 (by decide)
    | 52, hj => cases hj; exact row_get r26 0 (by decide)
    | 53, hj => cases hj; exact row_get r26 1 (by decide)
    | 54, hj => cases hj; exact row_get r27 0 (by decide)
    | 55, hj => cases hj; exact row_get r27 1 (by decide)
    | 56, hj => cases hj; exact row_get r28 0 (by decide)
    | 57, hj => cases hj; exact row_get r28 1 (by decide)
    | 58, hj => cases hj; exact row_get r29 0 (by decide)
    | 59, hj => cases hj; exact row_get r29 1 (by decide)
    | 60, hj => cases hj; exact row_get r30 0 (by decide)
    | 61, hj => cases hj; exact row_get r30 1 (by decide)
    | 62, hj => cases hj; exact row_get r31 0 (by decide)
    | 63, hj => cases hj; exact row_get r31 1 (by decide)
    | j + 64, hj => exact absurd (List.getElem?_eq_some_iff.1 hj).1 (by have : wcs.length = 64 := rfl; omega)
  have G : W.rangeAt 1 0 wcs := fun j v hj => by
    have h1 := F j v hj
    rw [Array.getElem?_toList] at h1
    have h2 := V j
    rw [h1] at h2
    simpa using h2
  exact ⟨Lib.lt_of_cell (G 0 _ rfl), G⟩
/-- What the row's listed tables give. -/
theorem gv_of_laid {W : World} (h : laidMetH Tryd.prog laid8 W) : Gv W := by
  rw [MakeChecks.laidMetH_plain _ _ _ (by kernel_rfl)] at h
  have h5 : laidMet Tryd.prog [(nW, Rows.laid_sacristan_tree_words), (nO, Rows.laid_sacristan_parse_order), (nF, Rows.laid_sacristan_parse_forms)] W := laidMet.tail (laidMet.tail (laidMet.tail (laidMet.tail (laidMet.tail h))))
  have h6 := laidMet.tail h5
  have h7 := laidMet.tail h6
  exact ⟨(order_at h6).1, words_at h5, (forms_at h7).2, (order_at h6).2⟩
theorem gR : Tryd.prog.globalNamed "strconv.ErrRange" = some 4 := by kernel_rfl
theorem gRType : (Tryd.prog.globals[4]?).map (·.type) = some 73 := by kernel_rfl
theorem cells110 : Tryd.prog.cellsOf 110 = 1 := by kernel_rfl
theorem cells9' : Tryd.prog.cellsOf 9 = 1 := by kernel_rfl
theorem er_of_laid {W : World} (h : laidMetH Tryd.prog laid8 W) : Er W := by
  rw [MakeChecks.laidMetH_plain _ _ _ (by kernel_rfl)] at h
  obtain ⟨a0, s0, hv, _, _, _⟩ := laid_sentinel (laidMet.tail (laidMet.tail (laidMet.tail h))) gR gRType Tryd.underlying73 (fun u h => typeName_ptr_named (nm := "errors.errorString") (by kernel_rfl) (by kernel_rfl) (by decide) u h) Tryd.underlying108 Tryd.underlying110 rfl rfl Tryd.underlying9 cells110 cells9'
  exact ⟨_, _, by have h0 := World.var?_cell gR hv 0; simpa using h0⟩

end Go.Proofs.YtlacjiihbbgbeaaDoor
