import Derived.Test.YtndhhmgbekcfoaaDoorX1
import Derived.Test.YtndhhmgbekcfoaaDoorQ15
import Derived.Laws.IdiomStrings
namespace Go.Proofs.YtndhhmgbekcfoaaDoor
open Go.RowKit
set_option linter.unusedVariables false
set_option linter.unusedSimpArgs false

theorem gd_bw {a b : World} (h : BW a b) (v : Value) : Gd a b v v := ⟨gb_bw h, .inl rfl⟩
theorem app_row' (ty : TypeId) (base : Nat) (v : Value) (n : Nat) (xs : List Value) (ad : Addr) (m c : Nat) (news : List Value) (w : World) (hown : w.ownsRow base 5 1 v n xs) (hl : news.length = m)
    (hnews : ∀ j u, news[j]? = some u → w.cell? (ad.add j) = some u) (h1 : ∀ u ∈ news, u.oneCell' = true) (hb : n + m ≤ 70368744177664) (hbase : base ≤ w.heap.size) :
    ∃ v' w', (Builtin.append_ #[30, 30] ty #[v, .slice (some ad) m c]).run Tryd.prog w = .ok v' w' ∧ w'.ownsRow base 5 1 v' (n + m) (xs ++ news) ∧ Gd w w' v v' := by
  by_cases h0 : 0 < m
  · exact app_row ty base v n xs ad m c news w hown hl h0 hnews h1 hb hbase
  · obtain rfl : m = 0 := by omega
    have hx : news = [] := List.eq_nil_of_length_eq_zero hl
    subst hx
    obtain ⟨i0, hi, hz0, hz1, hz2⟩ := info_parts Tryd.infk5
    refine ⟨v, w, ?_, by simpa using hown, Gd.refl _ _⟩
    rcases hown.2 with ⟨rfl, rfl⟩ | ⟨g, cap, cur, rfl, hbg, hg, hnc, hcm, hcs, htake⟩
    · simp [Builtin.append_, run_underlying Tryd.underlying30, sizeOf, typeInfo, hi, Builtin.lenOf, Builtin.firstCells, loadCells, loadCellsFrom]
    · simp [Builtin.append_, run_underlying Tryd.underlying30, sizeOf, typeInfo, hi, Builtin.lenOf, Builtin.firstCells, loadCells, loadCellsFrom, hnc, storeCells]
theorem wpList_app' {ops : Array Oper} {rest : List Oper} {o : Oper} {a : Act} {w : World} {Q : Exit → Act → World → Prop} (hgd : o.guard = none) (s x : Operand)
    (ho : o.op = .call { callee := .builtin .append, args := #[s, x], argTypes := #[30, 30] }) (W0 : World) (v : Value) (l : List Nat) (ad : Addr) (m c : Nat) (news : List Nat) (hsv : a.eval s = v) (hxv : a.eval x = .slice (some ad) m c)
    (hB : Bf W0 w v l) (hl : news.length = m) (hnews : ∀ j u, (bs news)[j]? = some u → w.cell? (ad.add j) = some u) (hb : l.length + m ≤ 70368744177664)
    (h : ∀ v' w', Bf W0 w' v' (l ++ news) → Gd w w' v v' → wpList Tryd.prog ops Q rest (a.put o.dst v') w') : wpList Tryd.prog ops Q (o :: rest) a w := by
  refine wpList_plain hgd fun K hK => ?_
  obtain ⟨v', w', hrun, r1, r2⟩ := app_row' o.type W0.heap.size v l.length (bs l) ad m c (bs news) w hB.2 (by rw [bs_len]; exact hl) hnews (bs_cell _) hb hB.1.size
  unfold Oper.wp execOp
  simp only [ho, resolve, invoke, builtin, Sem.run_bind, Sem.run_pure, Result.andThen_ok, List.map_toArray, List.map_cons, List.map_nil, hsv, hxv, hrun]
  exact hK _ _ (h v' w' (hB.of r2 (by rw [bs_app, List.length_append, hl]; exact r1)) r2)
/-- Bytes put behind a text's own, which nobody may write. -/
theorem wpList_appm {ops : Array Oper} {rest : List Oper} {o : Oper} {a : Act} {w : World} {Q : Exit → Act → World → Prop} (hgd : o.guard = none) (s x : Operand)
    (ho : o.op = .call { callee := .builtin .append, args := #[s, x], argTypes := #[30, 30] }) (W0 : World) (b0 : Nat) (ad : Addr) (m c : Nat) (news : List Nat) (hsv : a.eval s = .slice (some ⟨b0, 0, none⟩) 4 4) (hxv : a.eval x = .slice (some ad) m c)
    (hL : ByAt w b0 0 ltr) (hW : BW W0 w) (hl : news.length = m) (h0 : 0 < m) (hnews : ∀ j u, (bs news)[j]? = some u → w.cell? (ad.add j) = some u) (hb : m ≤ 1099511627776)
    (h : ∀ v' w', Bf W0 w' v' (ltr ++ news) → BW w w' → wpList Tryd.prog ops Q rest (a.put o.dst v') w') : wpList Tryd.prog ops Q (o :: rest) a w := by
  refine wpList_plain hgd fun K hK => ?_
  obtain ⟨i0, hi, hz0, hz1, hz2⟩ := info_parts Tryd.infk5
  have hz : (Value.int IntKind.u8 0).cells.size = 1 := rfl
  have hol : ∀ j u, (bs ltr)[j]? = some u → w.cell? ((⟨b0, 0, none⟩ : Addr).add j) = some u := fun j u hu => by
    rw [Addr.add_mid]
    have hj : j < 4 := by have := (List.getElem?_eq_some_iff.1 hu).1; simpa [bs] using this
    rw [hL j hj, ← hu]
    have key : ∀ j, j < 4 → some (Value.int .u8 ((ltr.getD j 0 : Nat) : Int)) = (bs ltr)[j]? := fun j hj => by
      match j, hj with
      | 0, _ => rfl
      | 1, _ => rfl
      | 2, _ => rfl
      | 3, _ => rfl
    exact key j hj
  have hr := run_append_grow (P := Tryd.prog) w 30 o.type 5 i0 _ Tryd.underlying30 hi hz0 ⟨b0, 0, none⟩ 4 4 (bs ltr) (by rw [hz1]; rfl) hol ad m c (bs news) (by rw [hz1, bs_len]; omega) hnews (by omega) (by omega) (growslice_fits (by omega) (by rw [hz2]; omega))
  have ho2 := own_new w W0.heap.size 4 m (bs ltr) (bs news) 4 (.int .u8 0) hz rfl (by rw [bs_len]; exact hl) hW.size (by unfold maxLen; omega)
  unfold Oper.wp execOp
  simp only [ho, resolve, invoke, builtin, Sem.run_bind, Sem.run_pure, Result.andThen_ok, List.map_toArray, List.map_cons, List.map_nil, hsv, hxv, hr]
  refine hK _ _ (h _ _ ⟨hW.trans (BW.alloc (BW.refl w).drew _), ?_⟩ (BW.alloc (BW.refl w).drew _))
  rw [bs_app, List.length_append, hl]
  exact ho2
/-- A text's bytes as a new row. -/
theorem cv_text (s : ByteArray) (w : World) : ∃ c W, (convert 9 30 (.string s)).run Tryd.prog w = .ok (.slice (some ⟨w.heap.size, 0, none⟩) s.size c) W ∧ BW w W ∧ ∀ j u, (bs (sb s))[j]? = some u → W.cell? ((⟨w.heap.size, 0, none⟩ : Addr).add j) = some u := by
  refine ⟨_, _, run_bytes_of_string w 9 30 5 s Tryd.underlying9 Tryd.underlying30 Tryd.underlying5, BW.alloc (BW.refl w).drew _, fun j u hu => ?_⟩
  have hj : j < s.size := by have := (List.getElem?_eq_some_iff.1 hu).1; rw [bs_len, sb_len] at this; exact this
  rw [Addr.add_mid, Nat.zero_add]
  have := cell_of_row (w.drew.alloc (.cells (bytesRow s (grownCap w s.size 0 5)) 5 ((bytesRow s (grownCap w s.size 0 5)).size, (bytesRow s (grownCap w s.size 0 5)).size + 1))) _ j _ 5 _ (heap_alloc_new w.drew _)
  refine this.trans ?_
  rw [bytesRow_at s _ j hj, ← hu, bs_sb]
  simp [List.getElem?_eq_getElem hj]

end Go.Proofs.YtndhhmgbekcfoaaDoor
