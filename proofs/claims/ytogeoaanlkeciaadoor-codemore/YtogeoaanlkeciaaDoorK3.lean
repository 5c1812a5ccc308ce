import Derived.Test.YtogeoaanlkeciaaDoorK1
import Derived.Test.YtogeoaanlkeciaaDoorK2
namespace Go.Proofs.YtogeoaanlkeciaaDoor
open Go.RowKit
set_option linter.unusedVariables false
set_option linter.unusedSimpArgs false

theorem own_shape {W : World} {base e size n : Nat} {v : Value} {xs : List Value} (h : W.ownsRow base e size v n xs) (hn : 0 < n) : ∃ g cap, v = .slice (some ⟨g, 0, none⟩) n cap := by
  rcases h.2 with ⟨_, h0⟩ | ⟨g, cap, cur, rfl, _⟩
  · omega
  · exact ⟨g, cap, rfl⟩
/-- The cells of a module's variable. -/
def CK (W : World) (C : Nat) (c0 c1 c2 c3 : Value) : Prop := C < W.heap.size ∧ W.cell? ⟨C, 0, none⟩ = some c0 ∧ W.cell? ⟨C, 1, none⟩ = some c1 ∧ W.cell? ⟨C, 2, none⟩ = some c2 ∧ W.cell? ⟨C, 3, none⟩ = some c3 ∧ ∀ j, W.frozen? ⟨C, j, none⟩ = false
theorem CK.bw {W W' : World} {C : Nat} {c0 c1 c2 c3 : Value} (h : CK W C c0 c1 c2 c3) (k : BW W W') : CK W' C c0 c1 c2 c3 := by
  obtain ⟨h0, h1, h2, h3, h4, h5⟩ := h
  have := k.size
  exact ⟨by omega, (k.cells C _ h0).trans h1, (k.cells C _ h0).trans h2, (k.cells C _ h0).trans h3, (k.cells C _ h0).trans h4, fun j => (k.froz C j h0).trans (h5 j)⟩
theorem CK.new (w : World) (c0 c1 c2 c3 : Value) : CK (w.alloc (.cells #[c0, c1, c2, c3] 27)) w.heap.size c0 c1 c2 c3 :=
  ⟨by simp, cell_new _ _ _ 0, cell_new _ _ _ 1, cell_new _ _ _ 2, cell_new _ _ _ 3, fun j => frozen_of_row _ _ j _ _ (heap_alloc_new w _)⟩
theorem set_same {W : World} {p : Addr} {u v : Value} (h : W.cell? p = some u) : (W.setCell p v).cell? p = some v := World.cell?_setCell_same _ _ _ h
theorem set_froz (W : World) (p q : Addr) (v : Value) : (W.setCell p v).frozen? q = W.frozen? q := by simp
theorem CK.set0 {W : World} {C : Nat} {c0 c1 c2 c3 : Value} (h : CK W C c0 c1 c2 c3) (u : Value) : CK (W.setCell ⟨C, 0, none⟩ u) C u c1 c2 c3 :=
  ⟨by have := h.1; simp; exact this, set_same h.2.1, (World.cell?_setCell_other _ _ _ _ (by simp)).trans h.2.2.1, (World.cell?_setCell_other _ _ _ _ (by simp)).trans h.2.2.2.1, (World.cell?_setCell_other _ _ _ _ (by simp)).trans h.2.2.2.2.1, fun j => (set_froz _ _ _ _).trans (h.2.2.2.2.2 j)⟩
theorem CK.set1 {W : World} {C : Nat} {c0 c1 c2 c3 : Value} (h : CK W C c0 c1 c2 c3) (u : Value) : CK (W.setCell ⟨C, 1, none⟩ u) C c0 u c2 c3 :=
  ⟨by have := h.1; simp; exact this, (World.cell?_setCell_other _ _ _ _ (by simp)).trans h.2.1, set_same h.2.2.1, (World.cell?_setCell_other _ _ _ _ (by simp)).trans h.2.2.2.1, (World.cell?_setCell_other _ _ _ _ (by simp)).trans h.2.2.2.2.1, fun j => (set_froz _ _ _ _).trans (h.2.2.2.2.2 j)⟩
theorem CK.set2 {W : World} {C : Nat} {c0 c1 c2 c3 : Value} (h : CK W C c0 c1 c2 c3) (u : Value) : CK (W.setCell ⟨C, 2, none⟩ u) C c0 c1 u c3 :=
  ⟨by have := h.1; simp; exact this, (World.cell?_setCell_other _ _ _ _ (by simp)).trans h.2.1, (World.cell?_setCell_other _ _ _ _ (by simp)).trans h.2.2.1, set_same h.2.2.2.1, (World.cell?_setCell_other _ _ _ _ (by simp)).trans h.2.2.2.2.1, fun j => (set_froz _ _ _ _).trans (h.2.2.2.2.2 j)⟩
theorem CK.set3 {W : World} {C : Nat} {c0 c1 c2 c3 : Value} (h : CK W C c0 c1 c2 c3) (u : Value) : CK (W.setCell ⟨C, 3, none⟩ u) C c0 c1 c2 u :=
  ⟨by have := h.1; simp; exact this, (World.cell?_setCell_other _ _ _ _ (by simp)).trans h.2.1, (World.cell?_setCell_other _ _ _ _ (by simp)).trans h.2.2.1, (World.cell?_setCell_other _ _ _ _ (by simp)).trans h.2.2.2.1, set_same h.2.2.2.2.1, fun j => (set_froz _ _ _ _).trans (h.2.2.2.2.2 j)⟩
/-- What the rows of the old module hold. -/
def Nws (w : World) (r : Mw) (m : Mdl) (nI nT nP nH : List Value) : Prop :=
  (NewsOf w r.ia r.il 1 nI ∧ ∀ i x, m.ints[i]? = some x → ∃ b o, (w.cell? ⟨b, o + 0, none⟩ = some (.int .i64 x) ∧ I64 x) ∧ ∀ j, j < 1 → w.cell? ⟨b, o + j, none⟩ = nI[i * 1 + j]?) ∧
  (NewsOf w r.ta r.tl 1 nT ∧ ∀ i x, m.texts[i]? = some x → ∃ b o, (w.cell? ⟨b, o + 0, none⟩ = some (.string x) ∧ x.size ≤ maxLen) ∧ ∀ j, j < 1 → w.cell? ⟨b, o + j, none⟩ = nT[i * 1 + j]?) ∧
  (NewsOf w r.pa r.pl 4 nP ∧ ∀ i x, m.pros[i]? = some x → ∃ b o, PrC w b o x ∧ ∀ j, j < 4 → w.cell? ⟨b, o + j, none⟩ = nP[i * 4 + j]?) ∧
  (NewsOf w r.ha r.hl 3 nH ∧ ∀ i x, m.tabs[i]? = some x → ∃ b o, TbC w b o x ∧ ∀ j, j < 3 → w.cell? ⟨b, o + j, none⟩ = nH[i * 3 + j]?)
theorem nws_of {w : World} {r : Mw} {m : Mdl} (h : ModAt w r m) : ∃ nI nT nP nH, Nws w r m nI nT nP nH := by
  obtain ⟨nI, a1, a2⟩ := news_of (by decide) h.ints.row (fun b o x hx j hj => by
    have : j = 0 := by omega
    subst this; exact ⟨_, hx.1, rfl⟩)
  obtain ⟨nT, b1, b2⟩ := news_of (by decide) h.texts.row (fun b o x hx j hj => by
    have : j = 0 := by omega
    subst this; exact ⟨_, hx.1, rfl⟩)
  obtain ⟨nP, c1, c2⟩ := news_of (by decide) h.pros (fun b o x hx j hj => by
    obtain ⟨ca, cl, cc, ⟨k0, k1, k2, k3⟩, _⟩ := hx
    match j, hj with
    | 0, _ => exact ⟨_, k0, rfl⟩
    | 1, _ => exact ⟨_, k1, rfl⟩
    | 2, _ => exact ⟨_, k2, rfl⟩
    | 3, _ => exact ⟨_, k3, rfl⟩)
  obtain ⟨nH, d1, d2⟩ := news_of (by decide) h.tabs (fun b o x hx j hj => by
    obtain ⟨ca, cl, cc, ⟨k0, k1, k2⟩, _⟩ := hx
    match j, hj with
    | 0, _ => exact ⟨_, k0, rfl⟩
    | 1, _ => exact ⟨_, k1, rfl⟩
    | 2, _ => exact ⟨_, k2, rfl⟩)
  exact ⟨nI, nT, nP, nH, ⟨a1, a2⟩, ⟨b1, b2⟩, ⟨c1, c2⟩, ⟨d1, d2⟩⟩
/-- The new module. -/
theorem mod_new {w W : World} {r : Mw} {m : Mdl} {nI nT nP nH : List Value} {n : Int} {s : ByteArray} {D b1 b2 b3 b4 : Nat} {vI vT vP vH : Value} (hb : BW w W) (h : ModAt w r m) (hN : Nws w r m nI nT nP nH) (hn : I64 n) (hs : s.size ≤ maxLen)
    (hil : r.il ≤ 300) (htl : r.tl ≤ 300) (hpl : r.pl ≤ 300) (hhl : r.hl ≤ 300)
    (oI : W.ownsRow b1 2 1 vI (r.il + 1) (nI ++ [.int .i64 n])) (oT : W.ownsRow b2 9 1 vT (r.tl + 1) (nT ++ [.string s]))
    (oP : W.ownsRow b3 44 4 vP (r.pl + 1) (nP ++ [.int .i64 0, .int .i64 1, .int .i64 0, .slice (some ⟨D, 0, none⟩) 1 1])) (oH : W.ownsRow b4 41 3 vH (r.hl + 1) (nH ++ [.slice none 0 0, .bool false, .bool false]))
    (hD : D < W.heap.size) (hD0 : W.cell? ⟨D, 0, none⟩ = some (.int .u8 3)) (hD1 : W.cell? ⟨D, 1, none⟩ = some (.int .i64 0)) :
    ∃ rK : Mw, vI = .slice rK.ia rK.il rK.ic ∧ vT = .slice rK.ta rK.tl rK.tc ∧ vP = .slice rK.pa rK.pl rK.pc ∧ vH = .slice rK.ha rK.hl rK.hc ∧ ModAt W rK (mdK m n s) := by
  obtain ⟨⟨a1, a2⟩, ⟨c1, c2⟩, ⟨d1, d2⟩, ⟨e1, e2⟩⟩ := hN
  obtain ⟨l1, l2, l3, l4, _⟩ := h.lens
  obtain ⟨g1, k1, rfl, q1, x1, y1⟩ := row_own (At' := fun b o z => W.cell? ⟨b, o + 0, none⟩ = some (.int .i64 z) ∧ I64 z) (by decide) l1 (by omega) a1.1 rfl oI
    (fun i x hx g o hg => by
      obtain ⟨b, o', ⟨f1, f2⟩, f3⟩ := a2 i x hx
      exact ⟨by rw [hg 0 (by decide), ← f3 0 (by decide)]; exact f1, f2⟩)
    (fun g o hg => ⟨hg 0 (by decide), hn⟩)
  obtain ⟨g2, k2, rfl, q2, x2, y2⟩ := row_own (At' := fun b o z => W.cell? ⟨b, o + 0, none⟩ = some (.string z) ∧ z.size ≤ maxLen) (by decide) l2 (by omega) c1.1 rfl oT
    (fun i x hx g o hg => by
      obtain ⟨b, o', ⟨f1, f2⟩, f3⟩ := c2 i x hx
      exact ⟨by rw [hg 0 (by decide), ← f3 0 (by decide)]; exact f1, f2⟩)
    (fun g o hg => ⟨hg 0 (by decide), hs⟩)
  obtain ⟨g3, k3, rfl, q3, x3, y3⟩ := row_own (At' := PrC W) (z := (⟨0, 1, 0, [⟨3, 0⟩]⟩ : Pro)) (by decide) l3 (by omega) d1.1 rfl oP
    (fun i x hx g o hg => by
      obtain ⟨b, o', ⟨ca, cl, cc, ⟨f0, f1, f2, f3⟩, f4⟩, f5⟩ := d2 i x hx
      exact ⟨ca, cl, cc, ⟨by rw [← f0, ← Nat.add_zero o, ← Nat.add_zero o']; exact (hg 0 (by decide)).trans (f5 0 (by decide)).symm, ((hg 1 (by decide)).trans (f5 1 (by decide)).symm).trans f1, ((hg 2 (by decide)).trans (f5 2 (by decide)).symm).trans f2, ((hg 3 (by decide)).trans (f5 3 (by decide)).symm).trans f3⟩, f4.bw hb⟩)
    (fun g o hg => ⟨some ⟨D, 0, none⟩, 1, 1, ⟨hg 0 (by decide), hg 1 (by decide), hg 2 (by decide), hg 3 (by decide)⟩, by unfold I64; decide, by unfold I64; decide, by unfold I64; decide, Nat.le_refl _, by unfold maxLen; omega, ⟨rfl, by unfold maxLen; omega, .inr ⟨D, 0, rfl, hD, fun i x hx => by
      have hi : i = 0 := by have := (List.getElem?_eq_some_iff.1 hx).1; simp at this; omega
      subst hi
      simp at hx
      subst hx
      exact ⟨by simpa using hD0, by simpa using hD1, by decide, by unfold I64; decide⟩⟩⟩⟩)
  obtain ⟨g4, k4, rfl, q4, x4, y4⟩ := row_own (At' := TbC W) (z := (⟨[], false, false⟩ : Tbl)) (by decide) l4 (by omega) e1.1 rfl oH
    (fun i x hx g o hg => by
      obtain ⟨b, o', ⟨oa, ol, oc, ⟨f0, f1, f2⟩, f4⟩, f5⟩ := e2 i x hx
      exact ⟨oa, ol, oc, ⟨by rw [← f0, ← Nat.add_zero o, ← Nat.add_zero o']; exact (hg 0 (by decide)).trans (f5 0 (by decide)).symm, ((hg 1 (by decide)).trans (f5 1 (by decide)).symm).trans f1, ((hg 2 (by decide)).trans (f5 2 (by decide)).symm).trans f2⟩, f4.bw hb⟩)
    (fun g o hg => ⟨none, 0, 0, ⟨hg 0 (by decide), hg 1 (by decide), hg 2 (by decide)⟩, Nat.le_refl _, Nat.zero_le _, Nat.zero_le _, ⟨rfl, Nat.zero_le _, by simp, .inl rfl⟩⟩)
  exact ⟨⟨some ⟨g1, 0, none⟩, r.il + 1, k1, some ⟨g2, 0, none⟩, r.tl + 1, k2, some ⟨g3, 0, none⟩, r.pl + 1, k3, some ⟨g4, 0, none⟩, r.hl + 1, k4⟩, rfl, rfl, rfl, rfl, ⟨IntsAt.of q1, StrsAt.of q2, q3, q4, x1, y1, x2, y2, x3, y3, x4, y4⟩⟩

end Go.Proofs.YtogeoaanlkeciaaDoor
