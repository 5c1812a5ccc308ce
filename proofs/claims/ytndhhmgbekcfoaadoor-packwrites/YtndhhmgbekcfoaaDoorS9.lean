import Derived.Test.YtndhhmgbekcfoaaDoorS8
namespace Go.Proofs.YtndhhmgbekcfoaaDoor
open Go.RowKit
set_option linter.unusedVariables false
set_option linter.unusedSimpArgs false

theorem refSame_any (r s : Mw) (a b : Mdl) (w : World) (h1 : ModAt w r a) (h2 : ModAt w s b) : Calls Tryd.prog 14 #[r.v, s.v] w fun e w' => e = .returned (.bool (smM a b)) ∧ BW w w' := by
  obtain ⟨l1, l2, l3, l4, _⟩ := h1.lens
  obtain ⟨m1, m2, m3, m4, _⟩ := h2.lens
  by_cases e0 : r.il = s.il
  · by_cases e1 : r.tl = s.tl
    · by_cases e2 : r.pl = s.pl
      · by_cases e3 : r.hl = s.hl
        · obtain ⟨ia, il, ic, ta, tl, tc, pa, pl, pc, ha, hl, hc⟩ := r
          obtain ⟨ia', il', ic', ta', tl', tc', pa', pl', pc', ha', hl', hc'⟩ := s
          dsimp only at e0 e1 e2 e3
          subst e0 e1 e2 e3
          exact refSame_eq ia ia' ta ta' pa pa' ha ha' il ic ic' tl tc tc' pl pc pc' hl hc hc' a b w h1 h2
        · have : smM a b = false := by unfold smM; rw [eqL_len smT (by omega)]; simp
          rw [this]; exact refSame_len3 r s w e0 e1 e2 e3
      · have : smM a b = false := by unfold smM; rw [eqL_len smP (by omega)]; simp
        rw [this]; exact refSame_len2 r s w e0 e1 e2
    · have : smM a b = false := by unfold smM; rw [eqL_len eqS (by omega)]; simp
      rw [this]; exact refSame_len1 r s w e0 e1
  · have : smM a b = false := by unfold smM; rw [eqL_len eqI (by omega)]; simp
    rw [this]; exact refSame_len0 r s w e0

end Go.Proofs.YtndhhmgbekcfoaaDoor
