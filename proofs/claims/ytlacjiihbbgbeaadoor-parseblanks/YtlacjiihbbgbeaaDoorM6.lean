import Derived.Test.YtlacjiihbbgbeaaDoorM5
import Derived.Test.YtlacjiihbbgbeaaDoorP2
namespace Go.Proofs.YtlacjiihbbgbeaaDoor
open Go.RowKit
set_option linter.unusedVariables false
set_option linter.unusedSimpArgs false

theorem skp_nl : ∀ l : List UInt8, (∀ c ∈ l, ¬ c = 10) → skp true l = []
  | [], _ => rfl
  | c :: r, h => by
    unfold skp
    rw [if_pos rfl, if_neg (h c (by simp))]
    exact skp_nl r (fun d hd => h d (by simp [hd]))
theorem lxr_note (c : UInt8) (hc : c = 32 ∨ c = 9) (l : List UInt8) (h : ∀ c ∈ l, ¬ c = 10) : lxr (c :: 59 :: l) = .ok [] := by
  have e : skp false (c :: 59 :: l) = [] := by
    have e1 : skp false (59 :: l) = [] := by
      unfold skp
      rw [if_neg (by simp), if_pos rfl]
      exact skp_nl l h
    unfold skp
    rw [if_neg (by simp), if_neg (by rcases hc with rfl | rfl <;> decide), if_pos (by rcases hc with rfl | rfl <;> decide)]
    exact e1
  rw [lxr_eq, e]
theorem up_key (d : Nat) (ts : List Tok) : (ts.map (Tok.up d)).map tkey = ts.map tkey := by
  rw [List.map_map]
  rfl
/-- Blanks and notes ahead and behind change no token but its place. -/
theorem lex_blanks {src note : List UInt8} {ts : List Tok} (hn : ∀ c ∈ note, ¬ c = 10) (hs : src.length ≤ 20000) (hl : note.length ≤ 300) (h : lexAll src = .ok ts) : ∃ us, lexAll (32 :: 59 :: (note ++ 10 :: (src ++ 10 :: 9 :: 59 :: note))) = .ok us ∧ us.map tkey = ts.map tkey := by
  have h1 : lxr src = .ok ts := by
    unfold lexAll at h
    rw [if_neg (by omega)] at h
    exact h
  have e1 := lxr_join (src ++ 10 :: 9 :: 59 :: note) _ (32 :: 59 :: note) (Nat.le_refl _) [] (lxr_note 32 (.inl rfl) note hn)
  have e2 := lxr_join (9 :: 59 :: note) _ src (Nat.le_refl _) ts h1
  rw [lxr_note 9 (.inr rfl) note hn] at e2
  rw [e2] at e1
  refine ⟨ts.map (Tok.up ((9 :: 59 :: note).length + 1)), ?_, up_key _ _⟩
  unfold lexAll
  rw [if_neg (by simp only [List.length_cons, List.length_append]; omega)]
  have e3 : (32 :: 59 :: note) ++ 10 :: (src ++ 10 :: 9 :: 59 :: note) = 32 :: 59 :: (note ++ 10 :: (src ++ 10 :: 9 :: 59 :: note)) := rfl
  rw [e3] at e1
  rw [e1]
  simp [Lx.pre]

end Go.Proofs.YtlacjiihbbgbeaaDoor
