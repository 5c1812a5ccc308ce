import Derived.Test.YtlacjiihbbgbeaaDoorR3
import Derived.Deep.LoopGhost
namespace Go.Proofs.YtlacjiihbbgbeaaDoor
open Go.RowKit
set_option linter.unusedVariables false
set_option linter.unusedSimpArgs false

theorem Fd.below {b B : Nat} {w w1 w2 : World} (h : Fd b w w1) (k : Below B w1 w2) (hB : w.heap.size ≤ B) (hb : b ≤ B) : Fd b w w2 :=
  ⟨h.bel.trans (k.mono hb), fun j hj hn => (k.block j (by omega)).trans (h.oth j hj hn)⟩
theorem own_fd {b B e z : Nat} {v : Value} {n : Nat} {xs : List Value} {w w' : World} (h : w.ownsRow B e z v n xs) (k : Fd b w w') (hb : b < B) : w'.ownsRow B e z v n xs := by
  obtain ⟨h2, h3⟩ := h
  refine ⟨h2, ?_⟩
  rcases h3 with h3 | ⟨g, cap, cur, e, hg, hh, r⟩
  · exact .inl h3
  · exact .inr ⟨g, cap, cur, e, hg, (k.oth g (Array.getElem?_eq_some_iff.1 hh).1 (by omega)).trans hh, r⟩
theorem builderAt_fd {b B bb : Nat} {p : Value} {bs : List Value} {w w' : World} (h : Lib.BuilderAt 70 5 B bb p bs w) (k : Fd b w w') (hb : b < B) : Lib.BuilderAt 70 5 B bb p bs w' := by
  obtain ⟨h1, v, h2, h3, h4⟩ := h
  exact ⟨h1, v, (k.oth bb (Array.getElem?_eq_some_iff.1 h2).1 (by omega)).trans h2, own_fd h3 k hb, h4⟩
theorem builder_fd {b B bb : Nat} {bs : List Value} {w w' : World} (h : Lib.IsBuilder 70 5 B bb bs w) (k : Fd b w w') (hb : b < B) : Lib.IsBuilder 70 5 B bb bs w' := by
  rcases h with h | h
  · exact .inl (builderAt_fd h k hb)
  · exact .inr (builderAt_fd h k hb)
theorem Rd.below {b B : Nat} {s : ByteArray} {p : Nat} {w w' : World} (h : Rd b s p w) (k : Below B w w') (hb : b < B) : Rd b s p w' := (k.block b hb).trans h
theorem builder_new (w : World) : Lib.IsBuilder 70 5 w.heap.size w.heap.size (Lib.byteCells []) (w.alloc (.cells #[.pointer none, .slice none 0 0] 70)) :=
  .inl ⟨Nat.le_refl _, _, heap_alloc_new _ _, ⟨rfl, .inl ⟨rfl, rfl⟩⟩, by simp [Value.ownBlock]⟩
/-- What holds at each round of a text's loop: R is what is to come out. -/
def TR (b : Nat) (s : ByteArray) (w : World) (n : Nat) (R : Res (List UInt8)) (k : Nat) (wr : World) : Prop :=
  ∃ acc l q, k = l.length ∧ At s q l ∧ Rd b s q wr ∧ Lib.IsBuilder 70 5 w.heap.size w.heap.size (Lib.byteCells acc) wr ∧ txt acc l = R ∧ acc.length + l.length ≤ n ∧ w.heap.size ≤ wr.heap.size ∧ Fd b w wr
def sv (l : List UInt8) : Value := .string ⟨l.toArray⟩
set_option maxRecDepth 100000 in
set_option maxHeartbeats 1000000 in
theorem text_any (b : Nat) (s : ByteArray) (hs : s.size ≤ 100000) (p : Nat) (l : List UInt8) (hl : At s p l) (w : World) (h : Rd b s p w) :
    Calls Tryd.prog 22 #[.pointer (some ⟨b, 0, none⟩)] w (Post sv b s w (txt [] l)) := by
  have hlt := h.lt
  have H0 : Hid (TR b s w l.length (txt [] l) l.length (w.alloc (.cells #[.pointer none, .slice none 0 0] 70))) :=
    ⟨[], l, p, rfl, hl, h.bw ((BW.refl w).alloc _), builder_new w, rfl, by simp, by simp, BW.fd ((BW.refl w).alloc _) (by omega)⟩
  have hll : l.length ≤ 100000 := by rw [hl.len]; omega
  generalize txt [] l = R at *
  clear h hl
  go_enter Tryd.func22, Tryd.ntmps22
  go_wp2_with (fail)
  go_loopg [4] l.length (fun k c wr => TR b s w l.length R k wr)
  case atStart => exact H0.out
  case round =>
    clear H0
    obtain ⟨acc, m, q, rfl, hA, hR, hB, hT, hn, hz, hF⟩ := hrel
    cases m with
    | nil =>
      rw [txt_nil] at hT
      subst hT
      go_wp2_with (go_at_call 31; refine (next_any b s hs q [] hA _ hR).mono ?_; rintro e w1 ⟨rfl, hf⟩)
      exact ⟨rfl, rfl, hF.trans hf⟩
    | cons c r =>
      by_cases h1 : c = 34
      · subst h1
        rw [txt_end] at hT
        subst hT
        go_wp2_with (go_at_call 31; refine (next_any b s hs q _ hA _ hR).mono ?_; rintro e w1 ⟨rfl, q1, hA1, hR1, hf⟩)
        have hB1 := builder_fd hB hf (by omega)
        refine (Tryd.Builder_String_any_k w.heap.size w.heap.size acc w1 (Lib.IsBuilderF.of hB1) (Nat.le_trans hz hf.size)).mono ?_
        rintro e w2 ⟨rfl, _, hb2, _⟩
        go_wp2_with fail
        go_ret
        exact ⟨rfl, q1, hA1, hR1.below hb2 hlt, (hF.trans hf).below hb2 (Nat.le_refl _) (Nat.le_of_lt hlt)⟩
      · have g1 : ¬ (c.toNat : Int) = 34 := fun e => h1 (UInt8.toNat_inj.1 (by simpa using (by omega : c.toNat = 34)))
        by_cases h2 : c = 92
        · subst h2
          cases e1 : esb r with
          | error k t =>
            rw [txt_esc_no _ _ _ _ e1] at hT
            subst hT
            go_wp2_with (go_at_call 31; refine (next_any b s hs q _ hA _ hR).mono ?_; rintro e w1 ⟨rfl, q1, hA1, hR1, hf⟩)
            refine (escaped_any b s hs q1 r hA1 _ hR1).mono ?_
            rw [e1]
            rintro e w2 ⟨rfl, hf2⟩
            exact ⟨rfl, rfl, (hF.trans hf).trans hf2⟩
          | ok d t =>
            rw [txt_esc_ok _ _ _ _ e1] at hT
            have hT' : Hid _ := hT
            clear hT
            go_wp2_with (go_at_call 31; refine (next_any b s hs q _ hA _ hR).mono ?_; rintro e w1 ⟨rfl, q1, hA1, hR1, hf⟩)
            refine (escaped_any b s hs q1 r hA1 _ hR1).mono ?_
            rw [e1]
            rintro e w2 ⟨rfl, q2, hA2, hR2, hf2⟩
            go_wp2_with fail
            have hB2 := builder_fd (builder_fd hB hf (by omega)) hf2 (by omega)
            have hl2 := esb_len e1
            simp only [List.length_cons] at hn
            have hz2 := Nat.le_trans hz (Nat.le_trans hf.size hf2.size)
            refine (writeByte_any w.heap.size w.heap.size acc d w2 hB2 (by omega) hz2).mono ?_
            rintro e w3 ⟨rfl, hB3, hb3⟩
            go_wp2_with fail
            go_roundg t.length
            case measure => simp; omega
            case rel => exact ⟨acc ++ [d], t, q2, rfl, hA2, hR2.below hb3 hlt, hB3, hT'.out, by simp; omega, Nat.le_trans hz2 hb3.size, ((hF.trans hf).trans hf2).below hb3 (Nat.le_refl _) (Nat.le_of_lt hlt)⟩
        · have g2 : ¬ (c.toNat : Int) = 92 := fun e => h2 (UInt8.toNat_inj.1 (by simpa using (by omega : c.toNat = 92)))
          rw [txt_one _ _ _ h1 h2] at hT
          have hT' : Hid _ := hT
          clear hT
          go_wp2_with (go_at_call 31; refine (next_any b s hs q _ hA _ hR).mono ?_; rintro e w1 ⟨rfl, q1, hA1, hR1, hf⟩)
          have hB2 := builder_fd hB hf (by omega)
          simp only [List.length_cons] at hn
          have hz2 := Nat.le_trans hz hf.size
          refine (writeByte_any w.heap.size w.heap.size acc c w1 hB2 (by omega) hz2).mono ?_
          rintro e w3 ⟨rfl, hB3, hb3⟩
          go_wp2_with fail
          go_roundg r.length
          case measure => simp
          case rel => exact ⟨acc ++ [c], r, q1, rfl, hA1, hR1.below hb3 hlt, hB3, hT'.out, by simp; omega, Nat.le_trans hz2 hb3.size, (hF.trans hf).below hb3 (Nat.le_refl _) (Nat.le_of_lt hlt)⟩

end Go.Proofs.YtlacjiihbbgbeaaDoor
