import Derived.Test.YtiokcokmpmpcfaaDoorD3
namespace Go.Proofs.YtiokcokmpmpcfaaDoor
open Go.RowKit
set_option linter.unusedVariables false
set_option linter.unusedSimpArgs false

def ptx (n : Nat) (t : Tr n) : ByteArray := if mayB n t then ⟨(txt n t).toArray⟩ else ⟨#[]⟩
theorem txt_ne : ∀ {n : Nat} (t : Tr n), rt n t = true → txt n t ≠ []
  | 0, t => t.elim
  | n + 1, t => fun h => by
    obtain ⟨⟨s, hsp, hsu⟩, _⟩ := rt_kids h
    have htx := su_parts hsu
    unfold txt
    split
    · intro e
      have := dec_ne (Nd.n (K := Tr n) t).natAbs
      rw [itoa_sgn] at e
      exact this (List.append_eq_nil_iff.1 e).2
    · split
      · cases ((Nd.n (K := Tr n) t) == 1) <;> decide
      · split
        · simp [quo]
        · split
          · simp
          · split
            · rename_i h5
              rw [h5] at hsp
              cases hsp
              have h2 : nmB (Nd.s (K := Tr n) t) = true := by simpa [tx] using htx
              simp only [nmB, wdB, wordB, Bool.and_eq_true] at h2
              intro e
              rw [e] at h2
              simp at h2
            · simp
set_option maxRecDepth 100000 in
set_option maxHeartbeats 1000000 in
theorem print_any (n : Nat) (v : Value) (t : Tr n) (w : World) (h : NodeAt w n v t) (ht : Tw w) (htab : Tab w) (hsm : mayB n t = true → Sm n t ∧ wt n t ≤ 10000000000000) :
    Calls Tryd.prog 10 #[v] w fun e w' => e = .returned (.tuple #[.string (ptx n t), .int .i64 (if mayB n t then 0 else 12)]) ∧ BW w w' := by
  have HN : Hid (NodeAt w n v t) := h
  cases n with
  | zero => exact h.elim
  | succ n =>
    obtain ⟨na, nl, nc, ka, kl, kc, rfl, _⟩ := h
    have HM : Hid (∀ w', BW w w' → Calls Tryd.prog 14 #[ndv (Nd.k (K := Tr n) t) (Nd.n (K := Tr n) t) (Nd.s (K := Tr n) t) na nl nc ka kl kc] w' fun e w'' => e = .returned (.bool (mayB (n + 1) t)) ∧ BW w' w'') := fun w' hb => may_any (n + 1) _ t w' (HN.out.bw hb) (ht.bw hb)
    have HS : Hid _ := hsm
    have HTab : Hid (Tab w) := htab
    have HP : Hid (ptx (n + 1) t = if mayB (n + 1) t then ⟨(txt (n + 1) t).toArray⟩ else ⟨#[]⟩) := rfl
    have HR : Hid (mayB (n + 1) t = true → rt (n + 1) t = true) := fun hm => by
      rw [mayB_eq] at hm
      simp only [vl, Bool.and_eq_true] at hm
      exact hm.2.2
    clear hsm ht htab
    generalize ptx (n + 1) t = P at *
    generalize mayB (n + 1) t = m at *
    generalize Nd.k (K := Tr n) t = tk at *
    generalize Nd.n (K := Tr n) t = tn at *
    generalize Nd.s (K := Tr n) t = ts at *
    cases m with
    | false =>
      go_enter Tryd.func10, Tryd.ntmps10
      go_wp2_with (go_at_call 14; refine (HM.out _ (by repeat (first | exact BW.refl _ | assumption | apply BW.alloc | apply BW.drewN | apply BW.drew | (refine BW.setCell ?_ (by first | omega | (simp; done) | (simp; omega)) _) | (refine BW.trans ?_ (by assumption))))).mono ?_; rintro e w1 ⟨rfl, b1⟩)
      go_ret2
      exact ⟨by rw [HP.out]; rfl, (by repeat (first | exact BW.refl _ | assumption | apply BW.alloc | apply BW.drewN | apply BW.drew | (refine BW.setCell ?_ (by first | omega | (simp; done) | (simp; omega)) _) | (refine BW.trans ?_ (by assumption))))⟩
    | true =>
      obtain ⟨hs1, hs2⟩ := HS.out rfl
      have hrt := HR.out rfl
      have hne := txt_ne t hrt
      have HD : Hid (∀ w' mb, ShapesAt w' mb → BW w w' → Calls Tryd.prog 21 #[.pointer (some ⟨w'.heap.size, 0, none⟩), ndv tk tn ts na nl nc ka kl kc] (w'.alloc (.cells #[.pointer none, .slice none 0 0, .map (some mb)] 45)) fun e w'' => e = .returned (.tuple #[]) ∧ ShU w'.heap.size w'.heap.size 45 [.map (some mb)] (txt (n + 1) t) w'' ∧ Fs w'.heap.size w'.heap.size (w'.alloc (.cells #[.pointer none, .slice none 0 0, .map (some mb)] 45)) w'') := fun w' mb hsh hb =>
        by simpa using node_any (n + 1) _ t [] w' _ w'.heap.size mb (HN.out.bw hb) hsh (HTab.out.bw hb) (BW.alloc (BW.refl _) _) (Nat.le_refl _) (Sh.new w' 45 [.map (some mb)]) hrt hs1 (by simp; omega)
      have HNE : Hid _ := hne
      clear hs1 hs2 hrt hne HN
      generalize txt (n + 1) t = X at *
      go_enter Tryd.func10, Tryd.ntmps10
      go_wp2_with (first
        | (go_at_call 14; refine (HM.out _ (by repeat (first | exact BW.refl _ | assumption | apply BW.alloc | apply BW.drewN | apply BW.drew | (refine BW.setCell ?_ (by first | omega | (simp; done) | (simp; omega)) _) | (refine BW.trans ?_ (by assumption))))).mono ?_; rintro e w1 ⟨rfl, b1⟩; obtain ⟨⟨g0, g1, g2, g3, g4⟩, gz, gb⟩ := bx_at b1)
        | (go_at_call 20; refine (shapes_any _).mono ?_; rintro e w2 ⟨rfl, hsh, b2⟩; obtain ⟨⟨y0, y1, y2, y3, y4⟩, yz, yb⟩ := bx_at (BW.trans b1 b2); have n1 : ¬ w.heap.size = w2.heap.size := (by omega); have n2 : ¬ w2.heap.size = w.heap.size := (by omega); have x0 := fun ob => (BW.cells (BW.alloc (BW.refl w2) ob) w.heap.size 0 (by omega)).trans y0; have x1 := fun ob => (BW.cells (BW.alloc (BW.refl w2) ob) w.heap.size 1 (by omega)).trans y1; have x2 := fun ob => (BW.cells (BW.alloc (BW.refl w2) ob) w.heap.size 2 (by omega)).trans y2; have x3 := fun ob => (BW.cells (BW.alloc (BW.refl w2) ob) w.heap.size 3 (by omega)).trans y3; have x4 := fun ob => (BW.cells (BW.alloc (BW.refl w2) ob) w.heap.size 4 (by omega)).trans y4))
      refine (HD.out _ _ hsh yb).mono ?_
      rintro e w3 ⟨rfl, h3, f3⟩
      have HB3 : Hid (Below w2.heap.size w2 w3) := ((Below.refl w2.heap.size w2).alloc (Nat.le_refl _) _).trans f3.bel
      go_wp2_with (go_at_call 22; refine (string_any _ _ 45 _ (hm45 _) X _ h3 HNE.out).mono ?_; rintro e w4 ⟨rfl, b4⟩)
      go_ret2
      refine ⟨by rw [HP.out]; rfl, ?_⟩
      exact BW.trans yb (HB3.out.trans b4)
theorem cells2 {w w' : World} {r1 r2 : Rw} (h : BW (w.alloc (.cells #[.int .u8 r1.k, .int .i64 r1.n, .string r1.s, .slice r1.na r1.nl r1.nc, .slice r1.ka r1.kl r1.kc, .int .u8 r2.k, .int .i64 r2.n, .string r2.s, .slice r2.na r2.nl r2.nc, .slice r2.ka r2.kl r2.kc] 25)) w') : CellsAt w' w.heap.size 0 r1 ∧ CellsAt w' w.heap.size 5 r2 ∧ w.heap.size < w'.heap.size := by
  have hz := h.size
  have hl : w.heap.size < (w.alloc (.cells #[.int .u8 r1.k, .int .i64 r1.n, .string r1.s, .slice r1.na r1.nl r1.nc, .slice r1.ka r1.kl r1.kc, .int .u8 r2.k, .int .i64 r2.n, .string r2.s, .slice r2.na r2.nl r2.nc, .slice r2.ka r2.kl r2.kc] 25)).heap.size := by simp
  refine ⟨CellsAt.bw ?_ h hl, CellsAt.bw ?_ h hl, by omega⟩
  · exact ⟨cell_new _ _ _ 0, cell_new _ _ _ 1, cell_new _ _ _ 2, cell_new _ _ _ 3, cell_new _ _ _ 4⟩
  · exact ⟨cell_new _ _ _ 5, cell_new _ _ _ 6, cell_new _ _ _ 7, cell_new _ _ _ 8, cell_new _ _ _ 9⟩
theorem SeqAt.two {K : Type} {At : Value → K → Prop} {W : World} {b : Nat} {r1 r2 : Rw} {x1 x2 : K} (hb : b < W.heap.size) (h1 : CellsAt W b 0 r1) (h2 : CellsAt W b 5 r2) (a1 : At r1.v x1) (a2 : At r2.v x2) : SeqAt At W (some ⟨b, 0, none⟩) 2 [x1, x2] := by
  refine ⟨rfl, by decide, .inr ⟨b, 0, rfl, hb, fun i x hx => ?_⟩⟩
  match i, hx with
  | 0, hx => simp at hx; subst hx; exact ⟨r1, h1, a1⟩
  | 1, hx => simp at hx; subst hx; exact ⟨r2, h2, a2⟩
theorem SeqAt.nil {K : Type} {At : Value → K → Prop} {W : World} : SeqAt At W none 0 [] := ⟨rfl, Nat.zero_le _, .inl rfl⟩
theorem StrsAt.nil {W : World} : StrsAt W none 0 [] := ⟨rfl, Nat.zero_le _, by simp, .inl rfl⟩
/-- A node without names and parts. -/
abbrev leaf (n : Nat) (k i : Int) (s : ByteArray) : Tr (n + 1) := (⟨k, i, s, [], []⟩ : Nd (Tr n))
theorem leaf_at (W : World) (n : Nat) (k i : Int) (s : ByteArray) (h : Wf (⟨k, i, s, [], []⟩ : Nd (Tr n))) : NodeAt W (n + 1) (ndv k i s none 0 0 none 0 0) (leaf n k i s) := ⟨none, 0, 0, none, 0, 0, rfl, h, Nat.le_refl _, Nat.zero_le _, Nat.le_refl _, Nat.zero_le _, StrsAt.nil, SeqAt.nil⟩
/-- The document's example. -/
def exT : Tr 3 := (⟨8, 0, ⟨#[120]⟩, [], [leaf 1 1 5 ⟨#[]⟩, (⟨11, 0, ⟨#[43]⟩, [], [leaf 0 5 0 ⟨#[120]⟩, leaf 0 1 1 ⟨#[]⟩]⟩ : Nd (Tr 1))]⟩ : Nd (Tr 2))
theorem exT_may : mayB 3 exT = true := by decide +kernel
theorem exT_sm : Sm 3 exT := by
  refine ⟨by decide, by decide, by decide, by decide, ?_⟩
  intro x hx
  rcases List.mem_cons.1 hx with rfl | hx
  · exact ⟨by decide, by decide, by decide, by decide, by intro x hx; cases hx⟩
  · rcases List.mem_cons.1 hx with rfl | hx
    · refine ⟨by decide, by decide, by decide, by decide, ?_⟩
      intro x hx
      rcases List.mem_cons.1 hx with rfl | hx
      · exact ⟨by decide, by decide, by decide, by decide, by intro x hx; cases hx⟩
      · rcases List.mem_cons.1 hx with rfl | hx
        · exact ⟨by decide, by decide, by decide, by decide, by intro x hx; cases hx⟩
        · cases hx
    · cases hx
theorem exT_ptx : ptx 3 exT = ⟨#[40, 108, 101, 116, 32, 120, 32, 53, 32, 40, 43, 32, 120, 32, 49, 41, 41]⟩ := by decide +kernel
theorem exT_sz : sz 3 exT = 5 := by decide +kernel

/-- What the laws need of the world: the listed variables. -/
def Vs (w : World) : Prop := Tw w ∧ Tab w
theorem Vs.bw {w w' : World} (h : Vs w) (k : BW w w') : Vs w' := ⟨h.1.bw k, h.2.bw k⟩
abbrev exA (w : World) : World := w.alloc (.cells #[.int .u8 5, .int .i64 0, .string ⟨#[120]⟩, .slice none 0 0, .slice none 0 0] 25)
abbrev exB (w : World) : World := (exA w).alloc (.cells #[.int .u8 5, .int .i64 0, .string ⟨#[120]⟩, .slice none 0 0, .slice none 0 0, .int .u8 1, .int .i64 1, .string ⟨#[]⟩, .slice none 0 0, .slice none 0 0] 25)
abbrev exC (w : World) : World := (exB w).alloc (.cells #[.int .u8 1, .int .i64 5, .string ⟨#[]⟩, .slice none 0 0, .slice none 0 0, .int .u8 11, .int .i64 0, .string ⟨#[43]⟩, .slice none 0 0, .slice (some ⟨w.heap.size + 1, 0, none⟩) 2 2] 25)
abbrev exD (w : World) : World := bx (exC w) 8 0 ⟨#[120]⟩ none 0 0 (some ⟨w.heap.size + 1 + 1, 0, none⟩) 2 2
theorem wf_small {K : Type} (k i : Int) (s : ByteArray) (l : List ByteArray) (q : List K) (h0 : 0 ≤ k) (h1 : k ≤ 255) (h2 : -9223372036854775808 ≤ i) (h3 : i ≤ 9223372036854775807) (h4 : s.size ≤ 1000) : Wf (⟨k, i, s, l, q⟩ : Nd K) := ⟨h0, h1, h2, h3, by show s.size ≤ maxLen; unfold maxLen; omega⟩
theorem ex_at (w w' : World) (h : BW (exD w) w') : NodeAt w' 3 (ndv 8 0 ⟨#[120]⟩ none 0 0 (some ⟨w.heap.size + 1 + 1, 0, none⟩) 2 2) exT ∧ CellsAt w' (w.heap.size + 1 + 1 + 1) 0 ⟨8, 0, ⟨#[120]⟩, none, 0, 0, some ⟨w.heap.size + 1 + 1, 0, none⟩, 2, 2⟩ ∧ BW w w' := by
  have sA : (exA w).heap.size = w.heap.size + 1 := by simp
  have sB : (exB w).heap.size = w.heap.size + 1 + 1 := by simp
  have sC : (exC w).heap.size = w.heap.size + 1 + 1 + 1 := by simp
  obtain ⟨d1, d2, d3⟩ := bx_at h
  rw [sC] at d1 d2
  obtain ⟨c1, c2, c3⟩ := cells2 (w := exB w) (r1 := ⟨1, 5, ⟨#[]⟩, none, 0, 0, none, 0, 0⟩) (r2 := ⟨11, 0, ⟨#[43]⟩, none, 0, 0, some ⟨w.heap.size + 1, 0, none⟩, 2, 2⟩) d3
  rw [sB] at c1 c2 c3
  obtain ⟨b1, b2, b3⟩ := cells2 (w := exA w) (r1 := ⟨5, 0, ⟨#[120]⟩, none, 0, 0, none, 0, 0⟩) (r2 := ⟨1, 1, ⟨#[]⟩, none, 0, 0, none, 0, 0⟩) (BW.trans (BW.alloc (BW.refl _) _) d3)
  rw [sA] at b1 b2 b3
  refine ⟨?_, d1, BW.trans (BW.alloc (BW.alloc (BW.alloc (BW.refl _) _) _) _) d3⟩
  have hin : NodeAt w' 2 (ndv 11 0 ⟨#[43]⟩ none 0 0 (some ⟨w.heap.size + 1, 0, none⟩) 2 2) ((⟨11, 0, ⟨#[43]⟩, [], [leaf 0 5 0 ⟨#[120]⟩, leaf 0 1 1 ⟨#[]⟩]⟩ : Nd (Tr 1)) : Tr 2) :=
    ⟨none, 0, 0, _, 2, 2, rfl, wf_small _ _ _ _ _ (by decide) (by decide) (by decide) (by decide) (by decide), Nat.le_refl _, Nat.zero_le _, Nat.le_refl _, by decide, StrsAt.nil,
      SeqAt.two b3 b1 b2 (leaf_at _ _ _ _ _ (wf_small _ _ _ _ _ (by decide) (by decide) (by decide) (by decide) (by decide))) (leaf_at _ _ _ _ _ (wf_small _ _ _ _ _ (by decide) (by decide) (by decide) (by decide) (by decide)))⟩
  exact ⟨none, 0, 0, _, 2, 2, rfl, wf_small _ _ _ _ _ (by decide) (by decide) (by decide) (by decide) (by decide), Nat.le_refl _, Nat.zero_le _, Nat.le_refl _, by decide, StrsAt.nil,
      SeqAt.two c3 c1 c2 (leaf_at _ _ _ _ _ (wf_small _ _ _ _ _ (by decide) (by decide) (by decide) (by decide) (by decide))) hin⟩
set_option maxRecDepth 100000 in
set_option maxHeartbeats 1000000 in
theorem awake_any (w : World) (hv : Vs w) : Calls Tryd.prog 9 #[] w fun e w' => e = .returned (.bool true) ∧ BW w w' := by
  have HV : Hid (Vs w) := hv
  clear hv
  have HP : Hid (Calls Tryd.prog 10 #[ndv 8 0 ⟨#[120]⟩ none 0 0 (some ⟨w.heap.size + 1 + 1, 0, none⟩) 2 2] (exD w) fun e w' => e = .returned (.tuple #[.string ⟨#[40, 108, 101, 116, 32, 120, 32, 53, 32, 40, 43, 32, 120, 32, 49, 41, 41]⟩, .int .i64 0]) ∧ BW (exD w) w') := by
    obtain ⟨h1, _, h3⟩ := ex_at w (exD w) (BW.refl _)
    have := print_any 3 _ exT (exD w) h1 (HV.out.bw h3).1 (HV.out.bw h3).2 (fun _ => ⟨exT_sm, by decide +kernel⟩)
    rw [exT_ptx, exT_may] at this
    exact this
  have HZ : Hid (∀ w', BW (exD w) w' → Calls Tryd.prog 11 #[ndv 8 0 ⟨#[120]⟩ none 0 0 (some ⟨w.heap.size + 1 + 1, 0, none⟩) 2 2] w' fun e w'' => e = .returned (.int .i64 5) ∧ BW w' w'') := fun w' h => by
    have := size_any 3 _ exT w' (ex_at w w' h).1
    rw [exT_sz, show wrap64 ((5 : Nat) : Int) = 5 by simp [wrap64]] at this
    exact this
  go_enter Tryd.func9, Tryd.ntmps9
  go_wp2_with (first
    | (go_at_call 10; refine HP.out.mono ?_; rintro e w1 ⟨rfl, b1⟩; obtain ⟨_, ⟨g0, g1, g2, g3, g4⟩, gb⟩ := ex_at w _ b1)
    | (go_at_call 11; refine (HZ.out _ b1).mono ?_; rintro e w2 ⟨rfl, b2⟩))
  go_ret
  exact ⟨rfl, BW.trans gb b2⟩

end Go.Proofs.YtiokcokmpmpcfaaDoor
