import Derived.Test.YtlacjiihbbgbeaaDoorR7
namespace Go.Proofs.YtlacjiihbbgbeaaDoor
open Go.RowKit
set_option linter.unusedVariables false
set_option linter.unusedSimpArgs false

theorem wrd_len {l t u : List UInt8} (h : wrd l = .ok t u) : t.length ≤ l.length := by
  have hk : (l.takeWhile plB).length ≤ l.length := (List.takeWhile_prefix _).length_le
  unfold wrd at h
  split at h
  · cases h; exact hk
  · split at h
    · cases h; exact hk
    · cases h
/-- A token as a value; N: how long the source is. -/
def tv (N : Nat) (t : Tok) : Value := .agg #[.int .u8 t.kind, sv t.s, .int .i64 t.n, .int .i64 ((N - t.back : Nat) : Int)]
theorem Fd.alloc {b : Nat} {a c : World} (h : Fd b a c) (o : Obj) (hb : b ≤ c.heap.size) : Fd b a (c.alloc o) :=
  ⟨Below.alloc h.bel hb o, fun k hk hn => (Lib.alloc_old c o k (Nat.lt_of_lt_of_le hk h.size)).trans (h.oth k hk hn)⟩
theorem end28 {tm : Array Value} {w : World} {R : Ending → World → Prop} {g : Nat} {k n a : Int} {t : ByteArray} (h2 : tm.getD 2 undef = .pointer (some ⟨g, 0, none⟩)) (hb : w.heap[g]? = some (.cells #[.int .u8 k, .string t, .int .i64 n, .int .i64 a] 50 (0, 0))) (h : R (.returned (.agg #[.int .u8 k, .string t, .int .i64 n, .int .i64 a])) w) :
    bodyPost Tryd.prog Tryd.f14 R .ret { tmps := tm, defers := [] } w := by
  have c0 : w.cell? ⟨g, 0, none⟩ = some (.int .u8 k) := by simp only [World.cell?, hb]; rfl
  have c1 : w.cell? ⟨g, 1, none⟩ = some (.string t) := by simp only [World.cell?, hb]; rfl
  have c2 : w.cell? ⟨g, 2, none⟩ = some (.int .i64 n) := by simp only [World.cell?, hb]; rfl
  have c3 : w.cell? ⟨g, 3, none⟩ = some (.int .i64 a) := by simp only [World.cell?, hb]; rfl
  simp only [Array.getD_eq_getD_getElem?] at h2
  exact bodyPost_ret (v := .agg #[.int .u8 k, .string t, .int .i64 n, .int .i64 a]) (by simp [results, Tryd.results14, go_sem, h2, c0, c1, c2, c3]) rfl h
theorem set4 {w : World} {g T : Nat} {x y z u a c d e : Value} (h : w.heap[g]? = some (.cells #[x, y, z, u] T (0, 0))) : ((((w.setCell ⟨g, 0, none⟩ a).setCell ⟨g, 1, none⟩ c).setCell ⟨g, 2, none⟩ d).setCell ⟨g, 3, none⟩ e).heap[g]? = some (.cells #[a, c, d, e] T (0, 0)) := by
  have h1 := heap_setCell_same w g 0 _ T a h
  have h2 := heap_setCell_same _ g 1 _ T c h1
  have h3 := heap_setCell_same _ g 2 _ T d h2
  exact heap_setCell_same _ g 3 _ T e h3
theorem set4o {w : World} {g k : Nat} {a c d e : Value} (hk : k ≠ g) : ((((w.setCell ⟨g, 0, none⟩ a).setCell ⟨g, 1, none⟩ c).setCell ⟨g, 2, none⟩ d).setCell ⟨g, 3, none⟩ e).heap[k]? = w.heap[k]? :=
  (heap_setCell_other _ ⟨g, 3, none⟩ k e hk).trans ((heap_setCell_other _ ⟨g, 2, none⟩ k d hk).trans ((heap_setCell_other _ ⟨g, 1, none⟩ k c hk).trans (heap_setCell_other _ ⟨g, 0, none⟩ k a hk)))
theorem Fd.set4 {b g : Nat} {w0 w : World} {a c d e : Value} (h : Fd b w0 w) (hg : w0.heap.size ≤ g) (hb : b ≤ g) : Fd b w0 ((((w.setCell ⟨g, 0, none⟩ a).setCell ⟨g, 1, none⟩ c).setCell ⟨g, 2, none⟩ d).setCell ⟨g, 3, none⟩ e) :=
  ⟨Below.setCell (p := ⟨g, 3, none⟩) (Below.setCell (p := ⟨g, 2, none⟩) (Below.setCell (p := ⟨g, 1, none⟩) (Below.setCell (p := ⟨g, 0, none⟩) h.bel hb a) hb c) hb d) hb e, fun k hk hn => (set4o (by omega)).trans (h.oth k hk hn)⟩
set_option maxRecDepth 100000 in
set_option maxHeartbeats 2000000 in
theorem token_open (b : Nat) (s : ByteArray) (hs : s.size ≤ 100000) (p : Nat) (hp : p < s.size) (hc : s[p] = 40) (w : World) (h : Rd b s p w) :
    Calls Tryd.prog 14 #[.pointer (some ⟨b, 0, none⟩)] w fun e w' => e = .returned (.agg #[.int .u8 1, .string ⟨#[]⟩, .int .i64 0, .int .i64 p]) ∧ Rd b s (p + 1) w' ∧ Fd b w w' := by
  have hlt := h.lt
  have c0 := h.c0
  have c1 := h.c1
  have hz := h.z
  have hq : (p : Int) < s.size := by omega
  have g1 : (s[p].toNat : Int) = 40 := by rw [hc]; rfl
  go_enter Tryd.func14, Tryd.ntmps14
  go_wp2_with (fail)
  refine end28 (g := w.heap.size) rfl (by rw [show w.heap.size = (w.setCell ⟨b, 1, none⟩ (.int .i64 ((p : Int) + 1))).heap.size by simp]; exact heap_alloc_new _ _) ⟨rfl, ?_, ?_⟩
  · exact (h.set (p + 1)).bw ((BW.refl _).alloc _)
  · exact Fd.alloc (by repeat (first | exact Fd.refl _ _ | apply Fd.drewN | apply Fd.drew | apply Fd.set)) _ (by first | omega | (simp; omega))
set_option maxRecDepth 100000 in
set_option maxHeartbeats 2000000 in
theorem token_close (b : Nat) (s : ByteArray) (hs : s.size ≤ 100000) (p : Nat) (hp : p < s.size) (hc : s[p] = 41) (w : World) (h : Rd b s p w) :
    Calls Tryd.prog 14 #[.pointer (some ⟨b, 0, none⟩)] w fun e w' => e = .returned (.agg #[.int .u8 2, .string ⟨#[]⟩, .int .i64 0, .int .i64 p]) ∧ Rd b s (p + 1) w' ∧ Fd b w w' := by
  have hlt := h.lt
  have c0 := h.c0
  have c1 := h.c1
  have hz := h.z
  have hq : (p : Int) < s.size := by omega
  have g1 : (s[p].toNat : Int) = 41 := by rw [hc]; rfl
  go_enter Tryd.func14, Tryd.ntmps14
  go_wp2_with (fail)
  refine end28 (g := w.heap.size) rfl (by rw [show w.heap.size = (w.setCell ⟨b, 1, none⟩ (.int .i64 ((p : Int) + 1))).heap.size by simp]; exact heap_alloc_new _ _) ⟨rfl, ?_, ?_⟩
  · exact (h.set (p + 1)).bw ((BW.refl _).alloc _)
  · exact Fd.alloc (by repeat (first | exact Fd.refl _ _ | apply Fd.drewN | apply Fd.drew | apply Fd.set)) _ (by first | omega | (simp; omega))
/-- What a call that has made block g of w0, and moved the reader in b alone, leaves of that. -/
theorem Fd.new {b : Nat} {w w1 : World} {o : Obj} (h : Fd b (w.alloc o) w1) (hb : b < w.heap.size) : Fd b w w1 ∧ w1.heap[w.heap.size]? = some o :=
  ⟨(Fd.alloc (Fd.refl b w) o (Nat.le_of_lt hb)).trans h, (h.oth w.heap.size (by simp) (by omega)).trans (heap_alloc_new w o)⟩
set_option maxRecDepth 100000 in
set_option maxHeartbeats 2000000 in
theorem token_text (b : Nat) (s : ByteArray) (hs : s.size ≤ 100000) (p : Nat) (hp : p < s.size) (hc : s[p] = 34) (r : List UInt8) (hA : At s (p + 1) r) (w : World) (h : Rd b s p w) :
    Calls Tryd.prog 14 #[.pointer (some ⟨b, 0, none⟩)] w (Post (fun t : List UInt8 => .agg #[.int .u8 5, sv t, .int .i64 0, .int .i64 p]) b s w (txt [] r)) := by
  have hlt := h.lt
  have c0 := h.c0
  have c1 := h.c1
  have hz := h.z
  have hq : (p : Int) < s.size := by omega
  have g1 : (s[p].toNat : Int) = 34 := by rw [hc]; rfl
  cases e1 : txt [] r with
  | error k t =>
    go_enter Tryd.func14, Tryd.ntmps14
    go_wp2_with (fail)
    obtain ⟨W, hW⟩ : ∃ W, W = (w.setCell ⟨b, 1, none⟩ (.int .i64 ((p : Int) + 1))) := ⟨_, rfl⟩
    rw [← hW]
    have hR : Rd b s (p + 1) W := hW ▸ h.set (p + 1)
    have hF : Fd b w W := hW ▸ (by repeat (first | exact Fd.refl _ _ | apply Fd.drewN | apply Fd.drew | apply Fd.set))
    have hS : w.heap.size = W.heap.size := by rw [hW]; simp
    have hlW : b < W.heap.size := by omega
    clear hW
    rw [hS]
    refine (text_any b s hs (p + 1) r hA _ (hR.bw ((BW.refl _).alloc _))).mono ?_
    rw [e1]
    rintro e w1 ⟨rfl, hf⟩
    exact ⟨rfl, rfl, hF.trans (hf.new hlW).1⟩
  | ok t u =>
    go_enter Tryd.func14, Tryd.ntmps14
    go_wp2_with (fail)
    obtain ⟨W, hW⟩ : ∃ W, W = (w.setCell ⟨b, 1, none⟩ (.int .i64 ((p : Int) + 1))) := ⟨_, rfl⟩
    rw [← hW]
    have hR : Rd b s (p + 1) W := hW ▸ h.set (p + 1)
    have hF : Fd b w W := hW ▸ (by repeat (first | exact Fd.refl _ _ | apply Fd.drewN | apply Fd.drew | apply Fd.set))
    have hS : w.heap.size = W.heap.size := by rw [hW]; simp
    have hlW : b < W.heap.size := by omega
    clear hW
    rw [hS]
    refine (text_any b s hs (p + 1) r hA _ (hR.bw ((BW.refl _).alloc _))).mono ?_
    rw [e1]
    rintro e w1 ⟨rfl, q, hA1, hR1, hf⟩
    obtain ⟨hf1, hb1⟩ := hf.new hlW
    have hl1 := hR1.lt
    unfold sv
    have k0 : w1.cell? ⟨W.heap.size, 0, none⟩ = some (.int .u8 0) := by simp only [World.cell?, hb1]; rfl
    have k1 : w1.cell? ⟨W.heap.size, 1, none⟩ = some (.string ⟨#[]⟩) := by simp only [World.cell?, hb1]; rfl
    have k2 : w1.cell? ⟨W.heap.size, 2, none⟩ = some (.int .i64 0) := by simp only [World.cell?, hb1]; rfl
    have k3 : w1.cell? ⟨W.heap.size, 3, none⟩ = some (.int .i64 0) := by simp only [World.cell?, hb1]; rfl
    have kz : ∀ o, w1.frozen? ⟨W.heap.size, o, none⟩ = false := fun o => Lib.frozen_of_heap hb1 o
    go_wp2_with fail
    refine end28 rfl (set4 hb1) ⟨rfl, q, hA1, ?_, (hF.trans hf1).set4 (by omega) (by omega)⟩
    exact (set4o (by omega)).trans hR1
def wtok (p : Nat) : List UInt8 → Option Value := fun t => if num t then (numv t).map (fun n => .agg #[.int .u8 4, sv [], .int .i64 n, .int .i64 p]) else some (.agg #[.int .u8 3, sv t, .int .i64 0, .int .i64 p])
set_option maxRecDepth 100000 in
set_option maxHeartbeats 2000000 in
theorem token_word (b : Nat) (s : ByteArray) (hs : s.size ≤ 100000) (p : Nat) (hp : p < s.size) (d1 : ¬ s[p] = 40) (d2 : ¬ s[p] = 41) (d3 : ¬ s[p] = 34) (l : List UInt8) (hl : At s p l) (w : World) (h : Rd b s p w) (hE : Er w) (hb0 : 4 < b) :
    Calls Tryd.prog 14 #[.pointer (some ⟨b, 0, none⟩)] w (Post id b s w (match wrd l with | .error e t => .error e t | .ok t u => match wtok p t with | some v => .ok v u | none => .error 10 l)) := by
  have hlt := h.lt
  have c0 := h.c0
  have c1 := h.c1
  have hz := h.z
  have hq : (p : Int) < s.size := by omega
  have g1 : ¬ (s[p].toNat : Int) = 40 := fun e => d1 (UInt8.toNat_inj.1 (by simpa using (by omega : s[p].toNat = 40)))
  have g2 : ¬ (s[p].toNat : Int) = 41 := fun e => d2 (UInt8.toNat_inj.1 (by simpa using (by omega : s[p].toNat = 41)))
  have g3 : ¬ (s[p].toNat : Int) = 34 := fun e => d3 (UInt8.toNat_inj.1 (by simpa using (by omega : s[p].toNat = 34)))
  have ht : thrown s.size l 10 = misf p := by unfold thrown; rw [if_neg (by decide), hl.place]
  have hE' : Hid (Er w) := hE
  clear hE
  cases e1 : wrd l with
  | error k t =>
    go_enter Tryd.func14, Tryd.ntmps14
    go_wp2_with (fail)
    refine (run_any b s hs p _ hl _ (h.bw ((BW.refl _).alloc _))).mono ?_
    rw [e1]
    rintro e w1 ⟨rfl, hf⟩
    exact ⟨rfl, rfl, (hf.new hlt).1⟩
  | ok t u =>
    have hts := wrd_len e1
    have htz : (⟨t.toArray⟩ : ByteArray).size ≤ 100000 := by show t.toArray.size ≤ _; rw [List.size_toArray]; rw [hl.len] at hts; omega
    cases hn : num t with
    | false =>
      have hm : wtok p t = some (.agg #[.int .u8 3, sv t, .int .i64 0, .int .i64 p]) := by simp [wtok, hn]
      simp only [hm]
      go_enter Tryd.func14, Tryd.ntmps14
      go_wp2_with (fail)
      refine (run_any b s hs p _ hl _ (h.bw ((BW.refl _).alloc _))).mono ?_
      rw [e1]
      rintro e w1 ⟨rfl, q, hA1, hR1, hf⟩
      obtain ⟨hf1, hb1⟩ := hf.new hlt
      unfold sv
      go_wp2_with (go_at_call 24; refine (numeral_any _ htz _).mono ?_; dsimp only; rw [hn]; rintro e w' ⟨rfl, rfl⟩)
      refine (clone_any _ htz _).mono ?_
      rintro e w2 ⟨rfl, hf2⟩
      have hb2 := (hf2.block _ (Array.getElem?_eq_some_iff.1 hb1).1).trans hb1
      have hR2 := hR1.bw hf2
      have hl2 := hR2.lt
      have hF2 := hf1.trans (hf2.fd (Nat.le_of_lt hR1.lt))
      have k0 : w2.cell? ⟨w.heap.size, 0, none⟩ = some (.int .u8 0) := by simp only [World.cell?, hb2]; rfl
      have k1 : w2.cell? ⟨w.heap.size, 1, none⟩ = some (.string ⟨#[]⟩) := by simp only [World.cell?, hb2]; rfl
      have k2 : w2.cell? ⟨w.heap.size, 2, none⟩ = some (.int .i64 0) := by simp only [World.cell?, hb2]; rfl
      have k3 : w2.cell? ⟨w.heap.size, 3, none⟩ = some (.int .i64 0) := by simp only [World.cell?, hb2]; rfl
      have kz : ∀ o, w2.frozen? ⟨w.heap.size, o, none⟩ = false := fun o => Lib.frozen_of_heap hb2 o
      go_wp2_with fail
      refine end28 rfl (set4 hb2) ⟨rfl, q, hA1, ?_, hF2.set4 (by omega) (by omega)⟩
      exact (set4o (by omega)).trans hR2
    | true =>
      cases hv : numv t with
      | none =>
        have hm : wtok p t = none := by simp [wtok, hn, hv]
        simp only [hm]
        go_enter Tryd.func14, Tryd.ntmps14
        go_wp2_with (fail)
        refine (run_any b s hs p _ hl _ (h.bw ((BW.refl _).alloc _))).mono ?_
        rw [e1]
        rintro e w1 ⟨rfl, q, hA1, hR1, hf⟩
        obtain ⟨hf1, hb1⟩ := hf.new hlt
        unfold sv
        go_wp2_with (go_at_call 24; refine (numeral_any _ htz _).mono ?_; dsimp only; rw [hn]; rintro e w' ⟨rfl, rfl⟩)
        refine (number_no _ htz p hn hv _ (hE'.out.fd hf1 hb0)).mono ?_
        rintro e w2 ⟨rfl, hf2⟩
        exact ⟨rfl, by rw [ht], hf1.trans (hf2.fd (Nat.le_of_lt hR1.lt))⟩
      | some n =>
        have hm : wtok p t = some (.agg #[.int .u8 4, sv [], .int .i64 n, .int .i64 p]) := by simp [wtok, hn, hv]
        simp only [hm]
        go_enter Tryd.func14, Tryd.ntmps14
        go_wp2_with (fail)
        refine (run_any b s hs p _ hl _ (h.bw ((BW.refl _).alloc _))).mono ?_
        rw [e1]
        rintro e w1 ⟨rfl, q, hA1, hR1, hf⟩
        obtain ⟨hf1, hb1⟩ := hf.new hlt
        unfold sv
        go_wp2_with (go_at_call 24; refine (numeral_any _ htz _).mono ?_; dsimp only; rw [hn]; rintro e w' ⟨rfl, rfl⟩)
        refine (number_ok _ htz p n hn hv _).mono ?_
        rintro e w2 ⟨rfl, hf2⟩
        have hb2 := (hf2.block _ (Array.getElem?_eq_some_iff.1 hb1).1).trans hb1
        have hR2 := hR1.bw hf2
        have hl2 := hR2.lt
        have hF2 := hf1.trans (hf2.fd (Nat.le_of_lt hR1.lt))
        have k0 : w2.cell? ⟨w.heap.size, 0, none⟩ = some (.int .u8 0) := by simp only [World.cell?, hb2]; rfl
        have k1 : w2.cell? ⟨w.heap.size, 1, none⟩ = some (.string ⟨#[]⟩) := by simp only [World.cell?, hb2]; rfl
        have k2 : w2.cell? ⟨w.heap.size, 2, none⟩ = some (.int .i64 0) := by simp only [World.cell?, hb2]; rfl
        have k3 : w2.cell? ⟨w.heap.size, 3, none⟩ = some (.int .i64 0) := by simp only [World.cell?, hb2]; rfl
        have kz : ∀ o, w2.frozen? ⟨w.heap.size, o, none⟩ = false := fun o => Lib.frozen_of_heap hb2 o
        go_wp2_with fail
        refine end28 rfl (set4 hb2) ⟨rfl, q, hA1, ?_, hF2.set4 (by omega) (by omega)⟩
        exact (set4o (by omega)).trans hR2

end Go.Proofs.YtlacjiihbbgbeaaDoor
