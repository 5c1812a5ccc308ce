import Derived.Test.YtijoadkjkbkjgaaDoorV0
namespace Go.Proofs.YtijoadkjkbkjgaaDoor
open Go.RowKit
set_option linter.unusedVariables false
set_option linter.unusedSimpArgs false

/-- How many nodes. -/
def sz : (n : Nat) → Tr n → Nat
  | 0, _ => 0
  | n + 1, t => 1 + ((Nd.ks (K := Tr n) t).map (sz n)).sum
theorem wrap64_add (a b : Int) : wrap64 (wrap64 a + wrap64 b) = wrap64 (a + b) := by
  simp only [wrap64, IntKind.wrap, show IntKind.i64.bits = 64 from rfl, show IntKind.i64.signed = true from rfl]; simp <;> omega
/-- A kid of a row of nodes. -/
theorem SeqAt.get {K : Type} {At : Value → K → Prop} {W : World} {ao : Option Addr} {ln : Nat} {l : List K} (h : SeqAt At W ao ln l) {i : Nat} (hi : i < ln) :
    ∃ b off x, ao = some ⟨b, off, none⟩ ∧ b < W.heap.size ∧ l[i]? = some x ∧ ∃ r : Rw, CellsAt W b (off + i * 5) r ∧ At r.v x := by
  obtain ⟨h1, h2, h4⟩ := h
  rcases h4 with h4 | ⟨b, off, e, hb, hc⟩
  · omega
  · obtain ⟨x, hx⟩ : ∃ x, l[i]? = some x := ⟨_, List.getElem?_eq_getElem (by omega)⟩
    exact ⟨b, off, x, e, hb, hx, hc i x hx⟩
theorem cell_new (w : World) (cs : Array Value) (ty : TypeId) (j : Nat) : (w.alloc (.cells cs ty)).cell? ⟨w.heap.size, j, none⟩ = cs[j]? := cell_of_row _ _ j cs ty (0, 0) (heap_alloc_new w _)
/-- The world with a node in a new block. -/
abbrev bx (w : World) (k n : Int) (s : ByteArray) (na : Option Addr) (nl nc : Nat) (ka : Option Addr) (kl kc : Nat) : World := w.alloc (.cells #[.int .u8 k, .int .i64 n, .string s, .slice na nl nc, .slice ka kl kc] 25)
theorem bx_at {w w' : World} {k n : Int} {s : ByteArray} {na : Option Addr} {nl nc : Nat} {ka : Option Addr} {kl kc : Nat} (h : BW (bx w k n s na nl nc ka kl kc) w') : CellsAt w' w.heap.size 0 ⟨k, n, s, na, nl, nc, ka, kl, kc⟩ ∧ w.heap.size < w'.heap.size ∧ BW w w' := by
  have hz := h.size
  have hl : w.heap.size < (bx w k n s na nl nc ka kl kc).heap.size := by simp
  refine ⟨?_, by omega, BW.trans (BW.alloc (BW.refl _) _) h⟩
  refine CellsAt.bw ?_ h hl
  exact ⟨cell_new _ _ _ 0, cell_new _ _ _ 1, cell_new _ _ _ 2, cell_new _ _ _ 3, cell_new _ _ _ 4⟩
theorem sum_snoc {l : List Nat} {i : Nat} {x : Nat} (h : l[i]? = some x) : (l.take (i + 1)).sum = (l.take i).sum + x := by
  rw [List.take_add_one, h]; simp
theorem map_get {α β : Type} (f : α → β) {l : List α} {i : Nat} {x : α} (h : l[i]? = some x) : (l.map f)[i]? = some (f x) := by simp [h]
set_option maxRecDepth 100000 in
set_option maxHeartbeats 1000000 in
theorem refSize_any : ∀ (n : Nat) (v : Value) (t : Tr n) (w : World), NodeAt w n v t → Calls Tryd.prog 13 #[v] w fun e w' => e = .returned (.int .i64 (wrap64 (sz n t))) ∧ BW w w' := by
  intro n
  induction n with
  | zero => intro v t w h; exact h.elim
  | succ n ih =>
    intro v t w h
    obtain ⟨na, nl, nc, ka, kl, kc, rfl, wf, a1, a2, a3, a4, s1, s2⟩ := h
    have hml : kl ≤ 9223372036854775807 := by unfold maxLen at a4; omega
    have IH : Hid _ := ih
    have S2 : Hid _ := s2
    have hlen : Hid _ := s2.1
    clear ih s1 s2 wf a1 a2 a4
    go_enter Tryd.func13, Tryd.ntmps13
    go_wp2_with (fail)
    go_loopw [3, 8] (fun a i w' => ∃ k : Nat, k ≤ kl ∧ a = .int .i64 (wrap64 (1 + (((Nd.ks (K := Tr n) t).map (sz n)).take k).sum : Nat)) ∧ i = .int .i64 k ∧ BW (bx w (Nd.k (K := Tr n) t) (Nd.n (K := Tr n) t) (Nd.s (K := Tr n) t) na nl nc ka kl kc) w') (fun _ i _ => kl - (intOf i).toNat)
    case atStart => exact ⟨0, Nat.zero_le _, by simp [wrap64], rfl, (by repeat (first | exact BW.refl _ | apply BW.alloc | apply BW.drewN | apply BW.drew))⟩
    case round =>
      obtain ⟨k, hk, rfl, rfl, hb1⟩ := hrel
      obtain ⟨⟨_, _, _, _, hk4⟩, hz1, hb⟩ := bx_at hb1
      by_cases hlt : k < kl
      · obtain ⟨b, off, x, rfl, hbl, hx, r, hr, ha⟩ := SeqAt.get S2.out hlt
        have hs := sum_snoc (map_get (sz n) hx)
        have HX : Hid (NodeAt w n r.v x) := ha
        have HS : Hid _ := hs
        obtain ⟨d0, d1, d2, d3, d4⟩ := hr.bw hb hbl
        have hz := hb.size
        clear ha hs hx hr
        go_wp2_with (fail)
        refine (IH.out _ x _ (HX.out.bw (by repeat (first | exact BW.refl _ | assumption | apply BW.alloc | apply BW.drewN | apply BW.drew | (refine BW.setCell ?_ (by first | omega | (simp; done) | (simp; omega)) _) | (refine BW.trans ?_ (by assumption)))))).mono ?_
        rintro e w2 ⟨rfl, b2⟩
        go_wp2
        go_roundw
        case rel => exact ⟨k + 1, by omega, by rw [HS.out]; simp only [Value.int.injEq, true_and]; rw [wrap64_add]; congr 1; push_cast; omega, by go_num, (by repeat (first | exact BW.refl _ | assumption | apply BW.alloc | apply BW.drewN | apply BW.drew | (refine BW.setCell ?_ (by first | omega | (simp; done) | (simp; omega)) _) | (refine BW.trans ?_ (by assumption))))⟩
        case measure => simp [intOf]; omega
      · obtain rfl : k = kl := by omega
        go_wp2
        go_ret
        refine ⟨?_, (by repeat (first | exact BW.refl _ | assumption | apply BW.alloc | apply BW.drewN | apply BW.drew | (refine BW.setCell ?_ (by first | omega | (simp; done) | (simp; omega)) _) | (refine BW.trans ?_ (by assumption))))⟩
        have hl := hlen.out
        rw [List.take_of_length_le (by simp [hl])]
        rfl
/-- More than is gone through. -/
def gr : (n : Nat) → Tr n → Nat → Bool
  | 0, _, _ => false
  | n + 1, t, a => decide (80 < a) || decide (200 < (Nd.ks (K := Tr n) t).length) || decide (200 < (Nd.ns (K := Tr n) t).length) || decide (70000 < (Nd.s (K := Tr n) t).size) || (Nd.ns (K := Tr n) t).any (fun s => decide (1000 < s.size)) || (Nd.ks (K := Tr n) t).any (fun x => gr n x (a + 1)) || (decide (a = 0) && decide (5000 < wrap64 (sz (n + 1) t)))
theorem StrsAt.get {W : World} {ao : Option Addr} {ln : Nat} {l : List ByteArray} (h : StrsAt W ao ln l) {i : Nat} (hi : i < ln) :
    ∃ b off x, ao = some ⟨b, off, none⟩ ∧ b < W.heap.size ∧ l[i]? = some x ∧ x.size ≤ maxLen ∧ W.cell? ⟨b, off + i, none⟩ = some (.string x) := by
  obtain ⟨h1, h2, h3, h4⟩ := h
  rcases h4 with h4 | ⟨b, off, e, hb, hc⟩
  · omega
  · obtain ⟨x, hx⟩ : ∃ x, l[i]? = some x := ⟨_, List.getElem?_eq_getElem (by omega)⟩
    exact ⟨b, off, x, e, hb, hx, h3 x (List.mem_of_getElem? hx), hc i x hx⟩
theorem any_snoc {α : Type} (f : α → Bool) {l : List α} {i : Nat} {x : α} (h : l[i]? = some x) : (l.take (i + 1)).any f = ((l.take i).any f || f x) := by
  rw [List.take_add_one, h]; simp
theorem any_hit {α : Type} (f : α → Bool) {l : List α} {i : Nat} {x : α} (h : l[i]? = some x) (hf : f x = true) : l.any f = true := List.any_eq_true.2 ⟨x, List.mem_of_getElem? h, hf⟩
set_option maxRecDepth 100000 in
set_option maxHeartbeats 4000000 in
theorem great_any : ∀ (n : Nat) (v : Value) (t : Tr n) (a : Nat) (w : World), a ≤ 81 → NodeAt w n v t → Calls Tryd.prog 7 #[v, .int .i64 a] w fun e w' => e = .returned (.bool (gr n t a)) ∧ BW w w' := by
  intro n
  induction n with
  | zero => intro v t a w ha h; exact h.elim
  | succ n ih =>
    intro v t a w ha h
    have HN : Hid (NodeAt w (n + 1) v t) := h
    obtain ⟨na, nl, nc, ka, kl, kc, rfl, wf, a1, a2, a3, a4, s1, s2⟩ := h
    have hml : kl ≤ 9223372036854775807 := by unfold maxLen at a4; omega
    have hmn : nl ≤ 9223372036854775807 := by unfold maxLen at a2; omega
    have hms : (Nd.s (K := Tr n) t).size ≤ 9223372036854775807 := by have := wf.s; unfold maxLen at this; omega
    have IH : Hid _ := ih
    have S1 : Hid _ := s1
    have S2 : Hid _ := s2
    have hlen1 : Hid _ := s1.1
    have hlen2 : Hid _ := s2.1
    clear ih s1 s2 wf a1 a2 a4
    by_cases hbad : 80 < a ∨ 200 < kl ∨ 200 < nl ∨ 70000 < (Nd.s (K := Tr n) t).size
    · have hg : Hid (gr (n + 1) t a = true) := by
        show gr (n + 1) t a = true
        simp only [gr, hlen1.out, hlen2.out]
        rcases hbad with h | h | h | h <;> simp [h]
      go_enter Tryd.func7, Tryd.ntmps7
      go_wp2_with (fail)
      all_goals (first | (exfalso; omega) | (go_ret; exact ⟨by rw [hg.out]; rfl, (by repeat (first | exact BW.refl _ | assumption | apply BW.alloc | apply BW.drewN | apply BW.drew | (refine BW.setCell ?_ (by first | omega | (simp; done) | (simp; omega)) _) | (refine BW.trans ?_ (by assumption))))⟩))
    · have e1 : decide ((80 : Int) < (a : Int)) = false := by simp; omega
      have e2 : decide ((200 : Int) < (kl : Int)) = false := by simp; omega
      have e3 : decide ((200 : Int) < (nl : Int)) = false := by simp; omega
      have e4 : decide ((70000 : Int) < ((Nd.s (K := Tr n) t).size : Int)) = false := by simp; omega
      have hg : Hid (gr (n + 1) t a = ((Nd.ns (K := Tr n) t).any (fun s => decide (1000 < s.size)) || (Nd.ks (K := Tr n) t).any (fun x => gr n x (a + 1)) || (decide (a = 0) && decide (5000 < wrap64 (sz (n + 1) t))))) := by
        show gr (n + 1) t a = _
        simp only [gr, hlen1.out, hlen2.out]
        rw [show decide (80 < a) = false by simp; omega, show decide (200 < kl) = false by simp; omega, show decide (200 < nl) = false by simp; omega, show decide (70000 < (Nd.s (K := Tr n) t).size) = false by simp; omega]
        simp
      have ha80 : a ≤ 80 := by omega
      clear hbad
      go_enter Tryd.func7, Tryd.ntmps7
      go_wp2_with (fail)
      go_loopw [30] (fun i w' => ∃ k : Nat, k ≤ nl ∧ Hid (((Nd.ns (K := Tr n) t).take k).any (fun s => decide (1000 < s.size)) = false) ∧ i = .int .i64 k ∧ BW (bx w (Nd.k (K := Tr n) t) (Nd.n (K := Tr n) t) (Nd.s (K := Tr n) t) na nl nc ka kl kc) w') (fun i _ => nl - (intOf i).toNat)
      case atStart => exact ⟨0, Nat.zero_le _, by simp [Hid], rfl, (by repeat (first | exact BW.refl _ | apply BW.alloc | apply BW.drewN | apply BW.drew))⟩
      case round =>
        obtain ⟨k, hk, HA, rfl, hb1⟩ := hrel
        obtain ⟨⟨g0, g1, g2, g3, g4⟩, hz1, hb⟩ := bx_at hb1
        by_cases hlt : k < nl
        · obtain ⟨b, off, x, rfl, hbl, hx, hxs, hc⟩ := StrsAt.get S1.out hlt
          have hxm : x.size ≤ 9223372036854775807 := by unfold maxLen at hxs; omega
          rw [← hb.cells b _ hbl] at hc
          have HX : Hid _ := hx
          clear hx hxs
          by_cases hbig : 1000 < x.size
          · have q : decide ((1000 : Int) < (x.size : Int)) = true := by simp; omega
            go_wp2_with (fail)
            go_ret
            exact ⟨by rw [hg.out, any_hit _ HX.out (by simpa using hbig)]; simp, hb⟩
          · have q : decide ((1000 : Int) < (x.size : Int)) = false := by simp; omega
            go_wp2_with (fail)
            go_roundw
            case rel => exact ⟨k + 1, by omega, by have := any_snoc (fun s : ByteArray => decide (1000 < s.size)) HX.out; rw [HA.out] at this; show _ = false; rw [this]; simpa using hbig, by go_num, hb1⟩
            case measure => simp [intOf]; omega
        · have hkn : nl = k := by omega
          subst hkn
          have HA' : Hid ((Nd.ns (K := Tr n) t).any (fun s => decide (1000 < s.size)) = false) := by have := HA.out; rw [List.take_of_length_le (by rw [hlen1.out]; omega)] at this; exact this
          go_wp2_with (fail)
          clear g0 g1 g2 g3 g4
          go_loopw [44] (fun i w' => ∃ k : Nat, k ≤ kl ∧ Hid (((Nd.ks (K := Tr n) t).take k).any (fun x => gr n x (a + 1)) = false) ∧ i = .int .i64 k ∧ BW (bx w (Nd.k (K := Tr n) t) (Nd.n (K := Tr n) t) (Nd.s (K := Tr n) t) na nl nc ka kl kc) w') (fun i _ => kl - (intOf i).toNat)
          case atStart => exact ⟨0, Nat.zero_le _, by simp [Hid], rfl, hb1⟩
          case round =>
            obtain ⟨k, hk, HB, rfl, hb1⟩ := hrel
            obtain ⟨⟨g0, g1, g2, g3, g4⟩, hz1, hb⟩ := bx_at hb1
            by_cases hlt : k < kl
            · obtain ⟨b, off, x, rfl, hbl, hx, r, hr, hax⟩ := SeqAt.get S2.out hlt
              have HX : Hid (NodeAt w n r.v x) := hax
              have HXX : Hid _ := hx
              obtain ⟨d0, d1, d2, d3, d4⟩ := hr.bw hb hbl
              have hz := hb.size
              clear hax hx hr
              go_wp2_with (fail)
              refine (IH.out _ x (a + 1) _ (by omega) (HX.out.bw (by repeat (first | exact BW.refl _ | assumption | apply BW.alloc | apply BW.drewN | apply BW.drew | (refine BW.setCell ?_ (by first | omega | (simp; done) | (simp; omega)) _) | (refine BW.trans ?_ (by assumption)))))).mono ?_
              rintro e w2 ⟨rfl, b2⟩
              have b2w : BW w w2 := (by repeat (first | exact BW.refl _ | assumption | apply BW.alloc | apply BW.drewN | apply BW.drew | (refine BW.setCell ?_ (by first | omega | (simp; done) | (simp; omega)) _) | (refine BW.trans ?_ (by assumption))))
              cases hgx : gr n x (a + 1) with
              | true =>
                have HG : Hid _ := hgx
                clear hgx
                go_wp2
                go_ret
                exact ⟨by rw [hg.out, any_hit (fun x => gr n x (a + 1)) HXX.out HG.out]; simp, b2w⟩
              | false =>
                have HG : Hid _ := hgx
                clear hgx
                go_wp2
                go_roundw
                case rel => exact ⟨k + 1, by omega, by have := any_snoc (fun x => gr n x (a + 1)) HXX.out; rw [HB.out, HG.out] at this; exact this, by go_num, BW.trans hb1 b2⟩
                case measure => simp [intOf]; omega
            · obtain rfl : k = kl := by omega
              have HB' : Hid ((Nd.ks (K := Tr n) t).any (fun x => gr n x (a + 1)) = false) := by have := HB.out; rw [List.take_of_length_le (by rw [hlen2.out]; omega)] at this; exact this
              by_cases h0 : a = 0
              · subst h0
                go_wp2_with (go_at_call 13; refine (refSize_any (n + 1) _ t _ (NodeAt.bw hb HN.out)).mono ?_; rintro e w2 ⟨rfl, b2⟩)
                go_ret
                exact ⟨by rw [hg.out, HA'.out, HB'.out]; simp, (by repeat (first | exact BW.refl _ | assumption | apply BW.alloc | apply BW.drewN | apply BW.drew | (refine BW.setCell ?_ (by first | omega | (simp; done) | (simp; omega)) _) | (refine BW.trans ?_ (by assumption))))⟩
              · have q : ((a : Int) == 0) = false := by simp; omega
                go_wp2_with (fail)
                go_ret
                exact ⟨by rw [hg.out, HA'.out, HB'.out]; simp [h0], hb⟩

end Go.Proofs.YtijoadkjkbkjgaaDoor
