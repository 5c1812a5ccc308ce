import Derived.Test.YtijoadkjkbkjgaaDoorF8
import Derived.Test.YtijoadkjkbkjgaaDoorD4
namespace Go.Proofs.YtijoadkjkbkjgaaDoor
open Go.RowKit
set_option linter.unusedVariables false
set_option linter.unusedSimpArgs false

/-- No node has more than 200 names. -/
def n200 : (n : Nat) → Tr n → Bool
  | 0, _ => true
  | n + 1, t => decide ((Nd.ns (K := Tr n) t).length ≤ 200) && (Nd.ks (K := Tr n) t).all (n200 n)
theorem gr_n200 : ∀ (n : Nat) (t : Tr n) (a : Nat), gr n t a = false → n200 n t = true := by
  intro n
  induction n with
  | zero => intro t a h; rfl
  | succ n ih =>
    intro t a h
    unfold gr at h
    simp only [Bool.or_eq_false_iff, decide_eq_false_iff_not] at h
    obtain ⟨⟨⟨⟨⟨⟨_, _⟩, h3⟩, _⟩, _⟩, h6⟩, _⟩ := h
    unfold n200
    rw [Bool.and_eq_true, List.all_eq_true]
    refine ⟨by simpa using h3, fun x hx => ih x (a + 1) ?_⟩
    have := List.any_eq_false.1 h6 x hx
    simpa using this
theorem bz_le : ∀ (n : Nat) (t : Tr n), n200 n t = true → bz n t ≤ 201 * sz n t := by
  intro n
  induction n with
  | zero => intro t h; exact Nat.zero_le _
  | succ n ih =>
    intro t h
    unfold n200 at h
    rw [Bool.and_eq_true, List.all_eq_true] at h
    have key : ∀ l : List (Tr n), (∀ x ∈ l, n200 n x = true) → (l.map (bz n)).sum ≤ 201 * (l.map (sz n)).sum := by
      intro l
      induction l with
      | nil => intro _; simp
      | cons a r ihr =>
        intro hh
        simp only [List.map_cons, List.sum_cons]
        have h1 := ih a (hh a (by simp))
        have h2 := ihr (fun x hx => hh x (List.mem_cons_of_mem _ hx))
        omega
    have h1 := key _ h.2
    have h2 : (Nd.ns (K := Tr n) t).length ≤ 200 := by simpa using h.1
    show 1 + (Nd.ns (K := Tr n) t).length + ((Nd.ks (K := Tr n) t).map (bz n)).sum ≤ 201 * (1 + ((Nd.ks (K := Tr n) t).map (sz n)).sum)
    omega
theorem may_rt {n : Nat} {t : Tr n} (h : mayB n t = true) : rt n t = true ∧ sz n t ≤ 4000 ∧ dep n t ≤ 60 := by
  rw [mayB_eq] at h
  simp only [Bool.and_eq_true, decide_eq_true_eq] at h
  obtain ⟨⟨h1, h2⟩, h3⟩ := h
  unfold vl at h3
  rw [Bool.and_eq_true] at h3
  exact ⟨h3.2, h2, h1⟩
theorem may_bz {n : Nat} {t : Tr n} (h : mayB n t = true) (k : n200 n t = true) : bz n t ≤ 1000000 := by
  have := bz_le n t k
  have := (may_rt h).2.1
  omega
/-- The free names of a node, as they are told. -/
def fre (n : Nat) (t : Tr n) : List ByteArray := if mayB n t then fr n t [] [] else []
set_option maxRecDepth 100000 in
set_option maxHeartbeats 4000000 in
theorem Free_any (n : Nat) (val : Value) (t : Tr n) (w : World) (h : NodeAt w n val t) (hz : n200 n t = true) (hT : Tw w) : Calls Tryd.prog 9 #[val] w fun e w' => ∃ v, e = .returned v ∧ StrsV w' v (fre n t) ∧ BW w w' := by
  have HN : Hid (NodeAt w n val t) := h
  cases n with
  | zero => exact h.elim
  | succ n =>
    obtain ⟨na, nl, nc, ka, kl, kc, rfl, _⟩ := h
    have CM : Hid (∀ w', BW w w' → Calls Tryd.prog 14 #[ndv (Nd.k (K := Tr n) t) (Nd.n (K := Tr n) t) (Nd.s (K := Tr n) t) na nl nc ka kl kc] w' fun e w'' => e = .returned (.bool (mayB (n + 1) t)) ∧ BW w' w'') := fun w' hw => may_any (n + 1) _ t w' (HN.out.bw hw) (hT.bw hw)
    have HT : Hid (Tw w) := hT
    clear hT
    cases hm : mayB (n + 1) t with
    | false =>
      rw [hm] at CM
      have e : fre (n + 1) t = [] := by unfold fre; rw [hm]; rfl
      rw [e]
      clear e hm hz
      go_enter Tryd.func9, Tryd.ntmps9
      go_wp2_with (first | (go_at_call 14; refine (CM.out _ (by repeat (first | exact BW.refl _ | assumption | apply BW.alloc | apply BW.drewN | apply BW.drew | (refine BW.setCell ?_ (by first | omega | (simp; done) | (simp; omega)) _) | (refine BW.trans ?_ (by assumption))))).mono ?_; rintro e w1 ⟨rfl, b1⟩))
      go_ret
      exact ⟨_, rfl, StrsV.nil _, (by repeat (first | exact BW.refl _ | assumption | apply BW.alloc | apply BW.drewN | apply BW.drew | (refine BW.setCell ?_ (by first | omega | (simp; done) | (simp; omega)) _) | (refine BW.trans ?_ (by assumption))))⟩
    | true =>
      rw [hm] at CM
      have e : fre (n + 1) t = fr (n + 1) t [] [] := by unfold fre; rw [hm]; rfl
      rw [e]
      have CF : Hid (∀ w', BW w w' → Calls Tryd.prog 15 #[ndv (Nd.k (K := Tr n) t) (Nd.n (K := Tr n) t) (Nd.s (K := Tr n) t) na nl nc ka kl kc] w' fun e w'' => ∃ v, e = .returned v ∧ StrsV w'' v (fr (n + 1) t [] []) ∧ BW w' w'') := fun w' hw => free_any (n + 1) _ t w' (HN.out.bw hw) (may_rt hm).1 (may_bz hm hz)
      clear e hm hz
      go_enter Tryd.func9, Tryd.ntmps9
      go_wp2_with (fail)
      refine (CM.out _ (BW.alloc (BW.refl w) _)).mono ?_
      rintro e w1 ⟨rfl, b1⟩
      obtain ⟨⟨g0, g1, g2, g3, g4⟩, gz, gb⟩ := bx_at b1
      go_wp2_with (fail)
      refine (CF.out _ gb).mono ?_
      rintro e w2 ⟨v, rfl, hv, b2⟩
      have hv2 := hv
      obtain ⟨ao, cp, hve, _⟩ := hv2
      subst hve
      have HV : Hid (StrsV w2 _ (fr (n + 1) t [] [])) := hv
      have HB : Hid (BW w w2) := BW.trans gb b2
      clear hv b1 b2 gb
      go_wp2_with (fail)
      go_ret
      exact ⟨_, rfl, HV.out, HB.out⟩
/-- What Check answers. -/
def chk (n : Nat) (t : Tr n) : ByteArray × Int := if mayB n t then (match fr n t [] [] with
  | [] => (⟨#[]⟩, 0)
  | s :: _ => (s, 14)) else (⟨#[]⟩, 12)
set_option maxRecDepth 100000 in
set_option maxHeartbeats 4000000 in
theorem Check_any (n : Nat) (val : Value) (t : Tr n) (w : World) (h : NodeAt w n val t) (hz : n200 n t = true) (hT : Tw w) : Calls Tryd.prog 10 #[val] w fun e w' => e = .returned (.tuple #[.string (chk n t).1, .int .i64 (chk n t).2]) ∧ BW w w' := by
  have HN : Hid (NodeAt w n val t) := h
  cases n with
  | zero => exact h.elim
  | succ n =>
    obtain ⟨na, nl, nc, ka, kl, kc, rfl, _⟩ := h
    have CM : Hid (∀ w', BW w w' → Calls Tryd.prog 14 #[ndv (Nd.k (K := Tr n) t) (Nd.n (K := Tr n) t) (Nd.s (K := Tr n) t) na nl nc ka kl kc] w' fun e w'' => e = .returned (.bool (mayB (n + 1) t)) ∧ BW w' w'') := fun w' hw => may_any (n + 1) _ t w' (HN.out.bw hw) (hT.bw hw)
    clear hT
    cases hm : mayB (n + 1) t with
    | false =>
      rw [hm] at CM
      have e : chk (n + 1) t = (⟨#[]⟩, 12) := by unfold chk; rw [hm]; rfl
      rw [e]
      clear e hm hz
      go_enter Tryd.func10, Tryd.ntmps10
      go_wp2_with (first | (go_at_call 14; refine (CM.out _ (by repeat (first | exact BW.refl _ | assumption | apply BW.alloc | apply BW.drewN | apply BW.drew | (refine BW.setCell ?_ (by first | omega | (simp; done) | (simp; omega)) _) | (refine BW.trans ?_ (by assumption))))).mono ?_; rintro e w1 ⟨rfl, b1⟩))
      go_ret2
      exact ⟨rfl, (by repeat (first | exact BW.refl _ | assumption | apply BW.alloc | apply BW.drewN | apply BW.drew | (refine BW.setCell ?_ (by first | omega | (simp; done) | (simp; omega)) _) | (refine BW.trans ?_ (by assumption))))⟩
    | true =>
      rw [hm] at CM
      have e : chk (n + 1) t = (match fr (n + 1) t [] [] with
        | [] => (⟨#[]⟩, 0)
        | s :: _ => (s, 14)) := by unfold chk; rw [hm]; rfl
      rw [e]
      have CF : Hid (∀ w', BW w w' → Calls Tryd.prog 15 #[ndv (Nd.k (K := Tr n) t) (Nd.n (K := Tr n) t) (Nd.s (K := Tr n) t) na nl nc ka kl kc] w' fun e w'' => ∃ v, e = .returned v ∧ StrsV w'' v (fr (n + 1) t [] []) ∧ BW w' w'') := fun w' hw => free_any (n + 1) _ t w' (HN.out.bw hw) (may_rt hm).1 (may_bz hm hz)
      clear e hm hz
      generalize fr (n + 1) t [] [] = l at *
      cases l with
      | nil =>
        go_enter Tryd.func10, Tryd.ntmps10
        go_wp2_with (fail)
        refine (CM.out _ (BW.alloc (BW.refl w) _)).mono ?_
        rintro e w1 ⟨rfl, b1⟩
        obtain ⟨⟨g0, g1, g2, g3, g4⟩, gz, gb⟩ := bx_at b1
        go_wp2_with (fail)
        refine (CF.out _ gb).mono ?_
        rintro e w2 ⟨v, rfl, hv, b2⟩
        obtain ⟨ao, cp, hve, _⟩ := hv
        subst hve
        simp only [List.length_nil]
        go_wp2_with (fail)
        go_ret2
        exact ⟨rfl, BW.trans gb b2⟩
      | cons s r =>
        go_enter Tryd.func10, Tryd.ntmps10
        go_wp2_with (fail)
        refine (CM.out _ (BW.alloc (BW.refl w) _)).mono ?_
        rintro e w1 ⟨rfl, b1⟩
        obtain ⟨⟨g0, g1, g2, g3, g4⟩, gz, gb⟩ := bx_at b1
        go_wp2_with (fail)
        refine (CF.out _ gb).mono ?_
        rintro e w2 ⟨v, rfl, hv, b2⟩
        obtain ⟨ao, cp, hve, hsa, hcp, _⟩ := hv
        subst hve
        obtain ⟨b, off, x, rfl, hbl, hx, hxs, hc⟩ := StrsAt.get hsa (i := 0) (by simp)
        obtain rfl : s = x := by simpa using hx
        have hlen : hsa.1 = hsa.1 := rfl
        have HB : Hid (BW w w2) := BW.trans gb b2
        have hle : ((s :: r).length : Int) ≤ 9223372036854775807 := by have := hsa.2.1; unfold maxLen at this; omega
        have hpos : 0 < (s :: r).length := by simp
        clear hsa hx hlen b1 b2 gb
        generalize (s :: r).length = ln at *
        simp only [Nat.add_zero] at hc
        have t1 : decide ((0 : Int) < (ln : Int)) = true := decide_eq_true (by omega)
        go_wp2_with (fail)
        go_ret2
        exact ⟨rfl, HB.out⟩

end Go.Proofs.YtijoadkjkbkjgaaDoor
