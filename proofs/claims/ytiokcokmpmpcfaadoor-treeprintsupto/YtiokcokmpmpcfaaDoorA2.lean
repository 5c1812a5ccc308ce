import Derived.Test.YtiokcokmpmpcfaaDoorA1
import Derived.Test.YtiokcokmpmpcfaaDoorShelf
namespace Go.Proofs.YtiokcokmpmpcfaaDoor
open Go.RowKit
set_option linter.unusedVariables false
set_option linter.unusedSimpArgs false

theorem getD_of_get {l : List ByteArray} {j : Nat} (h : j < l.length) : ∃ x, l[j]? = some x ∧ l.getD j ByteArray.empty = x := ⟨l[j], List.getElem?_eq_getElem h, by simp [List.getD, h]⟩
theorem strsEq_any (na ma : Option Addr) (nl nc ml mc : Nat) (l m : List ByteArray) (w : World) (h1 : StrsAt w na nl l) (h2 : StrsAt w ma ml m) :
    Calls Tryd.prog 29 #[.slice na nl nc, .slice ma ml mc] w fun e w' => e = .returned (.bool (decide (l = m))) ∧ BW w w' := by
  obtain ⟨l1, b1, s1, c1⟩ := h1
  obtain ⟨l2, b2, s2, c2⟩ := h2
  unfold maxLen at b1 b2
  by_cases hne : nl = ml
  · subst hne
    rcases c1 with h0 | ⟨b, off, rfl, hb, hc⟩
    · subst h0
      refine (Tryd.slices_Equal_string_empty na ma nc 0 mc w (by omega)).mono ?_
      rintro e w' ⟨rfl, rfl⟩
      have e1 : l = [] := List.length_eq_zero_iff.1 l1
      have e2 : m = [] := List.length_eq_zero_iff.1 l2
      exact ⟨by simp [e1, e2], BW.refl _⟩
    · rcases c2 with h0 | ⟨b', off', rfl, hb', hc'⟩
      · subst h0
        refine (Tryd.slices_Equal_string_empty _ ma nc 0 mc w (by omega)).mono ?_
        rintro e w' ⟨rfl, rfl⟩
        have e1 : l = [] := List.length_eq_zero_iff.1 l1
        have e2 : m = [] := List.length_eq_zero_iff.1 l2
        exact ⟨by simp [e1, e2], BW.refl _⟩
      · refine (Tryd.slices_Equal_string b off nl nc b' off' nl mc l m w (by omega) (by omega) (by omega) (by omega) (fun j hj => ?_) (fun j hj => ?_)).mono ?_
        · obtain ⟨x, hx, e⟩ := getD_of_get hj; rw [e]; exact hc j x hx
        · obtain ⟨x, hx, e⟩ := getD_of_get hj; rw [e]; exact hc' j x hx
        · rintro e w' ⟨rfl, q, rfl⟩
          rw [List.take_of_length_le (by omega), List.take_of_length_le (by omega)]
          exact ⟨rfl, BW.drewN (BW.refl _) _⟩
  · refine (Tryd.slices_Equal_string_lens na ma nl nc ml mc w hne).mono ?_
    rintro e w' ⟨rfl, rfl⟩
    refine ⟨?_, BW.refl _⟩
    have : ¬ l = m := fun e => hne (by rw [← l1, ← l2, e])
    simp [this]
theorem CellsAt.al {W : World} {b o : Nat} {r : Rw} (h : CellsAt W b o r) (hb : b < W.heap.size) (ob : Obj) : CellsAt (W.alloc ob) b o r := h.bw (BW.alloc (BW.refl _) _) hb
theorem bytes_eq (a b : ByteArray) : a.toList = b.toList ↔ a = b := by
  rw [ByteArray.toList_eq, ByteArray.toList_eq]
  exact ⟨fun h => Go.WideShapes.bytes_inj h, fun h => by rw [h]⟩
theorem bx2_at {w w' : World} {k n : Int} {s : ByteArray} {na : Option Addr} {nl nc : Nat} {ka : Option Addr} {kl kc : Nat} {k' n' : Int} {s' : ByteArray} {na' : Option Addr} {nl' nc' : Nat} {ka' : Option Addr} {kl' kc' : Nat} (h : BW (bx (bx w k n s na nl nc ka kl kc) k' n' s' na' nl' nc' ka' kl' kc') w') :
    CellsAt w' w.heap.size 0 ⟨k, n, s, na, nl, nc, ka, kl, kc⟩ ∧ CellsAt w' (w.heap.size + 1) 0 ⟨k', n', s', na', nl', nc', ka', kl', kc'⟩ ∧ w.heap.size + 1 < w'.heap.size ∧ BW w w' := by
  obtain ⟨h1, h2, h3⟩ := bx_at h
  obtain ⟨h4, h5, h6⟩ := bx_at h3
  have e : (bx w k n s na nl nc ka kl kc).heap.size = w.heap.size + 1 := by simp
  rw [e] at h1 h2
  exact ⟨h4, h1, h2, h6⟩
/-- The same. -/
def sm : (n : Nat) → Tr n → Tr n → Bool
  | 0, _, _ => true
  | n + 1, a, b => decide (Nd.k (K := Tr n) a = Nd.k (K := Tr n) b) && decide (Nd.n (K := Tr n) a = Nd.n (K := Tr n) b) && decide (Nd.s (K := Tr n) a = Nd.s (K := Tr n) b) && decide (Nd.ns (K := Tr n) a = Nd.ns (K := Tr n) b) && (decide ((Nd.ks (K := Tr n) a).length = (Nd.ks (K := Tr n) b).length) && ((Nd.ks (K := Tr n) a).zip (Nd.ks (K := Tr n) b)).all (fun p => sm n p.1 p.2))
theorem zip_all_eq {α : Type} (f : α → α → Bool) (hf : ∀ a b, f a b = true ↔ a = b) : ∀ (l m : List α), (decide (l.length = m.length) && (l.zip m).all (fun p => f p.1 p.2)) = true ↔ l = m := by
  intro l
  induction l with
  | nil => intro m; cases m <;> simp
  | cons a r ih =>
    intro m
    cases m with
    | nil => simp
    | cons b q =>
      have := ih q
      simp only [Bool.and_eq_true, decide_eq_true_eq] at this
      simp only [List.length_cons, List.zip_cons_cons, List.all_cons, Bool.and_eq_true, decide_eq_true_eq, List.cons.injEq, hf, Nat.add_right_cancel_iff]
      constructor
      · rintro ⟨h1, h2, h3⟩; exact ⟨h2, this.1 ⟨h1, h3⟩⟩
      · rintro ⟨h1, h2⟩; exact ⟨(this.2 h2).1, h1, (this.2 h2).2⟩
theorem sm_eq : ∀ (n : Nat) (a b : Tr n), sm n a b = true ↔ a = b := by
  intro n
  induction n with
  | zero => intro a; exact a.elim
  | succ n ih =>
    intro a b
    show (_ && _) = true ↔ _
    rw [Bool.and_eq_true, zip_all_eq (sm n) ih]
    simp only [Bool.and_eq_true, decide_eq_true_eq]
    constructor
    · rintro ⟨⟨⟨⟨h1, h2⟩, h3⟩, h4⟩, h5⟩
      show (a : Nd (Tr n)) = b
      obtain ⟨a1, a2, a3, a4, a5⟩ := a
      obtain ⟨b1, b2, b3, b4, b5⟩ := b
      subst h1 h2 h3 h4 h5
      rfl
    · rintro rfl; exact ⟨⟨⟨⟨rfl, rfl⟩, rfl⟩, rfl⟩, rfl⟩
theorem zip_get {α : Type} {l m : List α} {i : Nat} {x y : α} (h : l[i]? = some x) (h' : m[i]? = some y) : (l.zip m)[i]? = some (x, y) := by simp [List.getElem?_zip_eq_some, h, h']
theorem all_snoc {α : Type} (f : α → Bool) {l : List α} {i : Nat} {x : α} (h : l[i]? = some x) : (l.take (i + 1)).all f = ((l.take i).all f && f x) := by
  rw [List.take_add_one, h]; simp
theorem all_miss {α : Type} (f : α → Bool) {l : List α} {i : Nat} {x : α} (h : l[i]? = some x) (hf : f x = false) : l.all f = false := by
  cases hh : l.all f with
  | false => rfl
  | true => rw [List.all_eq_true.1 hh x (List.mem_of_getElem? h)] at hf; cases hf
set_option maxRecDepth 100000 in
set_option maxHeartbeats 4000000 in
theorem equalFunc_any (n : Nat) (ih : ∀ (v v' : Value) (a b : Tr n) (w : World), NodeAt w n v a → NodeAt w n v' b → Calls Tryd.prog 17 #[v, v'] w fun e w' => e = .returned (.bool (sm n a b)) ∧ BW w w')
    (ka ma : Option Addr) (kl kc ml mc : Nat) (l m : List (Tr n)) (w : World) (h1 : SeqAt (NodeAt w n) w ka kl l) (h2 : SeqAt (NodeAt w n) w ma ml m) (hkc : kl ≤ kc) (hmc : ml ≤ mc) :
    Calls Tryd.prog 30 #[.slice ka kl kc, .slice ma ml mc, .func (.func 17) #[] #[]] w fun e w' => e = .returned (.bool (decide (l.length = m.length) && (l.zip m).all (fun p => sm n p.1 p.2))) ∧ BW w w' := by
  have IH : Hid _ := ih
  have H1 : Hid _ := h1
  have H2 : Hid _ := h2
  have l1 := h1.1
  have l2 := h2.1
  have b1 := h1.2.1
  have b2 := h2.2.1
  unfold maxLen at b1 b2
  clear ih h1 h2
  have L1 : Hid _ := l1
  have L2 : Hid _ := l2
  clear l1 l2
  by_cases hne : kl = ml
  · subst hne
    have HE : Hid (decide (l.length = m.length) = true) := by show _ = _; rw [L1.out, L2.out]; simp
    go_enter Tryd.func30, Tryd.ntmps30
    go_wp2_with (fail)
    go_loopw [17] (fun i w' => ∃ k : Nat, k ≤ kl ∧ Hid (((l.zip m).take k).all (fun p => sm n p.1 p.2) = true) ∧ i = .int .i64 k ∧ BW w w') (fun i _ => kl - (intOf i).toNat)
    case atStart => exact ⟨0, Nat.zero_le _, by simp [Hid], rfl, (by repeat (first | exact BW.refl _ | apply BW.alloc | apply BW.drewN | apply BW.drew))⟩
    case round =>
      obtain ⟨k, hk, HA, rfl, hb⟩ := hrel
      by_cases hlt : k < kl
      · obtain ⟨b, off, x, rfl, hbl, hx, r, hr, hax⟩ := SeqAt.get H1.out hlt
        obtain ⟨b', off', x', rfl, hbl', hx', r', hr', hax'⟩ := SeqAt.get H2.out hlt
        have HX : Hid (NodeAt w n r.v x) := hax
        have HX' : Hid (NodeAt w n r'.v x') := hax'
        have HZ : Hid _ := zip_get hx hx'
        obtain ⟨d0, d1, d2, d3, d4⟩ := hr.bw hb hbl
        have hz := hb.size
        have q := CellsAt.al (hr'.bw hb hbl') (show b' < wr.heap.size by omega)
        have c0 := fun ob => (q ob).1
        have c1 := fun ob => (q ob).2.1
        have c2 := fun ob => (q ob).2.2.1
        have c3 := fun ob => (q ob).2.2.2.1
        have c4 := fun ob => (q ob).2.2.2.2
        clear q
        have n1 : ¬ b' = wr.heap.size := by omega
        have n2 : ¬ wr.heap.size = b' := by omega
        clear hax hx hr hax' hx' hr'
        go_wp2_with (fail)
        refine (IH.out _ _ x x' _ (HX.out.bw (by repeat (first | exact BW.refl _ | assumption | apply BW.alloc | apply BW.drewN | apply BW.drew | (refine BW.setCell ?_ (by first | omega | (simp; done) | (simp; omega)) _) | (refine BW.trans ?_ (by assumption))))) (HX'.out.bw (by repeat (first | exact BW.refl _ | assumption | apply BW.alloc | apply BW.drewN | apply BW.drew | (refine BW.setCell ?_ (by first | omega | (simp; done) | (simp; omega)) _) | (refine BW.trans ?_ (by assumption)))))).mono ?_
        rintro e w2 ⟨rfl, b2⟩
        have b2w : Hid (BW w w2) := (by repeat (first | exact BW.refl _ | assumption | apply BW.alloc | apply BW.drewN | apply BW.drew | (refine BW.setCell ?_ (by first | omega | (simp; done) | (simp; omega)) _) | (refine BW.trans ?_ (by assumption))))
        cases hgx : sm n x x' with
        | true =>
          have HG : Hid _ := hgx
          clear hgx
          go_wp2
          go_roundw
          case rel => exact ⟨k + 1, by omega, by have := all_snoc (fun p : Tr n × Tr n => sm n p.1 p.2) HZ.out; rw [HA.out, HG.out] at this; exact this, by go_num, b2w.out⟩
          case measure => simp [intOf]; omega
        | false =>
          have HG : Hid _ := hgx
          clear hgx
          go_wp2
          go_ret
          exact ⟨by rw [HE.out, all_miss (fun p : Tr n × Tr n => sm n p.1 p.2) HZ.out HG.out]; rfl, b2w.out⟩
      · have hkn : kl = k := by omega
        subst hkn
        go_wp2
        go_ret
        have := HA.out
        rw [List.take_of_length_le (by rw [List.length_zip, L1.out, L2.out]; omega)] at this
        exact ⟨by rw [HE.out, this]; rfl, hb⟩
  · have HE : Hid (decide (l.length = m.length) = false) := by show _ = _; rw [L1.out, L2.out]; simpa using hne
    have q : ((kl : Int) == (ml : Int)) = false := by simp; omega
    go_enter Tryd.func30, Tryd.ntmps30
    go_wp2_with (fail)
    go_ret
    exact ⟨by rw [HE.out]; rfl, BW.refl _⟩

set_option maxRecDepth 100000 in
set_option maxHeartbeats 4000000 in
theorem same_any : ∀ (n : Nat) (v v' : Value) (a b : Tr n) (w : World), NodeAt w n v a → NodeAt w n v' b → Calls Tryd.prog 17 #[v, v'] w fun e w' => e = .returned (.bool (sm n a b)) ∧ BW w w' := by
  intro n
  induction n with
  | zero => intro v v' a b w h; exact h.elim
  | succ n ih =>
    intro v v' a b w h h'
    obtain ⟨na, nl, nc, ka, kl, kc, rfl, wf, a1, a2, a3, a4, s1, s2⟩ := h
    obtain ⟨na', nl', nc', ka', kl', kc', rfl, wf', a1', a2', a3', a4', s1', s2'⟩ := h'
    have HS : Hid (sm (n + 1) a b = (decide (Nd.k (K := Tr n) a = Nd.k (K := Tr n) b) && decide (Nd.n (K := Tr n) a = Nd.n (K := Tr n) b) && decide (Nd.s (K := Tr n) a = Nd.s (K := Tr n) b) && decide (Nd.ns (K := Tr n) a = Nd.ns (K := Tr n) b) && (decide ((Nd.ks (K := Tr n) a).length = (Nd.ks (K := Tr n) b).length) && ((Nd.ks (K := Tr n) a).zip (Nd.ks (K := Tr n) b)).all (fun p => sm n p.1 p.2)))) := rfl
    have E1 := strsEq_any na na' nl nc nl' nc' (Nd.ns (K := Tr n) a) (Nd.ns (K := Tr n) b)
    have E2 := equalFunc_any n ih ka ka' kl kc kl' kc' (Nd.ks (K := Tr n) a) (Nd.ks (K := Tr n) b)
    have E1' : Hid _ := E1
    have E2' : Hid _ := E2
    have S1 : Hid (StrsAt w na nl (Nd.ns (K := Tr n) a)) := s1
    have S2 : Hid (SeqAt (NodeAt w n) w ka kl (Nd.ks (K := Tr n) a)) := s2
    have S1' : Hid (StrsAt w na' nl' (Nd.ns (K := Tr n) b)) := s1'
    have S2' : Hid (SeqAt (NodeAt w n) w ka' kl' (Nd.ks (K := Tr n) b)) := s2'
    have A3 : Hid _ := a3
    have A3' : Hid _ := a3'
    clear ih s1 s2 wf a1 a2 a4 s1' s2' wf' a1' a2' a4' E1 E2 a3 a3'
    go_enter Tryd.func17, Tryd.ntmps17
    go_wp2_with (first
      | (go_at_call 29; refine (E1'.out _ (S1.out.bw (by repeat (first | exact BW.refl _ | assumption | apply BW.alloc | apply BW.drewN | apply BW.drew | (refine BW.setCell ?_ (by first | omega | (simp; done) | (simp; omega)) _) | (refine BW.trans ?_ (by assumption))))) (S1'.out.bw (by repeat (first | exact BW.refl _ | assumption | apply BW.alloc | apply BW.drewN | apply BW.drew | (refine BW.setCell ?_ (by first | omega | (simp; done) | (simp; omega)) _) | (refine BW.trans ?_ (by assumption)))))).mono ?_; rintro e w1 ⟨rfl, b1⟩; obtain ⟨⟨_, _, _, _, p4⟩, ⟨_, _, _, _, q4⟩, pz, pb⟩ := bx2_at b1; clear b1)
      | (go_at_call 30; refine (E2'.out _ (S2.out.bw (by repeat (first | exact BW.refl _ | assumption | apply BW.alloc | apply BW.drewN | apply BW.drew | (refine BW.setCell ?_ (by first | omega | (simp; done) | (simp; omega)) _) | (refine BW.trans ?_ (by assumption)))) (fun _ _ h => NodeAt.bw (by repeat (first | exact BW.refl _ | assumption | apply BW.alloc | apply BW.drewN | apply BW.drew | (refine BW.setCell ?_ (by first | omega | (simp; done) | (simp; omega)) _) | (refine BW.trans ?_ (by assumption)))) h)) (S2'.out.bw (by repeat (first | exact BW.refl _ | assumption | apply BW.alloc | apply BW.drewN | apply BW.drew | (refine BW.setCell ?_ (by first | omega | (simp; done) | (simp; omega)) _) | (refine BW.trans ?_ (by assumption)))) (fun _ _ h => NodeAt.bw (by repeat (first | exact BW.refl _ | assumption | apply BW.alloc | apply BW.drewN | apply BW.drew | (refine BW.setCell ?_ (by first | omega | (simp; done) | (simp; omega)) _) | (refine BW.trans ?_ (by assumption)))) h)) A3.out A3'.out).mono ?_; rintro e w2 ⟨rfl, b2⟩))
    all_goals (
      go_ret
      refine ⟨?_, (by repeat (first | exact BW.refl _ | assumption | apply BW.alloc | apply BW.drewN | apply BW.drew | (refine BW.setCell ?_ (by first | omega | (simp; done) | (simp; omega)) _) | (refine BW.trans ?_ (by assumption))))⟩
      rw [HS.out]
      simp_all [bytes_eq])

theorem StrsAt.getBoth {W : World} {ao ao' : Option Addr} {ln : Nat} {l l' : List ByteArray} (h : StrsAt W ao ln l) (h' : StrsAt W ao' ln l') {i : Nat} (hi : i < ln) :
    ∃ b off x b' off' x', ao = some ⟨b, off, none⟩ ∧ ao' = some ⟨b', off', none⟩ ∧ b < W.heap.size ∧ b' < W.heap.size ∧ l[i]? = some x ∧ l'[i]? = some x' ∧ W.cell? ⟨b, off + i, none⟩ = some (.string x) ∧ W.cell? ⟨b', off' + i, none⟩ = some (.string x') := by
  obtain ⟨b, off, x, e1, e2, e3, e4, e5⟩ := h.get hi
  obtain ⟨b', off', x', e1', e2', e3', e4', e5'⟩ := h'.get hi
  exact ⟨b, off, x, b', off', x', e1, e1', e2, e2', e3, e3', e5, e5'⟩
theorem take_all_eq {l m : List ByteArray} (h : l.length = m.length) (k : ∀ (i : Nat) x y, l[i]? = some x → m[i]? = some y → x = y) : l = m := by
  apply List.ext_getElem? 
  intro i
  rcases Nat.lt_or_ge i l.length with hi | hi
  · rw [List.getElem?_eq_getElem hi, List.getElem?_eq_getElem (by omega)]
    exact congrArg some (k i _ _ (List.getElem?_eq_getElem hi) (List.getElem?_eq_getElem (by omega)))
  · rw [List.getElem?_eq_none hi, List.getElem?_eq_none (by omega)]
set_option maxRecDepth 100000 in
set_option maxHeartbeats 4000000 in
theorem refSame_any : ∀ (n : Nat) (v v' : Value) (a b : Tr n) (w : World), NodeAt w n v a → NodeAt w n v' b → Calls Tryd.prog 16 #[v, v'] w fun e w' => e = .returned (.bool (sm n a b)) ∧ BW w w' := by
  intro n
  induction n with
  | zero => intro v v' a b w h; exact h.elim
  | succ n ih =>
    intro v v' a b w h h'
    obtain ⟨na, nl, nc, ka, kl, kc, rfl, wf, a1, a2, a3, a4, s1, s2⟩ := h
    obtain ⟨na', nl', nc', ka', kl', kc', rfl, wf', a1', a2', a3', a4', s1', s2'⟩ := h'
    have HS : Hid (sm (n + 1) a b = (decide (Nd.k (K := Tr n) a = Nd.k (K := Tr n) b) && decide (Nd.n (K := Tr n) a = Nd.n (K := Tr n) b) && decide (Nd.s (K := Tr n) a = Nd.s (K := Tr n) b) && decide (Nd.ns (K := Tr n) a = Nd.ns (K := Tr n) b) && (decide ((Nd.ks (K := Tr n) a).length = (Nd.ks (K := Tr n) b).length) && ((Nd.ks (K := Tr n) a).zip (Nd.ks (K := Tr n) b)).all (fun p => sm n p.1 p.2)))) := rfl
    have IH : Hid _ := ih
    have hml : kl ≤ 9223372036854775807 := by unfold maxLen at a4; omega
    have hmn : nl ≤ 9223372036854775807 := by unfold maxLen at a2; omega
    have hml' : kl' ≤ 9223372036854775807 := by unfold maxLen at a4'; omega
    have hmn' : nl' ≤ 9223372036854775807 := by unfold maxLen at a2'; omega
    have S1 : Hid (StrsAt w na nl (Nd.ns (K := Tr n) a)) := s1
    have S2 : Hid (SeqAt (NodeAt w n) w ka kl (Nd.ks (K := Tr n) a)) := s2
    have S1' : Hid (StrsAt w na' nl' (Nd.ns (K := Tr n) b)) := s1'
    have S2' : Hid (SeqAt (NodeAt w n) w ka' kl' (Nd.ks (K := Tr n) b)) := s2'
    have l1 : Hid _ := s1.1
    have l2 : Hid _ := s2.1
    have l1' : Hid _ := s1'.1
    have l2' : Hid _ := s2'.1
    clear ih s1 s2 wf a1 a2 a4 s1' s2' wf' a1' a2' a4'
    generalize Nd.k (K := Tr n) a = xk at *
    generalize Nd.k (K := Tr n) b = yk at *
    generalize Nd.n (K := Tr n) a = xn at *
    generalize Nd.n (K := Tr n) b = yn at *
    generalize Nd.s (K := Tr n) a = xs at *
    generalize Nd.s (K := Tr n) b = ys at *
    generalize Nd.ns (K := Tr n) a = xl at *
    generalize Nd.ns (K := Tr n) b = yl at *
    generalize Nd.ks (K := Tr n) a = xq at *
    generalize Nd.ks (K := Tr n) b = yq at *
    generalize sm (n + 1) a b = res at *
    by_cases hbad : xk = yk ∧ xn = yn ∧ xs = ys ∧ nl = nl' ∧ kl = kl'
    · obtain ⟨rfl, rfl, rfl, rfl, rfl⟩ := hbad
      go_enter Tryd.func16, Tryd.ntmps16
      go_wp2_with (fail)
      go_loopw [47] (fun i w' => ∃ k : Nat, k ≤ nl ∧ Hid (∀ (i : Nat) x y, i < k → xl[i]? = some x → yl[i]? = some y → x = y) ∧ i = .int .i64 k ∧ BW (bx (bx w xk xn xs na nl nc ka kl kc) xk xn xs na' nl nc' ka' kl kc') w') (fun i _ => nl - (intOf i).toNat)
      case atStart => exact ⟨0, Nat.zero_le _, fun i x y h => by omega, rfl, (by repeat (first | exact BW.refl _ | apply BW.alloc | apply BW.drewN | apply BW.drew))⟩
      case round =>
        obtain ⟨k, hk, HA, rfl, hb1⟩ := hrel
        obtain ⟨⟨_, _, _, p3, p4⟩, ⟨_, _, _, q3, q4⟩, pz, hb⟩ := bx2_at hb1
        by_cases hlt : k < nl
        · obtain ⟨b1, off1, x, b2, off2, x', rfl, rfl, hl1, hl2, hx, hx', hc, hc'⟩ := S1.out.getBoth S1'.out hlt
          rw [← hb.cells b1 _ hl1] at hc
          rw [← hb.cells b2 _ hl2] at hc'
          have HX : Hid _ := hx
          have HX' : Hid _ := hx'
          clear hx hx'
          by_cases he : x = x'
          · have he' := (bytes_eq x x').2 he
            go_wp2_with (fail)
            go_quiet (fail)
            go_wp2_with (fail)
            refine ⟨⟨k + 1, by omega, (fun i z y hi hz hy => ?_ : ∀ (i : Nat) x y, i < k + 1 → xl[i]? = some x → yl[i]? = some y → x = y), by go_num, BW.drewN hb1 _⟩, by simp [intOf]; omega⟩
            rcases Nat.lt_or_ge i k with h | h
            · exact HA.out i z y h hz hy
            · obtain rfl : i = k := by omega
              have e1 := HX.out; have e2 := HX'.out
              rw [hz] at e1; rw [hy] at e2; cases e1; cases e2; exact he
          · have he' : ¬ x.toList = x'.toList := fun e => he ((bytes_eq x x').1 e)
            have he2 : (x.toList == x'.toList) = false := by simpa using he'
            have HR : Hid (res = false) := by
              show res = false
              rw [HS.out]
              have : ¬ xl = yl := fun e => by subst e; have e1 := HX.out; rw [HX'.out] at e1; cases e1; exact he rfl
              simp [this]
            go_wp2_with (fail)
            go_quiet (fail)
            go_wp2_with (fail)
            go_ret
            exact ⟨by rw [HR.out]; rfl, BW.drewN hb _⟩
        · have hkn : nl = k := by omega
          subst hkn
          have HL : Hid (xl = yl) := take_all_eq (by rw [l1.out, l1'.out]) (fun i x y hx hy => HA.out i x y (by have := (List.getElem?_eq_some_iff.1 hx).1; rw [l1.out] at this; exact this) hx hy)
          go_wp2_with (fail)
          go_loopw [65] (fun i w' => ∃ k : Nat, k ≤ kl ∧ Hid (((xq.zip yq).take k).all (fun p => sm n p.1 p.2) = true) ∧ i = .int .i64 k ∧ BW (bx (bx w xk xn xs na nl nc ka kl kc) xk xn xs na' nl nc' ka' kl kc') w') (fun i _ => kl - (intOf i).toNat)
          case atStart => exact ⟨0, Nat.zero_le _, by simp [Hid], rfl, hb1⟩
          case round =>
            clear p3 p4 q3 q4 hb1 pz hb
            obtain ⟨k, hk, HB, rfl, hb1⟩ := hrel
            obtain ⟨⟨_, _, _, p3, p4⟩, ⟨_, _, _, q3, q4⟩, pz, hb⟩ := bx2_at hb1
            by_cases hlt : k < kl
            · obtain ⟨b1, off1, x, rfl, hbl, hx, r, hr, hax⟩ := SeqAt.get S2.out hlt
              obtain ⟨b2, off2, x', rfl, hbl', hx', r', hr', hax'⟩ := SeqAt.get S2'.out hlt
              have HX : Hid (NodeAt w n r.v x) := hax
              have HX' : Hid (NodeAt w n r'.v x') := hax'
              have HZ : Hid _ := zip_get hx hx'
              obtain ⟨d0, d1, d2, d3, d4⟩ := hr.bw hb hbl
              obtain ⟨c0, c1, c2, c3, c4⟩ := hr'.bw hb hbl'
              have hz := hb.size
              clear hax hx hr hax' hx' hr'
              have C := fun w2 (h : BW wr w2) => IH.out r.v r'.v x x' w2 (HX.out.bw (BW.trans hb h)) (HX'.out.bw (BW.trans hb h))
              have C' : Hid _ := C
              clear C
              go_wp2_with (fail)
              go_region_held3 (fun w' => BW wr w' ∧ w'.cell? ⟨w.heap.size, 4, none⟩ = some (.slice (some ⟨b1, off1, none⟩) kl kc) ∧ w'.cell? ⟨w.heap.size + 1, 4, none⟩ = some (.slice (some ⟨b2, off2, none⟩) kl kc') ∧ w'.cell? ⟨b1, off1 + k * 5, none⟩ = some (.int .u8 r.k) ∧ w'.cell? ⟨b1, off1 + k * 5 + 1, none⟩ = some (.int .i64 r.n) ∧ w'.cell? ⟨b1, off1 + k * 5 + 2, none⟩ = some (.string r.s) ∧ w'.cell? ⟨b1, off1 + k * 5 + 3, none⟩ = some (.slice r.na r.nl r.nc) ∧ w'.cell? ⟨b1, off1 + k * 5 + 4, none⟩ = some (.slice r.ka r.kl r.kc) ∧ w'.cell? ⟨b2, off2 + k * 5, none⟩ = some (.int .u8 r'.k) ∧ w'.cell? ⟨b2, off2 + k * 5 + 1, none⟩ = some (.int .i64 r'.n) ∧ w'.cell? ⟨b2, off2 + k * 5 + 2, none⟩ = some (.string r'.s) ∧ w'.cell? ⟨b2, off2 + k * 5 + 3, none⟩ = some (.slice r'.na r'.nl r'.nc) ∧ w'.cell? ⟨b2, off2 + k * 5 + 4, none⟩ = some (.slice r'.ka r'.kl r'.kc)) ((refine ⟨(by repeat (first | exact BW.refl _ | assumption | apply BW.alloc | apply BW.drewN | apply BW.drew | (refine BW.setCell ?_ (by first | omega | (simp; done) | (simp; omega)) _) | (refine BW.trans ?_ (by assumption)))), ?_⟩; go_keep)) (first | (go_at_call 16; refine (C'.out _ (by repeat (first | exact BW.refl _ | assumption | apply BW.alloc | apply BW.drewN | apply BW.drew | (refine BW.setCell ?_ (by first | omega | (simp; done) | (simp; omega)) _) | (refine BW.trans ?_ (by assumption))))).mono ?_; rintro e w2 ⟨rfl, bb⟩; have z1 := fun o => bb.cells b1 o (by simp; omega); have z2 := fun o => bb.cells b2 o (by simp; omega); have z3 := fun o => bb.cells w.heap.size o (by simp; omega); have z4 := fun o => bb.cells (w.heap.size + 1) o (by simp; omega)))
              all_goals clear z1 z2 z3 z4
              all_goals have bw2 : Hid (BW (bx (bx w xk xn xs na nl nc (some ⟨b1, off1, none⟩) kl kc) xk xn xs na' nl nc' (some ⟨b2, off2, none⟩) kl kc') w2) := BW.trans (BW.drew hb1) bb
              all_goals cases hgx : sm n x x'
              · have HG : Hid _ := hgx
                clear hgx
                have HR : Hid (res = false) := by
                  show res = false
                  rw [HS.out, all_miss (fun p : Tr n × Tr n => sm n p.1 p.2) HZ.out HG.out]; simp
                go_wp2_with (fail)
                go_ret
                exact ⟨by rw [HR.out]; rfl, (bx2_at bw2.out).2.2.2⟩
              · have HG : Hid _ := hgx
                clear hgx
                go_wp2_with (fail)
                go_roundw
                case rel => exact ⟨k + 1, by omega, by have := all_snoc (fun p : Tr n × Tr n => sm n p.1 p.2) HZ.out; rw [HB.out, HG.out] at this; exact this, by go_num, bw2.out⟩
                case measure => simp [intOf]; omega
            · have hkn : kl = k := by omega
              subst hkn
              have := HB.out
              rw [List.take_of_length_le (by rw [List.length_zip, l2.out, l2'.out]; omega)] at this
              have HR : Hid (res = true) := by
                show res = true
                rw [HS.out, this, HL.out]; simp [l2.out, l2'.out]
              clear this
              go_wp2_with (fail)
              go_ret
              exact ⟨by rw [HR.out]; rfl, hb⟩
    · have HR : Hid (res = false) := by
        show res = false
        rw [HS.out]
        simp only [l2.out, l2'.out]
        by_cases h1 : xl = yl
        · have : nl = nl' := by rw [← l1.out, ← l1'.out, h1]
          have h2 : ¬ (xk = yk ∧ xn = yn ∧ xs = ys ∧ kl = kl') := fun ⟨p, q, r, s⟩ => hbad ⟨p, q, r, this, s⟩
          by_cases p : xk = yk
          · by_cases q : xn = yn
            · by_cases r : xs = ys
              · have s : ¬ kl = kl' := fun s => h2 ⟨p, q, r, s⟩
                simp [s]
              · simp [r]
            · simp [q]
          · simp [p]
        · simp [h1]
      have hbad' : ¬ (xk = yk ∧ xn = yn ∧ xs.toList = ys.toList ∧ nl = nl' ∧ kl = kl') := by rw [bytes_eq]; exact hbad
      have HBAD : Hid _ := hbad'
      clear hbad hbad'
      go_enter Tryd.func16, Tryd.ntmps16
      go_wp2_with (fail)
      all_goals (first | (go_ret; exact ⟨by rw [HR.out]; rfl, (by repeat (first | exact BW.refl _ | assumption | apply BW.alloc | apply BW.drewN | apply BW.drew | (refine BW.setCell ?_ (by first | omega | (simp; done) | (simp; omega)) _) | (refine BW.trans ?_ (by assumption))))⟩) | (exfalso; have hx := HBAD.out; simp_all; omega))

end Go.Proofs.YtiokcokmpmpcfaaDoor
