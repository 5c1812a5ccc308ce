import Derived.Test.YtiokcokmpmpcfaaDoorP2
import Derived.Test.YtiokcokmpmpcfaaDoorP3
import Derived.Test.YtiokcokmpmpcfaaDoorP4
import Derived.Test.YtiokcokmpmpcfaaDoorP5
namespace Go.Proofs.YtiokcokmpmpcfaaDoor
open Go.RowKit
set_option linter.unusedVariables false
set_option linter.unusedSimpArgs false

def RefPrint (n : Nat) : Prop := ∀ (v : Value) (t : Tr n) (w : World), NodeAt w n v t → rt n t = true → Sm n t → wt n t ≤ 10000000000000 → sz n t ≤ 2000000 → Calls Tryd.prog 15 #[v] w fun e w' => e = .returned (.string (txB n t)) ∧ BW w w'
set_option maxRecDepth 100000 in
set_option maxHeartbeats 1000000 in
theorem rp_1 (w : World) (tn : Int) (ts : ByteArray) (na : Option Addr) (nl nc : Nat) (ka : Option Addr) (kl kc : Nat) (h0 : -9223372036854775808 ≤ tn) (h1 : tn ≤ 9223372036854775807) : Calls Tryd.prog 15 #[ndv 1 tn ts na nl nc ka kl kc] w fun e w' => e = .returned (.string ⟨(Lib.itoa tn).toArray⟩) ∧ BW w w' := by
  have C : Hid (∀ w, Calls Tryd.prog 26 #[.int .i64 tn] w fun e w' => e = .returned (.string ⟨(Lib.itoa tn).toArray⟩) ∧ BW w w') := fun w => number_any tn h0 h1 w
  clear h0 h1
  generalize (⟨(Lib.itoa tn).toArray⟩ : ByteArray) = R at *
  go_enter Tryd.func15, Tryd.ntmps15
  go_wp2_with (go_at_call 26; refine (C.out _).mono ?_; rintro e w2 ⟨rfl, b2⟩)
  go_ret
  exact ⟨rfl, (by repeat (first | exact BW.refl _ | assumption | apply BW.alloc | apply BW.drewN | apply BW.drew | (refine BW.setCell ?_ (by first | omega | (simp; done) | (simp; omega)) _) | (refine BW.trans ?_ (by assumption))))⟩
set_option maxRecDepth 100000 in
set_option maxHeartbeats 1000000 in
theorem rp_2 (w : World) (tn : Int) (ts : ByteArray) (na : Option Addr) (nl nc : Nat) (ka : Option Addr) (kl kc : Nat) (h : tn = 0 ∨ tn = 1) : Calls Tryd.prog 15 #[ndv 2 tn ts na nl nc ka kl kc] w fun e w' => e = .returned (.string ⟨(Lib.formatBool (tn == 1)).toArray⟩) ∧ BW w w' := by
  rcases h with rfl | rfl
  · go_enter Tryd.func15, Tryd.ntmps15
    go_wp2_with (fail)
    go_ret
    exact ⟨rfl, (by repeat (first | exact BW.refl _ | assumption | apply BW.alloc | apply BW.drewN | apply BW.drew | (refine BW.setCell ?_ (by first | omega | (simp; done) | (simp; omega)) _) | (refine BW.trans ?_ (by assumption))))⟩
  · go_enter Tryd.func15, Tryd.ntmps15
    go_wp2_with (fail)
    go_ret
    exact ⟨rfl, (by repeat (first | exact BW.refl _ | assumption | apply BW.alloc | apply BW.drewN | apply BW.drew | (refine BW.setCell ?_ (by first | omega | (simp; done) | (simp; omega)) _) | (refine BW.trans ?_ (by assumption))))⟩
set_option maxRecDepth 100000 in
set_option maxHeartbeats 1000000 in
theorem rp_3 (w : World) (tn : Int) (ts : ByteArray) (na : Option Addr) (nl nc : Nat) (ka : Option Addr) (kl kc : Nat) (h : ts.size ≤ 70000) : Calls Tryd.prog 15 #[ndv 3 tn ts na nl nc ka kl kc] w fun e w' => e = .returned (.string ⟨(quo ts.data.toList).toArray⟩) ∧ BW w w' := by
  have C : Hid (∀ w, Calls Tryd.prog 27 #[.string ts] w fun e w' => e = .returned (.string ⟨(quo ts.data.toList).toArray⟩) ∧ BW w w') := fun w => refQuote_any ts h w
  clear h
  generalize (⟨(quo ts.data.toList).toArray⟩ : ByteArray) = R at *
  go_enter Tryd.func15, Tryd.ntmps15
  go_wp2_with (go_at_call 27; refine (C.out _).mono ?_; rintro e w2 ⟨rfl, b2⟩)
  go_ret
  exact ⟨rfl, (by repeat (first | exact BW.refl _ | assumption | apply BW.alloc | apply BW.drewN | apply BW.drew | (refine BW.setCell ?_ (by first | omega | (simp; done) | (simp; omega)) _) | (refine BW.trans ?_ (by assumption))))⟩
set_option maxRecDepth 100000 in
set_option maxHeartbeats 1000000 in
theorem rp_4 (w : World) (tn : Int) (ts : ByteArray) (na : Option Addr) (nl nc : Nat) (ka : Option Addr) (kl kc : Nat) : Calls Tryd.prog 15 #[ndv 4 tn ts na nl nc ka kl kc] w fun e w' => e = .returned (.string ⟨#[117, 110, 105, 116]⟩) ∧ BW w w' := by
  go_enter Tryd.func15, Tryd.ntmps15
  go_wp2_with (fail)
  go_ret
  exact ⟨rfl, (by repeat (first | exact BW.refl _ | assumption | apply BW.alloc | apply BW.drewN | apply BW.drew | (refine BW.setCell ?_ (by first | omega | (simp; done) | (simp; omega)) _) | (refine BW.trans ?_ (by assumption))))⟩
set_option maxRecDepth 100000 in
set_option maxHeartbeats 1000000 in
theorem rp_5 (w : World) (tn : Int) (ts : ByteArray) (na : Option Addr) (nl nc : Nat) (ka : Option Addr) (kl kc : Nat) : Calls Tryd.prog 15 #[ndv 5 tn ts na nl nc ka kl kc] w fun e w' => e = .returned (.string ts) ∧ BW w w' := by
  go_enter Tryd.func15, Tryd.ntmps15
  go_wp2_with (fail)
  go_ret
  exact ⟨rfl, (by repeat (first | exact BW.refl _ | assumption | apply BW.alloc | apply BW.drewN | apply BW.drew | (refine BW.setCell ?_ (by first | omega | (simp; done) | (simp; omega)) _) | (refine BW.trans ?_ (by assumption))))⟩
theorem fl_txB {n : Nat} (l : List (Tr n)) : fl (l.map (txB n)) = l.flatMap (fun x => 32 :: txt n x) := by
  induction l with
  | nil => rfl
  | cons a r ih =>
    simp only [fl, List.map_cons, List.flatMap_cons] at *
    rw [ih]
    simp [txB]
theorem bj_app (l m : List ByteArray) (h : l ≠ []) : bj (l ++ m) = bj l ++ fl m := by
  cases l with
  | nil => exact (h rfl).elim
  | cons a r =>
    rw [List.cons_append, bj_fl, bj_fl]
    simp [fl]
theorem wt_all {n : Nat} (l : List (Tr n)) : ∀ x ∈ l, wt n x ≤ (l.map (wt n)).sum := by
  induction l with
  | nil => intro x h; cases h
  | cons a r ih =>
    intro x hx
    simp only [List.map_cons, List.sum_cons]
    rcases List.mem_cons.1 hx with rfl | hx
    · omega
    · have := ih x hx; omega
/-- What the whole list comes to. -/
theorem fin_of {n : Nat} {t : Tr (n + 1)} {k : Nat} (hk : Nd.k (K := Tr n) t = k) (h6 : 6 ≤ k) (L : List ByteArray) (hL : L = opn (hdB k) k (Nd.s (K := Tr n) t) (Nd.ns (K := Tr n) t)) (hne : L ≠ []) (hsm : Sm (n + 1) t) (hwt : wt (n + 1) t ≤ 10000000000000) (hnm : ∀ s ∈ Nd.ns (K := Tr n) t, s.size ≤ maxLen) :
    (∀ s ∈ L ++ (Nd.ks (K := Tr n) t).map (txB n), s.size ≤ maxLen) ∧ (bj (L ++ (Nd.ks (K := Tr n) t).map (txB n))).length ≤ 140000000000000 ∧ (⟨#[40]⟩ : ByteArray) ++ bjB (L ++ (Nd.ks (K := Tr n) t).map (txB n)) ++ ⟨#[41]⟩ = txB (n + 1) t := by
  have e : wt (n + 1) t = 8 * (Nd.s (K := Tr n) t).size + (bj (Nd.ns (K := Tr n) t)).length + 100 + ((Nd.ks (K := Tr n) t).map (wt n)).sum := rfl
  have hlen := txt_wt (n + 1) t hsm
  have ht : txt (n + 1) t = 40 :: bj L ++ (Nd.ks (K := Tr n) t).flatMap (fun x => 32 :: txt n x) ++ [41] := by
    have e0 : txt (n + 1) t = if (Nd.k (K := Tr n) t) = 1 then Lib.itoa (Nd.n (K := Tr n) t) else if (Nd.k (K := Tr n) t) = 2 then Lib.formatBool ((Nd.n (K := Tr n) t) == 1) else if (Nd.k (K := Tr n) t) = 3 then quo (Nd.s (K := Tr n) t).data.toList else if (Nd.k (K := Tr n) t) = 4 then [117, 110, 105, 116] else if (Nd.k (K := Tr n) t) = 5 then (Nd.s (K := Tr n) t).data.toList else
      40 :: bj (opn (hdB (Nd.k (K := Tr n) t).toNat) (Nd.k (K := Tr n) t) (Nd.s (K := Tr n) t) (Nd.ns (K := Tr n) t)) ++ (Nd.ks (K := Tr n) t).flatMap (fun x => 32 :: txt n x) ++ [41] := rfl
    rw [e0, if_neg (by omega), if_neg (by omega), if_neg (by omega), if_neg (by omega), if_neg (by omega), hk, Int.toNat_natCast, hL]
  have hb : bj (L ++ (Nd.ks (K := Tr n) t).map (txB n)) = bj L ++ (Nd.ks (K := Tr n) t).flatMap (fun x => 32 :: txt n x) := by rw [bj_app _ _ hne, fl_txB]
  obtain ⟨_, _, hj, hs, hkid⟩ := hsm
  refine ⟨?_, ?_, ?_⟩
  · intro s hs'
    rcases List.mem_append.1 hs' with h | h
    · rw [hL] at h
      exact opn_small (hdB k) k _ _ (by have := hd_size k; unfold maxLen; omega) (by unfold maxLen; omega) hnm hj s h
    · obtain ⟨x, hx, rfl⟩ := List.mem_map.1 h
      have h1 := txt_wt n x (hkid x hx)
      have h2 := wt_all _ x hx
      have : (txB n x).size = (txt n x).length := by simp [txB, ByteArray.size]
      unfold maxLen; omega
  · rw [hb]
    rw [ht] at hlen
    simp only [List.length_append, List.length_cons, List.length_nil] at hlen ⊢
    omega
  · apply ByteArray.ext
    apply Array.toList_inj.1
    unfold bjB
    rw [hb]
    simp [txB, ht, ByteArray.data_append]
theorem refPrint_any : ∀ n, RefPrint n := by
  intro n
  induction n with
  | zero => intro v t; exact t.elim
  | succ n ih =>
    intro v t w h hrt hsm hwt hsz
    obtain ⟨k, hk, fk⟩ := rt_fk hrt
    obtain ⟨na, nl, nc, ka, kl, kc, rfl, wf, a1, a2, a3, a4, s1, s2⟩ := h
    have hk1 := fk.k1
    have hk2 := fk.k2
    rw [hk]
    by_cases h5 : k ≤ 5
    · rcases (by omega : k = 1 ∨ k = 2 ∨ k = 3 ∨ k = 4 ∨ k = 5) with rfl | rfl | rfl | rfl | rfl
      · unfold txB; rw [txt_1 hk]; exact rp_1 w _ _ na nl nc ka kl kc wf.n0 wf.n1
      · unfold txB; rw [txt_2 hk]; exact rp_2 w _ _ na nl nc ka kl kc (fk.n2 rfl)
      · unfold txB; rw [txt_3 hk]
        refine rp_3 w _ _ na nl nc ka kl kc ?_
        obtain ⟨⟨s, hs, hsu⟩, _⟩ := rt_kids hrt
        rw [hk] at hs
        cases hs
        have := (su_all hsu).1
        have e : tx 35 (Nd.s (K := Tr n) t) = decide ((Nd.s (K := Tr n) t).size ≤ 65536) := rfl
        rw [e] at this
        simp only [decide_eq_true_eq] at this
        omega
      · unfold txB; rw [txt_4 hk]; exact rp_4 w _ _ na nl nc ka kl kc
      · unfold txB; rw [txt_5 hk]
        exact rp_5 w _ _ na nl nc ka kl kc
    · have h6 : 6 ≤ k := by omega
      have hsm' := hsm
      obtain ⟨_, hn2, hj, hs, hkid⟩ := hsm
      have L1 : (Nd.ns (K := Tr n) t).length = nl := s1.1
      have L2 : (Nd.ks (K := Tr n) t).length = kl := s2.1
      have hkl : kl ≤ 2000000 := by have := ks_sz t; omega
      have e : wt (n + 1) t = 8 * (Nd.s (K := Tr n) t).size + (bj (Nd.ns (K := Tr n) t)).length + 100 + ((Nd.ks (K := Tr n) t).map (wt n)).sum := rfl
      have IH : Hid (∀ v x w', NodeAt w' n v x → x ∈ Nd.ks (K := Tr n) t → Calls Tryd.prog 15 #[v] w' fun e w'' => e = .returned (.string (txB n x)) ∧ BW w' w'') := fun v x w' hN hx =>
        ih v x w' hN ((rt_kids hrt).2 x hx) (hkid x hx) (by have := wt_all _ x hx; omega) (by have := sz_kid hx; omega)
      have HSX : Hid (∀ x ∈ Nd.ks (K := Tr n) t, (txB n x).size ≤ maxLen) := fun x hx => by
        have h1 := txt_wt n x (hkid x hx)
        have h2 := wt_all _ x hx
        have : (txB n x).size = (txt n x).length := by simp [txB, ByteArray.size]
        unfold maxLen; omega
      have F := fun L hL hne => fin_of hk h6 L hL hne hsm' hwt s1.2.2.1
      have hnw : nmB (Nd.s (K := Tr n) t) = true → ¬ Nd.s (K := Tr n) t = ⟨#[]⟩ := fun h he => by
        have := (nm_word h).2.1
        rw [he] at this
        exact this rfl
      by_cases h11 : k = 11
      · subst h11
        have hl0 : Nd.ns (K := Tr n) t = [] := by have := fk.nl (by decide); exact List.eq_nil_of_length_eq_zero (by simpa using this)
        have hne : ¬ Nd.s (K := Tr n) t = ⟨#[]⟩ := fun he => by
          have h1 := fk.tx
          simp at h1
          have := (tk_word h1).2
          rw [he] at this
          exact this rfl
        obtain ⟨f1, f2, f3⟩ := F [Nd.s (K := Tr n) t] rfl (by simp)
        exact refPrint_11 11 _ _ na nl nc ka kl kc _ _ w _ a1 a2 a3 hkl (by omega) s1 s2 hs hj IH HSX hne hl0 f1 f2 f3
      · by_cases hk6 : k = 6
        · subst hk6
          have hne : ¬ Nd.s (K := Tr n) t = ⟨#[]⟩ := hnw (by have := fk.tx; simpa using this)
          obtain ⟨f1, f2, f3⟩ := F [⟨#[102, 117, 110]⟩, Nd.s (K := Tr n) t, ⟨#[40]⟩ ++ bjB (Nd.ns (K := Tr n) t) ++ ⟨#[41]⟩] rfl (by simp)
          exact refPrint_6 6 _ _ na nl nc ka kl kc _ _ w _ a1 a2 a3 hkl (by omega) s1 s2 hs hj IH HSX hne f1 f2 f3
        · by_cases he : Nd.s (K := Tr n) t = ⟨#[]⟩
          · obtain ⟨f1, f2, f3⟩ := F ([hdB k] ++ Nd.ns (K := Tr n) t) (by unfold opn; rw [if_neg (by omega), if_neg (by omega), if_pos he]; rfl) (by simp)
            exact refPrint_c k _ _ na nl nc ka kl kc _ _ w _ a1 a2 a3 hkl (by omega) s1 s2 hs hj IH HSX h6 hk2 h11 hk6 he f1 f2 f3
          · obtain ⟨f1, f2, f3⟩ := F ([hdB k, Nd.s (K := Tr n) t] ++ Nd.ns (K := Tr n) t) (by unfold opn; rw [if_neg (by omega), if_neg (by omega), if_neg he]; rfl) (by simp)
            exact refPrint_d k _ _ na nl nc ka kl kc _ _ w _ a1 a2 a3 hkl (by omega) s1 s2 hs hj IH HSX h6 hk2 h11 hk6 he f1 f2 f3

end Go.Proofs.YtiokcokmpmpcfaaDoor
