import Derived.Test.YtiokcokmpmpcfaaDoorI1
namespace Go.Proofs.YtiokcokmpmpcfaaDoor
open Go.RowKit
set_option linter.unusedVariables false
set_option linter.unusedSimpArgs false

/-- What a right node's own fields are. -/
structure Fk (k : Nat) (n : Int) (x : ByteArray) (ns : List ByteArray) (kl : Nat) : Prop where
  k1 : 1 ≤ k
  k2 : k ≤ 19
  nm : ∀ s ∈ ns, nmB s = true
  n0 : 3 ≤ k → n = 0
  n2 : k = 2 → n = 0 ∨ n = 1
  kl : k ≤ 5 → kl = 0
  nl : ¬ k = 6 → ns.length = if k = 17 then 1 else if k = 18 then 2 else 0
  tx : if k = 5 ∨ k = 6 ∨ k = 8 ∨ k = 12 ∨ k = 18 then nmB x = true else if k = 11 then 0 ≤ tk x.data.toList else if k = 3 then True else x = ⟨#[]⟩
theorem su_all {s : Shp} {k n : Int} {x : ByteArray} {ns : List ByteArray} {kl : Nat} (h : su s k n x ns kl = true) : tx s.f x = true ∧ (s.n0 ≤ n ∧ n ≤ s.n1) ∧ (s.a0 ≤ (ns.length : Int) ∧ (ns.length : Int) ≤ s.a1) ∧ (s.p0 ≤ (kl : Int) ∧ (kl : Int) ≤ s.p1) ∧ ∀ s ∈ ns, nmB s = true := by
  unfold su at h
  simp only [Bool.and_eq_true, decide_eq_true_eq] at h
  obtain ⟨⟨⟨⟨⟨⟨h1, h2⟩, h3⟩, h4⟩, _⟩, h5⟩, _⟩ := h
  exact ⟨h1, h2, h3, h4, fun s hs => List.all_eq_true.1 h5 s hs⟩
theorem fk_of : ∀ (k : Nat) (s : Shp) (n : Int) (x : ByteArray) (ns : List ByteArray) (kl : Nat), shp k = some s → su s k n x ns kl = true → Fk k n x ns kl
  | 0, s, n, x, ns, kl, h, hs => by cases h
  | 1, s, n, x, ns, kl, h, hs => by
    cases h
    obtain ⟨h1, h2, h3, h4, h5⟩ := su_all hs
    simp only at h2 h3 h4
    exact ⟨by decide, by decide, h5, by intro h; omega, by intro h; omega, by intro h; omega, by intro h; rw [if_neg (by decide), if_neg (by decide)]; omega, by simpa [tx] using h1⟩
  | 2, s, n, x, ns, kl, h, hs => by
    cases h
    obtain ⟨h1, h2, h3, h4, h5⟩ := su_all hs
    simp only at h2 h3 h4
    exact ⟨by decide, by decide, h5, by intro h; omega, by intro h; omega, by intro h; omega, by intro h; rw [if_neg (by decide), if_neg (by decide)]; omega, by simpa [tx] using h1⟩
  | 3, s, n, x, ns, kl, h, hs => by
    cases h
    obtain ⟨h1, h2, h3, h4, h5⟩ := su_all hs
    simp only at h2 h3 h4
    exact ⟨by decide, by decide, h5, by intro h; omega, by intro h; omega, by intro h; omega, by intro h; rw [if_neg (by decide), if_neg (by decide)]; omega, by simp⟩
  | 4, s, n, x, ns, kl, h, hs => by
    cases h
    obtain ⟨h1, h2, h3, h4, h5⟩ := su_all hs
    simp only at h2 h3 h4
    exact ⟨by decide, by decide, h5, by intro h; omega, by intro h; omega, by intro h; omega, by intro h; rw [if_neg (by decide), if_neg (by decide)]; omega, by simpa [tx] using h1⟩
  | 5, s, n, x, ns, kl, h, hs => by
    cases h
    obtain ⟨h1, h2, h3, h4, h5⟩ := su_all hs
    simp only at h2 h3 h4
    exact ⟨by decide, by decide, h5, by intro h; omega, by intro h; omega, by intro h; omega, by intro h; rw [if_neg (by decide), if_neg (by decide)]; omega, by simpa [tx] using h1⟩
  | 6, s, n, x, ns, kl, h, hs => by
    cases h
    obtain ⟨h1, h2, h3, h4, h5⟩ := su_all hs
    simp only at h2 h3 h4
    exact ⟨by decide, by decide, h5, by intro h; omega, by intro h; omega, by intro h; omega, by intro h; exact absurd rfl h, by simpa [tx] using h1⟩
  | 7, s, n, x, ns, kl, h, hs => by
    cases h
    obtain ⟨h1, h2, h3, h4, h5⟩ := su_all hs
    simp only at h2 h3 h4
    exact ⟨by decide, by decide, h5, by intro h; omega, by intro h; omega, by intro h; omega, by intro h; rw [if_neg (by decide), if_neg (by decide)]; omega, by simpa [tx] using h1⟩
  | 8, s, n, x, ns, kl, h, hs => by
    cases h
    obtain ⟨h1, h2, h3, h4, h5⟩ := su_all hs
    simp only at h2 h3 h4
    exact ⟨by decide, by decide, h5, by intro h; omega, by intro h; omega, by intro h; omega, by intro h; rw [if_neg (by decide), if_neg (by decide)]; omega, by simpa [tx] using h1⟩
  | 9, s, n, x, ns, kl, h, hs => by
    cases h
    obtain ⟨h1, h2, h3, h4, h5⟩ := su_all hs
    simp only at h2 h3 h4
    exact ⟨by decide, by decide, h5, by intro h; omega, by intro h; omega, by intro h; omega, by intro h; rw [if_neg (by decide), if_neg (by decide)]; omega, by simpa [tx] using h1⟩
  | 10, s, n, x, ns, kl, h, hs => by
    cases h
    obtain ⟨h1, h2, h3, h4, h5⟩ := su_all hs
    simp only at h2 h3 h4
    exact ⟨by decide, by decide, h5, by intro h; omega, by intro h; omega, by intro h; omega, by intro h; rw [if_neg (by decide), if_neg (by decide)]; omega, by simpa [tx] using h1⟩
  | 11, s, n, x, ns, kl, h, hs => by
    cases h
    obtain ⟨h1, h2, h3, h4, h5⟩ := su_all hs
    simp only at h2 h3 h4
    exact ⟨by decide, by decide, h5, by intro h; omega, by intro h; omega, by intro h; omega, by intro h; rw [if_neg (by decide), if_neg (by decide)]; omega, by simpa [tx] using h1⟩
  | 12, s, n, x, ns, kl, h, hs => by
    cases h
    obtain ⟨h1, h2, h3, h4, h5⟩ := su_all hs
    simp only at h2 h3 h4
    exact ⟨by decide, by decide, h5, by intro h; omega, by intro h; omega, by intro h; omega, by intro h; rw [if_neg (by decide), if_neg (by decide)]; omega, by simpa [tx] using h1⟩
  | 13, s, n, x, ns, kl, h, hs => by
    cases h
    obtain ⟨h1, h2, h3, h4, h5⟩ := su_all hs
    simp only at h2 h3 h4
    exact ⟨by decide, by decide, h5, by intro h; omega, by intro h; omega, by intro h; omega, by intro h; rw [if_neg (by decide), if_neg (by decide)]; omega, by simpa [tx] using h1⟩
  | 14, s, n, x, ns, kl, h, hs => by
    cases h
    obtain ⟨h1, h2, h3, h4, h5⟩ := su_all hs
    simp only at h2 h3 h4
    exact ⟨by decide, by decide, h5, by intro h; omega, by intro h; omega, by intro h; omega, by intro h; rw [if_neg (by decide), if_neg (by decide)]; omega, by simpa [tx] using h1⟩
  | 15, s, n, x, ns, kl, h, hs => by
    cases h
    obtain ⟨h1, h2, h3, h4, h5⟩ := su_all hs
    simp only at h2 h3 h4
    exact ⟨by decide, by decide, h5, by intro h; omega, by intro h; omega, by intro h; omega, by intro h; rw [if_neg (by decide), if_neg (by decide)]; omega, by simpa [tx] using h1⟩
  | 16, s, n, x, ns, kl, h, hs => by
    cases h
    obtain ⟨h1, h2, h3, h4, h5⟩ := su_all hs
    simp only at h2 h3 h4
    exact ⟨by decide, by decide, h5, by intro h; omega, by intro h; omega, by intro h; omega, by intro h; rw [if_neg (by decide), if_neg (by decide)]; omega, by simpa [tx] using h1⟩
  | 17, s, n, x, ns, kl, h, hs => by
    cases h
    obtain ⟨h1, h2, h3, h4, h5⟩ := su_all hs
    simp only at h2 h3 h4
    exact ⟨by decide, by decide, h5, by intro h; omega, by intro h; omega, by intro h; omega, by intro h; rw [if_pos rfl]; omega, by simpa [tx] using h1⟩
  | 18, s, n, x, ns, kl, h, hs => by
    cases h
    obtain ⟨h1, h2, h3, h4, h5⟩ := su_all hs
    simp only at h2 h3 h4
    exact ⟨by decide, by decide, h5, by intro h; omega, by intro h; omega, by intro h; omega, by intro h; rw [if_neg (by decide), if_pos rfl]; omega, by simpa [tx] using h1⟩
  | 19, s, n, x, ns, kl, h, hs => by
    cases h
    obtain ⟨h1, h2, h3, h4, h5⟩ := su_all hs
    simp only at h2 h3 h4
    exact ⟨by decide, by decide, h5, by intro h; omega, by intro h; omega, by intro h; omega, by intro h; rw [if_neg (by decide), if_neg (by decide)]; omega, by simpa [tx] using h1⟩
  | n + 20, s, _, x, ns, kl, h, hs => by cases h
theorem rt_fk {n : Nat} {t : Tr (n + 1)} (h : rt (n + 1) t = true) : ∃ k : Nat, Nd.k (K := Tr n) t = k ∧ Fk k (Nd.n (K := Tr n) t) (Nd.s (K := Tr n) t) (Nd.ns (K := Tr n) t) (Nd.ks (K := Tr n) t).length := by
  obtain ⟨⟨s, hsp, hsu⟩, _⟩ := rt_kids h
  have hk : Nd.k (K := Tr n) t = ((Nd.k (K := Tr n) t).toNat : Int) := by
    rcases Int.lt_or_le (Nd.k (K := Tr n) t) 0 with h0 | h0
    · rw [Int.toNat_of_nonpos (by omega)] at hsp; cases hsp
    · exact (Int.toNat_of_nonneg h0).symm
  refine ⟨_, hk, fk_of _ s _ _ _ _ hsp ?_⟩
  rw [← hk]; exact hsu
theorem tk_word {x : ByteArray} (h : 0 ≤ tk x.data.toList) : x.data.toList.all plB = true ∧ x.data.toList ≠ [] := by
  by_cases hex : ∃ k, k < 32 ∧ (wk k).data.toList = x.data.toList
  · obtain ⟨k, hk, e⟩ := hex
    rw [← e]
    have : ∀ k : Fin 32, (wk k.1).data.toList.all plB = true ∧ (wk k.1).data.toList ≠ [] := by decide +kernel
    exact this ⟨k, hk⟩
  · rw [tk_none (fun j hj e => hex ⟨j, hj, e⟩)] at h
    omega
/-- A bracket's first word. -/
def fw (k : Nat) (x : ByteArray) : ByteArray := if k = 11 then x else hdB k
theorem hd_word : ∀ k : Fin 20, 6 ≤ k.1 → ¬ k.1 = 11 → (hdB k.1).data.toList.all plB = true ∧ tk (hdB k.1).data.toList = -1 := by decide +kernel
theorem hd_inj : ∀ a b : Fin 20, 6 ≤ a.1 → ¬ a.1 = 11 → 6 ≤ b.1 → ¬ b.1 = 11 → hdB a.1 = hdB b.1 → a = b := by decide +kernel
theorem fw_word {k : Nat} {n : Int} {x : ByteArray} {ns : List ByteArray} {kl : Nat} (h : Fk k n x ns kl) (h6 : 6 ≤ k) : (fw k x).data.toList.all plB = true := by
  unfold fw
  have h2 := h.k2
  by_cases h11 : k = 11
  · rw [if_pos h11]
    have := h.tx
    rw [h11] at this
    exact (tk_word (by simpa using this)).1
  · rw [if_neg h11]
    exact (hd_word ⟨k, by omega⟩ h6 h11).1
theorem fw_inj {k k' : Nat} {n n' : Int} {x x' : ByteArray} {ns ns' : List ByteArray} {kl kl' : Nat} (h : Fk k n x ns kl) (h' : Fk k' n' x' ns' kl') (h6 : 6 ≤ k) (h6' : 6 ≤ k') (e : fw k x = fw k' x') : k = k' ∧ (k = 11 → x = x') := by
  unfold fw at e
  have h2 := h.k2
  have h2' := h'.k2
  by_cases h11 : k = 11
  · rw [if_pos h11] at e
    by_cases h11' : k' = 11
    · rw [if_pos h11'] at e; exact ⟨by omega, fun _ => e⟩
    · exfalso
      rw [if_neg h11'] at e
      have q := h.tx
      rw [h11] at q
      have q2 : 0 ≤ tk x.data.toList := by simpa using q
      rw [e, (hd_word ⟨k', by omega⟩ h6' h11').2] at q2
      omega
  · rw [if_neg h11] at e
    by_cases h11' : k' = 11
    · exfalso
      rw [if_pos h11'] at e
      have q := h'.tx
      rw [h11'] at q
      have q2 : 0 ≤ tk x'.data.toList := by simpa using q
      rw [← e, (hd_word ⟨k, by omega⟩ h6 h11).2] at q2
      omega
    · rw [if_neg h11'] at e
      have := hd_inj ⟨k, by omega⟩ ⟨k', by omega⟩ h6 h11 h6' h11' e
      have e2 : k = k' := congrArg Fin.val this
      exact ⟨e2, fun h => absurd h h11⟩
/-- What stands between a bracket's first word and its parts. -/
def md (k : Nat) (x : ByteArray) (ns : List ByteArray) : List UInt8 := if k = 11 then [] else if k = 6 then 32 :: (x.data.toList ++ 32 :: 40 :: (bj ns ++ [41])) else if x = ⟨#[]⟩ then fl ns else fl (x :: ns)
theorem br_text {n : Nat} {t : Tr (n + 1)} {k : Nat} (hk : Nd.k (K := Tr n) t = k) (h6 : 6 ≤ k) : txt (n + 1) t = 40 :: ((fw k (Nd.s (K := Tr n) t)).data.toList ++ (md k (Nd.s (K := Tr n) t) (Nd.ns (K := Tr n) t) ++ ((Nd.ks (K := Tr n) t).flatMap (fun x => 32 :: txt n x) ++ [41]))) := by
  have hb : bj (opn (hdB k) (k : Int) (Nd.s (K := Tr n) t) (Nd.ns (K := Tr n) t)) = (fw k (Nd.s (K := Tr n) t)).data.toList ++ md k (Nd.s (K := Tr n) t) (Nd.ns (K := Tr n) t) := by
    unfold opn fw md
    by_cases h11 : k = 11
    · rw [if_pos (by omega), if_pos h11, if_pos h11, bj_one]; simp
    · rw [if_neg (by omega), if_neg h11, if_neg h11]
      by_cases hk6 : k = 6
      · rw [if_pos (by omega), if_pos hk6, bj_fl]
        simp [fl, bjB, ByteArray.append_eq, ByteArray.data_append]
      · rw [if_neg (by omega), if_neg hk6]
        by_cases hx : (Nd.s (K := Tr n) t) = ⟨#[]⟩
        · rw [if_pos hx, if_pos hx, bj_fl]
        · rw [if_neg hx, if_neg hx, bj_fl]
  have hT : txt (n + 1) t = if (Nd.k (K := Tr n) t) = 1 then Lib.itoa (Nd.n (K := Tr n) t) else if (Nd.k (K := Tr n) t) = 2 then Lib.formatBool ((Nd.n (K := Tr n) t) == 1) else if (Nd.k (K := Tr n) t) = 3 then quo (Nd.s (K := Tr n) t).data.toList else if (Nd.k (K := Tr n) t) = 4 then [117, 110, 105, 116] else if (Nd.k (K := Tr n) t) = 5 then (Nd.s (K := Tr n) t).data.toList else
      40 :: bj (opn (hdB (Nd.k (K := Tr n) t).toNat) (Nd.k (K := Tr n) t) (Nd.s (K := Tr n) t) (Nd.ns (K := Tr n) t)) ++ (Nd.ks (K := Tr n) t).flatMap (fun x => 32 :: txt n x) ++ [41] := rfl
  rw [hT, hk, if_neg (by omega), if_neg (by omega), if_neg (by omega), if_neg (by omega), if_neg (by omega), Int.toNat_natCast, hb]
  simp
theorem kids_pre {n : Nat} (ih : ∀ (a b : Tr n) (X Y : List UInt8), rt n a = true → rt n b = true → Dl X → Dl Y → txt n a ++ X = txt n b ++ Y → a = b ∧ X = Y) : ∀ (l m : List (Tr n)) (X Y : List UInt8), (∀ x ∈ l, rt n x = true) → (∀ x ∈ m, rt n x = true) → l.flatMap (fun x => 32 :: txt n x) ++ 41 :: X = m.flatMap (fun x => 32 :: txt n x) ++ 41 :: Y → l = m ∧ X = Y := by
  intro l
  induction l with
  | nil =>
    intro m X Y _ _ h
    cases m with
    | nil => simp at h; exact ⟨rfl, h⟩
    | cons b q => simp at h
  | cons a r ihl =>
    intro m X Y h1 h2 h
    cases m with
    | nil => simp at h
    | cons b q =>
      simp only [List.flatMap_cons, List.cons_append, List.append_assoc, List.cons.injEq, true_and] at h
      have hd : ∀ (l : List (Tr n)) (Z : List UInt8), Dl (l.flatMap (fun x => 32 :: txt n x) ++ 41 :: Z) := by
        intro l Z
        cases l with
        | nil => exact dl41 Z
        | cons c d => simp only [List.flatMap_cons, List.cons_append]; exact dl32 _
      obtain ⟨rfl, e2⟩ := ih a b _ _ (h1 a List.mem_cons_self) (h2 b List.mem_cons_self) (hd _ _) (hd _ _) h
      obtain ⟨rfl, e3⟩ := ihl q X Y (fun x hx => h1 x (List.mem_cons_of_mem _ hx)) (fun x hx => h2 x (List.mem_cons_of_mem _ hx)) e2
      exact ⟨rfl, e3⟩
theorem md_pre {k : Nat} {n n' : Int} {x x' : ByteArray} {ns ns' : List ByteArray} {kl kl' : Nat} (h : Fk k n x ns kl) (h' : Fk k n' x' ns' kl') (h6 : 6 ≤ k) (h11 : k = 11 → x = x') {X Y : List UInt8} (hX : Dl X) (hY : Dl Y) (e : md k x ns ++ X = md k x' ns' ++ Y) : x = x' ∧ ns = ns' ∧ X = Y := by
  have w1 : ∀ s ∈ ns, s.data.toList.all plB = true ∧ s.data.toList ≠ [] := fun s hs => ⟨(nm_word (h.nm s hs)).1, (nm_word (h.nm s hs)).2.1⟩
  have w2 : ∀ s ∈ ns', s.data.toList.all plB = true ∧ s.data.toList ≠ [] := fun s hs => ⟨(nm_word (h'.nm s hs)).1, (nm_word (h'.nm s hs)).2.1⟩
  unfold md at e
  by_cases k11 : k = 11
  · rw [if_pos k11, if_pos k11] at e
    have l1 := h.nl (by omega)
    have l2 := h'.nl (by omega)
    rw [if_neg (by omega), if_neg (by omega)] at l1 l2
    refine ⟨h11 k11, ?_, by simpa using e⟩
    rw [List.length_eq_zero_iff.1 l1, List.length_eq_zero_iff.1 l2]
  · rw [if_neg k11, if_neg k11] at e
    by_cases k6 : k = 6
    · rw [if_pos k6, if_pos k6] at e
      have t1 := h.tx
      have t2 := h'.tx
      rw [if_pos (by omega)] at t1 t2
      simp only [List.cons_append, List.append_assoc, List.nil_append, List.cons.injEq, true_and] at e
      obtain ⟨e1, e2⟩ := word_pre _ _ _ _ (nm_word t1).1 (nm_word t2).1 (dl32 _) (dl32 _) e
      simp only [List.cons.injEq, true_and] at e2
      obtain ⟨e3, e4⟩ := bj_pre41 ns ns' X Y w1 w2 e2
      exact ⟨Go.WideShapes.bytes_inj e1, e3, e4⟩
    · rw [if_neg k6, if_neg k6] at e
      have l1 := h.nl k6
      have l2 := h'.nl k6
      have t1 := h.tx
      have t2 := h'.tx
      by_cases kt : k = 5 ∨ k = 6 ∨ k = 8 ∨ k = 12 ∨ k = 18
      · rw [if_pos kt] at t1 t2
        have n1 : ¬ x = ⟨#[]⟩ := fun e => (nm_word t1).2.1 (by rw [e])
        have n2 : ¬ x' = ⟨#[]⟩ := fun e => (nm_word t2).2.1 (by rw [e])
        rw [if_neg n1, if_neg n2] at e
        obtain ⟨e1, e2⟩ := fl_pre (x :: ns) (x' :: ns') X Y (by simp [l1, l2]) (by intro s hs; rcases List.mem_cons.1 hs with rfl | hs; exact (nm_word t1).1; exact (w1 s hs).1) (by intro s hs; rcases List.mem_cons.1 hs with rfl | hs; exact (nm_word t2).1; exact (w2 s hs).1) hX hY e
        simp only [List.cons.injEq] at e1
        exact ⟨e1.1, e1.2, e2⟩
      · rw [if_neg kt, if_neg k11, if_neg (by omega)] at t1 t2
        rw [if_pos t1, if_pos t2] at e
        obtain ⟨e1, e2⟩ := fl_pre ns ns' X Y (by rw [l1, l2]) (fun s hs => (w1 s hs).1) (fun s hs => (w2 s hs).1) hX hY e
        exact ⟨by rw [t1, t2], e1, e2⟩
theorem nd_ext {K : Type} {a b : Nd K} (h1 : a.k = b.k) (h2 : a.n = b.n) (h3 : a.s = b.s) (h4 : a.ns = b.ns) (h5 : a.ks = b.ks) : a = b := by
  obtain ⟨a1, a2, a3, a4, a5⟩ := a
  obtain ⟨b1, b2, b3, b4, b5⟩ := b
  simp only at h1 h2 h3 h4 h5
  subst h1 h2 h3 h4 h5
  rfl

end Go.Proofs.YtiokcokmpmpcfaaDoor
