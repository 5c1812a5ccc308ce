import Derived.Test.YtiokcokmpmpcfaaDoorI3
import Derived.Lib.ItoaLen
namespace Go.Proofs.YtiokcokmpmpcfaaDoor
open Go.RowKit
set_option linter.unusedVariables false
set_option linter.unusedSimpArgs false

theorem bj_len_le : ∀ l : List ByteArray, (∀ s ∈ l, s.size ≤ 1000) → (bj l).length ≤ 1001 * l.length
  | [], _ => by simp [bj_nil]
  | a :: r, h => by
    have h1 := bj_cons_len a r
    have h2 := bj_len_le r (fun s hs => h s (List.mem_cons_of_mem _ hs))
    have h3 := h a List.mem_cons_self
    simp only [List.length_cons]; omega
theorem small_of {W : World} : ∀ (n : Nat) (v : Value) (t : Tr n) (a : Nat), NodeAt W n v t → gr n t a = false → Sm n t ∧ wt n t ≤ 1000000 * sz n t := by
  intro n
  induction n with
  | zero => intro v t; exact t.elim
  | succ n ih =>
    intro v t a h hg
    obtain ⟨na, nl, nc, ka, kl, kc, rfl, wf, a1, a2, a3, a4, s1, s2⟩ := h
    unfold gr at hg
    simp only [Bool.or_eq_false_iff, decide_eq_false_iff_not, Nat.not_lt] at hg
    obtain ⟨⟨⟨⟨⟨⟨g1, g2⟩, g3⟩, g4⟩, g5⟩, g6⟩, _⟩ := hg
    have hn : ∀ s ∈ Nd.ns (K := Tr n) t, s.size ≤ 1000 := by
      intro s hs
      have := List.any_eq_false.1 g5 s hs
      simpa using this
    have hb := bj_len_le _ hn
    have hk : ∀ x ∈ Nd.ks (K := Tr n) t, Sm n x ∧ wt n x ≤ 1000000 * sz n x := by
      intro x hx
      have hgx := List.any_eq_false.1 g6 x hx
      obtain ⟨i, hi⟩ := List.getElem?_of_mem hx
      have hil : i < kl := by have := (List.getElem?_eq_some_iff.1 hi).1; rw [s2.1] at this; exact this
      obtain ⟨bk, off, x', _, _, hx', r, _, hat⟩ := SeqAt.get s2 hil
      rw [hi] at hx'
      cases hx'
      exact ih r.v x (a + 1) hat (by simpa using hgx)
    refine ⟨⟨⟨wf.n0, wf.n1⟩, by omega, by omega, by omega, fun x hx => (hk x hx).1⟩, ?_⟩
    have hsum : ∀ l : List (Tr n), (∀ x ∈ l, wt n x ≤ 1000000 * sz n x) → (l.map (wt n)).sum ≤ 1000000 * (l.map (sz n)).sum := by
      intro l
      induction l with
      | nil => intro _; simp
      | cons c r ihl =>
        intro h
        have h1 := h c List.mem_cons_self
        have h2 := ihl (fun x hx => h x (List.mem_cons_of_mem _ hx))
        simp only [List.map_cons, List.sum_cons]; omega
    have hs := hsum _ (fun x hx => (hk x hx).2)
    show 8 * _ + _ + 100 + _ ≤ 1000000 * (1 + _)
    omega
theorem may_size {n : Nat} {t : Tr n} (h : mayB n t = true) : sz n t ≤ 4000 ∧ rt n t = true := by
  rw [mayB_eq] at h
  simp only [vl, Bool.and_eq_true, decide_eq_true_eq] at h
  exact ⟨h.1.2, h.2.2⟩

theorem ptx_eq {n : Nat} {a b : Tr n} (ha : mayB n a = true) (hb : mayB n b = true) : ((ptx n a).toList == (ptx n b).toList) = sm n a b := by
  have ea : ptx n a = ⟨(txt n a).toArray⟩ := by unfold ptx; rw [if_pos ha]
  have eb : ptx n b = ⟨(txt n b).toArray⟩ := by unfold ptx; rw [if_pos hb]
  rw [ea, eb, ByteArray.toList_eq, ByteArray.toList_eq]
  simp only [List.toList_toArray]
  cases hs : sm n a b with
  | true => rw [(sm_eq n a b).1 hs]; simp
  | false =>
    have hne : ¬ a = b := fun e => by rw [(sm_eq n a b).2 e] at hs; cases hs
    have : ¬ txt n a = txt n b := fun e => hne (inj n a b [] [] (may_size ha).2 (may_size hb).2 (.inl rfl) (.inl rfl) (by simpa using e)).1
    simpa using this
set_option maxRecDepth 100000 in
set_option maxHeartbeats 2000000 in
theorem treeOne_any (n : Nat) (va vb : Value) (a b : Tr n) (w : World) (hA : NodeAt w n va a) (hB : NodeAt w n vb b) (hv : Vs w) : Calls Tryd.prog 4 #[va, vb] w fun e w' => e = .returned (.bool true) ∧ BW w w' := by
  have HV : Hid (Vs w) := hv
  have GA : Hid (∀ w', BW w w' → Calls Tryd.prog 8 #[va, .int .i64 0] w' fun e w'' => e = .returned (.bool (gr n a 0)) ∧ BW w' w'') := fun w' h => great_any n va a 0 w' (by omega) (hA.bw h)
  have GB : Hid (∀ w', BW w w' → Calls Tryd.prog 8 #[vb, .int .i64 0] w' fun e w'' => e = .returned (.bool (gr n b 0)) ∧ BW w' w'') := fun w' h => great_any n vb b 0 w' (by omega) (hB.bw h)
  have RS : Hid (∀ w', BW w w' → Calls Tryd.prog 16 #[va, vb] w' fun e w'' => e = .returned (.bool (sm n a b)) ∧ BW w' w'') := fun w' h => refSame_any n va vb a b w' (hA.bw h) (hB.bw h)
  have S1 : Hid (∀ w', BW w w' → Calls Tryd.prog 17 #[va, vb] w' fun e w'' => e = .returned (.bool (sm n a b)) ∧ BW w' w'') := fun w' h => same_any n va vb a b w' (hA.bw h) (hB.bw h)
  have S2 : Hid (∀ w', BW w w' → Calls Tryd.prog 17 #[va, va] w' fun e w'' => e = .returned (.bool true) ∧ BW w' w'') := fun w' h => by
    have := same_any n va va a a w' (hA.bw h) (hA.bw h)
    rw [(sm_eq n a a).2 rfl] at this
    exact this
  have PA : Hid (gr n a 0 = false → ∀ w', BW w w' → Calls Tryd.prog 10 #[va] w' fun e w'' => e = .returned (.tuple #[.string (ptx n a), .int .i64 (if mayB n a then 0 else 12)]) ∧ BW w' w'') := fun hg w' h =>
    print_any n va a w' (hA.bw h) (hv.bw h).1 (hv.bw h).2 (fun hm => by
      have h1 := small_of n va a 0 hA hg
      have h2 := (may_size hm).1
      exact ⟨h1.1, by have := h1.2; omega⟩)
  have PB : Hid (gr n b 0 = false → ∀ w', BW w w' → Calls Tryd.prog 10 #[vb] w' fun e w'' => e = .returned (.tuple #[.string (ptx n b), .int .i64 (if mayB n b then 0 else 12)]) ∧ BW w' w'') := fun hg w' h =>
    print_any n vb b w' (hB.bw h) (hv.bw h).1 (hv.bw h).2 (fun hm => by
      have h1 := small_of n vb b 0 hB hg
      have h2 := (may_size hm).1
      exact ⟨h1.1, by have := h1.2; omega⟩)
  have HE : Hid (mayB n a = true → mayB n b = true → ((ptx n a).toList == (ptx n b).toList) = sm n a b) := fun h1 h2 => ptx_eq h1 h2
  cases n with
  | zero => exact a.elim
  | succ n =>
    obtain ⟨na, nl, nc, ka, kl, kc, rfl, _⟩ := hA
    obtain ⟨na', nl', nc', ka', kl', kc', rfl, _⟩ := hB
    generalize ptx (n + 1) a = xa at *
    generalize ptx (n + 1) b = xb at *
    generalize sm (n + 1) a b = q at *
    generalize mayB (n + 1) a = ma at *
    generalize mayB (n + 1) b = mb at *
    generalize gr (n + 1) a 0 = ga at *
    generalize gr (n + 1) b 0 = gb at *
    generalize Nd.k (K := Tr n) a = k1 at *
    generalize Nd.n (K := Tr n) a = n1 at *
    generalize Nd.s (K := Tr n) a = s1 at *
    generalize Nd.k (K := Tr n) b = k2 at *
    generalize Nd.n (K := Tr n) b = n2 at *
    generalize Nd.s (K := Tr n) b = s2 at *
    clear hv
    have hB0 : BW w (bx (bx w k1 n1 s1 na nl nc ka kl kc) k2 n2 s2 na' nl' nc' ka' kl' kc') := BW.alloc (BW.alloc (BW.refl _) _) _
    cases ga with
    | true =>
      go_enter Tryd.func4, Tryd.ntmps4
      go_wp2_with (fail)
      refine (GA.out _ hB0).mono ?_
      rintro e w1 ⟨rfl, b1⟩
      go_wp2_with (go_at_call 9; refine (awake_any _ (HV.out.bw (BW.trans hB0 b1))).mono ?_; rintro e w2 ⟨rfl, b2⟩)
      go_ret
      exact ⟨rfl, BW.trans hB0 (BW.trans b1 b2)⟩
    | false =>
      go_enter Tryd.func4, Tryd.ntmps4
      go_wp2_with (fail)
      refine (GA.out _ hB0).mono ?_
      rintro e w1 ⟨rfl, b1⟩
      obtain ⟨⟨p0, p1, p2, p3, p4⟩, ⟨q0, q1, q2, q3, q4⟩, pz, pb⟩ := bx2_at b1
      go_wp2_with (fail)
      refine (GB.out _ pb).mono ?_
      rintro e w2 ⟨rfl, b2⟩
      have c2 := BW.trans b1 b2
      clear p0 p1 p2 p3 p4 q0 q1 q2 q3 q4 pz
      cases gb with
      | true =>
        go_wp2_with (go_at_call 9; refine (awake_any _ (HV.out.bw (BW.trans hB0 c2))).mono ?_; rintro e w3 ⟨rfl, b3⟩)
        go_ret
        exact ⟨rfl, BW.trans hB0 (BW.trans c2 b3)⟩
      | false =>
        obtain ⟨⟨p0, p1, p2, p3, p4⟩, ⟨q0, q1, q2, q3, q4⟩, pz, pb2⟩ := bx2_at c2
        go_wp2_with (fail)
        refine (RS.out _ pb2).mono ?_
        rintro e w3 ⟨rfl, b3⟩
        have c3 := BW.trans c2 b3
        clear p0 p1 p2 p3 p4 q0 q1 q2 q3 q4 pz
        obtain ⟨⟨p0, p1, p2, p3, p4⟩, ⟨q0, q1, q2, q3, q4⟩, pz, pb3⟩ := bx2_at c3
        go_wp2_with (fail)
        refine (S1.out _ pb3).mono ?_
        rintro e w4 ⟨rfl, b4⟩
        have c4 := BW.trans c3 b4
        clear p0 p1 p2 p3 p4 q0 q1 q2 q3 q4 pz
        obtain ⟨⟨p0, p1, p2, p3, p4⟩, ⟨q0, q1, q2, q3, q4⟩, pz, pb4⟩ := bx2_at c4
        have hqq : (q == q) = true := by simp
        have hqn : (q != q) = false := by simp
        go_wp2_with (fail)
        refine (S2.out _ pb4).mono ?_
        rintro e w5 ⟨rfl, b5⟩
        have c5 := BW.trans c4 b5
        clear p0 p1 p2 p3 p4 q0 q1 q2 q3 q4 pz
        obtain ⟨⟨p0, p1, p2, p3, p4⟩, ⟨q0, q1, q2, q3, q4⟩, pz, pb5⟩ := bx2_at c5
        go_wp2_with (fail)
        cases ma with
        | false =>
          cases mb with
          | false =>
            refine (PA.out (by first | rfl | trivial) _ pb5).mono ?_
            rintro e w6 ⟨rfl, b6⟩
            have c6 := BW.trans c5 b6
            clear p0 p1 p2 p3 p4 q0 q1 q2 q3 q4 pz
            obtain ⟨⟨p0, p1, p2, p3, p4⟩, ⟨q0, q1, q2, q3, q4⟩, pz, pb6⟩ := bx2_at c6
            go_wp2_with (fail)
            refine (PB.out (by first | rfl | trivial) _ pb6).mono ?_
            rintro e w7 ⟨rfl, b7⟩
            have HB7 : Hid (BW w w7) := BW.trans pb6 b7
            clear p0 p1 p2 p3 p4 q0 q1 q2 q3 q4 pz b1 b2 b3 b4 b5 b6 b7 c2 c3 c4 c5 c6 pb pb2 pb3 pb4 pb5 pb6 hB0 hqq hqn
            go_wp2_with (go_at_call 9; refine (awake_any _ (HV.out.bw HB7.out)).mono ?_; rintro e w8 ⟨rfl, b8⟩)
            all_goals (go_ret; exact ⟨rfl, BW.trans HB7.out b8⟩)
          | true =>
            refine (PA.out (by first | rfl | trivial) _ pb5).mono ?_
            rintro e w6 ⟨rfl, b6⟩
            have c6 := BW.trans c5 b6
            clear p0 p1 p2 p3 p4 q0 q1 q2 q3 q4 pz
            obtain ⟨⟨p0, p1, p2, p3, p4⟩, ⟨q0, q1, q2, q3, q4⟩, pz, pb6⟩ := bx2_at c6
            go_wp2_with (fail)
            refine (PB.out (by first | rfl | trivial) _ pb6).mono ?_
            rintro e w7 ⟨rfl, b7⟩
            have HB7 : Hid (BW w w7) := BW.trans pb6 b7
            clear p0 p1 p2 p3 p4 q0 q1 q2 q3 q4 pz b1 b2 b3 b4 b5 b6 b7 c2 c3 c4 c5 c6 pb pb2 pb3 pb4 pb5 pb6 hB0 hqq hqn
            go_wp2_with (go_at_call 9; refine (awake_any _ (HV.out.bw HB7.out)).mono ?_; rintro e w8 ⟨rfl, b8⟩)
            all_goals (go_ret; exact ⟨rfl, BW.trans HB7.out b8⟩)
        | true =>
          cases mb with
          | false =>
            refine (PA.out (by first | rfl | trivial) _ pb5).mono ?_
            rintro e w6 ⟨rfl, b6⟩
            have c6 := BW.trans c5 b6
            clear p0 p1 p2 p3 p4 q0 q1 q2 q3 q4 pz
            obtain ⟨⟨p0, p1, p2, p3, p4⟩, ⟨q0, q1, q2, q3, q4⟩, pz, pb6⟩ := bx2_at c6
            go_wp2_with (fail)
            refine (PB.out (by first | rfl | trivial) _ pb6).mono ?_
            rintro e w7 ⟨rfl, b7⟩
            have HB7 : Hid (BW w w7) := BW.trans pb6 b7
            clear p0 p1 p2 p3 p4 q0 q1 q2 q3 q4 pz b1 b2 b3 b4 b5 b6 b7 c2 c3 c4 c5 c6 pb pb2 pb3 pb4 pb5 pb6 hB0 hqq hqn
            go_wp2_with (go_at_call 9; refine (awake_any _ (HV.out.bw HB7.out)).mono ?_; rintro e w8 ⟨rfl, b8⟩)
            all_goals (go_ret; exact ⟨rfl, BW.trans HB7.out b8⟩)
          | true =>
            refine (PA.out (by first | rfl | trivial) _ pb5).mono ?_
            rintro e w6 ⟨rfl, b6⟩
            have c6 := BW.trans c5 b6
            clear p0 p1 p2 p3 p4 q0 q1 q2 q3 q4 pz
            obtain ⟨⟨p0, p1, p2, p3, p4⟩, ⟨q0, q1, q2, q3, q4⟩, pz, pb6⟩ := bx2_at c6
            go_wp2_with (fail)
            refine (PB.out (by first | rfl | trivial) _ pb6).mono ?_
            rintro e w7 ⟨rfl, b7⟩
            have HB7 : Hid (BW w w7) := BW.trans pb6 b7
            clear p0 p1 p2 p3 p4 q0 q1 q2 q3 q4 pz b1 b2 b3 b4 b5 b6 b7 c2 c3 c4 c5 c6 pb pb2 pb3 pb4 pb5 pb6 hB0 hqq hqn
            have hq := HE.out (by first | rfl | trivial) (by first | rfl | trivial)
            cases q with
            | true =>
              have hq2 : xa.toList = xb.toList := by simpa using hq
              go_wp2_with (go_at_call 9; refine (awake_any _ (HV.out.bw HB7.out)).mono ?_; rintro e w8 ⟨rfl, b8⟩)
              all_goals (go_ret; exact ⟨rfl, BW.trans HB7.out b8⟩)
            | false =>
              have hq2 : ¬ xa.toList = xb.toList := by simpa using hq
              go_wp2_with (go_at_call 9; refine (awake_any _ (HV.out.bw HB7.out)).mono ?_; rintro e w8 ⟨rfl, b8⟩)
              all_goals (go_ret; exact ⟨rfl, BW.trans HB7.out b8⟩)

end Go.Proofs.YtiokcokmpmpcfaaDoor
