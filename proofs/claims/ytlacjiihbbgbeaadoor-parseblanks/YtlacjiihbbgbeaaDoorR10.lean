import Derived.Test.YtlacjiihbbgbeaaDoorR9
namespace Go.Proofs.YtlacjiihbbgbeaaDoor
open Go.RowKit
set_option linter.unusedVariables false
set_option linter.unusedSimpArgs false

theorem Tryd.info50 : (Tryd.prog.info? 50).map (fun i => (i.zero, i.size, i.bytes)) = some (some (.agg #[.int .u8 0, .string ⟨#[]⟩, .int .i64 0, .int .i64 0]), 4, 40) := by kernel_rfl
def tcs (N : Nat) (t : Tok) : List Value := [.int .u8 t.kind, sv t.s, .int .i64 t.n, .int .i64 ((N - t.back : Nat) : Int)]
/-- The cells of tokens. -/
def tc (N : Nat) (ts : List Tok) : List Value := ts.flatMap (tcs N)
theorem cells_new (W : World) (t : TypeId) (cs : List Value) : ∀ j u, cs[j]? = some u → (W.alloc (.cells cs.toArray t)).cell? ((⟨W.heap.size, 0, none⟩ : Addr).add j) = some u := by
  intro j u h
  have hadd : (⟨W.heap.size, 0, none⟩ : Addr).add j = ⟨W.heap.size, j, none⟩ := by unfold Addr.add; split <;> simp_all
  rw [hadd, cell_of_row _ _ j cs.toArray t (0, 0) (heap_alloc_new W _)]
  simpa using h
theorem own_ge {w : World} {B e z : Nat} {v : Value} {n : Nat} {xs : List Value} (h : w.ownsRow B e z v n xs) : ∀ k, v.ownBlock = some k → B ≤ k := by
  intro k hk
  rcases h.2 with ⟨rfl, _⟩ | ⟨g, cap, cur, rfl, hb, hg, _⟩
  · simp [Value.ownBlock] at hk
  · simp [Value.ownBlock] at hk
    subst hk
    exact hb
theorem own_slice {w : World} {B e z : Nat} {v : Value} {n : Nat} {xs : List Value} (h : w.ownsRow B e z v n xs) : ∃ ao m c, v = .slice ao m c := by
  rcases h.2 with ⟨rfl, _⟩ | ⟨g, cap, cur, rfl, hb, hg, _⟩
  · exact ⟨_, _, _, rfl⟩
  · exact ⟨_, _, _, rfl⟩
def Lx.pre (ts : List Tok) : Lx → Lx
  | .ok l => .ok (ts ++ l)
  | .error x => .error x
theorem pre_cons (ts : List Tok) (t : Tok) (x : Lx) : (x.cons t).pre ts = x.pre (ts ++ [t]) := by
  cases x <;> simp [Lx.cons, Lx.pre]
theorem skp_idem (l : List UInt8) : skp false (skp false l) = skp false l := by
  have H : ∀ l : List UInt8, skp false (skp false l) = skp false l ∧ skp false (skp true l) = skp true l := by
    intro l
    induction l with
    | nil => exact ⟨rfl, rfl⟩
    | cons c r ih =>
      constructor
      · by_cases h : c = 59
        · subst h; simp only [skp, Bool.false_eq_true, if_false, if_true]; exact ih.2
        · by_cases h2 : bl c.toNat = true
          · rw [skp_bl c r h2]; exact ih.1
          · rw [skp_stop c r h h2, skp_stop c r h h2]
      · by_cases h : c = 10
        · simp only [skp, if_true, h]; exact ih.1
        · simp only [skp, if_true, h, if_false]; exact ih.2
  exact (H l).1
theorem lxr_skp (l : List UInt8) : lxr (skp false l) = lxr l := by
  cases h : skp false l with
  | nil => rw [lxr_eq, lxr_eq]; rw [h]; rfl
  | cons c r =>
    have h2 : skp false (c :: r) = c :: r := by rw [← h]; exact skp_idem l
    have h3 := skp_len l
    rw [h] at h3
    rw [lxr_eq, lxr_eq l, h, h2]
    dsimp only
    cases e : one (c :: r) with
    | error k t => rfl
    | ok t u =>
      have := one_len h2 e
      dsimp only
      rw [if_pos this, if_pos (by omega)]
theorem lxr_nil : lxr [] = .ok [] := by rw [lxr_eq]; rfl
theorem lxr_no {c : UInt8} {r : List UInt8} (h2 : skp false (c :: r) = c :: r) {t : List UInt8} {k : Nat} (e : one (c :: r) = .error k t) : lxr (c :: r) = .error (t.length, k) := by
  rw [lxr_eq, h2]; dsimp only; rw [e]
theorem lxr_ok {c : UInt8} {r : List UInt8} (h2 : skp false (c :: r) = c :: r) {t : Tok} {u : List UInt8} (e : one (c :: r) = .ok t u) : lxr (c :: r) = (lxr (skp false u)).cons t := by
  rw [lxr_skp, lxr_eq, h2]; dsimp only; rw [e]; dsimp only; rw [if_pos (one_len h2 e)]
def thr (N bk e : Nat) : List PanicEntry := if e = 11 then unend else misf ((N - bk : Nat) : Int)
/-- How reading ends. -/
def PostT (B b : Nat) (s : ByteArray) (w : World) (R : Lx) (e : Ending) (w' : World) : Prop :=
  match R with
  | .ok ts => ∃ ao n c, e = .returned (.slice ao n c) ∧ w'.ownsRow B 50 4 (.slice ao n c) ts.length (tc s.size ts) ∧ Fd b w w'
  | .error (bk, k) => e = .panicked (thr s.size bk k) ∧ Fd b w w'
def TK (b : Nat) (s : ByteArray) (w : World) (R : Lx) (k : Nat) (v : Value) (wr : World) : Prop :=
  ∃ ts m q, k = m.length ∧ At s q m ∧ Rd b s q wr ∧ (∃ ao n c, v = .slice ao n c) ∧ wr.ownsRow w.heap.size 50 4 v ts.length (tc s.size ts) ∧ skp false m = m ∧ (lxr m).pre ts = R ∧ ts.length + m.length ≤ s.size ∧ w.heap.size ≤ wr.heap.size ∧ Fd b w wr
set_option maxRecDepth 100000 in
set_option maxHeartbeats 2000000 in
theorem tokens_any (b : Nat) (s : ByteArray) (hs : s.size ≤ 100000) (w : World) (h : Rd b s 0 w) (hE : Er w) (hb0 : 4 < b) :
    Calls Tryd.prog 11 #[.pointer (some ⟨b, 0, none⟩)] w (PostT w.heap.size b s w (lxr s.data.toList)) := by
  have hlt := h.lt
  have hA0 : At s 0 s.data.toList := ⟨Nat.zero_le _, rfl⟩
  have hE' : Hid (Er w) := hE
  clear hE
  obtain ⟨i0, hi, hz0, hz1, hz2⟩ := info_parts Tryd.info50
  generalize hR : lxr s.data.toList = R
  go_enter Tryd.func11, Tryd.ntmps11
  go_wp2_with (fail)
  refine (skip_any b s hs 0 _ hA0 w h).mono ?_
  rintro e w1 ⟨rfl, q, hA1, hR1, hf1⟩
  have H0 : Hid (TK b s w R (skp false s.data.toList).length (.slice none 0 0) w1) :=
    ⟨[], _, q, rfl, hA1, hR1, ⟨_, _, _, rfl⟩, ⟨rfl, .inl ⟨rfl, rfl⟩⟩, skp_idem _, by rw [lxr_skp, hR]; cases R <;> rfl, by rw [hA1.len]; simp, hf1.size, hf1⟩
  clear hA0 hA1 hR1 hf1 hR h
  go_wp2_with (fail)
  go_loopg [3] (skp false s.data.toList).length (fun k v wr => TK b s w R k v wr)
  case atStart => exact H0.out
  case round =>
    clear H0
    obtain ⟨ts, m, q, rfl, hA, hR, ⟨ao, n, c, rfl⟩, hown, hsk, hT, hn, hzz, hF⟩ := hrel
    have c0 := hR.c0
    have c1 := hR.c1
    cases m with
    | nil =>
      obtain rfl := hA.nil
      rw [lxr_nil] at hT
      simp only [Lx.pre, List.append_nil] at hT
      subst hT
      go_wp2_with (fail)
      go_quiet (fail)
      go_wp2_with (fail)
      go_ret
      exact ⟨ao, n, c, rfl, hown, hF.trans (by repeat (first | exact Fd.refl _ _ | apply Fd.drewN | apply Fd.drew | apply Fd.set))⟩
    | cons d r =>
      obtain ⟨hp, hd, hA2⟩ := hA.cons
      have hq : (q : Int) < s.size := by omega
      go_wp2_with (fail)
      go_quiet (fail)
      go_wp2_with (fail)
      have hRd := hR.dn nq
      have hFd := hF.drewN nq
      have hod : (wr.drewN nq).ownsRow w.heap.size 50 4 (.slice ao n c) ts.length (tc s.size ts) := hown
      have hsd : w.heap.size ≤ (wr.drewN nq).heap.size := hzz
      generalize wr.drewN nq = W at *
      refine (token_any b s hs q d r hA W hRd (hE'.out.fd hFd hb0) hb0).mono ?_
      cases e1 : one (d :: r) with
      | error k t =>
        rw [lxr_no hsk e1] at hT
        simp only [Lx.pre] at hT
        subst hT
        rintro e w2 ⟨rfl, hf2⟩
        exact ⟨rfl, rfl, hFd.trans hf2⟩
      | ok t u =>
        rintro e w2 ⟨rfl, q2, hA3, hR3, hf2⟩
        have hul := one_len hsk e1
        rw [lxr_ok hsk e1, pre_cons] at hT
        have hT' : Hid _ := hT
        clear hT hown c0 c1 hF hR
        have hown2 := own_fd hod hf2 hlt
        have hz2' := Nat.le_trans hsd hf2.size
        simp only [List.length_cons] at hn hul
        unfold tv sv
        go_wp2_with (at_builtin; refine wpList_append_own _ rfl _ _ 32 rfl w.heap.size 50 i0 _ 4 40 Tryd.underlying32 hi hz0 hz1 hz2 rfl (by decide) _ _ _ rfl (hown2.alloc _) ⟨w2.heap.size, 0, none⟩ 1 1 (tcs s.size t) rfl rfl ?c1 ?c2 ?c3 ?c4 ?c5 ?_)
        case c1 => exact cells_new w2 50 (tcs s.size t)
        case c2 =>
          intro x hx
          simp only [tcs, sv, List.mem_cons, List.not_mem_nil, or_false] at hx
          rcases hx with rfl | rfl | rfl | rfl <;> rfl
        case c3 => unfold maxLen; omega
        case c4 => omega
        case c5 => simp; omega
        intro v' w3 hown3 hgrow _
        have hbel : Below w.heap.size w2 w3 := ((Below.refl w.heap.size w2).alloc (by omega) _).grown hgrow (by simp; omega) (fun k hk => own_ge hown2 k hk)
        obtain ⟨ao', n', c', rfl⟩ : ∃ ao n c, v' = .slice ao n c := own_slice hown3
        have hR4 := hR3.below hbel hlt
        have hF4 := (hFd.trans hf2).below hbel (Nat.le_refl _) (Nat.le_of_lt hlt)
        have hz4 := Nat.le_trans hz2' hbel.size
        have hown4 : Hid (w3.ownsRow w.heap.size 50 4 (.slice ao' n' c') (ts ++ [t]).length (tc s.size (ts ++ [t]))) := by
          show World.ownsRow _ _ _ _ _ _ _
          have e : tc s.size (ts ++ [t]) = tc s.size ts ++ tcs s.size t := by simp [tc]
          rw [e]; simpa using hown3
        clear hown3 hgrow hown2 hod hbel
        go_wp2_with fail
        refine (skip_any b s hs q2 u hA3 w3 hR4).mono ?_
        rintro e w4 ⟨rfl, q3, hA4, hR5, hf5⟩
        go_wp2_with fail
        have hsl := skp_len u
        go_roundg (skp false u).length
        case measure => simp only [List.length_cons]; omega
        case rel =>
          exact ⟨ts ++ [t], _, q3, rfl, hA4, hR5, ⟨_, _, _, rfl⟩, own_fd hown4.out hf5 hlt, skp_idem _, hT'.out, by simp; omega, Nat.le_trans hz4 hf5.size, hF4.trans hf5⟩

end Go.Proofs.YtlacjiihbbgbeaaDoor
