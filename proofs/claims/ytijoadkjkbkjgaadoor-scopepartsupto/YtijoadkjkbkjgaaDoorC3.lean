import Derived.Test.YtijoadkjkbkjgaaDoorC2
namespace Go.Proofs.YtijoadkjkbkjgaaDoor
open Go.RowKit
set_option linter.unusedVariables false
set_option linter.unusedSimpArgs false

/-- A node's kind, its text. -/
def knd : (n : Nat) → Tr n → Int
  | 0, _ => 0
  | n + 1, t => Nd.k (K := Tr n) t
def ttx : (n : Nat) → Tr n → ByteArray
  | 0, _ => ⟨#[]⟩
  | n + 1, t => Nd.s (K := Tr n) t
def isCl (k : Int) : Bool := k == 17 || k == 18 || k == 19
/-- Are clauses right, in their order? -/
def clsG {K : Type} (kd : K → Int) (tt : K → ByteArray) (ok : K → Bool) : Int → List ByteArray → List K → Bool
  | _, ops, [] => decide ops.Nodup
  | last, ops, x :: r => if !isCl (kd x) || (decide (kd x ≤ last) && !(kd x == last && kd x == 18)) || !ok x then false else clsG kd tt ok (kd x) (if kd x = 18 then ops ++ [tt x] else ops) r
/-- Is a node, or a clause, as its kind's are? -/
def rt : (n : Nat) → Tr n → Bool
  | 0, _ => false
  | n + 1, t => match shp (Nd.k (K := Tr n) t).toNat with
    | none => false
    | some s => su s (Nd.k (K := Tr n) t) (Nd.n (K := Tr n) t) (Nd.s (K := Tr n) t) (Nd.ns (K := Tr n) t) (Nd.ks (K := Tr n) t).length && (if (Nd.k (K := Tr n) t) = 13 then clsG (knd n) (ttx n) (rt n) 0 [] ((Nd.ks (K := Tr n) t).drop 1) && ((Nd.ks (K := Tr n) t).take 1).all (fun x => !isCl (knd n x) && rt n x) else (Nd.ks (K := Tr n) t).all (fun x => !isCl (knd n x) && rt n x))
def vl (n : Nat) (t : Tr n) : Bool := !isCl (knd n t) && rt n t
/-- The calls at a level. -/
def RightAt (n : Nat) : Prop := ∀ (v : Value) (t : Tr n) (b : Nat) (w : World), NodeAt w n v t → sz n t ≤ 4000 → ShapesAt w b → Tw w → Calls Tryd.prog 38 #[.agg #[.map (some b)], v] w fun e w' => e = .returned (.bool (rt n t)) ∧ BW w w'
def ValueAt (n : Nat) : Prop := ∀ (v : Value) (t : Tr n) (b : Nat) (w : World), NodeAt w n v t → sz n t ≤ 4000 → ShapesAt w b → Tw w → Calls Tryd.prog 20 #[.agg #[.map (some b)], v] w fun e w' => e = .returned (.bool (vl n t)) ∧ BW w w'
theorem ShapesAt.bw {w w' : World} {b : Nat} (h : ShapesAt w b) (k : BW w w') : ShapesAt w' b := owns_bw h k
/-- The world with a checker in a new block. -/
abbrev cx (w : World) (b : Nat) : World := w.alloc (.cells #[.map (some b)] 41)
theorem cx_at {w w' : World} {b : Nat} {k n : Int} {x : ByteArray} {na : Option Addr} {nl nc : Nat} {ka : Option Addr} {kl kc : Nat} (h : BW (bx (cx w b) k n x na nl nc ka kl kc) w') :
    w'.cell? ⟨w.heap.size, 0, none⟩ = some (.map (some b)) ∧ CellsAt w' (w.heap.size + 1) 0 ⟨k, n, x, na, nl, nc, ka, kl, kc⟩ ∧ w.heap.size + 1 < w'.heap.size ∧ BW w w' := by
  obtain ⟨h1, h2, h3⟩ := bx_at h
  have e : (cx w b).heap.size = w.heap.size + 1 := by simp
  rw [e] at h1 h2
  refine ⟨?_, h1, h2, BW.trans (BW.alloc (BW.refl _) _) h3⟩
  rw [h3.cells _ _ (by rw [e]; omega)]
  exact cell_new _ _ _ 0
set_option maxRecDepth 100000 in
set_option maxHeartbeats 1000000 in
theorem value_of {n : Nat} (ih : RightAt n) : ValueAt n := by
  intro v t b w h hz hs ht
  have HN : Hid (NodeAt w n v t) := h
  cases n with
  | zero => exact h.elim
  | succ n =>
    obtain ⟨na, nl, nc, ka, kl, kc, rfl, wf, a1, a2, a3, a4, s1, s2⟩ := h
    have HI : Hid (∀ w', BW w w' → Calls Tryd.prog 38 #[.agg #[.map (some b)], ndv (Nd.k (K := Tr n) t) (Nd.n (K := Tr n) t) (Nd.s (K := Tr n) t) na nl nc ka kl kc] w' fun e w'' => e = .returned (.bool (rt (n + 1) t)) ∧ BW w' w'') := fun w' hb => ih _ t b w' (HN.out.bw hb) hz (hs.bw hb) (ht.bw hb)
    have HV : Hid (vl (n + 1) t = (!(((Nd.k (K := Tr n) t) == 17) || ((Nd.k (K := Tr n) t) == 18) || ((Nd.k (K := Tr n) t) == 19)) && rt (n + 1) t)) := rfl
    generalize vl (n + 1) t = R at *
    generalize rt (n + 1) t = q at *
    have HC : Hid (∀ w, Calls Tryd.prog 37 #[ndv (Nd.k (K := Tr n) t) (Nd.n (K := Tr n) t) (Nd.s (K := Tr n) t) na nl nc ka kl kc] w fun e w' => e = .returned (.bool (((Nd.k (K := Tr n) t) == 17) || ((Nd.k (K := Tr n) t) == 18) || ((Nd.k (K := Tr n) t) == 19))) ∧ BW w w') := fun w => clause_any _ _ _ _ _ _ _ _ _ w
    generalize (((Nd.k (K := Tr n) t) == 17) || ((Nd.k (K := Tr n) t) == 18) || ((Nd.k (K := Tr n) t) == 19)) = c at *
    clear ih s1 s2 wf a1 a2 a3 a4 hs ht hz HN
    cases c
    all_goals (
      go_enter Tryd.func20, Tryd.ntmps20
      go_wp2_with (first
        | (go_at_call 37; refine (HC.out _).mono ?_; rintro e w1 ⟨rfl, b1⟩; obtain ⟨f0, ⟨g0, g1, g2, g3, g4⟩, gz, gb⟩ := cx_at b1)
        | (go_at_call 38; refine (HI.out _ gb).mono ?_; rintro e w2 ⟨rfl, b2⟩))
      go_ret
      exact ⟨by rw [HV.out]; first | rfl | simp, (by repeat (first | exact BW.refl _ | assumption | apply BW.alloc | apply BW.drewN | apply BW.drew | (refine BW.setCell ?_ (by first | omega | (simp; done) | (simp; omega)) _) | (refine BW.trans ?_ (by assumption))))⟩)
theorem drop_get {α : Type} {l : List α} {j : Nat} {x : α} (h : l[j]? = some x) : l.drop j = x :: l.drop (j + 1) := by
  obtain ⟨hj, rfl⟩ := List.getElem?_eq_some_iff.1 h
  exact List.drop_eq_getElem_cons hj
theorem NodeAt.parts {w : World} {n : Nat} {r : Rw} {x : Tr n} (h : NodeAt w n r.v x) : r.k = knd n x ∧ r.s = ttx n x ∧ 0 ≤ r.k ∧ r.k ≤ 255 ∧ r.s.size ≤ maxLen := by
  cases n with
  | zero => exact h.elim
  | succ n =>
    obtain ⟨na, nl, nc, ka, kl, kc, e, wf, _⟩ := h
    simp only [Rw.v, ndv, Value.agg.injEq, Array.mk.injEq, List.cons.injEq, Value.int.injEq, Value.string.injEq, true_and, and_true] at e
    obtain ⟨e1, e2, e3, _⟩ := e
    exact ⟨e1, e3, by rw [e1]; exact wf.k0, by rw [e1]; exact wf.k1, by rw [e3]; exact wf.s⟩
theorem own_ge {w : World} {B e z : Nat} {v : Value} {n : Nat} {xs : List Value} (h : w.ownsRow B e z v n xs) : ∀ k, v.ownBlock = some k → B ≤ k := by
  intro k hk
  rcases h.2 with ⟨rfl, _⟩ | ⟨g, cap, cur, rfl, hb, hg, _⟩
  · simp [Value.ownBlock] at hk
  · simp [Value.ownBlock] at hk
    subst hk
    exact hb
theorem own_strs {w : World} {B : Nat} {v : Value} {ops : List ByteArray} (h : w.ownsRow B 9 1 v ops.length (ops.map Value.string)) (hs : ∀ s ∈ ops, s.size ≤ maxLen) : ∃ ao cp, v = .slice ao ops.length cp ∧ StrsAt w ao ops.length ops ∧ ops.length ≤ cp := by
  rcases h.2 with ⟨rfl, h0⟩ | ⟨g, cap, cur, rfl, hb, hg, h1, h2, h3, h4⟩
  · exact ⟨none, 0, by rw [h0], ⟨rfl, by rw [h0]; exact Nat.zero_le _, hs, .inl h0⟩, by omega⟩
  · refine ⟨_, cap, rfl, ⟨rfl, by omega, hs, .inr ⟨g, 0, rfl, (Array.getElem?_eq_some_iff.1 hg).1, fun i s hi => ?_⟩⟩, h1⟩
    have := h.cells (g := g) rfl i (.string s) (by simp [hi])
    rw [Addr.add_mid] at this
    simpa using this
theorem Tryd.info9 : (Tryd.prog.info? 9).map (fun i => (i.zero, i.size, i.bytes)) = some (some (.string ⟨#[]⟩), 1, 16) := by kernel_rfl
set_option maxRecDepth 100000 in
set_option maxHeartbeats 3000000 in
theorem clauses_of {n : Nat} (ih : RightAt n) (ka : Option Addr) (kl kc : Nat) (l : List (Tr n)) (b : Nat) (w : World) (h : SeqAt (NodeAt w n) w ka kl l) (hkc : kl ≤ kc) (hl4 : kl ≤ 4000) (hz : ∀ x ∈ l, sz n x ≤ 4000) (hs : ShapesAt w b) (ht : Tw w) :
    Calls Tryd.prog 50 #[.agg #[.map (some b)], .slice ka kl kc] w fun e w' => e = .returned (.bool (clsG (knd n) (ttx n) (rt n) 0 [] l)) ∧ BW w w' := by
  obtain ⟨i0, hi, hz0, hz1, hz2⟩ := info_parts Tryd.info9
  have H : Hid (SeqAt (NodeAt w n) w ka kl l) := h
  have hl : Hid (l.length = kl) := h.1
  have HI : Hid (∀ v x w', BW w w' → NodeAt w n v x → x ∈ l → Calls Tryd.prog 38 #[.agg #[.map (some b)], v] w' fun e w'' => e = .returned (.bool (rt n x)) ∧ BW w' w'') := fun v x w' hb hx hm => ih v x b w' (hx.bw hb) (hz x hm) (hs.bw hb) (ht.bw hb)
  generalize hR : clsG (knd n) (ttx n) (rt n) 0 [] l = R
  clear h hs ht hz
  go_enter Tryd.func50, Tryd.ntmps50
  go_wp2_with (fail)
  go_loopw [5, 6, 12] (fun a o i w' => ∃ (j : Nat) (la : Int) (ops : List ByteArray), j ≤ kl ∧ a = .int .u8 la ∧ w'.ownsRow (w.heap.size + 1) 9 1 o ops.length (ops.map Value.string) ∧ Hid ((∀ s ∈ ops, s.size ≤ maxLen) ∧ ops.length ≤ j ∧ clsG (knd n) (ttx n) (rt n) la ops (l.drop j) = R) ∧ i = .int .i64 j ∧ BW (cx w b) w') (fun _ _ i _ => kl - (intOf i).toNat)
  case atStart => exact ⟨0, 0, [], Nat.zero_le _, rfl, World.ownsRow_nil _ _ _ _, ⟨by simp, Nat.le_refl _, by simpa using hR⟩, rfl, (by repeat (first | exact BW.refl _ | apply BW.alloc | apply BW.drewN | apply BW.drew))⟩
  case round =>
    obtain ⟨j, la, ops, hj, rfl, hown, HO, rfl, hb1⟩ := hrel
    have hsz1 := hb1.size
    simp at hsz1
    have hb : BW w wr := BW.trans (BW.alloc (BW.refl _) _) hb1
    have g0 : wr.cell? ⟨w.heap.size, 0, none⟩ = some (.map (some b)) := by rw [hb1.cells _ _ (by simp)]; exact cell_new _ _ _ 0
    by_cases hlt : j < kl
    · obtain ⟨bk, off, x, rfl, hbl, hx, r, hr, hax⟩ := SeqAt.get H.out hlt
      obtain ⟨hk, hss, hk0, hk1, hsm⟩ := hax.parts
      obtain ⟨rk, rn, rs, rna, rnl, rnc, rka, rkl, rkc⟩ := r
      simp only at hk hss hk0 hk1 hsm
      have HX : Hid (NodeAt w n (ndv rk rn rs rna rnl rnc rka rkl rkc) x) := hax
      have HI2 : Hid (∀ w', BW w w' → Calls Tryd.prog 38 #[.agg #[.map (some b)], ndv rk rn rs rna rnl rnc rka rkl rkc] w' fun e w'' => e = .returned (.bool (rt n x)) ∧ BW w' w'') := fun w' hb => HI.out _ x w' hb HX.out (List.mem_of_getElem? hx)
      have HO2 : Hid ((∀ s ∈ ops, s.size ≤ maxLen) ∧ ops.length ≤ j ∧ (if !isCl rk || (decide (rk ≤ la) && !(rk == la && rk == 18)) || !rt n x then false else clsG (knd n) (ttx n) (rt n) rk (if rk = 18 then ops ++ [rs] else ops) (l.drop (j + 1))) = R) := by
        refine ⟨HO.out.1, HO.out.2.1, ?_⟩
        have := HO.out.2.2
        rw [drop_get hx] at this
        rw [← this, hk, hss]; rfl
      obtain ⟨d0, d1, d2, d3, d4⟩ := hr.bw hb hbl
      clear hax hx hr hk hss HO HX
      have hnw : ¬ bk = wr.heap.size := by omega
      have hnw' : ¬ wr.heap.size = bk := by omega
      have hn0 : ¬ w.heap.size = wr.heap.size := by omega
      have hn0' : ¬ wr.heap.size = w.heap.size := by omega
      generalize rt n x = ok at *
      by_cases q1 : rk = la
      · subst q1
        by_cases q2 : rk = 18
        · subst q2
          have HC : Hid (∀ w, Calls Tryd.prog 37 #[ndv 18 rn rs rna rnl rnc rka rkl rkc] w fun e w' => e = .returned (.bool true) ∧ BW w w') := fun w => clause_any _ _ _ _ _ _ _ _ _ w
          cases ok with
          | false =>
            have HR : Hid (R = false) := by have h := HO2.out.2.2; show R = false; rw [← h]; simp [isCl]
            go_wp2_with (first
              | (go_at_call 37; refine (HC.out _).mono ?_; rintro e w1 ⟨rfl, b1⟩; have qz := b1.size; simp at qz; have q0 : w1.cell? ⟨w.heap.size, 0, none⟩ = some (.map (some b)) := (b1.cells w.heap.size _ (by simp; omega)).trans ((BW.cells (BW.alloc (BW.refl wr) _) w.heap.size _ (by omega)).trans g0); have qc := fun o => (b1.cells wr.heap.size o (by simp)).trans (cell_new wr _ _ o))
              | (go_at_call 38; refine (HI2.out _ (BW.trans (BW.alloc hb _) b1)).mono ?_; rintro e w2 ⟨rfl, b2⟩; have qz2 := b2.size; have qc2 := fun o => (b2.cells wr.heap.size o (by omega)).trans (qc o)))
            all_goals (go_ret; exact ⟨by rw [HR.out]; rfl, by first | exact BW.trans (BW.trans (BW.alloc hb _) b1) b2 | exact BW.trans (BW.alloc hb _) b1⟩)
          | true =>
            have HN2 : Hid (clsG (knd n) (ttx n) (rt n) 18 (ops ++ [rs]) (l.drop (j + 1)) = R) := by have h := HO2.out.2.2; show _ = R; rw [← h]; simp [isCl]
            go_wp2_with (first
              | (go_at_call 37; refine (HC.out _).mono ?_; rintro e w1 ⟨rfl, b1⟩; have qz := b1.size; simp at qz; have q0 : w1.cell? ⟨w.heap.size, 0, none⟩ = some (.map (some b)) := (b1.cells w.heap.size _ (by simp; omega)).trans ((BW.cells (BW.alloc (BW.refl wr) _) w.heap.size _ (by omega)).trans g0); have qc := fun o => (b1.cells wr.heap.size o (by simp)).trans (cell_new wr _ _ o))
              | (go_at_call 38; refine (HI2.out _ (BW.trans (BW.alloc hb _) b1)).mono ?_; rintro e w2 ⟨rfl, b2⟩; have qz2 := b2.size; have qc2 := fun o => (b2.cells wr.heap.size o (by omega)).trans (qc o); have hown2 := own_bw hown (BW.trans (BW.alloc (BW.refl wr) _) (BW.trans b1 b2)))
              | (at_builtin; refine wpList_append_own _ rfl _ _ 22 rfl (w.heap.size + 1) 9 i0 (.string ⟨#[]⟩) 1 16 Tryd.underlying22 hi hz0 hz1 hz2 rfl (by decide) _ _ _ rfl (hown2.alloc _) ⟨w2.heap.size, 0, none⟩ 1 1 [.string rs] rfl rfl ?c1 ?c2 ?c3 ?c4 ?c5 ?_))
            case c1 => exact cells_new _ _ _
            case c2 => intro u hu; simp at hu; subst hu; rfl
            case c3 => have := HO2.out.2.1; unfold maxLen; omega
            case c4 => have := HO2.out.2.1; omega
            case c5 => simp; omega
            intro v' w3 hown3 hgrow3 _
            have hbw3 : Hid (BW (cx w b) w3) := Below.grown (BW.alloc (BW.trans hb1 (BW.trans (BW.alloc (BW.refl wr) _) (BW.trans b1 b2))) _) hgrow3 (by simp; omega) (fun k hk => by have := own_ge hown2 k hk; simp; omega)
            go_wp2_with (fail)
            go_roundw
            case rel => exact ⟨j + 1, 18, ops ++ [rs], by omega, rfl, by simpa using hown3, ⟨fun s hs => by rcases List.mem_append.1 hs with h | h; exact HO2.out.1 s h; simp at h; subst h; exact hsm, by have := HO2.out.2.1; simp; omega, HN2.out⟩, by go_num, hbw3.out⟩
            case measure => simp [intOf]; omega
        · have e2 : (rk == 18) = false := by simpa using q2
          have HC : Hid (∀ w, Calls Tryd.prog 37 #[ndv rk rn rs rna rnl rnc rka rkl rkc] w fun e w' => e = .returned (.bool (isCl rk)) ∧ BW w w') := fun w => clause_any _ _ _ _ _ _ _ _ _ w
          have HR0 : Hid (R = false) := by have h := HO2.out.2.2; show R = false; rw [← h]; simp [e2]
          clear HO2
          generalize isCl rk = c at *
          cases c
          · go_wp2_with (first
              | (go_at_call 37; refine (HC.out _).mono ?_; rintro e w1 ⟨rfl, b1⟩; have qz := b1.size; simp at qz; have q0 : w1.cell? ⟨w.heap.size, 0, none⟩ = some (.map (some b)) := (b1.cells w.heap.size _ (by simp; omega)).trans ((BW.cells (BW.alloc (BW.refl wr) _) w.heap.size _ (by omega)).trans g0); have qc := fun o => (b1.cells wr.heap.size o (by simp)).trans (cell_new wr _ _ o))
              | (go_at_call 38; refine (HI2.out _ (BW.trans (BW.alloc hb _) b1)).mono ?_; rintro e w2 ⟨rfl, b2⟩; have qz2 := b2.size; have qc2 := fun o => (b2.cells wr.heap.size o (by omega)).trans (qc o)))
            all_goals (go_ret; exact ⟨by rw [HR0.out]; rfl, BW.trans (BW.alloc hb _) b1⟩)
          · go_wp2_with (first
              | (go_at_call 37; refine (HC.out _).mono ?_; rintro e w1 ⟨rfl, b1⟩; have qz := b1.size; simp at qz; have q0 : w1.cell? ⟨w.heap.size, 0, none⟩ = some (.map (some b)) := (b1.cells w.heap.size _ (by simp; omega)).trans ((BW.cells (BW.alloc (BW.refl wr) _) w.heap.size _ (by omega)).trans g0); have qc := fun o => (b1.cells wr.heap.size o (by simp)).trans (cell_new wr _ _ o))
              | (go_at_call 38; refine (HI2.out _ (BW.trans (BW.alloc hb _) b1)).mono ?_; rintro e w2 ⟨rfl, b2⟩; have qz2 := b2.size; have qc2 := fun o => (b2.cells wr.heap.size o (by omega)).trans (qc o)))
            all_goals (go_ret; exact ⟨by rw [HR0.out]; rfl, BW.trans (BW.alloc hb _) b1⟩)
      · have e1 : (rk == la) = false := by simpa using q1
        by_cases q2 : rk = 18
        · subst q2
          have HC : Hid (∀ w, Calls Tryd.prog 37 #[ndv 18 rn rs rna rnl rnc rka rkl rkc] w fun e w' => e = .returned (.bool true) ∧ BW w w') := fun w => clause_any _ _ _ _ _ _ _ _ _ w
          cases e3 : decide ((18 : Int) ≤ la) with
          | true =>
            have HR : Hid (R = false) := by have h := HO2.out.2.2; show R = false; rw [← h]; simp [isCl, e1, e3]
            go_wp2_with (first
              | (go_at_call 37; refine (HC.out _).mono ?_; rintro e w1 ⟨rfl, b1⟩; have qz := b1.size; simp at qz; have q0 : w1.cell? ⟨w.heap.size, 0, none⟩ = some (.map (some b)) := (b1.cells w.heap.size _ (by simp; omega)).trans ((BW.cells (BW.alloc (BW.refl wr) _) w.heap.size _ (by omega)).trans g0); have qc := fun o => (b1.cells wr.heap.size o (by simp)).trans (cell_new wr _ _ o))
              | (go_at_call 38; refine (HI2.out _ (BW.trans (BW.alloc hb _) b1)).mono ?_; rintro e w2 ⟨rfl, b2⟩; have qz2 := b2.size; have qc2 := fun o => (b2.cells wr.heap.size o (by omega)).trans (qc o)))
            all_goals (go_ret; exact ⟨by rw [HR.out]; rfl, by first | exact BW.trans (BW.trans (BW.alloc hb _) b1) b2 | exact BW.trans (BW.alloc hb _) b1⟩)
          | false =>
            cases ok with
            | false =>
              have HR : Hid (R = false) := by have h := HO2.out.2.2; show R = false; rw [← h]; simp [isCl, e1, e3]
              go_wp2_with (first
                | (go_at_call 37; refine (HC.out _).mono ?_; rintro e w1 ⟨rfl, b1⟩; have qz := b1.size; simp at qz; have q0 : w1.cell? ⟨w.heap.size, 0, none⟩ = some (.map (some b)) := (b1.cells w.heap.size _ (by simp; omega)).trans ((BW.cells (BW.alloc (BW.refl wr) _) w.heap.size _ (by omega)).trans g0); have qc := fun o => (b1.cells wr.heap.size o (by simp)).trans (cell_new wr _ _ o))
                | (go_at_call 38; refine (HI2.out _ (BW.trans (BW.alloc hb _) b1)).mono ?_; rintro e w2 ⟨rfl, b2⟩; have qz2 := b2.size; have qc2 := fun o => (b2.cells wr.heap.size o (by omega)).trans (qc o)))
              all_goals (go_ret; exact ⟨by rw [HR.out]; rfl, by first | exact BW.trans (BW.trans (BW.alloc hb _) b1) b2 | exact BW.trans (BW.alloc hb _) b1⟩)
            | true =>
              have HN2 : Hid (clsG (knd n) (ttx n) (rt n) 18 (ops ++ [rs]) (l.drop (j + 1)) = R) := by have h := HO2.out.2.2; show _ = R; rw [← h]; simp [isCl, e1, e3]
              go_wp2_with (first
                | (go_at_call 37; refine (HC.out _).mono ?_; rintro e w1 ⟨rfl, b1⟩; have qz := b1.size; simp at qz; have q0 : w1.cell? ⟨w.heap.size, 0, none⟩ = some (.map (some b)) := (b1.cells w.heap.size _ (by simp; omega)).trans ((BW.cells (BW.alloc (BW.refl wr) _) w.heap.size _ (by omega)).trans g0); have qc := fun o => (b1.cells wr.heap.size o (by simp)).trans (cell_new wr _ _ o))
                | (go_at_call 38; refine (HI2.out _ (BW.trans (BW.alloc hb _) b1)).mono ?_; rintro e w2 ⟨rfl, b2⟩; have qz2 := b2.size; have qc2 := fun o => (b2.cells wr.heap.size o (by omega)).trans (qc o); have hown2 := own_bw hown (BW.trans (BW.alloc (BW.refl wr) _) (BW.trans b1 b2)))
                | (at_builtin; refine wpList_append_own _ rfl _ _ 22 rfl (w.heap.size + 1) 9 i0 (.string ⟨#[]⟩) 1 16 Tryd.underlying22 hi hz0 hz1 hz2 rfl (by decide) _ _ _ rfl (hown2.alloc _) ⟨w2.heap.size, 0, none⟩ 1 1 [.string rs] rfl rfl ?c1 ?c2 ?c3 ?c4 ?c5 ?_))
              case c1 => exact cells_new _ _ _
              case c2 => intro u hu; simp at hu; subst hu; rfl
              case c3 => have := HO2.out.2.1; unfold maxLen; omega
              case c4 => have := HO2.out.2.1; omega
              case c5 => simp; omega
              intro v' w3 hown3 hgrow3 _
              have hbw3 : Hid (BW (cx w b) w3) := Below.grown (BW.alloc (BW.trans hb1 (BW.trans (BW.alloc (BW.refl wr) _) (BW.trans b1 b2))) _) hgrow3 (by simp; omega) (fun k hk => by have := own_ge hown2 k hk; simp; omega)
              go_wp2_with (fail)
              go_roundw
              case rel => exact ⟨j + 1, 18, ops ++ [rs], by omega, rfl, by simpa using hown3, ⟨fun s hs => by rcases List.mem_append.1 hs with h | h; exact HO2.out.1 s h; simp at h; subst h; exact hsm, by have := HO2.out.2.1; simp; omega, HN2.out⟩, by go_num, hbw3.out⟩
              case measure => simp [intOf]; omega
        · have e2 : (rk == 18) = false := by simpa using q2
          have HC : Hid (∀ w, Calls Tryd.prog 37 #[ndv rk rn rs rna rnl rnc rka rkl rkc] w fun e w' => e = .returned (.bool (isCl rk)) ∧ BW w w') := fun w => clause_any _ _ _ _ _ _ _ _ _ w
          generalize isCl rk = c at *
          cases c with
          | false =>
            have HR : Hid (R = false) := by have h := HO2.out.2.2; show R = false; rw [← h]; simp []
            go_wp2_with (first
              | (go_at_call 37; refine (HC.out _).mono ?_; rintro e w1 ⟨rfl, b1⟩; have qz := b1.size; simp at qz; have q0 : w1.cell? ⟨w.heap.size, 0, none⟩ = some (.map (some b)) := (b1.cells w.heap.size _ (by simp; omega)).trans ((BW.cells (BW.alloc (BW.refl wr) _) w.heap.size _ (by omega)).trans g0); have qc := fun o => (b1.cells wr.heap.size o (by simp)).trans (cell_new wr _ _ o))
              | (go_at_call 38; refine (HI2.out _ (BW.trans (BW.alloc hb _) b1)).mono ?_; rintro e w2 ⟨rfl, b2⟩; have qz2 := b2.size; have qc2 := fun o => (b2.cells wr.heap.size o (by omega)).trans (qc o)))
            all_goals (go_ret; exact ⟨by rw [HR.out]; rfl, by first | exact BW.trans (BW.trans (BW.alloc hb _) b1) b2 | exact BW.trans (BW.alloc hb _) b1⟩)
          | true =>
            cases e3 : decide (rk ≤ la) with
            | true =>
              have HR : Hid (R = false) := by have h := HO2.out.2.2; show R = false; rw [← h]; simp [e1, e3]
              go_wp2_with (first
                | (go_at_call 37; refine (HC.out _).mono ?_; rintro e w1 ⟨rfl, b1⟩; have qz := b1.size; simp at qz; have q0 : w1.cell? ⟨w.heap.size, 0, none⟩ = some (.map (some b)) := (b1.cells w.heap.size _ (by simp; omega)).trans ((BW.cells (BW.alloc (BW.refl wr) _) w.heap.size _ (by omega)).trans g0); have qc := fun o => (b1.cells wr.heap.size o (by simp)).trans (cell_new wr _ _ o))
                | (go_at_call 38; refine (HI2.out _ (BW.trans (BW.alloc hb _) b1)).mono ?_; rintro e w2 ⟨rfl, b2⟩; have qz2 := b2.size; have qc2 := fun o => (b2.cells wr.heap.size o (by omega)).trans (qc o)))
              all_goals (go_ret; exact ⟨by rw [HR.out]; rfl, by first | exact BW.trans (BW.trans (BW.alloc hb _) b1) b2 | exact BW.trans (BW.alloc hb _) b1⟩)
            | false =>
              cases ok with
              | false =>
                have HR : Hid (R = false) := by have h := HO2.out.2.2; show R = false; rw [← h]; simp [e1, e2, e3, q2]
                go_wp2_with (first
                  | (go_at_call 37; refine (HC.out _).mono ?_; rintro e w1 ⟨rfl, b1⟩; have qz := b1.size; simp at qz; have q0 : w1.cell? ⟨w.heap.size, 0, none⟩ = some (.map (some b)) := (b1.cells w.heap.size _ (by simp; omega)).trans ((BW.cells (BW.alloc (BW.refl wr) _) w.heap.size _ (by omega)).trans g0); have qc := fun o => (b1.cells wr.heap.size o (by simp)).trans (cell_new wr _ _ o))
                  | (go_at_call 38; refine (HI2.out _ (BW.trans (BW.alloc hb _) b1)).mono ?_; rintro e w2 ⟨rfl, b2⟩; have qz2 := b2.size; have qc2 := fun o => (b2.cells wr.heap.size o (by omega)).trans (qc o)))
                all_goals (go_ret; exact ⟨by rw [HR.out]; rfl, by first | exact BW.trans (BW.trans (BW.alloc hb _) b1) b2 | exact BW.trans (BW.alloc hb _) b1⟩)
              | true =>
                have HN2 : Hid (clsG (knd n) (ttx n) (rt n) rk ops (l.drop (j + 1)) = R) := by have h := HO2.out.2.2; show _ = R; rw [← h]; simp [e1, e2, e3, q2]
                go_wp2_with (first
                  | (go_at_call 37; refine (HC.out _).mono ?_; rintro e w1 ⟨rfl, b1⟩; have qz := b1.size; simp at qz; have q0 : w1.cell? ⟨w.heap.size, 0, none⟩ = some (.map (some b)) := (b1.cells w.heap.size _ (by simp; omega)).trans ((BW.cells (BW.alloc (BW.refl wr) _) w.heap.size _ (by omega)).trans g0); have qc := fun o => (b1.cells wr.heap.size o (by simp)).trans (cell_new wr _ _ o))
                  | (go_at_call 38; refine (HI2.out _ (BW.trans (BW.alloc hb _) b1)).mono ?_; rintro e w2 ⟨rfl, b2⟩; have qz2 := b2.size; have qc2 := fun o => (b2.cells wr.heap.size o (by omega)).trans (qc o)))
                go_roundw
                case rel => exact ⟨j + 1, rk, ops, by omega, rfl, own_bw hown (BW.trans (BW.alloc (BW.refl wr) _) (BW.trans b1 b2)), ⟨HO2.out.1, by have := HO2.out.2.1; omega, HN2.out⟩, by go_num, BW.trans hb1 (BW.trans (BW.alloc (BW.refl wr) _) (BW.trans b1 b2))⟩
                case measure => simp [intOf]; omega
    · have hjn : kl = j := by omega
      subst hjn
      obtain ⟨ao, cp, rfl, hst, hcp⟩ := own_strs hown HO.out.1
      have HR : Hid (R = decide ops.Nodup) := by
        have := HO.out.2.2
        rw [List.drop_of_length_le (by rw [hl.out]; omega)] at this
        exact this.symm
      go_wp2_with (go_at_call 56; refine (unlike_any _ _ _ ops _ hst hcp).mono ?_; rintro e w4 ⟨rfl, b4⟩)
      go_ret
      exact ⟨by rw [HR.out]; rfl, BW.trans hb b4⟩

end Go.Proofs.YtijoadkjkbkjgaaDoor
