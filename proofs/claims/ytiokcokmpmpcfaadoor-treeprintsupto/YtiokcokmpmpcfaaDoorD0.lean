import Derived.Test.YtiokcokmpmpcfaaDoorC6
namespace Go.Proofs.YtiokcokmpmpcfaaDoor
open Go.RowKit
set_option linter.unusedVariables false
set_option linter.unusedSimpArgs false

theorem append_strs (ty : TypeId) (base : Nat) (v : Value) (xs ns : List ByteArray) (na : Option Addr) (nl nc : Nat) (w : World) (hown : w.ownsRow base 9 1 v xs.length (xs.map Value.string)) (hs : StrsAt w na nl ns) (hl : xs.length + nl ≤ 10000000) (hb : base ≤ w.heap.size) :
    ∃ v' w', (Builtin.append_ #[22, 22] ty #[v, .slice na nl nc]).run Tryd.prog w = .ok v' w' ∧ w'.ownsRow base 9 1 v' (xs ++ ns).length ((xs ++ ns).map Value.string) ∧ w.grownBy w' v.ownBlock := by
  obtain ⟨i0, hi, hz0, hz1, hz2⟩ := info_parts Tryd.info9
  obtain ⟨h1, h2, h3, h4⟩ := hs
  cases na with
  | none =>
    have h0 : nl = 0 := by
      rcases h4 with h | ⟨b, off, e, _⟩
      · exact h
      · cases e
    subst h0
    have hns : ns = [] := List.length_eq_zero_iff.1 h1
    subst hns
    refine ⟨v, w, ?_, by simpa using hown, ⟨rfl, rfl, rfl, Nat.le_refl _, fun _ _ _ => rfl⟩⟩
    rcases hown.2 with ⟨rfl, h0⟩ | ⟨g, cap, cur, rfl, _, _, hnc, _⟩
    · simp [Builtin.append_, run_underlying Tryd.underlying22, sizeOf, typeInfo, hi, Builtin.lenOf, Builtin.firstCells]
    · simp [Builtin.append_, run_underlying Tryd.underlying22, sizeOf, typeInfo, hi, Builtin.lenOf, Builtin.firstCells, hnc, storeCells]
  | some ad =>
    have hc : ∀ j u, (ns.map Value.string)[j]? = some u → w.cell? (ad.add j) = some u := by
      intro j u hj
      rcases h4 with h | ⟨b, off, e, _, hc⟩
      · have : ns = [] := List.length_eq_zero_iff.1 (h1.trans h)
        subst this; simp at hj
      · cases e
        simp only [List.getElem?_map, Option.map_eq_some_iff] at hj
        obtain ⟨s, hs, rfl⟩ := hj
        rw [Addr.add_mid]
        exact hc j s hs
    obtain ⟨v', w', hr, ho, hg, _⟩ := run_append_own (P := Tryd.prog) w base 22 ty 9 i0 (.string ⟨#[]⟩) 1 16 Tryd.underlying22 hi hz0 hz1 hz2 rfl (by decide) v xs.length (xs.map Value.string) hown ad nl nc (ns.map Value.string) (by simp [h1]) hc (by intro u hu; simp at hu; obtain ⟨s, _, rfl⟩ := hu; rfl) (by unfold maxLen; omega) (by omega) hb
    exact ⟨v', w', hr, by rw [← h1] at ho; simpa using ho, hg⟩
theorem wpList_append_strs {ops : Array Oper} {rest : List Oper} {o : Oper} {a : Act} {w : World} {Q : Exit → Act → World → Prop} (hgd : o.guard = none) (s x : Operand)
    (ho : o.op = .call { callee := .builtin .append, args := #[s, x], argTypes := #[22, 22] }) (base : Nat) (v : Value) (xs ns : List ByteArray) (na : Option Addr) (nl nc : Nat) (hsv : a.eval s = v) (hxv : a.eval x = .slice na nl nc)
    (hown : w.ownsRow base 9 1 v xs.length (xs.map Value.string)) (hs : StrsAt w na nl ns) (hl : xs.length + nl ≤ 10000000) (hb : base ≤ w.heap.size)
    (h : ∀ v' w', w'.ownsRow base 9 1 v' (xs ++ ns).length ((xs ++ ns).map Value.string) → w.grownBy w' v.ownBlock → wpList Tryd.prog ops Q rest (a.put o.dst v') w') : wpList Tryd.prog ops Q (o :: rest) a w := by
  refine wpList_plain hgd fun K hK => ?_
  obtain ⟨v', w', hrun, r1, r2⟩ := append_strs o.type base v xs ns na nl nc w hown hs hl hb
  unfold Oper.wp execOp
  simp only [ho, resolve, invoke, builtin, Sem.run_bind, Sem.run_pure, Result.andThen_ok, List.map_toArray, List.map_cons, List.map_nil, hsv, hxv, hrun]
  exact hK _ _ (h v' w' r1 r2)

/-- Texts with blanks between. -/
def bj (l : List ByteArray) : List UInt8 := Lib.join (l.map (·.data.toList)) [32]
def bjB (l : List ByteArray) : ByteArray := ⟨(bj l).toArray⟩
theorem bjB_size (l : List ByteArray) : (bjB l).size = (bj l).length := by simp [bjB, ByteArray.size]
/-- What stands ahead of a node's parts. -/
def opn (hd : ByteArray) (k : Int) (s : ByteArray) (ns : List ByteArray) : List ByteArray :=
  if k = 11 then [s] else if k = 6 then [hd, s, ⟨#[40]⟩ ++ bjB ns ++ ⟨#[41]⟩] else if s = ⟨#[]⟩ then hd :: ns else hd :: s :: ns
theorem own_lit (w : World) (l : List ByteArray) (h : l.length ≤ 1000) : (w.alloc (.cells (l.map Value.string).toArray 9)).ownsRow w.heap.size 9 1 (.slice (some ⟨w.heap.size, 0, none⟩) l.length l.length) l.length (l.map Value.string) := by
  have := World.ownsRow_lit (base := w.heap.size) (e := 9) (size := 1) w (l.map Value.string).toArray l.length (Nat.le_refl _) (by unfold maxLen; omega) (by simp)
  simpa using this
theorem join_any (na : Option Addr) (nl nc : Nat) (ns : List ByteArray) (w : World) (hs : StrsAt w na nl ns) (hc : nl ≤ nc) (hl : (bj ns).length ≤ 140737488355328) (hn : nl ≤ 10000000) : Calls Tryd.prog 60 #[.slice na nl nc, .string ⟨#[32]⟩] w fun e w' => e = .returned (.string (bjB ns)) ∧ BW w w' := by
  obtain ⟨h1, h2, h3, h4⟩ := hs
  rcases h4 with h0 | ⟨b, off, rfl, hb, hcl⟩
  · subst h0
    have : ns = [] := List.length_eq_zero_iff.1 h1
    subst this
    refine (Tryd.strings_Join_none na nc _ w).mono ?_
    rintro e w' ⟨rfl, rfl⟩
    exact ⟨rfl, BW.refl _⟩
  · subst h1
    refine (Tryd.strings_Join b off nc ns ⟨#[32]⟩ w hcl hb (by omega) hc hl).mono ?_
    rintro e w' ⟨rfl, hb'⟩
    exact ⟨rfl, hb'⟩
/-- What opening answers. -/
def OpenPost (w : World) (l : List ByteArray) (e : Ending) (w' : World) : Prop := (∃ ao cp, e = .returned (.slice ao l.length cp) ∧ StrsAt w' ao l.length l ∧ l.length ≤ cp) ∧ BW w w'
theorem own_post {w w' : World} {B : Nat} {v : Value} {l : List ByteArray} (h : w'.ownsRow B 9 1 v l.length (l.map Value.string)) (hs : ∀ s ∈ l, s.size ≤ maxLen) (hb : BW w w') : OpenPost w l (.returned v) w' := by
  obtain ⟨ao, cp, rfl, h1, h2⟩ := own_strs h hs
  exact ⟨⟨ao, cp, rfl, h1, h2⟩, hb⟩
theorem opn_small (hd : ByteArray) (k : Int) (ts : ByteArray) (ns : List ByteArray) (h1 : hd.size ≤ maxLen) (h2 : ts.size ≤ maxLen) (h3 : ∀ s ∈ ns, s.size ≤ maxLen) (h4 : (bj ns).length ≤ 1000000000) : ∀ x ∈ opn hd k ts ns, x.size ≤ maxLen := by
  intro x hx
  unfold opn at hx
  split at hx
  · simp at hx; subst hx; exact h2
  · split at hx
    · simp only [List.mem_cons, List.not_mem_nil, or_false] at hx
      rcases hx with rfl | rfl | rfl
      · exact h1
      · exact h2
      · have : (bjB ns).size = (bj ns).length := by simp [bjB, ByteArray.size]
        rw [ByteArray.size_append, ByteArray.size_append, this]
        show 1 + _ + 1 ≤ maxLen
        unfold maxLen; omega
    · split at hx
      · rcases List.mem_cons.1 hx with rfl | hx
        · exact h1
        · exact h3 x hx
      · rcases List.mem_cons.1 hx with rfl | hx
        · exact h1
        · rcases List.mem_cons.1 hx with rfl | hx
          · exact h2
          · exact h3 x hx
set_option maxRecDepth 100000 in
set_option maxHeartbeats 2000000 in
theorem opening_any (b mb : Nat) (kn : Nat) (tn : Int) (ts : ByteArray) (na : Option Addr) (nl nc : Nat) (ka : Option Addr) (kl kc : Nat) (ns : List ByteArray) (s : Shp) (w : World) (hsp : shp kn = some s) (hk : kn ≤ 255)
    (hb : b < w.heap.size) (hm : w.cell? ⟨b, 2, none⟩ = some (.map (some mb))) (hsh : ShapesAt w mb) (hn : StrsAt w na nl ns) (hnc : nl ≤ nc) (hnl : nl ≤ 2000000) (hts : ts.size ≤ 100000000) (hhd : s.head.size ≤ 1000) (hjl : (bj ns).length ≤ 1000000000) :
    Calls Tryd.prog 61 #[.pointer (some ⟨b, 0, none⟩), ndv kn tn ts na nl nc ka kl kc] w (OpenPost w (opn s.head kn ts ns)) := by
  have HN : Hid (StrsAt w na nl ns) := hn
  have HJ : Hid _ := hjl
  have HLK : Hid (∀ w', BW w w' → (Instr.lookup 38 (.map (some mb)) (.int .u8 kn) false).run Tryd.prog w' = .ok (.agg #[.string s.head, .int .i64 s.n0, .int .i64 s.n1, .int .i64 s.a0, .int .i64 s.a1, .int .i64 s.p0, .int .i64 s.p1, .func (.func s.f) #[] #[]]) w') := fun w' h => look_at (hsh.bw h) kn hk s hsp
  generalize s.head = hd at *
  clear hsh hn hsp
  have hsm : Hid (∀ x ∈ opn hd kn ts ns, x.size ≤ maxLen) := opn_small hd kn ts ns (by unfold maxLen; omega) (by unfold maxLen; omega) HN.out.2.2.1 hjl
  have HO : Hid (opn hd kn ts ns = if (kn : Int) = 11 then [ts] else if (kn : Int) = 6 then [hd, ts, ⟨#[40]⟩ ++ bjB ns ++ ⟨#[41]⟩] else if ts = ⟨#[]⟩ then hd :: ns else hd :: ts :: ns) := rfl
  generalize opn hd kn ts ns = L at *
  go_enter Tryd.func61, Tryd.ntmps61
  go_wp2_with (fail)
  obtain ⟨W1, hW1⟩ : ∃ W1, W1 = (w.alloc (.cells #[.int .u8 kn, .int .i64 tn, .string ts, .slice na nl nc, .slice ka kl kc] 25)) := ⟨_, rfl⟩
  have hbW : BW w W1 := by rw [hW1]; exact BW.alloc (BW.refl w) _
  obtain ⟨⟨g0, g1, g2, g3, g4⟩, gz, _⟩ := bx_at (w' := W1) (by rw [hW1]; exact BW.refl _)
  rw [← hW1]
  clear hW1
  have hm1 : W1.cell? ⟨b, 2, none⟩ = some (.map (some mb)) := (hbW.cells b 2 hb).trans hm
  have hL1 := fun q => HLK.out (W1.drewN q) (BW.drewN hbW q)
  have hL2 := HLK.out W1.drew (BW.drew hbW)
  have hL3 := HLK.out W1 hbW
  clear hm
  have hFd : ∀ w', (Instr.field 64 (.agg #[.string hd, .int .i64 s.n0, .int .i64 s.n1, .int .i64 s.a0, .int .i64 s.a1, .int .i64 s.p0, .int .i64 s.p1, .func (.func s.f) #[] #[]]) 0).run Tryd.prog w' = .ok (.string hd) w' := fun w' => by kernel_rfl
  go_region_held3 (fun w' => (Instr.lookup 38 (.map (some mb)) (.int .u8 kn) false).run Tryd.prog w' = .ok (.agg #[.string hd, .int .i64 s.n0, .int .i64 s.n1, .int .i64 s.a0, .int .i64 s.a1, .int .i64 s.p0, .int .i64 s.p1, .func (.func s.f) #[] #[]]) w' ∧ w'.cell? ⟨b, 2, none⟩ = some (.map (some mb)) ∧ w'.cell? ⟨w.heap.size, 0, none⟩ = some (.int .u8 kn)) ((refine ⟨hL2, ?_⟩; go_keep)) (fail)
  obtain ⟨W2, hW2⟩ : ∃ W2, W2 = W1.drew := ⟨_, rfl⟩
  have hb2 : BW w W2 := by rw [hW2]; exact BW.drew hbW
  have k0 : W2.cell? ⟨w.heap.size, 0, none⟩ = some (.int .u8 kn) := by rw [hW2]; exact g0
  have k2 : W2.cell? ⟨w.heap.size, 2, none⟩ = some (.string ts) := by rw [hW2]; exact g2
  have k3 : W2.cell? ⟨w.heap.size, 3, none⟩ = some (.slice na nl nc) := by rw [hW2]; exact g3
  have kz : w.heap.size < W2.heap.size := by rw [hW2]; exact gz
  rw [← hW2]
  clear hW2 hL1 hL2 hL3 hm1 g0 g1 g2 g3 g4 gz hbW
  have hst : StrsAt W2 na nl ns := HN.out.bw hb2
  by_cases h11 : kn = 11
  · have q1 : ((kn : Int) == 11) = true := by simp; omega
    have HL : Hid (L = [ts]) := by show L = _; rw [HO.out, if_pos (by omega)]
    go_wp2_with (fail)
    go_ret
    have hsm2 := hsm.out
    rw [HL.out] at hsm2 ⊢
    exact own_post (l := [ts]) (own_lit W2 [ts] (by simp)) hsm2 (BW.alloc hb2 _)
  · have q1 : ((kn : Int) == 11) = false := by simp; omega
    by_cases h6 : kn = 6
    · have q2 : ((kn : Int) == 6) = true := by simp; omega
      have HL : Hid (L = [hd, ts, ⟨#[40]⟩ ++ bjB ns ++ ⟨#[41]⟩]) := by show L = _; rw [HO.out, if_neg (by omega), if_pos (by omega)]
      have hss1 : ∀ v, (Op.stringOp .add (⟨#[40]⟩ : ByteArray) (bjB ns)).run Tryd.prog v = .ok (.string (⟨#[40]⟩ ++ bjB ns)) v := fun v => run_string_add_sum (w := v) _ _ (by have := HJ.out; have e := bjB_size ns; show 1 + _ ≤ _; omega)
      have hss2 : ∀ v, (Op.stringOp .add (⟨#[40]⟩ ++ bjB ns) (⟨#[41]⟩ : ByteArray)).run Tryd.prog v = .ok (.string (⟨#[40]⟩ ++ bjB ns ++ ⟨#[41]⟩)) v := fun v => run_string_add_sum (w := v) _ _ (by have := HJ.out; have e := bjB_size ns; rw [ByteArray.size_append]; show 1 + _ + 1 ≤ _; omega)
      have HJN : Hid (∀ w', BW W2 w' → Calls Tryd.prog 60 #[.slice na nl nc, .string ⟨#[32]⟩] w' fun e w'' => e = .returned (.string (bjB ns)) ∧ BW w' w'') := fun w' h => join_any na nl nc ns w' (hst.bw h) hnc (by have := HJ.out; omega) (by omega)
      go_wp2_with (fail)
      go_region_held3 (fun w' => BW W2 w' ∧ w'.cell? ⟨w.heap.size, 2, none⟩ = some (.string ts) ∧ w'.cell? ⟨w.heap.size, 3, none⟩ = some (.slice na nl nc)) ((refine ⟨(by repeat (first | exact BW.refl _ | assumption | apply BW.alloc | apply BW.drewN | apply BW.drew | (refine BW.setCell ?_ (by first | omega | (simp; done) | (simp; omega)) _) | (refine BW.trans ?_ (by assumption)))), ?_⟩; go_keep)) (first | (go_at_call 60; refine (HJN.out _ (by repeat (first | exact BW.refl _ | assumption | apply BW.alloc | apply BW.drewN | apply BW.drew | (refine BW.setCell ?_ (by first | omega | (simp; done) | (simp; omega)) _) | (refine BW.trans ?_ (by assumption))))).mono ?_; rintro e w3 ⟨rfl, b3⟩; have z1 := fun o => b3.cells w.heap.size o (by simp; omega)))
      have HB3 : Hid (BW w w3) := BW.trans hb2 (BW.trans (BW.drew (BW.refl _)) b3)
      clear z1 b3
      go_wp2_with (fail)
      go_ret
      have hsm2 := hsm.out
      rw [HL.out] at hsm2 ⊢
      exact own_post (l := [hd, ts, ⟨#[40]⟩ ++ bjB ns ++ ⟨#[41]⟩]) (own_lit w3 [hd, ts, ⟨#[40]⟩ ++ bjB ns ++ ⟨#[41]⟩] (by simp)) hsm2 (BW.alloc HB3.out _)
    · have q2 : ((kn : Int) == 6) = false := by simp; omega
      by_cases he : ts = ⟨#[]⟩
      · have q3 : (ts.toList == []) = true := by rw [lit_dec]; simpa using he
        have HL : Hid (L = [hd] ++ ns) := by show L = _; rw [HO.out, if_neg (by omega), if_neg (by omega), if_pos he]; rfl
        go_wp2_with (first | (at_builtin; refine wpList_append_strs rfl _ _ rfl W2.heap.size _ [hd] ns na nl nc rfl rfl (own_lit W2 [hd] (by simp)) (hst.bw (BW.alloc (BW.refl _) _)) (by simp; omega) (by simp) ?_))
        intro v' w3 hown hgrow
        have HB3 : Hid (BW w w3) := Below.grown (BW.alloc hb2 _) hgrow (by simp; omega) (fun k hk => by simp [Value.ownBlock] at hk; omega)
        clear hgrow
        go_wp2_with (fail)
        go_ret
        have hsm2 := hsm.out
        rw [HL.out] at hsm2 ⊢
        exact own_post (by simpa using hown) hsm2 HB3.out
      · have q3 : (ts.toList == []) = false := by rw [lit_dec]; simpa using he
        have q4 : ¬ ts.toList = [] := by simpa using q3
        have HL : Hid (L = [hd, ts] ++ ns) := by show L = _; rw [HO.out, if_neg (by omega), if_neg (by omega), if_neg he]; rfl
        go_wp2_with (first | (at_builtin; refine wpList_append_strs rfl _ _ rfl W2.heap.size _ [hd, ts] ns na nl nc rfl rfl (own_lit W2 [hd, ts] (by simp)) (hst.bw (BW.alloc (BW.refl _) _)) (by simp; omega) (by simp) ?_))
        intro v' w3 hown hgrow
        have HB3 : Hid (BW w w3) := Below.grown (BW.alloc hb2 _) hgrow (by simp; omega) (fun k hk => by simp [Value.ownBlock] at hk; omega)
        clear hgrow
        go_wp2_with (fail)
        go_ret
        have hsm2 := hsm.out
        rw [HL.out] at hsm2 ⊢
        exact own_post (by simpa using hown) hsm2 HB3.out

end Go.Proofs.YtiokcokmpmpcfaaDoor
