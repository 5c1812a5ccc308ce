import Derived.Test.YtiokcokmpmpcfaaDoorB1
import Derived.Laws.BitsLemmas
import Derived.Deep.RegionLaw
import Derived.Lib.ItoaNum
namespace Go.Proofs.YtiokcokmpmpcfaaDoor
open Go.RowKit
set_option linter.unusedVariables false
set_option linter.unusedSimpArgs false

theorem cells_new (W : World) (t : TypeId) (cs : List Value) : ∀ j u, cs[j]? = some u → (W.alloc (.cells cs.toArray t)).cell? ((⟨W.heap.size, 0, none⟩ : Addr).add j) = some u := by
  intro j u h
  have hadd : (⟨W.heap.size, 0, none⟩ : Addr).add j = ⟨W.heap.size, j, none⟩ := by unfold Addr.add; split <;> simp_all
  rw [hadd, cell_of_row _ _ j cs.toArray t (0, 0) (heap_alloc_new W _)]
  simpa using h
theorem step_append_own {P : Program} {ops : Array Oper} {o : Oper} {a : Act} {w : World} {K : Act → World → Prop} {Q : Exit → Act → World → Prop} {E : Prop}
    (hg : o.guard = none) (s x : Operand) (t : TypeId) (hop : o.op = Op.call { callee := Callee.builtin Builtin.append, args := #[s, x], argTypes := #[t, t] })
    (base : Nat) (e : TypeId) (i : TypeInfo) (z : Value) (size bytes : Nat) (h1 : P.underlying t = some (.slice e)) (h2 : P.info? e = some i) (h3 : i.zero = some z) (h4 : i.size = size) (h5 : i.bytes = bytes) (h6 : z.cells.size = size) (h7 : 0 < size)
    (v : Value) (n : Nat) (xs : List Value) (hs : a.eval s = v) (hown : w.ownsRow base e size v n xs)
    (ad : Addr) (m c : Nat) (news : List Value) (hx : a.eval x = .slice (some ad) m c) (hn : news.length = m * size) (hc : ∀ j u, news[j]? = some u → w.cell? (ad.add j) = some u) (h1c : ∀ u ∈ news, u.oneCell' = true)
    (b1 : n + m ≤ maxLen) (b2 : (n + m) * bytes ≤ 140737488355328) (hb : base ≤ w.heap.size)
    (hK : ∀ v' w', w'.ownsRow base e size v' (n + m) (xs ++ news) → w.grownBy w' v.ownBlock → K (a.put o.dst v') w') :
    if Region.wanted o (yielded ops a.tmps) = true then Oper.wp P o a w K Q else E := by
  have hw : Region.wanted o (yielded ops a.tmps) = true := by simp [Region.wanted, hg]
  rw [if_pos hw]
  obtain ⟨v', w', hrun, r1, r2, _⟩ := run_append_own (P := P) w base t o.type e i z size bytes h1 h2 h3 h4 h5 h6 h7 v n xs hown ad m c news hn hc h1c b1 b2 hb
  unfold Oper.wp
  simp [execOp, hop, resolve, invoke, builtin, hs, hx, hrun, Result.andThen]
  exact hK v' w' r1 r2
theorem cell_at_new {W : World} {k t : Nat} (l : List Value) (hk : k = W.heap.size) (j : Nat) (u : Value) (h : l[j]? = some u) : (W.alloc (.cells l.toArray t)).cell? ((⟨k, 0, none⟩ : Addr).add j) = some u := by
  subst hk
  have hadd : (⟨W.heap.size, 0, none⟩ : Addr).add j = ⟨W.heap.size, j, none⟩ := by unfold Addr.add; split <;> simp_all
  rw [hadd, cell_of_row _ _ j l.toArray t (0, 0) (heap_alloc_new W _)]
  simpa using h
def hexS : ByteArray := { data := #[48, 49, 50, 51, 52, 53, 54, 55, 56, 57, 97, 98, 99, 100, 101, 102] }
def hexd (k : Nat) : UInt8 := hexS.data.toList.getD k 0
def esc (c : UInt8) : List UInt8 := if c = 34 ∨ c = 92 then [92, c] else if 32 ≤ c.toNat ∧ c.toNat ≤ 126 then [c] else [92, 120, hexd (c.toNat / 16), hexd (c.toNat % 16)]
abbrev hexA : ByteArray := { data := #[48, 49, 50, 51, 52, 53, 54, 55, 56, 57, 97, 98, 99, 100, 101, 102] }
theorem hexS_get : ∀ (k : Nat) (hk : k < hexA.size), hexA[k] = hexd k := by decide
/-- A text, shown. -/
def quo (l : List UInt8) : List UInt8 := 34 :: (l.flatMap esc ++ [34])
theorem esc_len (c : UInt8) : (esc c).length ≤ 4 := by unfold esc; split; · simp
                                                       · split <;> simp
theorem flat_len (l : List UInt8) : (l.flatMap esc).length ≤ 4 * l.length := by
  induction l with
  | nil => simp
  | cons a r ih => have := esc_len a; simp only [List.flatMap_cons, List.length_append, List.length_cons]; omega
theorem quo_len (l : List UInt8) : (quo l).length ≤ 4 * l.length + 2 := by have := flat_len l; simp only [quo, List.length_cons, List.length_append, List.length_nil]; omega
theorem take_snoc' (s : ByteArray) (k : Nat) (h : k < s.size) : s.data.toList.take (k + 1) = s.data.toList.take k ++ [s[k]] := by
  rw [List.take_succ_eq_append_getElem (by simpa using h)]; rfl
theorem flat_snoc (s : ByteArray) (k : Nat) (h : k < s.size) : (s.data.toList.take (k + 1)).flatMap esc = (s.data.toList.take k).flatMap esc ++ esc s[k] := by
  rw [take_snoc' s k h]; simp
theorem own_new (w : World) (l : List UInt8) (hl : l.length ≤ 10) : (w.alloc (.cells (Lib.byteCells l).toArray 5)).ownsRow w.heap.size 5 1 (.slice (some ⟨w.heap.size, 0, none⟩) l.length l.length) l.length (Lib.byteCells l) := by
  refine ⟨by simp [Lib.byteCells], .inr ⟨w.heap.size, l.length, _, rfl, Nat.le_refl _, heap_alloc_new _ _, Nat.le_refl _, by unfold maxLen; omega, by simp [Lib.byteCells], ?_⟩⟩
  rw [List.take_of_length_le (by simp [Lib.byteCells])]
theorem esc_two (c : UInt8) (h : c = 34 ∨ c = 92) : esc c = [92, c] := by unfold esc; rw [if_pos h]
theorem esc_one (c : UInt8) (h1 : ¬ c.toNat = 34) (h2 : ¬ c.toNat = 92) (h3 : 32 ≤ c.toNat) (h4 : c.toNat ≤ 126) : esc c = [c] := by
  unfold esc
  rw [if_neg (by rintro (rfl | rfl) <;> simp_all), if_pos ⟨h3, h4⟩]
theorem esc_hex (c : UInt8) (h1 : ¬ c.toNat = 34) (h2 : ¬ c.toNat = 92) (h3 : c.toNat < 32 ∨ 126 < c.toNat) : esc c = [92, 120, hexd (c.toNat / 16), hexd (c.toNat % 16)] := by
  unfold esc
  rw [if_neg (by rintro (rfl | rfl) <;> simp_all), if_neg (by omega)]
def Qrel (w : World) (s : ByteArray) (v i : Value) (w' : World) : Prop := ∃ k : Nat, k ≤ s.size ∧ i = .int .i64 k ∧ (∃ g cap, v = .slice (some ⟨g, 0, none⟩) (34 :: (s.data.toList.take k).flatMap esc).length cap) ∧ w'.ownsRow w.heap.size 5 1 v (34 :: (s.data.toList.take k).flatMap esc).length (Lib.byteCells (34 :: (s.data.toList.take k).flatMap esc)) ∧ BW w w'
theorem q_next (w W W' w2 : World) (s : ByteArray) (k : Nat) (q r : List UInt8) (m : Nat) (hm : m = r.length) (hk : k < s.size) (v v' : Value) (hS : 34 :: (s.data.toList.take (k + 1)).flatMap esc = q ++ r) (hq : q ≠ []) (hB : BW w W) (hW : BW W W') (hown : W.ownsRow w.heap.size 5 1 v q.length (Lib.byteCells q)) (hg : W'.grownBy w2 v.ownBlock) (hown' : w2.ownsRow w.heap.size 5 1 v' (q.length + m) (Lib.byteCells q ++ Lib.byteCells r)) : Qrel w s v' (.int .i64 ((k : Int) + 1)) w2 := by
  subst hm
  have e : (q ++ r).length = q.length + r.length := List.length_append
  have e2 : Lib.byteCells (q ++ r) = Lib.byteCells q ++ Lib.byteCells r := by simp [Lib.byteCells]
  refine ⟨k + 1, by omega, by simp, ?_, ?_, ?_⟩
  · rw [hS, e]
    exact Go.Joins.ownsRow_form hown' (by have : q.length ≠ 0 := by simpa using hq
                                          omega)
  · rw [hS, e, e2]; exact hown'
  · exact Below.grown (hB.trans hW) hg (Nat.le_trans hB.size hW.size) (fun j hj => (own5_ty hown j hj).1)
theorem conv_row (W : World) (B g cap : Nat) (l : List UInt8) (n : Nat) (hn : n = l.length) (h : W.ownsRow B 5 1 (.slice (some ⟨g, 0, none⟩) n cap) n (Lib.byteCells l)) : (convert 41 9 (.slice (some ⟨g, 0, none⟩) n cap)).run Tryd.prog W = .ok (.string ⟨l.toArray⟩) W := by
  subst hn
  refine run_convert_bytes_back W 41 9 5 ⟨g, 0, none⟩ cap l Tryd.underlying41 Tryd.underlying5 Tryd.underlying9 ?_
  intro j hj
  exact h.cells (g := g) rfl j (.int .u8 l[j].toNat) (by simp [Lib.byteCells, hj])
set_option maxHeartbeats 2000000 in
set_option maxRecDepth 100000 in
theorem refQuote_any (s : ByteArray) (hs : s.size ≤ 70000) (w : World) : Calls Tryd.prog 27 #[.string s] w fun e w' => e = .returned (.string ⟨(quo s.data.toList).toArray⟩) ∧ BW w w' := by
  obtain ⟨i0, hi, hz0, hz1, hz2⟩ := info_parts Tryd.info5
  go_enter Tryd.func27, Tryd.ntmps27
  go_wp2_with (fail)
  go_loopw [4, 5] (fun v i w' => Qrel w s v i w') (fun _ i _ => s.size - (intOf i).toNat)
  case atStart => exact ⟨0, Nat.zero_le _, rfl, ⟨_, _, rfl⟩, own_new w [34] (by simp), (by repeat (first | exact BW.refl _ | apply BW.alloc | apply BW.drewN | apply BW.drew))⟩
  case round =>
    obtain ⟨k, hk, rfl, ⟨g, cap, rfl⟩, hown, hbw⟩ := hrel
    have hfl := flat_len (s.data.toList.take k)
    have htl : (s.data.toList.take k).length ≤ k := List.length_take_le _ _
    have HL : Hid ((34 :: (s.data.toList.take k).flatMap esc).length ≤ 280001) := by show _ ≤ _; simp only [List.length_cons]; omega
    clear hfl htl
    have hz := hbw.size
    by_cases hlt : k < s.size
    · have HS : Hid (34 :: (s.data.toList.take (k + 1)).flatMap esc = (34 :: (s.data.toList.take k).flatMap esc) ++ esc s[k]) := by
        show _ = _
        rw [flat_snoc s k hlt]; rfl
      have Hq : Hid ((34 :: (s.data.toList.take k).flatMap esc) ≠ []) := by show _ ≠ _; simp
      generalize (34 :: (s.data.toList.take k).flatMap esc) = q at *
      rcases (by omega : s[k].toNat = 34 ∨ s[k].toNat = 92 ∨ (¬ s[k].toNat = 34 ∧ ¬ s[k].toNat = 92 ∧ 32 ≤ s[k].toNat ∧ s[k].toNat ≤ 126) ∨ (¬ s[k].toNat = 34 ∧ ¬ s[k].toNat = 92 ∧ (s[k].toNat < 32 ∨ 126 < s[k].toNat))) with h | h | ⟨h1, h2, h3, h4⟩ | ⟨h1, h2, h3⟩
      · rw [show s[k] = 34 from UInt8.toNat_inj.1 h, esc_two 34 (.inl rfl)] at HS
        have e1 : ((s[k].toNat : Int) == 34) = true := by simp [h]
        have e0 : (s[k].toNat : Int) = 34 := by omega
        go_wp2_with (at_builtin; refine wpList_append_own _ rfl _ _ 41 rfl w.heap.size 5 i0 (.int .u8 0) 1 1 Tryd.underlying41 hi hz0 hz1 hz2 rfl (by decide) _ _ _ rfl (hown.alloc _) ⟨wr.heap.size, 0, none⟩ 2 2 [.int .u8 92, .int .u8 34] rfl rfl (cells_new _ _ _) (by intro u hu; simp at hu; rcases hu with rfl | rfl <;> rfl) (by unfold maxLen; have := HL.out; omega) (by have := HL.out; omega) (by simp; omega) ?_)
        intro v' w2 hown' hgrow _
        have hN : Hid (Qrel w s v' (.int .i64 ((k : Int) + 1)) w2) := q_next w wr _ w2 s k q [92, 34] 2 rfl hlt _ v' HS.out Hq.out hbw (by repeat (first | exact BW.refl _ | apply BW.alloc | apply BW.drewN | apply BW.drew)) hown hgrow hown'
        go_wp2_with (fail)
        go_roundw
        case rel => exact hN.out
        case measure => simp [intOf]; omega
      · rw [show s[k] = 92 from UInt8.toNat_inj.1 h, esc_two 92 (.inr rfl)] at HS
        have e1 : ((s[k].toNat : Int) == 34) = false := by simp [h]
        have e2 : ((s[k].toNat : Int) == 92) = true := by simp [h]
        have e0 : (s[k].toNat : Int) = 92 := by omega
        go_wp2_with (at_builtin; refine wpList_append_own _ rfl _ _ 41 rfl w.heap.size 5 i0 (.int .u8 0) 1 1 Tryd.underlying41 hi hz0 hz1 hz2 rfl (by decide) _ _ _ rfl (hown.alloc _) ⟨wr.heap.size, 0, none⟩ 2 2 [.int .u8 92, .int .u8 92] rfl rfl (cells_new _ _ _) (by intro u hu; simp at hu; rcases hu with rfl | rfl <;> rfl) (by unfold maxLen; have := HL.out; omega) (by have := HL.out; omega) (by simp; omega) ?_)
        intro v' w2 hown' hgrow _
        have hN : Hid (Qrel w s v' (.int .i64 ((k : Int) + 1)) w2) := q_next w wr _ w2 s k q [92, 92] 2 rfl hlt _ v' HS.out Hq.out hbw (by repeat (first | exact BW.refl _ | apply BW.alloc | apply BW.drewN | apply BW.drew)) hown hgrow hown'
        go_wp2_with (fail)
        go_roundw
        case rel => exact hN.out
        case measure => simp [intOf]; omega
      · rw [esc_one _ h1 h2 h3 h4] at HS
        have e1 : ((s[k].toNat : Int) == 34) = false := by simp; omega
        have e2 : ((s[k].toNat : Int) == 92) = false := by simp; omega
        have e3 : decide ((32 : Int) ≤ (s[k].toNat : Int)) = true := by simp; omega
        have e4 : decide ((s[k].toNat : Int) ≤ 126) = true := by simp; omega
        go_wp2_with (at_builtin; refine wpList_append_own _ rfl _ _ 41 rfl w.heap.size 5 i0 (.int .u8 0) 1 1 Tryd.underlying41 hi hz0 hz1 hz2 rfl (by decide) _ _ _ rfl (hown.alloc _) ⟨wr.heap.size, 0, none⟩ 1 1 [.int .u8 s[k].toNat] rfl rfl (cells_new _ _ _) (by intro u hu; simp at hu; rcases hu with rfl <;> rfl) (by unfold maxLen; have := HL.out; omega) (by have := HL.out; omega) (by simp; omega) ?_)
        intro v' w2 hown' hgrow _
        have hN : Hid (Qrel w s v' (.int .i64 ((k : Int) + 1)) w2) := q_next w wr _ w2 s k q [s[k]] 1 rfl hlt _ v' HS.out Hq.out hbw (by repeat (first | exact BW.refl _ | apply BW.alloc | apply BW.drewN | apply BW.drew)) hown hgrow hown'
        go_wp2_with (fail)
        go_roundw
        case rel => exact hN.out
        case measure => simp [intOf]; omega
      · rw [esc_hex _ h1 h2 h3] at HS
        have e1 : ((s[k].toNat : Int) == 34) = false := by simp; omega
        have e2 : ((s[k].toNat : Int) == 92) = false := by simp; omega
        have hlt8 := s[k].toNat_lt
        have t1 : (s[k].toNat : Int).tdiv 16 = (s[k].toNat : Int) / 16 := Int.tdiv_eq_ediv_of_nonneg (by omega)
        have t2 : (s[k].toNat : Int).tmod 16 = (s[k].toNat : Int) % 16 := Int.tmod_eq_emod_of_nonneg (by omega)
        have t3 : IntKind.u8.wrap ((s[k].toNat : Int) / 16) = (s[k].toNat : Int) / 16 := u8w _ (by omega) (by omega)
        have hq : 0 ≤ (s[k].toNat : Int) / 16 ∧ (s[k].toNat : Int) / 16 < 16 := by omega
        have hr : 0 ≤ (s[k].toNat : Int) % 16 ∧ (s[k].toNat : Int) % 16 < 16 := by omega
        have HH : Hid ((∀ (hk : ((s[k].toNat : Int) / 16).toNat < hexA.size), hexA[((s[k].toNat : Int) / 16).toNat] = hexd (s[k].toNat / 16)) ∧ (∀ (hk : ((s[k].toNat : Int) % 16).toNat < hexA.size), hexA[((s[k].toNat : Int) % 16).toNat] = hexd (s[k].toNat % 16))) := ⟨fun hk => by rw [hexS_get]; congr 1, fun hk => by rw [hexS_get]; congr 1⟩
        have p1 : ((s[k].toNat : Int) / 16).toNat < hexA.size := by show _ < 16; omega
        have p2 : ((s[k].toNat : Int) % 16).toNat < hexA.size := by show _ < 16; omega
        have hc' : decide ((32 : Int) ≤ (s[k].toNat : Int)) = false ∨ decide ((32 : Int) ≤ (s[k].toNat : Int)) = true ∧ decide ((s[k].toNat : Int) ≤ 126) = false := by
          rcases h3 with hc | hc
          · exact .inl (by simp; omega)
          · exact .inr ⟨by simp; omega, by simp; omega⟩
        rcases hc' with e3 | ⟨e3, e4⟩
        all_goals
          go_wp2_with (fail)
          go_region_law (refine step_append_own rfl (.tmp 37) (.tmp 46) 41 rfl w.heap.size 5 i0 (.int .u8 0) 1 1 Tryd.underlying41 hi hz0 hz1 hz2 rfl (by decide) _ _ _ rfl (own_bw hown (by repeat (first | exact BW.refl _ | apply BW.alloc | apply BW.drewN | apply BW.drew))) ⟨_, 0, none⟩ 4 4 [.int .u8 92, .int .u8 120, .int .u8 (hexA[((s[k].toNat : Int) / 16).toNat]'p1).toNat, .int .u8 (hexA[((s[k].toNat : Int) % 16).toNat]'p2).toNat] (by simp [Act.eval]; rfl) rfl (fun j u hj => cell_at_new _ (by simp) j u hj) (by intro u hu; simp at hu; rcases hu with rfl | rfl | rfl | rfl <;> rfl) (by unfold maxLen; have := HL.out; omega) (by have := HL.out; omega) (by first | (simp; done) | (simp; omega)) ?_; intro v' w2 hown' hgrow; have hN : Hid (Qrel w s v' (.int .i64 ((k : Int) + 1)) w2) := q_next w wr _ w2 s k q [92, 120, hexd (s[k].toNat / 16), hexd (s[k].toNat % 16)] 4 rfl hlt _ v' HS.out Hq.out hbw (by repeat (first | exact BW.refl _ | apply BW.alloc | apply BW.drewN | apply BW.drew)) hown hgrow (by rw [HH.out.1, HH.out.2] at hown'; exact hown'))
          all_goals
            go_wp2_with (fail)
            go_roundw
            case rel => exact hN.out
            case measure => simp [intOf]; omega
    · obtain rfl : k = s.size := by omega
      have hE : Hid (quo s.data.toList = (34 :: (s.data.toList.take s.size).flatMap esc) ++ [34]) := by
        show _ = _
        rw [List.take_of_length_le (by simp)]; rfl
      have Hq : Hid ((34 :: (s.data.toList.take s.size).flatMap esc) ≠ []) := by show _ ≠ _; simp
      generalize (34 :: (s.data.toList.take s.size).flatMap esc) = q at *
      go_wp2_with (at_builtin; refine wpList_append_own _ rfl _ _ 41 rfl w.heap.size 5 i0 (.int .u8 0) 1 1 Tryd.underlying41 hi hz0 hz1 hz2 rfl (by decide) _ _ _ rfl (hown.alloc _) ⟨wr.heap.size, 0, none⟩ 1 1 [.int .u8 34] rfl rfl (cells_new _ _ _) (by intro u hu; simp at hu; rcases hu with rfl <;> rfl) (by unfold maxLen; have := HL.out; omega) (by have := HL.out; omega) (by simp; omega) ?_)
      intro v' w2 hown' hgrow _
      have hB2 : BW w w2 := Below.grown (hbw.alloc _) hgrow (by simp; omega) (fun j hj => (own5_ty hown j hj).1)
      obtain ⟨g', cap', rfl⟩ := Go.Joins.ownsRow_form hown' (by omega)
      have hconv := conv_row w2 w.heap.size g' cap' (q ++ [34]) (q.length + 1) (by simp) (by simpa [Lib.byteCells] using hown')
      go_wp2_with (fail)
      go_ret
      exact ⟨by rw [hE.out]; rfl, hB2⟩
theorem conv_one (W : World) (g : Nat) (c : UInt8) (h : W.cell? ⟨g, 0, none⟩ = some (.int .u8 c.toNat)) : (convert 41 9 (.slice (some ⟨g, 0, none⟩) 1 1)).run Tryd.prog W = .ok (.string ⟨#[c]⟩) W := by
  refine run_convert_bytes_back W 41 9 5 ⟨g, 0, none⟩ 1 [c] Tryd.underlying41 Tryd.underlying5 Tryd.underlying9 ?_
  intro j hj
  have : j = 0 := by simpa using hj
  subst this
  simpa [Addr.add] using h
theorem byte48 (n : Int) (h0 : 0 ≤ n) (h : n < 10) : (48 + n : Int) = ((UInt8.ofNat (48 + n.toNat)).toNat : Int) := by
  rw [UInt8.toNat_ofNat']; omega
set_option maxRecDepth 100000 in
set_option maxHeartbeats 1000000 in
theorem digits_one (n : Int) (h0 : 0 ≤ n) (h : n < 10) (w : World) : Calls Tryd.prog 53 #[.int .u64 n] w fun e w' => e = .returned (.string ⟨#[UInt8.ofNat (48 + n.toNat)]⟩) ∧ BW w w' := by
  have w1 : IntKind.u8.wrap n = n := u8w n h0 (by omega)
  have w2 : IntKind.u8.wrap (48 + n) = 48 + n := u8w _ (by omega) (by omega)
  have hconv : ∀ (W : World) (g : Nat), W.cell? ⟨g, 0, none⟩ = some (.int .u8 (48 + n)) → (convert 41 9 (.slice (some ⟨g, 0, none⟩) 1 1)).run Tryd.prog W = .ok (.string ⟨#[UInt8.ofNat (48 + n.toNat)]⟩) W := fun W g hc => conv_one W g _ (by rw [← byte48 n h0 (by omega)]; exact hc)
  generalize UInt8.ofNat (48 + n.toNat) = c at *
  go_enter Tryd.func53, Tryd.ntmps53
  go_wp2_with (fail)
  go_ret
  exact ⟨rfl, (by repeat (first | exact BW.refl _ | assumption | apply BW.alloc | apply BW.drewN | apply BW.drew | (refine BW.setCell ?_ (by first | omega | (simp; done) | (simp; omega)) _) | (refine BW.trans ?_ (by assumption))))⟩
set_option maxRecDepth 100000 in
set_option maxHeartbeats 1000000 in
theorem digits_more (n : Int) (h : ¬ n < 10) (h1 : n ≤ 18446744073709551615) (q : ByteArray) (hqs : q.size ≤ 100) (w : World) (hq : ∀ w1, BW w w1 → Calls Tryd.prog 53 #[.int .u64 (n / 10)] w1 fun e w' => e = .returned (.string q) ∧ BW w1 w') : Calls Tryd.prog 53 #[.int .u64 n] w fun e w' => e = .returned (.string (q ++ ⟨#[UInt8.ofNat (48 + (n % 10).toNat)]⟩)) ∧ BW w w' := by
  have hq' : Hid _ := hq
  clear hq
  have t1 : n.tdiv 10 = n / 10 := Int.tdiv_eq_ediv_of_nonneg (by omega)
  have t2 : n.tmod 10 = n % 10 := Int.tmod_eq_emod_of_nonneg (by omega)
  have t3 : IntKind.u64.wrap (n / 10) = n / 10 := u64w _ (by omega) (by omega)
  have t4 : IntKind.u8.wrap (n % 10) = n % 10 := u8w _ (by omega) (by omega)
  have t5 : IntKind.u8.wrap (48 + n % 10) = 48 + n % 10 := u8w _ (by omega) (by omega)
  have e1 := byte48 (n % 10) (by omega) (by omega)
  have hconv : ∀ (W : World) (g : Nat), W.cell? ⟨g, 0, none⟩ = some (.int .u8 (48 + n % 10)) → (convert 41 9 (.slice (some ⟨g, 0, none⟩) 1 1)).run Tryd.prog W = .ok (.string ⟨#[UInt8.ofNat (48 + (n % 10).toNat)]⟩) W := fun W g hc => conv_one W g _ (by rw [← e1]; exact hc)
  clear e1
  generalize UInt8.ofNat (48 + (n % 10).toNat) = c at *
  generalize n % 10 = m at *
  generalize n / 10 = k at *
  go_enter Tryd.func53, Tryd.ntmps53
  go_wp2_with (fail)
  go_region_with (first | (go_at_call 53; refine (hq'.out _ (by repeat (first | exact BW.refl _ | apply BW.alloc | apply BW.drewN | apply BW.drew))).mono ?_; rintro e w1 ⟨rfl, hb1⟩; have hz := hb1.size; (try simp at hz); (try have q0 := fun o => hb1.cells w.heap.size o (by first | omega | (simp; done) | (simp; omega)))))
  all_goals
    go_wp2_with (fail)
    go_ret
    exact ⟨rfl, by first | exact (BW.trans (by repeat (first | exact BW.refl _ | apply BW.alloc | apply BW.drewN | apply BW.drew)) hb1) | exact BW.trans (BW.trans (by repeat (first | exact BW.refl _ | apply BW.alloc | apply BW.drewN | apply BW.drew)) hb1) (by repeat (first | exact BW.refl _ | apply BW.alloc | apply BW.drewN | apply BW.drew))⟩
theorem dec_len : ∀ (k u : Nat), u < 10 ^ (k + 1) → (Lib.decDigits u).length ≤ k + 1 := by
  intro k
  induction k with
  | zero => intro u h; rw [Lib.decDigits, dif_pos (by simpa using h)]; simp
  | succ k ih =>
    intro u h
    rw [Lib.decDigits]
    split
    · simp
    · have := ih (u / 10) (by rw [Nat.pow_succ] at h; omega)
      simp; omega
theorem dec_size (u : Nat) (h : u ≤ 18446744073709551615) : (⟨(Lib.decDigits u).toArray⟩ : ByteArray).size ≤ 100 := by
  have := dec_len 19 u (by omega)
  show (Lib.decDigits u).toArray.size ≤ 100
  rw [List.size_toArray]; omega
theorem digits_any : ∀ (u : Nat), u ≤ 18446744073709551615 → ∀ (w : World), Calls Tryd.prog 53 #[.int .u64 u] w fun e w' => e = .returned (.string ⟨(Lib.decDigits u).toArray⟩) ∧ BW w w' := by
  intro u
  induction u using Nat.strongRecOn with
  | _ u ih =>
    intro hu w
    rw [Lib.decDigits]
    by_cases h : u < 10
    · rw [dif_pos h]
      have := digits_one (u : Int) (by omega) (by omega) w
      simpa using this
    · rw [dif_neg h]
      have := digits_more (u : Int) (by omega) (by omega) ⟨(Lib.decDigits (u / 10)).toArray⟩ (dec_size _ (by omega)) w (fun w1 _ => by
        have := ih (u / 10) (by omega) (by omega) w1
        simpa using this)
      have e : (⟨(Lib.decDigits (u / 10)).toArray⟩ ++ ⟨#[UInt8.ofNat (48 + ((u : Int) % 10).toNat)]⟩ : ByteArray) = ⟨(Lib.decDigits (u / 10) ++ [UInt8.ofNat (48 + u % 10)]).toArray⟩ := by
        have : ((u : Int) % 10).toNat = u % 10 := by omega
        rw [this]
        apply ByteArray.ext
        simp [ByteArray.data_append]
      rw [e] at this
      exact this
set_option maxRecDepth 100000 in
set_option maxHeartbeats 1000000 in
theorem number_neg (n : Int) (h0 : -9223372036854775808 ≤ n) (h : n < 0) (q : ByteArray) (hqs : q.size ≤ 100) (w : World) (hq : ∀ w1, BW w w1 → Calls Tryd.prog 53 #[.int .u64 (-n)] w1 fun e w' => e = .returned (.string q) ∧ BW w1 w') :
    Calls Tryd.prog 26 #[.int .i64 n] w fun e w' => e = .returned (.string (⟨#[45]⟩ ++ q)) ∧ BW w w' := by
  have hq' : Hid _ := hq
  clear hq
  have t1 : IntKind.i64.wrap (n + 1) = n + 1 := i64w _ (by omega) (by omega)
  have t2 : IntKind.i64.wrap (-(n + 1)) = -(n + 1) := i64w _ (by omega) (by omega)
  have t3 : IntKind.u64.wrap (-(n + 1)) = -(n + 1) := u64w _ (by omega) (by omega)
  have t4 : IntKind.u64.wrap (-(n + 1) + 1) = -n := by rw [u64w _ (by omega) (by omega)]; omega
  go_enter Tryd.func26, Tryd.ntmps26
  go_wp2_with (fail)
  refine (hq'.out _ (by repeat (first | exact BW.refl _ | apply BW.alloc | apply BW.drewN | apply BW.drew))).mono ?_
  rintro e w1 ⟨rfl, hb1⟩
  go_wp2_with (fail)
  go_ret
  exact ⟨rfl, BW.trans (by repeat (first | exact BW.refl _ | apply BW.alloc | apply BW.drewN | apply BW.drew)) hb1⟩
set_option maxRecDepth 100000 in
set_option maxHeartbeats 1000000 in
theorem number_pos (n : Int) (h : ¬ n < 0) (h1 : n ≤ 9223372036854775807) (q : ByteArray) (w : World) (hq : ∀ w1, BW w w1 → Calls Tryd.prog 53 #[.int .u64 n] w1 fun e w' => e = .returned (.string q) ∧ BW w1 w') :
    Calls Tryd.prog 26 #[.int .i64 n] w fun e w' => e = .returned (.string q) ∧ BW w w' := by
  have hq' : Hid _ := hq
  clear hq
  have t3 : IntKind.u64.wrap n = n := u64w _ (by omega) (by omega)
  go_enter Tryd.func26, Tryd.ntmps26
  go_wp2_with (fail)
  refine (hq'.out _ (by repeat (first | exact BW.refl _ | apply BW.alloc | apply BW.drewN | apply BW.drew))).mono ?_
  rintro e w1 ⟨rfl, hb1⟩
  go_wp2_with (fail)
  go_ret
  exact ⟨rfl, BW.trans (by repeat (first | exact BW.refl _ | apply BW.alloc | apply BW.drewN | apply BW.drew)) hb1⟩
theorem number_any (n : Int) (h0 : -9223372036854775808 ≤ n) (h1 : n ≤ 9223372036854775807) (w : World) : Calls Tryd.prog 26 #[.int .i64 n] w fun e w' => e = .returned (.string ⟨(Lib.itoa n).toArray⟩) ∧ BW w w' := by
  unfold Lib.itoa
  by_cases h : n < 0
  · rw [if_pos h]
    have := number_neg n h0 h ⟨(Lib.decDigits n.natAbs).toArray⟩ (dec_size _ (by omega)) w (fun w1 _ => by
      have e : (-n : Int) = (n.natAbs : Int) := by omega
      rw [e]
      exact digits_any n.natAbs (by omega) w1)
    have e : (⟨#[45]⟩ ++ ⟨(Lib.decDigits n.natAbs).toArray⟩ : ByteArray) = ⟨(45 :: Lib.decDigits n.natAbs).toArray⟩ := by
      apply ByteArray.ext
      simp [ByteArray.data_append]
    rw [e] at this
    exact this
  · rw [if_neg h]
    exact number_pos n h h1 _ w (fun w1 _ => by
      have e : (n : Int) = (n.toNat : Int) := by omega
      have := digits_any n.toNat (by omega) w1
      rw [← e] at this
      exact this)

end Go.Proofs.YtiokcokmpmpcfaaDoor
