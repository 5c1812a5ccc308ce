import Derived.Test.YtijoadkjkbkjgaaDoorF10
namespace Go.Proofs.YtijoadkjkbkjgaaDoor
open Go.RowKit
set_option linter.unusedVariables false
set_option linter.unusedSimpArgs false

theorem inB_ct (l : List ByteArray) (s : ByteArray) : inB l s = !decide (ct l s = 0) := by
  unfold inB
  induction l with
  | nil => simp [ct]
  | cons x r ih =>
    rw [List.any_cons, ih]
    simp only [ct]
    by_cases h : x = s
    · simp [h]
    · simp [h]
set_option maxRecDepth 100000 in
set_option maxHeartbeats 4000000 in
theorem refIn7_any (s : ByteArray) (ao : Option Addr) (ln cp : Nat) (l : List ByteArray) (w : World) (h : StrsAt w ao ln l) : Calls Tryd.prog 28 #[.string s, .slice ao ln cp] w fun e w' => e = .returned (.bool (inB l s)) ∧ w' = w := by
  have H : Hid (StrsAt w ao ln l) := h
  have hl : Hid _ := h.1
  have hm : ln ≤ 9223372036854775807 := by have := h.2.1; unfold maxLen at this; omega
  clear h
  go_enter Tryd.func28, Tryd.ntmps28
  go_wp2_with (fail)
  go_loop [8] (fun i => ∃ k : Nat, k ≤ ln ∧ Hid (inB (l.take k) s = false) ∧ i = .int .i64 k) (fun i => ln - (intOf i).toNat)
  case atStart => exact ⟨0, Nat.zero_le _, by simp [Hid, inB], rfl⟩
  case round =>
    obtain ⟨k, hk, HA, rfl⟩ := hrel
    by_cases hlt : k < ln
    · obtain ⟨b, off, x, rfl, hbl, hx, hxs, hc⟩ := StrsAt.get H.out hlt
      have HX : Hid _ := hx
      clear hx hxs
      by_cases he : x = s
      · have e1 := (bytes_eq' x s).2 he
        have HR : Hid (inB l s = true) := any_hit _ HX.out (by simp [he])
        clear he
        go_wp2_with (fail)
        go_ret
        exact ⟨by rw [HR.out]; rfl, rfl⟩
      · have e1 : ¬ x.toList = s.toList := fun e => he ((bytes_eq' x s).1 e)
        have e2 : (x.toList == s.toList) = false := by simpa using e1
        have HQ : Hid (inB (l.take (k + 1)) s = false) := by
          show inB _ _ = false
          have := any_snoc (fun x => decide (x = s)) HX.out
          unfold inB at HA ⊢
          rw [this, HA.out]; simpa using he
        clear he
        go_wp2_with (fail)
        go_round
        case rel => exact ⟨k + 1, by omega, HQ, by go_num⟩
        case measure => simp [intOf]; omega
    · have hkn : ln = k := by omega
      subst hkn
      have HR : Hid (inB l s = false) := by have := HA.out; rw [List.take_of_length_le (by rw [hl.out]; omega)] at this; exact this
      go_wp2_with (fail)
      go_ret
      exact ⟨by rw [HR.out]; rfl, rfl⟩
theorem append_all (ty : TypeId) (base : Nat) (v : Value) (xs ns : List ByteArray) (na : Option Addr) (nl nc : Nat) (w : World) (hown : w.ownsRow base 9 1 v xs.length (xs.map Value.string)) (hs : StrsAt w na nl ns) (hl : xs.length + nl ≤ 10000000) (hb : base ≤ w.heap.size) :
    ∃ v' w', (Builtin.append_ #[22, 22] ty #[v, .slice na nl nc]).run Tryd.prog w = .ok v' w' ∧ w'.ownsRow base 9 1 v' (xs ++ ns).length ((xs ++ ns).map Value.string) ∧ w.grownBy w' v.ownBlock := by
  obtain ⟨i0, hi, hz0, hz1, hz2⟩ := info_parts Tryd.info9'
  obtain ⟨h1, h2, h3, h4⟩ := hs
  cases na with
  | none =>
    have h0 : nl = 0 := by
      rcases h4 with h | ⟨b, off, e, _⟩
      · exact h
      · cases e
    subst h0
    have hns : ns = [] := List.length_eq_zero_iff.1 h1
    subst hns
    refine ⟨v, w, ?_, by simpa using hown, ⟨rfl, rfl, rfl, Nat.le_refl _, fun _ _ _ => rfl⟩⟩
    rcases hown.2 with ⟨rfl, h0⟩ | ⟨g, cap, cur, rfl, _, _, hnc, _⟩
    · simp [Builtin.append_, run_underlying Tryd.underlying22, sizeOf, typeInfo, hi, Builtin.lenOf, Builtin.firstCells]
    · simp [Builtin.append_, run_underlying Tryd.underlying22, sizeOf, typeInfo, hi, Builtin.lenOf, Builtin.firstCells, hnc, storeCells]
  | some ad =>
    have hc : ∀ j u, (ns.map Value.string)[j]? = some u → w.cell? (ad.add j) = some u := by
      intro j u hj
      rcases h4 with h | ⟨b, off, e, _, hc⟩
      · have : ns = [] := List.length_eq_zero_iff.1 (h1.trans h)
        subst this; simp at hj
      · cases e
        simp only [List.getElem?_map, Option.map_eq_some_iff] at hj
        obtain ⟨s, hs, rfl⟩ := hj
        rw [Addr.add_mid]
        exact hc j s hs
    obtain ⟨v', w', hr, ho, hg, _⟩ := append_strs ty base v xs.length (xs.map Value.string) ad nl nc (ns.map Value.string) w hown (by simp [h1]) hc (by intro u hu; simp at hu; obtain ⟨s, _, rfl⟩ := hu; rfl) hl hb
    exact ⟨v', w', hr, by rw [← h1] at ho; simpa using ho, hg⟩
theorem wpList_append_all {ops : Array Oper} {rest : List Oper} {o : Oper} {a : Act} {w : World} {Q : Exit → Act → World → Prop} (hgd : o.guard = none) (s x : Operand)
    (ho : o.op = .call { callee := .builtin .append, args := #[s, x], argTypes := #[22, 22] }) (base : Nat) (v : Value) (xs ns : List ByteArray) (na : Option Addr) (nl nc : Nat) (hsv : a.eval s = v) (hxv : a.eval x = .slice na nl nc)
    (hown : w.ownsRow base 9 1 v xs.length (xs.map Value.string)) (hs : StrsAt w na nl ns) (hl : xs.length + nl ≤ 10000000) (hb : base ≤ w.heap.size)
    (h : ∀ v' w', w'.ownsRow base 9 1 v' (xs ++ ns).length ((xs ++ ns).map Value.string) → w.grownBy w' v.ownBlock → wpList Tryd.prog ops Q rest (a.put o.dst v') w') : wpList Tryd.prog ops Q (o :: rest) a w := by
  refine wpList_plain hgd fun K hK => ?_
  obtain ⟨v', w', hrun, r1, r2⟩ := append_all o.type base v xs ns na nl nc w hown hs hl hb
  unfold Oper.wp execOp
  simp only [ho, resolve, invoke, builtin, Sem.run_bind, Sem.run_pure, Result.andThen_ok, List.map_toArray, List.map_cons, List.map_nil, hsv, hxv, hrun]
  exact hK _ _ (h v' w' r1 r2)
/-- Only what was made since w has turned. -/
theorem BW.own {w w1 w' : World} {v : Value} {n : Nat} {xs : List Value} (h : BW w w1) (ho : w1.ownsRow w.heap.size 9 1 v n xs) (hg : w1.grownBy w' v.ownBlock) : BW w w' := Below.grown h hg h.size (fun k hk => by
  rcases ho.2 with ⟨e, _⟩ | ⟨g, cap, cur, e, hb, _⟩
  · rw [e] at hk; simp [Value.ownBlock] at hk
  · rw [e] at hk
    simp [Value.ownBlock] at hk
    omega)
theorem own_empty (w : World) : (w.alloc (.cells #[] 9)).ownsRow w.heap.size 9 1 (.slice (some ⟨w.heap.size, 0, none⟩) 0 0) 0 [] := ⟨rfl, .inr ⟨w.heap.size, 0, _, rfl, Nat.le_refl _, heap_alloc_new _ _, Nat.le_refl _, Nat.zero_le _, rfl, rfl⟩⟩
theorem own_low {w : World} {base base' e z : Nat} {v : Value} {n : Nat} {xs : List Value} (h : w.ownsRow base e z v n xs) (hb : base' ≤ base) : w.ownsRow base' e z v n xs := by
  obtain ⟨h2, h3⟩ := h
  refine ⟨h2, ?_⟩
  rcases h3 with h3 | ⟨g, cap, cur, e', hg, r⟩
  · exact .inl h3
  · exact .inr ⟨g, cap, cur, e', Nat.le_trans hb hg, r⟩
/-- The document's calls at a level. -/
def FindS (n : Nat) : Prop := ∀ (val bv fv : Value) (t : Tr n) (B F : List ByteArray) (w : World), NodeAt w n val t → rt n t = true → StrsV w bv B → StrsV w fv F → (∀ x ∈ B, x.size ≤ maxLen) → B.length + bz n t ≤ 5000000 → F.length + bz n t ≤ 5000000 → Calls Tryd.prog 17 #[val, bv, fv] w fun e w' => ∃ v, e = .returned v ∧ StrsV w' v (fr n t B F) ∧ BW w w'

end Go.Proofs.YtijoadkjkbkjgaaDoor
