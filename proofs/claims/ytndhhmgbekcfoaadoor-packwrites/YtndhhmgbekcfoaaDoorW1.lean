import Derived.Test.YtndhhmgbekcfoaaDoorE4
namespace Go.Proofs.YtndhhmgbekcfoaaDoor
open Go.RowKit
set_option linter.unusedVariables false
set_option linter.unusedSimpArgs false

theorem Tryd.info9 : (Tryd.prog.info? 9).map (fun i => (i.zero, i.size, i.bytes)) = some (some (.string ⟨#[]⟩), 1, 16) := by kernel_rfl
theorem own_strs {w : World} {B : Nat} {v : Value} {ops : List ByteArray} (h : w.ownsRow B 9 1 v ops.length (ops.map Value.string)) (hs : ∀ s ∈ ops, s.size ≤ maxLen) : ∃ ao cp, v = .slice ao ops.length cp ∧ StrsAt w ao ops.length ops ∧ ops.length ≤ cp := by
  rcases h.2 with ⟨rfl, h0⟩ | ⟨g, cap, cur, rfl, hb, hg, h1, h2, h3, h4⟩
  · exact ⟨none, 0, by rw [h0], ⟨rfl, by rw [h0]; exact Nat.zero_le _, hs, .inl h0⟩, by omega⟩
  · refine ⟨_, cap, rfl, ⟨rfl, by omega, hs, .inr ⟨g, 0, rfl, (Array.getElem?_eq_some_iff.1 hg).1, fun i s hi => ?_⟩⟩, h1⟩
    have := h.cells (g := g) rfl i (.string s) (by simp [hi])
    rw [Addr.add_mid] at this
    simpa using this
theorem own_bw {w w' : World} {base e size : Nat} {v : Value} {n : Nat} {xs : List Value} (h : w.ownsRow base e size v n xs) (k : BW w w') : w'.ownsRow base e size v n xs := by
  obtain ⟨h2, h3⟩ := h
  refine ⟨h2, ?_⟩
  rcases h3 with h3 | ⟨g, cap, cur, e, hg, hh, r⟩
  · exact .inl h3
  · exact .inr ⟨g, cap, cur, e, hg, (k.block g (Array.getElem?_eq_some_iff.1 hh).1).trans hh, r⟩
theorem append_strs (ty : TypeId) (base : Nat) (v : Value) (xs ns : List ByteArray) (na : Option Addr) (nl nc : Nat) (w : World) (hown : w.ownsRow base 9 1 v xs.length (xs.map Value.string)) (hs : StrsAt w na nl ns) (hl : xs.length + nl ≤ 10000000) (hb : base ≤ w.heap.size) :
    ∃ v' w', (Builtin.append_ #[23, 23] ty #[v, .slice na nl nc]).run Tryd.prog w = .ok v' w' ∧ w'.ownsRow base 9 1 v' (xs ++ ns).length ((xs ++ ns).map Value.string) ∧ w.grownBy w' v.ownBlock := by
  obtain ⟨i0, hi, hz0, hz1, hz2⟩ := info_parts Tryd.info9
  obtain ⟨h1, h2, h3, h4⟩ := hs
  cases na with
  | none =>
    have h0 : nl = 0 := by
      rcases h4 with h | ⟨b, off, e, _⟩
      · exact h
      · cases e
    subst h0
    have hns : ns = [] := List.length_eq_zero_iff.1 h1
    subst hns
    refine ⟨v, w, ?_, by simpa using hown, ⟨rfl, rfl, rfl, Nat.le_refl _, fun _ _ _ => rfl⟩⟩
    rcases hown.2 with ⟨rfl, h0⟩ | ⟨g, cap, cur, rfl, _, _, hnc, _⟩
    · simp [Builtin.append_, run_underlying Tryd.underlying23, sizeOf, typeInfo, hi, Builtin.lenOf, Builtin.firstCells]
    · simp [Builtin.append_, run_underlying Tryd.underlying23, sizeOf, typeInfo, hi, Builtin.lenOf, Builtin.firstCells, hnc, storeCells]
  | some ad =>
    have hc : ∀ j u, (ns.map Value.string)[j]? = some u → w.cell? (ad.add j) = some u := by
      intro j u hj
      rcases h4 with h | ⟨b, off, e, _, hc⟩
      · have : ns = [] := List.length_eq_zero_iff.1 (h1.trans h)
        subst this; simp at hj
      · cases e
        simp only [List.getElem?_map, Option.map_eq_some_iff] at hj
        obtain ⟨s, hs, rfl⟩ := hj
        rw [Addr.add_mid]
        exact hc j s hs
    obtain ⟨v', w', hr, ho, hg, _⟩ := run_append_own (P := Tryd.prog) w base 23 ty 9 i0 (.string ⟨#[]⟩) 1 16 Tryd.underlying23 hi hz0 hz1 hz2 rfl (by decide) v xs.length (xs.map Value.string) hown ad nl nc (ns.map Value.string) (by simp [h1]) hc (by intro u hu; simp at hu; obtain ⟨s, _, rfl⟩ := hu; rfl) (by unfold maxLen; omega) (by omega) hb
    exact ⟨v', w', hr, by rw [← h1] at ho; simpa using ho, hg⟩
theorem wpList_append_strs {ops : Array Oper} {rest : List Oper} {o : Oper} {a : Act} {w : World} {Q : Exit → Act → World → Prop} (hgd : o.guard = none) (s x : Operand)
    (ho : o.op = .call { callee := .builtin .append, args := #[s, x], argTypes := #[23, 23] }) (base : Nat) (v : Value) (xs ns : List ByteArray) (na : Option Addr) (nl nc : Nat) (hsv : a.eval s = v) (hxv : a.eval x = .slice na nl nc)
    (hown : w.ownsRow base 9 1 v xs.length (xs.map Value.string)) (hs : StrsAt w na nl ns) (hl : xs.length + nl ≤ 10000000) (hb : base ≤ w.heap.size)
    (h : ∀ v' w', w'.ownsRow base 9 1 v' (xs ++ ns).length ((xs ++ ns).map Value.string) → w.grownBy w' v.ownBlock → wpList Tryd.prog ops Q rest (a.put o.dst v') w') : wpList Tryd.prog ops Q (o :: rest) a w := by
  refine wpList_plain hgd fun K hK => ?_
  obtain ⟨v', w', hrun, r1, r2⟩ := append_strs o.type base v xs ns na nl nc w hown hs hl hb
  unfold Oper.wp execOp
  simp only [ho, resolve, invoke, builtin, Sem.run_bind, Sem.run_pure, Result.andThen_ok, List.map_toArray, List.map_cons, List.map_nil, hsv, hxv, hrun]
  exact hK _ _ (h v' w' r1 r2)

theorem own_lit (w : World) (l : List ByteArray) (h : l.length ≤ 1000) : (w.alloc (.cells (l.map Value.string).toArray 9)).ownsRow w.heap.size 9 1 (.slice (some ⟨w.heap.size, 0, none⟩) l.length l.length) l.length (l.map Value.string) := by
  have := World.ownsRow_lit (base := w.heap.size) (e := 9) (size := 1) w (l.map Value.string).toArray l.length (Nat.le_refl _) (by unfold maxLen; omega) (by simp)
  simpa using this
/-- The words. -/
def wl : List ByteArray := (List.range 32).map wk
theorem wl_eq : wl = [⟨#[105, 110]⟩] ++ ones ++ five ++ twos ++ [⟨#[112, 97, 105, 114]⟩, ⟨#[115, 101, 116]⟩] := by decide +kernel
theorem wl_small : ∀ s ∈ wl, s.size ≤ maxLen := by decide +kernel
theorem wl_get : ∀ k, k < 32 → wl[k]? = some (wk k) := by decide +kernel
set_option maxRecDepth 100000 in
set_option maxHeartbeats 4000000 in
theorem refWords_any (w : World) : Calls Tryd.prog 73 #[] w fun e w' => (∃ g cp, e = .returned (.slice (some ⟨g, 0, none⟩) 32 cp) ∧ StrsAt w' (some ⟨g, 0, none⟩) 32 wl ∧ 32 ≤ cp ∧ w.heap.size ≤ g) ∧ BW w w' := by
  have OL : Hid (∀ (x : World) (l : List ByteArray), l.length ≤ 1000 → (x.alloc (.cells (l.map Value.string).toArray 9)).ownsRow x.heap.size 9 1 (.slice (some ⟨x.heap.size, 0, none⟩) l.length l.length) l.length (l.map Value.string)) := own_lit
  go_enter Tryd.func73, Tryd.ntmps73
  go_wp2_with (first
    | (go_at_call 86; refine (ones_any _).mono ?_; rintro e w1 ⟨⟨ao, cp, rfl, hs1⟩, b1⟩; have z1 := b1.size; simp at z1)
    | (at_builtin; refine wpList_append_strs rfl (.tmp 2) (.tmp 3) rfl w.heap.size _ [⟨#[105, 110]⟩] ones ao 9 cp rfl rfl (own_bw (OL.out w [⟨#[105, 110]⟩] (by decide)) b1) (hs1) (by decide +kernel) (by omega) ?_; intro v1 x1 o1 g1; have B1 : BW w x1 := Below.grown (BW.trans (BW.alloc (BW.refl _) _) b1) g1 (by omega) (fun k hk => by have := World.ownsRow.lt (own_bw (OL.out w [⟨#[105, 110]⟩] (by decide)) b1) k hk; omega))
    | (at_builtin; refine wpList_append_strs rfl (.tmp 5) (.tmp 6) rfl w.heap.size _ ([⟨#[105, 110]⟩] ++ ones) five _ 5 5 rfl rfl (o1.alloc _) (StrsAt.new _ five (by decide) (by decide)) (by decide +kernel) (by have := B1.size; simp; omega) ?_; intro v2 x2 o2 g2; have B2 : BW w x2 := Below.grown (BW.alloc B1 _) g2 (by have := B1.size; simp; omega) (fun k hk => by have := World.ownsRow.lt (o1) k hk; omega))
    | (go_at_call 87; refine (twos_any _).mono ?_; rintro e w3 ⟨⟨ao3, cp3, rfl, hs3⟩, b3⟩; have z3 := b3.size)
    | (at_builtin; refine wpList_append_strs rfl (.tmp 8) (.tmp 9) rfl w.heap.size _ (([⟨#[105, 110]⟩] ++ ones) ++ five) twos ao3 15 cp3 rfl rfl (own_bw o2 b3) (hs3) (by decide +kernel) (by have := B2.size; omega) ?_; intro v3 x3 o3 g3; have B3 : BW w x3 := Below.grown (BW.trans B2 b3) g3 (by have := B2.size; omega) (fun k hk => by have := World.ownsRow.lt (own_bw o2 b3) k hk; omega))
    | (at_builtin; refine wpList_append_strs rfl (.tmp 11) (.tmp 12) rfl w.heap.size _ ((([⟨#[105, 110]⟩] ++ ones) ++ five) ++ twos) [⟨#[112, 97, 105, 114]⟩, ⟨#[115, 101, 116]⟩] _ 2 2 rfl rfl (o3.alloc _) (StrsAt.new _ [⟨#[112, 97, 105, 114]⟩, ⟨#[115, 101, 116]⟩] (by decide) (by decide)) (by decide +kernel) (by have := B3.size; simp; omega) ?_; intro v4 x4 o4 g4; have B4 : BW w x4 := Below.grown (BW.alloc B3 _) g4 (by have := B3.size; simp; omega) (fun k hk => by have := World.ownsRow.lt (o3) k hk; omega)))
  go_ret
  rw [← wl_eq] at o4
  obtain ⟨ao', cp', he, h1, h2⟩ := own_strs o4 wl_small
  rcases o4.2 with ⟨_, h0⟩ | ⟨g, cap, cur, rfl, hb, _⟩
  · exact absurd h0 (by decide)
  · simp only [Value.slice.injEq] at he
    obtain ⟨rfl, _, rfl⟩ := he
    exact ⟨⟨g, cap, rfl, h1, h2, hb⟩, B4⟩

end Go.Proofs.YtndhhmgbekcfoaaDoor
