import Derived.Test.YtogeoaanlkeciaaDoorV1
import Derived.Test.YtogeoaanlkeciaaDoorW1
namespace Go.Proofs.YtogeoaanlkeciaaDoor
open Go.RowKit
set_option linter.unusedVariables false
set_option linter.unusedSimpArgs false

theorem own_bw2 {w w' : World} {base e size : Nat} {v : Value} {n : Nat} {xs : List Value} (h : w.ownsRow base e size v n xs) (k : ∀ g, v.ownBlock = some g → w'.heap[g]? = w.heap[g]?) : w'.ownsRow base e size v n xs := by
  obtain ⟨h2, h3⟩ := h
  refine ⟨h2, ?_⟩
  rcases h3 with h3 | ⟨g, cap, cur, e, hg, hh, r⟩
  · exact .inl h3
  · exact .inr ⟨g, cap, cur, e, hg, (k g (by rw [e]; rfl)).trans hh, r⟩
theorem own_set {w : World} {base e size : Nat} {v : Value} {n : Nat} {xs : List Value} (h : w.ownsRow base e size v n xs) {p : Addr} (hp : p.block < base) (u : Value) : (w.setCell p u).ownsRow base e size v n xs :=
  own_bw2 h (fun g hg => Below.heap_setCell w p u g (by have := h.lt g hg; omega))
theorem own_none (w : World) (e size : Nat) : (w.alloc (.cells #[] e)).ownsRow w.heap.size e size (.slice (some ⟨w.heap.size, 0, none⟩) 0 0) 0 [] := by
  have := World.ownsRow_lit (base := w.heap.size) (e := e) (size := size) w #[] 0 (Nat.le_refl _) (by unfold maxLen; omega) (by simp)
  simpa using this
/-- The cells of a row that lies in memory. -/
def NewsOf (w : World) (na : Option Addr) (nl c : Nat) (news : List Value) : Prop := news.length = nl * c ∧ (na = none → nl = 0) ∧ (∀ ad, na = some ad → ∀ j u, news[j]? = some u → w.cell? (ad.add j) = some u) ∧ (∀ u ∈ news, u.oneCell' = true)
theorem NewsOf.bw {w w' : World} {na : Option Addr} {nl c : Nat} {news : List Value} (h : NewsOf w na nl c news) (k : BW w w') : NewsOf w' na nl c news := by
  obtain ⟨h1, h2, h3, h4⟩ := h
  refine ⟨h1, h2, fun ad e j u hu => ?_, h4⟩
  have h5 := h3 ad e j u hu
  have hb := World.block_lt_of_cell? w _ h5
  exact (Below.cell k hb).trans h5
theorem news_of {K : Type} {c : Nat} (hc : 0 < c) {At : Nat → Nat → K → Prop} {w : World} {na : Option Addr} {nl : Nat} {l : List K} (h : RowAt c At w na nl l)
    (hcell : ∀ b o x, At b o x → ∀ j, j < c → ∃ u, w.cell? ⟨b, o + j, none⟩ = some u ∧ u.oneCell' = true) :
    ∃ news, NewsOf w na nl c news ∧ ∀ i x, l[i]? = some x → ∃ b o, At b o x ∧ ∀ j, j < c → w.cell? ⟨b, o + j, none⟩ = news[i * c + j]? := by
  obtain ⟨h1, h2, h3⟩ := h
  rcases h3 with h0 | ⟨b, off, rfl, hb, hr⟩
  · subst h0
    have hl : l = [] := List.length_eq_zero_iff.1 h1
    subst hl
    exact ⟨[], ⟨by simp, fun _ => rfl, by simp, by simp⟩, by simp⟩
  · obtain ⟨news, hn, hq⟩ := pick_all (nl * c) (fun p (u : Value) => w.cell? ⟨b, off + p, none⟩ = some u ∧ u.oneCell' = true) (by
      intro p hp
      have hi : p / c < nl := (Nat.div_lt_iff_lt_mul hc).2 hp
      obtain ⟨x, hx⟩ : ∃ x, l[p / c]? = some x := ⟨_, List.getElem?_eq_getElem (by omega)⟩
      obtain ⟨u, hu, h1⟩ := hcell b (off + p / c * c) x (hr _ x hx) (p % c) (Nat.mod_lt _ hc)
      have e : off + p / c * c + p % c = off + p := by have := Nat.div_add_mod p c; rw [Nat.mul_comm] at this; omega
      rw [e] at hu
      exact ⟨u, hu, h1⟩)
    refine ⟨news, ⟨hn, by simp, ?_, ?_⟩, fun i x hx => ⟨b, off + i * c, hr i x hx, fun j hj => ?_⟩⟩
    · intro ad e j u hu
      cases e
      rw [Addr.add_mid]
      exact (hq j u hu).1
    · intro u hu
      obtain ⟨p, hp⟩ := List.getElem?_of_mem hu
      exact (hq p u hp).2
    · have hi : i < nl := by have := (List.getElem?_eq_some_iff.1 hx).1; omega
      have hlt : i * c + j < nl * c := by
        have : (i + 1) * c ≤ nl * c := Nat.mul_le_mul_right _ hi
        rw [Nat.add_mul] at this
        omega
      obtain ⟨u, hu⟩ : ∃ u, news[i * c + j]? = some u := ⟨_, List.getElem?_eq_getElem (by omega)⟩
      rw [hu, Nat.add_assoc]
      exact (hq _ u hu).1
/-- A row that was written: what is in it. -/
theorem row_own {K : Type} {c : Nat} (hc : 0 < c) {At' : Nat → Nat → K → Prop} {W : World} {base e : Nat} {v : Value} {nl : Nat} {news lit : List Value} {l : List K} {z : K} (hl : l.length = nl) (hm : nl + 1 ≤ 1000000) (hn : news.length = nl * c) (hlit : lit.length = c)
    (ho : W.ownsRow base e c v (nl + 1) (news ++ lit))
    (h : ∀ i x, l[i]? = some x → ∀ g o, (∀ j, j < c → W.cell? ⟨g, o + j, none⟩ = news[i * c + j]?) → At' g o x)
    (hz : ∀ g o, (∀ j, j < c → W.cell? ⟨g, o + j, none⟩ = lit[j]?) → At' g o z) :
    ∃ g cap, v = .slice (some ⟨g, 0, none⟩) (nl + 1) cap ∧ RowAt c At' W (some ⟨g, 0, none⟩) (nl + 1) (l ++ [z]) ∧ nl + 1 ≤ cap ∧ cap ≤ maxLen := by
  rcases ho.2 with ⟨_, h0⟩ | ⟨g, cap, cur, rfl, hb, hg, h1, h2, h3, h4⟩
  · omega
  · refine ⟨g, cap, rfl, ⟨by simp [hl], by unfold maxLen; omega, .inr ⟨g, 0, rfl, (Array.getElem?_eq_some_iff.1 hg).1, fun i x hx => ?_⟩⟩, h1, h2⟩
    have hcl : ∀ q u, (news ++ lit)[q]? = some u → W.cell? ⟨g, q, none⟩ = some u := fun q u hq => by
      have := ho.cells (g := g) rfl q u hq
      rw [Addr.add_mid] at this
      simpa using this
    by_cases hi : i < nl
    · rw [List.getElem?_append_left (by omega)] at hx
      refine h i x hx g _ (fun j hj => ?_)
      have hlt : i * c + j < nl * c := by
        have : (i + 1) * c ≤ nl * c := Nat.mul_le_mul_right _ hi
        rw [Nat.add_mul] at this
        omega
      obtain ⟨u, hu⟩ : ∃ u, news[i * c + j]? = some u := ⟨_, List.getElem?_eq_getElem (by omega)⟩
      rw [hu, show 0 + i * c + j = i * c + j by omega]
      exact hcl _ u (by rw [List.getElem?_append_left (by omega)]; exact hu)
    · have hi2 : i = nl := by have := (List.getElem?_eq_some_iff.1 hx).1; simp [hl] at this; omega
      subst hi2
      rw [List.getElem?_append_right (by omega)] at hx
      simp [hl] at hx
      subst hx
      refine hz g _ (fun j hj => ?_)
      obtain ⟨u, hu⟩ : ∃ u, lit[j]? = some u := ⟨_, List.getElem?_eq_getElem (by omega)⟩
      rw [hu, show 0 + i * c + j = i * c + j by omega]
      exact hcl _ u (by rw [List.getElem?_append_right (by omega), hn, show i * c + j - i * c = j by omega]; exact hu)
theorem Tryd.infk2 : (Tryd.prog.info? 2).map (fun i => (i.zero, i.size, i.bytes)) = some (some (.int .i64 0), 1, 8) := by kernel_rfl
theorem app2 (ty : TypeId) (base : Nat) (v : Value) (n : Nat) (xs : List Value) (na : Option Addr) (nl nc : Nat) (news : List Value) (w : World) (hown : w.ownsRow base 2 1 v n xs) (hs : NewsOf w na nl 1 news) (hb : n + nl ≤ 1000000) (hbase : base ≤ w.heap.size) :
    ∃ v' w', (Builtin.append_ #[22, 22] ty #[v, .slice na nl nc]).run Tryd.prog w = .ok v' w' ∧ w'.ownsRow base 2 1 v' (n + nl) (xs ++ news) ∧ w.grownBy w' v.ownBlock := by
  obtain ⟨i0, hi, hz0, hz1, hz2⟩ := info_parts Tryd.infk2
  obtain ⟨h1, h2, h3, h4⟩ := hs
  cases na with
  | none =>
    have h0 : nl = 0 := h2 rfl
    subst h0
    have hns : news = [] := List.length_eq_zero_iff.1 (by simpa using h1)
    subst hns
    refine ⟨v, w, ?_, by simpa using hown, ⟨rfl, rfl, rfl, Nat.le_refl _, fun _ _ _ => rfl⟩⟩
    rcases hown.2 with ⟨rfl, h0⟩ | ⟨g, cap, cur, rfl, _, _, hnc, _⟩
    · simp [Builtin.append_, run_underlying Tryd.underlying22, sizeOf, typeInfo, hi, Builtin.lenOf, Builtin.firstCells]
    · simp [Builtin.append_, run_underlying Tryd.underlying22, sizeOf, typeInfo, hi, Builtin.lenOf, Builtin.firstCells, hnc, storeCells]
  | some ad =>
    obtain ⟨v', w', hr, ho, hg, _⟩ := run_append_own (P := Tryd.prog) w base 22 ty 2 i0 (.int .i64 0) 1 8 Tryd.underlying22 hi hz0 hz1 hz2 rfl (by decide) v n xs hown ad nl nc news h1 (h3 ad rfl) h4 (by unfold maxLen; omega) (by omega) hbase
    exact ⟨v', w', hr, ho, hg⟩
theorem wpList_app2 {ops : Array Oper} {rest : List Oper} {o : Oper} {a : Act} {w : World} {Q : Exit → Act → World → Prop} (hgd : o.guard = none) (s x : Operand)
    (ho : o.op = .call { callee := .builtin .append, args := #[s, x], argTypes := #[22, 22] }) (base : Nat) (v : Value) (n : Nat) (xs : List Value) (na : Option Addr) (nl nc : Nat) (news : List Value) (hsv : a.eval s = v) (hxv : a.eval x = .slice na nl nc)
    (hown : w.ownsRow base 2 1 v n xs) (hs : NewsOf w na nl 1 news) (hl : n + nl ≤ 1000000) (hb : base ≤ w.heap.size)
    (h : ∀ v' w', w'.ownsRow base 2 1 v' (n + nl) (xs ++ news) → w.grownBy w' v.ownBlock → wpList Tryd.prog ops Q rest (a.put o.dst v') w') : wpList Tryd.prog ops Q (o :: rest) a w := by
  refine wpList_plain hgd fun K hK => ?_
  obtain ⟨v', w', hrun, r1, r2⟩ := app2 o.type base v n xs na nl nc news w hown hs hl hb
  unfold Oper.wp execOp
  simp only [ho, resolve, invoke, builtin, Sem.run_bind, Sem.run_pure, Result.andThen_ok, List.map_toArray, List.map_cons, List.map_nil, hsv, hxv, hrun]
  exact hK _ _ (h v' w' r1 r2)
theorem Tryd.infk9 : (Tryd.prog.info? 9).map (fun i => (i.zero, i.size, i.bytes)) = some (some (.string ⟨#[]⟩), 1, 16) := by kernel_rfl
theorem app9 (ty : TypeId) (base : Nat) (v : Value) (n : Nat) (xs : List Value) (na : Option Addr) (nl nc : Nat) (news : List Value) (w : World) (hown : w.ownsRow base 9 1 v n xs) (hs : NewsOf w na nl 1 news) (hb : n + nl ≤ 1000000) (hbase : base ≤ w.heap.size) :
    ∃ v' w', (Builtin.append_ #[23, 23] ty #[v, .slice na nl nc]).run Tryd.prog w = .ok v' w' ∧ w'.ownsRow base 9 1 v' (n + nl) (xs ++ news) ∧ w.grownBy w' v.ownBlock := by
  obtain ⟨i0, hi, hz0, hz1, hz2⟩ := info_parts Tryd.infk9
  obtain ⟨h1, h2, h3, h4⟩ := hs
  cases na with
  | none =>
    have h0 : nl = 0 := h2 rfl
    subst h0
    have hns : news = [] := List.length_eq_zero_iff.1 (by simpa using h1)
    subst hns
    refine ⟨v, w, ?_, by simpa using hown, ⟨rfl, rfl, rfl, Nat.le_refl _, fun _ _ _ => rfl⟩⟩
    rcases hown.2 with ⟨rfl, h0⟩ | ⟨g, cap, cur, rfl, _, _, hnc, _⟩
    · simp [Builtin.append_, run_underlying Tryd.underlying23, sizeOf, typeInfo, hi, Builtin.lenOf, Builtin.firstCells]
    · simp [Builtin.append_, run_underlying Tryd.underlying23, sizeOf, typeInfo, hi, Builtin.lenOf, Builtin.firstCells, hnc, storeCells]
  | some ad =>
    obtain ⟨v', w', hr, ho, hg, _⟩ := run_append_own (P := Tryd.prog) w base 23 ty 9 i0 (.string ⟨#[]⟩) 1 16 Tryd.underlying23 hi hz0 hz1 hz2 rfl (by decide) v n xs hown ad nl nc news h1 (h3 ad rfl) h4 (by unfold maxLen; omega) (by omega) hbase
    exact ⟨v', w', hr, ho, hg⟩
theorem wpList_app9 {ops : Array Oper} {rest : List Oper} {o : Oper} {a : Act} {w : World} {Q : Exit → Act → World → Prop} (hgd : o.guard = none) (s x : Operand)
    (ho : o.op = .call { callee := .builtin .append, args := #[s, x], argTypes := #[23, 23] }) (base : Nat) (v : Value) (n : Nat) (xs : List Value) (na : Option Addr) (nl nc : Nat) (news : List Value) (hsv : a.eval s = v) (hxv : a.eval x = .slice na nl nc)
    (hown : w.ownsRow base 9 1 v n xs) (hs : NewsOf w na nl 1 news) (hl : n + nl ≤ 1000000) (hb : base ≤ w.heap.size)
    (h : ∀ v' w', w'.ownsRow base 9 1 v' (n + nl) (xs ++ news) → w.grownBy w' v.ownBlock → wpList Tryd.prog ops Q rest (a.put o.dst v') w') : wpList Tryd.prog ops Q (o :: rest) a w := by
  refine wpList_plain hgd fun K hK => ?_
  obtain ⟨v', w', hrun, r1, r2⟩ := app9 o.type base v n xs na nl nc news w hown hs hl hb
  unfold Oper.wp execOp
  simp only [ho, resolve, invoke, builtin, Sem.run_bind, Sem.run_pure, Result.andThen_ok, List.map_toArray, List.map_cons, List.map_nil, hsv, hxv, hrun]
  exact hK _ _ (h v' w' r1 r2)
theorem Tryd.infk41 : (Tryd.prog.info? 41).map (fun i => (i.zero, i.size, i.bytes)) = some (some (.agg #[.slice none 0 0, .bool false, .bool false]), 3, 32) := by kernel_rfl
theorem app41 (ty : TypeId) (base : Nat) (v : Value) (n : Nat) (xs : List Value) (na : Option Addr) (nl nc : Nat) (news : List Value) (w : World) (hown : w.ownsRow base 41 3 v n xs) (hs : NewsOf w na nl 3 news) (hb : n + nl ≤ 1000000) (hbase : base ≤ w.heap.size) :
    ∃ v' w', (Builtin.append_ #[25, 25] ty #[v, .slice na nl nc]).run Tryd.prog w = .ok v' w' ∧ w'.ownsRow base 41 3 v' (n + nl) (xs ++ news) ∧ w.grownBy w' v.ownBlock := by
  obtain ⟨i0, hi, hz0, hz1, hz2⟩ := info_parts Tryd.infk41
  obtain ⟨h1, h2, h3, h4⟩ := hs
  cases na with
  | none =>
    have h0 : nl = 0 := h2 rfl
    subst h0
    have hns : news = [] := List.length_eq_zero_iff.1 (by simpa using h1)
    subst hns
    refine ⟨v, w, ?_, by simpa using hown, ⟨rfl, rfl, rfl, Nat.le_refl _, fun _ _ _ => rfl⟩⟩
    rcases hown.2 with ⟨rfl, h0⟩ | ⟨g, cap, cur, rfl, _, _, hnc, _⟩
    · simp [Builtin.append_, run_underlying Tryd.underlying25, sizeOf, typeInfo, hi, Builtin.lenOf, Builtin.firstCells]
    · simp [Builtin.append_, run_underlying Tryd.underlying25, sizeOf, typeInfo, hi, Builtin.lenOf, Builtin.firstCells, hnc, storeCells]
  | some ad =>
    obtain ⟨v', w', hr, ho, hg, _⟩ := run_append_own (P := Tryd.prog) w base 25 ty 41 i0 (.agg #[.slice none 0 0, .bool false, .bool false]) 3 32 Tryd.underlying25 hi hz0 hz1 hz2 rfl (by decide) v n xs hown ad nl nc news h1 (h3 ad rfl) h4 (by unfold maxLen; omega) (by omega) hbase
    exact ⟨v', w', hr, ho, hg⟩
theorem wpList_app41 {ops : Array Oper} {rest : List Oper} {o : Oper} {a : Act} {w : World} {Q : Exit → Act → World → Prop} (hgd : o.guard = none) (s x : Operand)
    (ho : o.op = .call { callee := .builtin .append, args := #[s, x], argTypes := #[25, 25] }) (base : Nat) (v : Value) (n : Nat) (xs : List Value) (na : Option Addr) (nl nc : Nat) (news : List Value) (hsv : a.eval s = v) (hxv : a.eval x = .slice na nl nc)
    (hown : w.ownsRow base 41 3 v n xs) (hs : NewsOf w na nl 3 news) (hl : n + nl ≤ 1000000) (hb : base ≤ w.heap.size)
    (h : ∀ v' w', w'.ownsRow base 41 3 v' (n + nl) (xs ++ news) → w.grownBy w' v.ownBlock → wpList Tryd.prog ops Q rest (a.put o.dst v') w') : wpList Tryd.prog ops Q (o :: rest) a w := by
  refine wpList_plain hgd fun K hK => ?_
  obtain ⟨v', w', hrun, r1, r2⟩ := app41 o.type base v n xs na nl nc news w hown hs hl hb
  unfold Oper.wp execOp
  simp only [ho, resolve, invoke, builtin, Sem.run_bind, Sem.run_pure, Result.andThen_ok, List.map_toArray, List.map_cons, List.map_nil, hsv, hxv, hrun]
  exact hK _ _ (h v' w' r1 r2)
theorem Tryd.infk44 : (Tryd.prog.info? 44).map (fun i => (i.zero, i.size, i.bytes)) = some (some (.agg #[.int .i64 0, .int .i64 0, .int .i64 0, .slice none 0 0]), 4, 48) := by kernel_rfl
theorem app44 (ty : TypeId) (base : Nat) (v : Value) (n : Nat) (xs : List Value) (na : Option Addr) (nl nc : Nat) (news : List Value) (w : World) (hown : w.ownsRow base 44 4 v n xs) (hs : NewsOf w na nl 4 news) (hb : n + nl ≤ 1000000) (hbase : base ≤ w.heap.size) :
    ∃ v' w', (Builtin.append_ #[24, 24] ty #[v, .slice na nl nc]).run Tryd.prog w = .ok v' w' ∧ w'.ownsRow base 44 4 v' (n + nl) (xs ++ news) ∧ w.grownBy w' v.ownBlock := by
  obtain ⟨i0, hi, hz0, hz1, hz2⟩ := info_parts Tryd.infk44
  obtain ⟨h1, h2, h3, h4⟩ := hs
  cases na with
  | none =>
    have h0 : nl = 0 := h2 rfl
    subst h0
    have hns : news = [] := List.length_eq_zero_iff.1 (by simpa using h1)
    subst hns
    refine ⟨v, w, ?_, by simpa using hown, ⟨rfl, rfl, rfl, Nat.le_refl _, fun _ _ _ => rfl⟩⟩
    rcases hown.2 with ⟨rfl, h0⟩ | ⟨g, cap, cur, rfl, _, _, hnc, _⟩
    · simp [Builtin.append_, run_underlying Tryd.underlying24, sizeOf, typeInfo, hi, Builtin.lenOf, Builtin.firstCells]
    · simp [Builtin.append_, run_underlying Tryd.underlying24, sizeOf, typeInfo, hi, Builtin.lenOf, Builtin.firstCells, hnc, storeCells]
  | some ad =>
    obtain ⟨v', w', hr, ho, hg, _⟩ := run_append_own (P := Tryd.prog) w base 24 ty 44 i0 (.agg #[.int .i64 0, .int .i64 0, .int .i64 0, .slice none 0 0]) 4 48 Tryd.underlying24 hi hz0 hz1 hz2 rfl (by decide) v n xs hown ad nl nc news h1 (h3 ad rfl) h4 (by unfold maxLen; omega) (by omega) hbase
    exact ⟨v', w', hr, ho, hg⟩
theorem wpList_app44 {ops : Array Oper} {rest : List Oper} {o : Oper} {a : Act} {w : World} {Q : Exit → Act → World → Prop} (hgd : o.guard = none) (s x : Operand)
    (ho : o.op = .call { callee := .builtin .append, args := #[s, x], argTypes := #[24, 24] }) (base : Nat) (v : Value) (n : Nat) (xs : List Value) (na : Option Addr) (nl nc : Nat) (news : List Value) (hsv : a.eval s = v) (hxv : a.eval x = .slice na nl nc)
    (hown : w.ownsRow base 44 4 v n xs) (hs : NewsOf w na nl 4 news) (hl : n + nl ≤ 1000000) (hb : base ≤ w.heap.size)
    (h : ∀ v' w', w'.ownsRow base 44 4 v' (n + nl) (xs ++ news) → w.grownBy w' v.ownBlock → wpList Tryd.prog ops Q rest (a.put o.dst v') w') : wpList Tryd.prog ops Q (o :: rest) a w := by
  refine wpList_plain hgd fun K hK => ?_
  obtain ⟨v', w', hrun, r1, r2⟩ := app44 o.type base v n xs na nl nc news w hown hs hl hb
  unfold Oper.wp execOp
  simp only [ho, resolve, invoke, builtin, Sem.run_bind, Sem.run_pure, Result.andThen_ok, List.map_toArray, List.map_cons, List.map_nil, hsv, hxv, hrun]
  exact hK _ _ (h v' w' r1 r2)
theorem news_lit (w : World) (lit : List Value) (c ty : Nat) (hl : lit.length = c) (h1 : ∀ u ∈ lit, u.oneCell' = true) : NewsOf (w.alloc (.cells lit.toArray ty)) (some ⟨w.heap.size, 0, none⟩) 1 c lit := by
  refine ⟨by omega, by simp, fun ad e j u hu => ?_, h1⟩
  cases e
  rw [Addr.add_mid, Nat.zero_add, cell_new]
  simpa using hu
theorem IntsAt.row {W : World} {ao : Option Addr} {ln : Nat} {l : List Int} (h : IntsAt W ao ln l) : RowAt 1 (fun b o z => W.cell? ⟨b, o + 0, none⟩ = some (.int .i64 z) ∧ I64 z) W ao ln l := by
  obtain ⟨h1, h2, h3, h4⟩ := h
  refine ⟨h1, h2, ?_⟩
  rcases h4 with h4 | ⟨b, off, e, hb, hc⟩
  · exact .inl h4
  · exact .inr ⟨b, off, e, hb, fun i x hx => ⟨by simpa using hc i x hx, h3 x (List.mem_of_getElem? hx)⟩⟩
theorem StrsAt.row {W : World} {ao : Option Addr} {ln : Nat} {l : List ByteArray} (h : StrsAt W ao ln l) : RowAt 1 (fun b o z => W.cell? ⟨b, o + 0, none⟩ = some (.string z) ∧ z.size ≤ maxLen) W ao ln l := by
  obtain ⟨h1, h2, h3, h4⟩ := h
  refine ⟨h1, h2, ?_⟩
  rcases h4 with h4 | ⟨b, off, e, hb, hc⟩
  · exact .inl h4
  · exact .inr ⟨b, off, e, hb, fun i x hx => ⟨by simpa using hc i x hx, h3 x (List.mem_of_getElem? hx)⟩⟩

end Go.Proofs.YtogeoaanlkeciaaDoor
