import Derived.Test.YtndhhmgbekcfoaaDoorQ5
import Derived.Test.YtndhhmgbekcfoaaDoorV1
namespace Go.Proofs.YtndhhmgbekcfoaaDoor
open Go.RowKit
set_option linter.unusedVariables false
set_option linter.unusedSimpArgs false

theorem Rd.gb {W0 w w' : World} {rb : Nat} {l : List Nat} {r : Option Nat} (h : Rd W0 w rb l) (g : w.grownBy w' r) (hr : ∀ k, r = some k → W0.heap.size ≤ k ∧ k ≠ rb) : Rd W0 w' rb l := by
  have hz := h.lt
  obtain ⟨h1, h2, h3, h4, ao, c, h5, h6⟩ := h
  exact ⟨Below.grown h1 g h1.size (fun k hk => (hr k hk).1), h2, h3, h4, ao, c, (g.block rb hz (fun e => (hr rb e.symm).2 rfl)).trans h5, h6⟩
/-- A world without some blocks. -/
def hidP (p : Nat → Bool) (w : World) : World := { w with heap := Array.ofFn (n := w.heap.size) fun i => if p i then .cells #[] 0 (0, 0) else w.heap[i] }
theorem hidP_size (p : Nat → Bool) (w : World) : (hidP p w).heap.size = w.heap.size := by simp [hidP]
theorem hidP_no {p : Nat → Bool} {k : Nat} (w : World) (h : p k = false) : (hidP p w).heap[k]? = w.heap[k]? := by
  simp only [hidP, Array.getElem?_ofFn, h]
  split
  · rename_i hk
    simp only [Bool.false_eq_true, if_false]
    exact (Array.getElem?_eq_getElem hk).symm
  · rename_i hk
    exact (Array.getElem?_eq_none (by omega)).symm
theorem hidP_yes {p : Nat → Bool} {k j : Nat} {v : Value} (w : World) (h : (hidP p w).cell? ⟨k, j, none⟩ = some v) : p k = false ∧ w.cell? ⟨k, j, none⟩ = some v := by
  cases hp : p k with
  | false => exact ⟨rfl, by rwa [World.cell?_of_block (a := ⟨k, j, none⟩) (hidP_no w hp)] at h⟩
  | true =>
    exfalso
    have hk : k < w.heap.size := by have := World.block_lt_of_cell? _ _ h; rw [hidP_size] at this; exact this
    have e : (hidP p w).heap[k]? = some (.cells #[] 0 (0, 0)) := by simp [hidP, hp, hk]
    unfold World.cell? at h
    rw [e] at h
    simp at h
theorem hidP_cell {p : Nat → Bool} {k : Nat} (w : World) (h : p k = false) (j : Nat) : (hidP p w).cell? ⟨k, j, none⟩ = w.cell? ⟨k, j, none⟩ := World.cell?_of_block (hidP_no w h)
theorem hidP_sub {p q : Nat → Bool} {w w' : World} (hz : w.heap.size ≤ w'.heap.size) (h : ∀ b, b < w.heap.size → p b = false → q b = false ∧ w'.heap[b]? = w.heap[b]?) : Sub (hidP p w) (hidP q w') := by
  refine ⟨by rw [hidP_size, hidP_size]; exact hz, fun b j v hv => ?_⟩
  obtain ⟨h1, h2⟩ := hidP_yes w hv
  obtain ⟨h3, h4⟩ := h b (World.block_lt_of_cell? w _ h2) h1
  rw [hidP_cell w' h3, World.cell?_of_block (a := ⟨b, j, none⟩) h4]
  exact h2
theorem hidP_w (p : Nat → Bool) (w : World) : Sub (hidP p w) w := ⟨by rw [hidP_size]; exact Nat.le_refl _, fun _ _ _ h => (hidP_yes w h).2⟩
/-- What is below a place. -/
abbrev bel (B : Nat) : Nat → Bool := fun b => decide (b < B)
theorem bel_gb {B rb : Nat} {w w' : World} (g : w.grownBy w' (some rb)) (h : rb < B) : Sub (hidP (bel B) w) (hidP (bel B) w') :=
  hidP_sub g.size (fun b hb hp => ⟨hp, g.block b hb (fun e => by cases e; simp at hp; omega)⟩)
theorem bel_le {B C : Nat} (w : World) (h : B ≤ C) : Sub (hidP (bel C) w) (hidP (bel B) w) :=
  hidP_sub (Nat.le_refl _) (fun b _ hp => ⟨by simp at hp ⊢; omega, rfl⟩)
/-- Below a place, or a row's own block. -/
def hpB (B : Nat) (v : Value) : Nat → Bool := fun b => decide (b < B) || decide (v.ownBlock = some b)
theorem hpB_no {B : Nat} {v : Value} {b : Nat} : hpB B v b = false ↔ B ≤ b ∧ v.ownBlock ≠ some b := by simp [hpB]
/-- A row that is being put together: its cells, element by element. -/
def Rws {K : Type} (B : Nat) (e : TypeId) (c : Nat) (El : World → (Nat → Option Value) → K → Prop) (w : World) (v : Value) (xs : List K) : Prop := ∃ cs, w.ownsRow B e c v xs.length cs ∧ ∀ i x, xs[i]? = some x → El (hidP (hpB B v) w) (fun j => cs[i * c + j]?) x
theorem Rws.nil {K : Type} (B : Nat) (e : TypeId) (c : Nat) (El : World → (Nat → Option Value) → K → Prop) (w : World) : Rws B e c El w (.slice none 0 0) [] := ⟨[], World.ownsRow_nil _ _ _ _, fun i x h => by simp at h⟩
theorem own_gb {w w' : World} {B c n : Nat} {e : TypeId} {v : Value} {xs : List Value} {r : Option Nat} (h : w.ownsRow B e c v n xs) (g : w.grownBy w' r) (hr : ∀ k, r = some k → k < B) : w'.ownsRow B e c v n xs := by
  have hlt := World.ownsRow.lt h
  obtain ⟨h1, h2⟩ := h
  refine ⟨h1, ?_⟩
  rcases h2 with h2 | ⟨b, cap, cur, e1, hb, hh, r1⟩
  · exact .inl h2
  · exact .inr ⟨b, cap, cur, e1, hb, (g.block b (hlt b (by rw [e1]; rfl)).2 (fun x => by have := hr b x.symm; omega)).trans hh, r1⟩
theorem Rws.gb {K : Type} {B c : Nat} {e : TypeId} {El : World → (Nat → Option Value) → K → Prop} (hs : ∀ W W' f x, Sub W W' → El W f x → El W' f x) {w w' : World} {v : Value} {xs : List K} {r : Option Nat} (h : Rws B e c El w v xs) (g : w.grownBy w' r) (hr : ∀ k, r = some k → k < B) : Rws B e c El w' v xs := by
  obtain ⟨cs, h1, h2⟩ := h
  exact ⟨cs, own_gb h1 g hr, fun i x hx => hs _ _ _ _ (hidP_sub g.size (fun b hb hp => ⟨hp, g.block b hb (fun e => by have := hr b e.symm; have := (hpB_no.1 hp).1; omega)⟩)) (h2 i x hx)⟩
theorem Rws.app {K : Type} {B c : Nat} {e : TypeId} {El : World → (Nat → Option Value) → K → Prop} (hs : ∀ W W' f x, Sub W W' → El W f x → El W' f x) (hex : ∀ W f g x, (∀ j, j < c → f j = g j) → El W f x → El W g x)
    {w w' : World} {B' : Nat} {v v' : Value} {xs : List K} {x : K} {cs lit : List Value} (ho1 : w.ownsRow B e c v xs.length cs) (h2 : ∀ i x, xs[i]? = some x → El (hidP (hpB B v) w) (fun j => cs[i * c + j]?) x) (hl : lit.length = c)
    (hB : B ≤ B') (hv : ∀ k, v.ownBlock = some k → k < B') (hx : El (hidP (bel B') w) (fun j => lit[j]?) x)
    (ho : w'.ownsRow B e c v' (xs.length + 1) (cs ++ lit)) (g : Gd w w' v v') : Rws B e c El w' v' (xs ++ [x]) := by
  have hcs := ho1.1
  have hown : ∀ b, b < w.heap.size → v.ownBlock ≠ some b → v'.ownBlock ≠ some b := fun b hb hn e => by
    rcases g.2 with e2 | ⟨k, e2, hk⟩
    · rw [e2] at e; exact hn e
    · rw [e2] at e; cases e; omega
  refine ⟨cs ++ lit, by simpa using ho, fun i y hy => ?_⟩
  rcases Nat.lt_or_ge i xs.length with hi | hi
  · rw [List.getElem?_append_left hi] at hy
    have h3 := hs _ (hidP (hpB B v') w') _ _ (hidP_sub g.1.size (fun b hb hp => ⟨hpB_no.2 ⟨(hpB_no.1 hp).1, hown b hb (hpB_no.1 hp).2⟩, g.1.block b hb (fun e => (hpB_no.1 hp).2 e.symm)⟩)) (h2 i y hy)
    refine hex _ _ _ _ (fun j hj => ?_) h3
    have : i * c + j < cs.length := by
      rw [hcs]
      have : (i + 1) * c ≤ xs.length * c := Nat.mul_le_mul_right _ hi
      rw [Nat.add_mul, Nat.one_mul] at this
      omega
    rw [List.getElem?_append_left this]
  · have hi2 : i < xs.length + 1 := by have := (List.getElem?_eq_some_iff.1 hy).1; simpa using this
    obtain rfl : i = xs.length := by omega
    rw [List.getElem?_append_right (Nat.le_refl _)] at hy
    simp at hy
    subst hy
    have h3 := hs _ (hidP (hpB B v') w') _ _ (hidP_sub g.1.size (fun b hb hp => by
      simp at hp
      have hn : v.ownBlock ≠ some b := fun e => by have := hv b e; omega
      exact ⟨hpB_no.2 ⟨by omega, hown b hb hn⟩, g.1.block b hb (fun e => hn e.symm)⟩)) hx
    refine hex _ _ _ _ (fun j hj => ?_) h3
    rw [← hcs, List.getElem?_append_right (by omega)]
    congr 1
    omega
/-- The row, when it is done. -/
theorem Rws.done {K : Type} {B c : Nat} {e : TypeId} {El : World → (Nat → Option Value) → K → Prop} (hs : ∀ W W' f x, Sub W W' → El W f x → El W' f x) (hex : ∀ W f g x, (∀ j, j < c → f j = g j) → El W f x → El W g x)
    {w : World} {v : Value} {xs : List K} (h : Rws B e c El w v xs) (hm : xs.length ≤ maxLen) : ∃ ao n, v = .slice ao xs.length n ∧ xs.length ≤ n ∧ n ≤ maxLen ∧ RowAt c (fun b o x => El (hidP (bel B) w) (fun j => (hidP (bel B) w).cell? ⟨b, o + j, none⟩) x) (hidP (bel B) w) ao xs.length xs := by
  obtain ⟨cs, h1, h2⟩ := h
  have h12 := h1
  rcases h1.2 with ⟨rfl, h0⟩ | ⟨g, cap, cur, rfl, hb, hg, hc, hcm, hcs, ht⟩
  · exact ⟨none, 0, by rw [h0], by omega, Nat.zero_le _, rfl, hm, .inl h0⟩
  · refine ⟨some ⟨g, 0, none⟩, cap, rfl, hc, hcm, rfl, hm, .inr ⟨g, 0, rfl, ?_, fun i x hx => ?_⟩⟩
    · rw [hidP_size]; exact (Array.getElem?_eq_some_iff.1 hg).1
    · have hi : i < xs.length := (List.getElem?_eq_some_iff.1 hx).1
      refine hex _ _ _ _ (fun j hj => ?_) (hs _ _ _ _ (hidP_sub (Nat.le_refl _) (fun b _ hp => ⟨by have := (hpB_no.1 hp).1; simp; omega, rfl⟩)) (h2 i x hx))
      have hlt : i * c + j < cs.length := by
        rw [h1.1]
        have : (i + 1) * c ≤ xs.length * c := Nat.mul_le_mul_right _ hi
        rw [Nat.add_mul, Nat.one_mul] at this
        omega
      have := h12.cells (g := g) rfl (i * c + j) _ (List.getElem?_eq_getElem hlt)
      rw [Addr.add_mid] at this
      rw [hidP_cell w (by simp; omega), List.getElem?_eq_getElem hlt, Nat.zero_add]
      rw [Nat.zero_add] at this
      exact this.symm
theorem own_newG (w : World) (e : TypeId) (size base n m : Nat) (xs news : List Value) (old : Nat) (z : Value) (hz : z.cells.size = size) (hl : xs.length = n * size) (hn : news.length = m * size) (hb : base ≤ w.heap.size) (hm : n + m ≤ maxLen) :
    (w.drew.alloc (.cells (xs.toArray ++ news.toArray ++ Builtin.zeroCells z.cells (grownCap w (n + m) old e - (n + m))) e)).ownsRow base e size (.slice (some ⟨w.heap.size, 0, none⟩) (n + m) (grownCap w (n + m) old e)) (n + m) (xs ++ news) := by
  have hge := grownCap_ge w (n + m) old e
  have hcm := grownCap_le_maxLen w (n + m) old e hm
  have hlen : (xs ++ news).length = (n + m) * size := by simp [hl, hn, Nat.add_mul]
  refine ⟨hlen, .inr ⟨w.heap.size, _, _, rfl, hb, heap_alloc_new w.drew _, hge, hcm, ?_, ?_⟩⟩
  · simp only [Array.size_append, List.size_toArray, size_zeroCells, hz, hl, hn]
    rw [← Nat.add_mul, ← Nat.add_mul]
    congr 1
    omega
  · simp only [Array.toList_append, List.append_assoc]
    rw [← List.append_assoc, ← hlen, List.take_append_of_le_length (Nat.le_refl _), List.take_of_length_le (Nat.le_refl _)]
theorem gd_newG (w : World) (e : TypeId) (cs : Array Value) (v : Value) (n c : Nat) : Gd w (w.drew.alloc (.cells cs e)) v (.slice (some ⟨w.heap.size, 0, none⟩) n c) :=
  ⟨⟨rfl, rfl, rfl, by simp, fun k hk _ => heap_alloc_old w.drew _ hk⟩, .inr ⟨w.heap.size, rfl, Nat.le_refl _⟩⟩
theorem own_roomG (w : World) (e : TypeId) (size base g cap n m : Nat) (cur : Array Value) (xs news : List Value) (hb : base ≤ g) (hg : w.heap[g]? = some (.cells cur e (0, 0))) (hr : n + m ≤ cap) (hcm : cap ≤ maxLen) (hcs : cur.size = cap * size) (ht : cur.toList.take (n * size) = xs) (hn : news.length = m * size) (hl : xs.length = n * size) :
    (w.setRow g (cur.toList.take (n * size) ++ news ++ cur.toList.drop (n * size + news.length)).toArray).ownsRow base e size (.slice (some ⟨g, 0, none⟩) (n + m) cap) (n + m) (xs ++ news) := by
  have hlen : (xs ++ news).length = (n + m) * size := by simp [hl, hn, Nat.add_mul]
  have hle : (n + m) * size ≤ cap * size := Nat.mul_le_mul_right _ hr
  rw [Nat.add_mul] at hle
  refine ⟨hlen, .inr ⟨g, cap, _, rfl, hb, setRow_heap w g cur _ e _ hg, hr, hcm, ?_, ?_⟩⟩
  · simp only [List.size_toArray, List.length_append, List.length_take, List.length_drop, Array.length_toList]
    omega
  · rw [ht, ← hlen]
    simp only [List.append_assoc]
    rw [← List.append_assoc, List.take_append_of_le_length (Nat.le_refl _), List.take_of_length_le (Nat.le_refl _)]
/-- Things put behind a row of one's own. -/
theorem app_gen (t ty e : TypeId) (i0 : TypeInfo) (z : Value) (size bytes : Nat) (ht : Tryd.prog.underlying t = some (.slice e)) (hi : Tryd.prog.info? e = some i0) (hz0 : i0.zero = some z) (hz1 : i0.size = size) (hz2 : i0.bytes = bytes) (hz : z.cells.size = size) (hs : 0 < size) (hby : bytes ≤ 64)
    (base : Nat) (v : Value) (n : Nat) (xs : List Value) (ad : Addr) (m c : Nat) (news : List Value) (w : World) (hown : w.ownsRow base e size v n xs) (hl : news.length = m * size) (h0 : 0 < m)
    (hnews : ∀ j u, news[j]? = some u → w.cell? (ad.add j) = some u) (h1 : ∀ u ∈ news, u.oneCell' = true) (hb : n + m ≤ 1099511627776) (hbase : base ≤ w.heap.size) :
    ∃ v' w', (Builtin.append_ #[t, t] ty #[v, .slice (some ad) m c]).run Tryd.prog w = .ok v' w' ∧ w'.ownsRow base e size v' (n + m) (xs ++ news) ∧ Gd w w' v v' := by
  have hmx : n + m ≤ maxLen := by unfold maxLen; omega
  subst hz1 hz2
  have hbb : (n + m) * i0.bytes ≤ 1099511627776 * 64 := Nat.mul_le_mul hb hby
  rcases hown.2 with ⟨rfl, rfl⟩ | ⟨g, cap, cur, rfl, hbg, hg, hnc, hcm, hcs, htake⟩
  · have hx : xs = [] := List.eq_nil_of_length_eq_zero (by simpa using hown.1)
    subst hx
    have hr := run_append_nil (P := Tryd.prog) w t ty e i0 z ht hi hz0 ad m c news hl hnews h0 (by omega) (by simp only [Nat.zero_add] at hbb; omega)
    have ho := own_newG w e i0.size base 0 m [] news 0 z hz (by simp) hl hbase (by simpa using hmx)
    simp only [Nat.zero_add, List.nil_append, Array.empty_append] at ho ⊢
    exact ⟨_, _, hr, ho, gd_newG _ _ _ _ _ _⟩
  · by_cases hroom : n + m ≤ cap
    · have hle : (n + m) * i0.size ≤ cap * i0.size := Nat.mul_le_mul_right _ hroom
      rw [Nat.add_mul] at hle
      have hr := run_append_room (P := Tryd.prog) w t ty e i0 ht hi g n cap cur hg ad m c news hl hnews h1 hroom (by omega)
      exact ⟨_, _, hr, own_roomG w e i0.size base g cap n m cur xs news hbg hg hroom hcm hcs htake hl hown.1, gd_room _ _ _ _ _ _ _⟩
    · have holds : ∀ j u, xs[j]? = some u → w.cell? ((⟨g, 0, none⟩ : Addr).add j) = some u := hown.cells (g := g) rfl
      have hr := run_append_grow (P := Tryd.prog) w t ty e i0 z ht hi hz0 ⟨g, 0, none⟩ n cap xs hown.1 holds ad m c news hl hnews (by omega) (by omega) (growslice_fits (by omega) (by omega))
      exact ⟨_, _, hr, own_newG w e i0.size base n m xs news cap z hz hown.1 hl hbase hmx, gd_newG _ _ _ _ _ _⟩
theorem wpList_gen {ops : Array Oper} {rest : List Oper} {o : Oper} {a : Act} {w : World} {Q : Exit → Act → World → Prop} (hgd : o.guard = none) (s x : Operand) (t e : TypeId) (i0 : TypeInfo) (z : Value) (size bytes : Nat)
    (ho : o.op = .call { callee := .builtin .append, args := #[s, x], argTypes := #[t, t] }) (ht : Tryd.prog.underlying t = some (.slice e)) (hi : Tryd.prog.info? e = some i0) (hz0 : i0.zero = some z) (hz1 : i0.size = size) (hz2 : i0.bytes = bytes) (hz : z.cells.size = size) (hs : 0 < size) (hby : bytes ≤ 64)
    (base : Nat) (v : Value) (n : Nat) (xs : List Value) (ad : Addr) (c : Nat) (news : List Value) (hsv : a.eval s = v) (hxv : a.eval x = .slice (some ad) 1 c) (hown : w.ownsRow base e size v n xs) (hl : news.length = size)
    (hnews : ∀ j u, news[j]? = some u → w.cell? (ad.add j) = some u) (h1 : ∀ u ∈ news, u.oneCell' = true) (hb : n + 1 ≤ 1099511627776) (hbase : base ≤ w.heap.size)
    (h : ∀ v' w', w'.ownsRow base e size v' (n + 1) (xs ++ news) → Gd w w' v v' → wpList Tryd.prog ops Q rest (a.put o.dst v') w') : wpList Tryd.prog ops Q (o :: rest) a w := by
  refine wpList_plain hgd fun K hK => ?_
  obtain ⟨v', w', hrun, r1, r2⟩ := app_gen t o.type e i0 z size bytes ht hi hz0 hz1 hz2 hz hs hby base v n xs ad 1 c news w hown (by omega) (by decide) hnews h1 hb hbase
  unfold Oper.wp execOp
  simp only [ho, resolve, invoke, builtin, Sem.run_bind, Sem.run_pure, Result.andThen_ok, List.map_toArray, List.map_cons, List.map_nil, hsv, hxv, hrun]
  exact hK _ _ (h v' w' r1 r2)

def ElI (W : World) (f : Nat → Option Value) (n : Int) : Prop := f 0 = some (.int .i64 n) ∧ I64 n
def ElS (W : World) (f : Nat → Option Value) (s : ByteArray) : Prop := f 0 = some (.string s) ∧ s.size ≤ maxLen
def ElN (W : World) (f : Nat → Option Value) (x : Ins) : Prop := f 0 = some (.int .u8 x.op) ∧ f 1 = some (.int .i64 x.a) ∧ (0 ≤ x.op ∧ x.op ≤ 255) ∧ I64 x.a
def ElP (W : World) (f : Nat → Option Value) (x : Pro) : Prop := ∃ ca cl cc, (f 0 = some (.int .i64 x.p) ∧ f 1 = some (.int .i64 x.s) ∧ f 2 = some (.int .i64 x.u) ∧ f 3 = some (.slice ca cl cc)) ∧ PrV W x ca cl cc
def ElT (W : World) (f : Nat → Option Value) (x : Tbl) : Prop := ∃ oa ol oc, (f 0 = some (.slice oa ol oc) ∧ f 1 = some (.bool x.ret) ∧ f 2 = some (.bool x.fin)) ∧ TbV W x oa ol oc
theorem ElI.sub (W W' : World) (f : Nat → Option Value) (x : Int) (k : Sub W W') (h : ElI W f x) : ElI W' f x := h
theorem ElS.sub (W W' : World) (f : Nat → Option Value) (x : ByteArray) (k : Sub W W') (h : ElS W f x) : ElS W' f x := h
theorem ElN.sub (W W' : World) (f : Nat → Option Value) (x : Ins) (k : Sub W W') (h : ElN W f x) : ElN W' f x := h
theorem ElP.sub (W W' : World) (f : Nat → Option Value) (x : Pro) (k : Sub W W') (h : ElP W f x) : ElP W' f x := by obtain ⟨a, b, c, h1, h2⟩ := h; exact ⟨a, b, c, h1, k.prv h2⟩
theorem ElT.sub (W W' : World) (f : Nat → Option Value) (x : Tbl) (k : Sub W W') (h : ElT W f x) : ElT W' f x := by obtain ⟨a, b, c, h1, h2⟩ := h; exact ⟨a, b, c, h1, k.tbv h2⟩
theorem ElI.ex (W : World) (f g : Nat → Option Value) (x : Int) (k : ∀ j, j < 1 → f j = g j) (h : ElI W f x) : ElI W g x := ⟨by rw [← k 0 (by decide)]; exact h.1, h.2⟩
theorem ElS.ex (W : World) (f g : Nat → Option Value) (x : ByteArray) (k : ∀ j, j < 1 → f j = g j) (h : ElS W f x) : ElS W g x := ⟨by rw [← k 0 (by decide)]; exact h.1, h.2⟩
theorem ElN.ex (W : World) (f g : Nat → Option Value) (x : Ins) (k : ∀ j, j < 2 → f j = g j) (h : ElN W f x) : ElN W g x := ⟨by rw [← k 0 (by decide)]; exact h.1, by rw [← k 1 (by decide)]; exact h.2.1, h.2.2⟩
theorem ElP.ex (W : World) (f g : Nat → Option Value) (x : Pro) (k : ∀ j, j < 4 → f j = g j) (h : ElP W f x) : ElP W g x := by
  obtain ⟨a, b, c, ⟨h0, h1, h2, h3⟩, h4⟩ := h
  exact ⟨a, b, c, ⟨by rw [← k 0 (by decide)]; exact h0, by rw [← k 1 (by decide)]; exact h1, by rw [← k 2 (by decide)]; exact h2, by rw [← k 3 (by decide)]; exact h3⟩, h4⟩
theorem ElT.ex (W : World) (f g : Nat → Option Value) (x : Tbl) (k : ∀ j, j < 3 → f j = g j) (h : ElT W f x) : ElT W g x := by
  obtain ⟨a, b, c, ⟨h0, h1, h2⟩, h4⟩ := h
  exact ⟨a, b, c, ⟨by rw [← k 0 (by decide)]; exact h0, by rw [← k 1 (by decide)]; exact h1, by rw [← k 2 (by decide)]; exact h2⟩, h4⟩
/-- A list as it was read. -/
def VL {K : Type} (At : World → Option Addr → Nat → List K → Prop) (B : Nat) (w : World) (v : Value) (xs : List K) : Prop := ∃ ao n, v = .slice ao xs.length n ∧ xs.length ≤ n ∧ n ≤ maxLen ∧ xs.length ≤ 1048576 ∧ At (hidP (bel B) w) ao xs.length xs
def VI (B : Nat) (w : World) (v : Value) (n : Int) : Prop := v = .int .i64 n ∧ I64 n
def VS (B : Nat) (w : World) (v : Value) (s : ByteArray) : Prop := v = .string s ∧ s.size ≤ 1048576
def VN (B : Nat) (w : World) (v : Value) (x : Ins) : Prop := v = .agg #[.int .u8 x.op, .int .i64 x.a] ∧ (0 ≤ x.op ∧ x.op ≤ 255) ∧ I64 x.a
def VP (B : Nat) (w : World) (v : Value) (x : Pro) : Prop := ∃ ca cl cc, v = prv x.p x.s x.u ca cl cc ∧ PrV (hidP (bel B) w) x ca cl cc
def VT (B : Nat) (w : World) (v : Value) (x : Tbl) : Prop := ∃ oa ol oc, v = tbv oa ol oc x.ret x.fin ∧ TbV (hidP (bel B) w) x oa ol oc
theorem gb_own {w x y : World} {rb : Nat} {r : Option Nat} (h : w.grownBy x (some rb)) (g : x.grownBy y r) (hr : ∀ k, r = some k → w.heap.size ≤ k) : w.grownBy y (some rb) :=
  ⟨g.os.trans h.os, g.tape.trans h.tape, g.output.trans h.output, Nat.le_trans h.size g.size, fun j hj hn => (g.block j (by have := h.size; omega) (fun e => by have := hr j e.symm; omega)).trans (h.block j hj hn)⟩
theorem dNumF_lt (l : List Nat) : ∀ (sh acc n : Nat) (r : List Nat), dNumF l sh acc = some (n, r) → r.length < l.length := by
  induction l with
  | nil => intro sh acc n r h; simp [dNumF] at h
  | cons b t ih =>
    intro sh acc n r h
    rw [dNumF] at h
    split at h
    · cases h
    split at h
    · cases h
    split at h
    · cases h; simp
    · have := ih _ _ _ _ h; simp; omega
theorem dSize_lt {l r : List Nat} {n : Nat} (h : dSize l = some (n, r)) : r.length < l.length := by
  unfold dSize at h
  cases hd : dNum l with
  | none => rw [hd] at h; cases h
  | some x =>
    rw [hd] at h
    simp only [Option.bind_some] at h
    split at h
    · cases h
    · cases h; exact dNumF_lt _ _ _ _ _ hd
theorem dPlace_lt {l r : List Nat} {n : Int} (h : dPlace l = some (n, r)) : r.length < l.length := by
  unfold dPlace at h
  cases hd : dSize l with
  | none => rw [hd] at h; cases h
  | some x => rw [hd] at h; cases h; exact dSize_lt hd
theorem dSign_lt {l r : List Nat} {n : Int} (h : dSign l = some (n, r)) : r.length < l.length := by
  unfold dSign at h
  cases hd : dNum l with
  | none => rw [hd] at h; cases h
  | some x => rw [hd] at h; cases h; exact dNumF_lt _ _ _ _ _ hd
theorem dText_lt {l r : List Nat} {s : ByteArray} (h : dText l = some (s, r)) : r.length < l.length := by
  unfold dText at h
  cases hd : dSize l with
  | none => rw [hd] at h; cases h
  | some x =>
    rw [hd] at h
    simp only [Option.bind_some] at h
    split at h
    · cases h
    · cases h; have := dSize_lt hd; simp; omega
theorem dRep_le {K : Type} {one : List Nat → Option (K × List Nat)} (h1 : ∀ l x r, one l = some (x, r) → r.length < l.length) (n : Nat) : ∀ (l r : List Nat) (xs : List K), dRep one n l = some (xs, r) → r.length ≤ l.length := by
  induction n with
  | zero => intro l r xs h; cases h; exact Nat.le_refl _
  | succ n ih =>
    intro l r xs h
    rw [dRep] at h
    cases ho : one l with
    | none => rw [ho] at h; cases h
    | some x =>
      rw [ho] at h
      simp only [Option.bind_some] at h
      cases hr : dRep one n x.2 with
      | none => rw [hr] at h; cases h
      | some y =>
        rw [hr] at h
        cases h
        have := h1 _ _ _ ho
        have := ih _ _ _ hr
        omega
theorem dList_lt {K : Type} {one : List Nat → Option (K × List Nat)} (h1 : ∀ l x r, one l = some (x, r) → r.length < l.length) {l r : List Nat} {xs : List K} (h : dList one l = some (xs, r)) : r.length < l.length := by
  unfold dList at h
  cases hd : dSize l with
  | none => rw [hd] at h; cases h
  | some x =>
    rw [hd] at h
    simp only [Option.bind_some] at h
    have := dSize_lt hd
    have := dRep_le h1 _ _ _ _ h
    omega
theorem dIns_lt {l r : List Nat} {x : Ins} (h : dIns l = some (x, r)) : r.length < l.length := by
  unfold dIns at h
  cases l with
  | nil => simp [dByte] at h
  | cons c t =>
    simp only [dByte, Option.bind_some] at h
    cases hd : dPlace t with
    | none => rw [hd] at h; cases h
    | some y => rw [hd] at h; cases h; have := dPlace_lt hd; simp; omega
theorem dPro_lt {l r : List Nat} {x : Pro} (h : dPro l = some (x, r)) : r.length < l.length := by
  unfold dPro at h
  cases h1 : dPlace l with
  | none => rw [h1] at h; cases h
  | some a =>
  rw [h1] at h
  simp only [Option.bind_some] at h
  cases h2 : dPlace a.2 with
  | none => rw [h2] at h; cases h
  | some b =>
  rw [h2] at h
  simp only [Option.bind_some] at h
  cases h3 : dPlace b.2 with
  | none => rw [h3] at h; cases h
  | some c =>
  rw [h3] at h
  simp only [Option.bind_some] at h
  cases h4 : dList dIns c.2 with
  | none => rw [h4] at h; cases h
  | some d =>
  rw [h4] at h
  cases h
  have := dPlace_lt h1; have := dPlace_lt h2; have := dPlace_lt h3; have := dList_lt (fun _ _ _ => dIns_lt) h4
  omega
theorem dTbl_lt {l r : List Nat} {x : Tbl} (h : dTbl l = some (x, r)) : r.length < l.length := by
  unfold dTbl at h
  cases h1 : dList dPlace l with
  | none => rw [h1] at h; cases h
  | some a =>
  rw [h1] at h
  simp only [Option.bind_some] at h
  cases h2 : dByte a.2 with
  | none => rw [h2] at h; cases h
  | some b =>
  rw [h2] at h
  simp only [Option.bind_some] at h
  split at h
  · cases h
  cases h
  have := dList_lt (fun _ _ _ => dPlace_lt) h1
  cases ha : a.2 with
  | nil => rw [ha] at h2; cases h2
  | cons c t => rw [ha] at h2 this; cases h2; simp only [List.length_cons] at this; show t.length < l.length; omega
theorem Tryd.infk2 : (Tryd.prog.info? 2).map (fun i => (i.zero, i.size, i.bytes)) = some (some (.int .i64 0), 1, 8) := by kernel_rfl
set_option maxRecDepth 100000 in
set_option maxHeartbeats 4000000 in
theorem listInts_any (W0 w : World) (rb : Nat) (l : List Nat) (h : Rd W0 w rb l) (hG : ∀ w1 r, Rd W0 w1 rb r → Calls Tryd.prog 53 #[.pointer (some ⟨rb, 0, none⟩)] w1 (PQ W0 rb w1 (VI w1.heap.size) (dSign r))) :
    Calls Tryd.prog 52 #[.pointer (some ⟨rb, 0, none⟩), .func (.func 53) #[.pointer (some ⟨rb, 0, none⟩)] #[]] w (PQ W0 rb w (VL IntsAt w.heap.size) (dList dSign l)) := by
  have HG : Hid (∀ w1 r, Rd W0 w1 rb r → Calls Tryd.prog 53 #[.pointer (some ⟨rb, 0, none⟩)] w1 (PQ W0 rb w1 (VI w1.heap.size) (dSign r))) := hG
  have HN : Hid (Calls Tryd.prog 75 #[.pointer (some ⟨rb, 0, none⟩)] w (PQ W0 rb w (fun (_ : World) (v : Value) (k : Nat) => v = .int .i64 (k : Int) ∧ k ≤ 9223372036854775807) (dSize l))) := size_any W0 w rb l h
  have hrb := h.lt
  have hW0 : W0.heap.size ≤ rb := h.2.1
  have HL : Hid (l.length ≤ 1048576) := h.2.2.1
  unfold dList
  cases hd : dSize l with
  | none =>
    rw [hd] at HN
    clear hd h hG
    go_enter Tryd.func52, Tryd.ntmps52
    go_wp2_with (first | (go_at_call 75; go_loud (refine Calls.mono HN.out ?_; rintro e w1 ⟨g1, hp⟩; obtain rfl := hp; have G1 : Hid _ := g1; clear g1)))
    exact ⟨rfl, G1.out, rfl⟩
  | some y =>
    obtain ⟨k, r0⟩ := y
    rw [hd] at HN
    have HL0 : Hid (r0.length ≤ 1048576) := by have := dSize_lt hd; have := HL.out; show _ ≤ _; omega
    simp only [Option.bind_some]
    clear hd h hG HL
    go_enter Tryd.func52, Tryd.ntmps52
    go_wp2_with (first | (go_at_call 75; go_loud (refine Calls.mono HN.out ?_; rintro e w1 ⟨g1, v1, rfl, ⟨hv1, hk1⟩, R1⟩; obtain rfl := hv1; have G1 : Hid (w.grownBy w1 (some rb)) := g1; have RR1 : Hid (Rd W0 w1 rb r0) := R1; clear g1 R1)))
    go_loopw [5, 8] (fun row i w' => ∃ (j : Nat) (xs : List Int) (r : List Nat), i = .int .i64 (j : Int) ∧ j ≤ k ∧ Hid (dRep dSign k r0 = (dRep dSign (k - j) r).map (fun y => (xs ++ y.1, y.2)) ∧ xs.length = j ∧ j + r.length ≤ 1048576) ∧ Hid (Rd W0 w' rb r) ∧ Hid (Rws w.heap.size 2 1 ElI w' row xs) ∧ Hid (w.grownBy w' (some rb))) (fun row i _ => k - (intOf i).toNat)
    case atStart => exact ⟨0, [], r0, rfl, Nat.zero_le _, ⟨by simp, rfl, by have := HL0.out; omega⟩, RR1, Rws.nil _ _ _ _ _, G1⟩
    case round =>
      obtain ⟨j, xs, r, rfl, hj, HD, HR, HW, HGr⟩ := hrel
      by_cases hlt : j < k
      · have HC : Hid (Calls Tryd.prog 53 #[.pointer (some ⟨rb, 0, none⟩)] wr (PQ W0 rb wr (VI wr.heap.size) (dSign r))) := HG.out wr r HR.out
        cases hone : dSign r with
        | none =>
          rw [hone] at HC
          have HX : Hid (dRep dSign k r0 = none) := by
            show _ = _
            rw [HD.out.1, show k - j = (k - j - 1) + 1 by omega, dRep, hone]
            rfl
          clear hone
          go_wp2_with (first | (go_at_call 53; go_loud (refine Calls.mono HC.out ?_; rintro e w2 ⟨g2, hp⟩; obtain rfl := hp)))
          exact ⟨rfl, gb_trans HGr.out g2, by rw [HX.out]⟩
        | some p =>
          obtain ⟨x, q⟩ := p
          rw [hone] at HC
          have HD2 : Hid (dRep dSign k r0 = (dRep dSign (k - (j + 1)) q).map (fun y => ((xs ++ [x]) ++ y.1, y.2)) ∧ (xs ++ [x]).length = j + 1 ∧ (j + 1) + q.length ≤ 1048576) := by
            obtain ⟨d1, d2, d3⟩ := HD.out
            have d4 := dSign_lt hone
            refine ⟨?_, by simp [d2], by omega⟩
            rw [d1, show k - j = (k - (j + 1)) + 1 by omega, dRep, hone]
            simp only [Option.bind_some]
            cases dRep dSign (k - (j + 1)) q <;> simp
          have hjn : j + 1 ≤ 1048576 := by have := HD2.out.2.2; omega
          have hxl : xs.length = j := HD.out.2.1
          clear hone HD
          obtain ⟨cs, hown, hel⟩ := HW.out
          have HOWN : Hid _ := hown
          have HEL : Hid _ := hel
          have hws : w.heap.size ≤ wr.heap.size := HGr.out.size
          clear hown hel
          go_wp2_with (first
            | (go_at_call 53; go_loud (refine Calls.mono HC.out ?_; rintro e w2 ⟨g2, v2, rfl, hv2, R2⟩; obtain ⟨rfl, hv3⟩ := hv2; have G2 : Hid (wr.grownBy w2 (some rb)) := g2; have RR2 : Hid (Rd W0 w2 rb q) := R2; have EX : Hid (ElI (hidP (bel wr.heap.size) w2) (fun j => ([.int .i64 x] : List Value)[j]?) x) := ⟨rfl, hv3⟩; clear g2 R2))
            | (at_builtin; go_loud (obtain ⟨i0, hi, hz0, hz1, hz2⟩ := info_parts Tryd.infk2; refine wpList_gen rfl (.tmp 10) (.tmp 13) 22 2 i0 (.int .i64 0) 1 8 rfl Tryd.underlying22 hi hz0 hz1 hz2 rfl (by decide) (by decide) w.heap.size _ xs.length cs ⟨w2.heap.size, 0, none⟩ 1 [.int .i64 x] rfl rfl (World.ownsRow.alloc (own_gb HOWN.out G2.out (fun k hk => by cases hk; exact hrb)) _) rfl ?nw (by intro u hu; simp only [List.mem_cons, List.not_mem_nil, or_false] at hu; rcases hu with rfl <;> rfl) (by omega) (by have := G2.out.size; simp; omega) ?_; (case nw => intro j u hu; rw [Addr.add_mid, Nat.zero_add]; exact (cell_new w2 _ _ _).trans (by simpa using hu)); intro v3 w3 o3 g3; have O3 : Hid _ := o3; have G3 : Hid _ := g3; clear o3 g3 hi hz0 hz1 hz2)))
          have hgs := fun k hk => World.ownsRow.lt HOWN.out k hk
          have GA : Hid (w2.grownBy (w2.alloc (.cells #[.int .i64 x] 2)) (some rb)) := gb_bw (BW.alloc (BW.refl _) _)
          have HELA : Hid (∀ i y, xs[i]? = some y → ElI (hidP (hpB w.heap.size u5) (w2.alloc (.cells #[.int .i64 x] 2))) (fun j => cs[i * 1 + j]?) y) := fun i y hy => by
            refine ElI.sub _ _ _ _ (hidP_sub ?_ (fun b hb hp => ⟨hp, ?_⟩)) (HEL.out i y hy)
            · have := G2.out.size; simp; omega
            · have hb2 : b < w2.heap.size := by have := G2.out.size; omega
              have := (hpB_no.1 hp).1
              exact (GA.out.block b hb2 (fun e => by cases e; omega)).trans (G2.out.block b hb (fun e => by cases e; omega))
          have EXA : ElI (hidP (bel wr.heap.size) (w2.alloc (.cells #[.int .i64 x] 2))) (fun j => ([.int .i64 x] : List Value)[j]?) x :=
            ElI.sub _ _ _ _ (bel_gb GA.out (by omega)) EX.out
          have HWN : Hid (Rws w.heap.size 2 1 ElI w3 v3 (xs ++ [x])) := Rws.app ElI.sub ElI.ex (World.ownsRow.alloc (own_gb HOWN.out G2.out (fun k hk => by cases hk; exact hrb)) _) HELA.out rfl hws (fun k hk => (hgs k hk).2) EXA O3.out G3.out
          have HRN : Hid (Rd W0 w3 rb q) := Rd.gb (RR2.out.bw (BW.alloc (BW.refl _) _)) G3.out.1 (fun k hk => by have := (hgs k hk).1; omega)
          have HGN : Hid (w.grownBy w3 (some rb)) := gb_own (gb_trans (gb_trans HGr.out G2.out) GA.out) G3.out.1 (fun k hk => (hgs k hk).1)
          clear HELA EXA hgs
          go_roundw
          case rel => exact ⟨j + 1, xs ++ [x], q, by go_num, by omega, HD2, HRN, HWN, HGN⟩
          case measure => simp [intOf]; omega
      · obtain rfl : k = j := by omega
        have HX : Hid (dRep dSign k r0 = some (xs, r)) := by
          show _ = _
          rw [HD.out.1, Nat.sub_self, dRep]
          simp
        have hxl : xs.length ≤ 1048576 := by have := HD.out.2; omega
        obtain ⟨ao, n, hve, hn1, hn2, hrow⟩ := Rws.done ElI.sub ElI.ex HW.out (by unfold maxLen; omega)
        have HV : Hid (VL IntsAt w.heap.size wr u5 xs) := ⟨ao, n, hve, hn1, hn2, hxl, IntsAt.of hrow⟩
        clear hve hrow
        go_wp2_with (fail)
        go_ret
        exact ⟨HGr.out, by rw [HX.out]; exact ⟨_, rfl, HV.out, HR.out⟩⟩

end Go.Proofs.YtndhhmgbekcfoaaDoor
