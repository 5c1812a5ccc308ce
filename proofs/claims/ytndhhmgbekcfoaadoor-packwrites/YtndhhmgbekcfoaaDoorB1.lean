import Derived.Test.YtndhhmgbekcfoaaDoorV0
import Derived.Laws.AppendOwn
namespace Go.Proofs.YtndhhmgbekcfoaaDoor
open Go.RowKit
set_option linter.unusedVariables false
set_option linter.unusedSimpArgs false

/-- Bytes as memory has them. -/
def bs (l : List Nat) : List Value := l.map (fun k : Nat => Value.int .u8 (k : Int))
theorem bs_app (a b : List Nat) : bs (a ++ b) = bs a ++ bs b := by simp [bs]
theorem bs_len (a : List Nat) : (bs a).length = a.length := by simp [bs]
theorem bs_cell (a : List Nat) : ∀ u ∈ bs a, u.oneCell' = true := by
  intro u hu
  obtain ⟨k, _, rfl⟩ := List.mem_map.1 hu
  rfl
/-- A text's bytes. -/
def sb (s : ByteArray) : List Nat := s.data.toList.map (fun b => b.toNat)
theorem sb_len (s : ByteArray) : (sb s).length = s.size := by first | (simp [sb]; done) | (simp [sb]; rfl)
theorem bs_sb (s : ByteArray) : bs (sb s) = s.data.toList.map (fun b => Value.int .u8 b.toNat) := by simp [bs, sb, Function.comp_def]
theorem Tryd.infk5 : (Tryd.prog.info? 5).map (fun i => (i.zero, i.size, i.bytes)) = some (some (.int .u8 0), 1, 1) := by kernel_rfl
/-- What a call leaves that puts bytes behind a row of its own: v the row ahead of it, v' behind it. -/
def Gd (w w' : World) (v v' : Value) : Prop := w.grownBy w' v.ownBlock ∧ (v'.ownBlock = v.ownBlock ∨ ∃ g, v'.ownBlock = some g ∧ w.heap.size ≤ g)
theorem Gd.refl (w : World) (v : Value) : Gd w w v v := ⟨⟨rfl, rfl, rfl, Nat.le_refl _, fun _ _ _ => rfl⟩, .inl rfl⟩
theorem Gd.trans {a b c : World} {u v x : Value} (h : Gd a b u v) (k : Gd b c v x) : Gd a c u x := by
  have hz := h.1.size
  refine ⟨⟨k.1.os.trans h.1.os, k.1.tape.trans h.1.tape, k.1.output.trans h.1.output, Nat.le_trans h.1.size k.1.size, fun j hj hn => ?_⟩, ?_⟩
  · refine (k.1.block j (by omega) ?_).trans (h.1.block j hj hn)
    rcases h.2 with e | ⟨g, e, hg⟩
    · rw [e]; exact hn
    · rw [e]; intro e'; cases e'; omega
  · rcases k.2 with e | ⟨g, e, hg⟩
    · rcases h.2 with e2 | ⟨g2, e2, hg2⟩
      · exact .inl (e.trans e2)
      · exact .inr ⟨g2, e.trans e2, hg2⟩
    · exact .inr ⟨g, e, by omega⟩
theorem Gd.alloc {a b : World} {u v : Value} (h : Gd a b u v) (o : Obj) : Gd a (b.alloc o) u v :=
  h.trans ⟨⟨rfl, rfl, rfl, by simp, fun k hk _ => heap_alloc_old b _ hk⟩, .inl rfl⟩
theorem Gd.drew {a b : World} {u v : Value} (h : Gd a b u v) : Gd a b.drew u v := ⟨⟨h.1.os, h.1.tape, h.1.output, h.1.size, h.1.block⟩, h.2⟩
theorem Gd.drewN {a b : World} {u v : Value} (h : Gd a b u v) (n : Nat) : Gd a (b.drewN n) u v := ⟨⟨h.1.os, h.1.tape, h.1.output, h.1.size, h.1.block⟩, h.2⟩
/-- A block that isn't the row's stays. -/
theorem Gd.at {w w' : World} {v v' : Value} (h : Gd w w' v v') {B : Nat} (hB : B < w.heap.size) (hv : v.ownBlock ≠ some B) : (∀ j, w'.cell? ⟨B, j, none⟩ = w.cell? ⟨B, j, none⟩) ∧ B < w'.heap.size ∧ v'.ownBlock ≠ some B := by
  have hz := h.1.size
  refine ⟨fun j => World.cell?_of_block (h.1.block B hB (fun e => hv e.symm)), by omega, ?_⟩
  rcases h.2 with e | ⟨g, e, hg⟩
  · rw [e]; exact hv
  · rw [e]; intro e'; cases e'; omega
/-- A row of bytes of one's own: nothing that was there at W0 has turned. -/
def Bf (W0 w : World) (v : Value) (l : List Nat) : Prop := BW W0 w ∧ w.ownsRow W0.heap.size 5 1 v l.length (bs l)
theorem Bf.nil (w : World) : Bf w w (.slice none 0 0) [] := ⟨BW.refl _, World.ownsRow_nil _ _ _ _⟩
theorem Bf.alloc {W0 w : World} {v : Value} {l : List Nat} (h : Bf W0 w v l) (o : Obj) : Bf W0 (w.alloc o) v l := ⟨h.1.alloc o, h.2.alloc o⟩
theorem Bf.lt {W0 w : World} {v : Value} {l : List Nat} (h : Bf W0 w v l) : v.ownBlock ≠ some w.heap.size := fun e => by have := World.ownsRow.lt h.2 _ e; omega
theorem Bf.of {W0 w w' : World} {v v' : Value} {l l' : List Nat} (h : Bf W0 w v l) (g : Gd w w' v v') (o : w'.ownsRow W0.heap.size 5 1 v' l'.length (bs l')) : Bf W0 w' v' l' :=
  ⟨Below.grown h.1 g.1 h.1.size (fun k hk => (World.ownsRow.lt h.2 k hk).1), o⟩
theorem own_new (w : World) (base n m : Nat) (xs news : List Value) (old : Nat) (z : Value) (hz : z.cells.size = 1) (hl : xs.length = n) (hn : news.length = m) (hb : base ≤ w.heap.size) (hm : n + m ≤ maxLen) :
    (w.drew.alloc (.cells (xs.toArray ++ news.toArray ++ Builtin.zeroCells z.cells (grownCap w (n + m) old 5 - (n + m))) 5)).ownsRow base 5 1 (.slice (some ⟨w.heap.size, 0, none⟩) (n + m) (grownCap w (n + m) old 5)) (n + m) (xs ++ news) := by
  have hge := grownCap_ge w (n + m) old 5
  have hcm := grownCap_le_maxLen w (n + m) old 5 hm
  refine ⟨by simp [hl, hn], .inr ⟨w.heap.size, _, _, rfl, hb, heap_alloc_new w.drew _, hge, hcm, ?_, ?_⟩⟩
  · simp only [Array.size_append, List.size_toArray, size_zeroCells, hz, hl, hn]; omega
  · simp only [Array.toList_append, List.append_assoc]
    rw [← List.append_assoc, List.take_append_of_le_length (by simp [hl, hn]), List.take_of_length_le (by simp [hl, hn])]
theorem gd_new (w : World) (cs : Array Value) (v : Value) (n c : Nat) : Gd w (w.drew.alloc (.cells cs 5)) v (.slice (some ⟨w.heap.size, 0, none⟩) n c) :=
  ⟨⟨rfl, rfl, rfl, by simp, fun k hk _ => heap_alloc_old w.drew _ hk⟩, .inr ⟨w.heap.size, rfl, Nat.le_refl _⟩⟩
theorem own_room (w : World) (base g cap n m : Nat) (cur : Array Value) (xs news : List Value) (hb : base ≤ g) (hg : w.heap[g]? = some (.cells cur 5 (0, 0))) (hr : n + m ≤ cap) (hcm : cap ≤ maxLen) (hcs : cur.size = cap * 1) (ht : cur.toList.take (n * 1) = xs) (hn : news.length = m) (hl : xs.length = n) :
    (w.setRow g (cur.toList.take n ++ news ++ cur.toList.drop (n + m)).toArray).ownsRow base 5 1 (.slice (some ⟨g, 0, none⟩) (n + m) cap) (n + m) (xs ++ news) := by
  simp only [Nat.mul_one] at ht hcs
  refine ⟨by simp [hl, hn], .inr ⟨g, cap, _, rfl, hb, setRow_heap w g cur _ 5 _ hg, hr, hcm, ?_, ?_⟩⟩
  · simp only [List.size_toArray, List.length_append, List.length_take, List.length_drop, Array.length_toList]
    omega
  · rw [ht, Nat.mul_one]
    simp only [List.append_assoc]
    rw [← List.append_assoc, List.take_append_of_le_length (by simp [hl, hn]), List.take_of_length_le (by simp [hl, hn])]
theorem gd_room (w : World) (g n c n' c' : Nat) (cs : Array Value) : Gd w (w.setRow g cs) (.slice (some ⟨g, 0, none⟩) n c) (.slice (some ⟨g, 0, none⟩) n' c') :=
  ⟨⟨rfl, rfl, rfl, by simp, fun k _ hk => setRow_other w g k _ (fun e => hk (by simp [Value.ownBlock, e]))⟩, .inl rfl⟩
theorem app_row (ty : TypeId) (base : Nat) (v : Value) (n : Nat) (xs : List Value) (ad : Addr) (m c : Nat) (news : List Value) (w : World) (hown : w.ownsRow base 5 1 v n xs) (hl : news.length = m) (h0 : 0 < m)
    (hnews : ∀ j u, news[j]? = some u → w.cell? (ad.add j) = some u) (h1 : ∀ u ∈ news, u.oneCell' = true) (hb : n + m ≤ 70368744177664) (hbase : base ≤ w.heap.size) :
    ∃ v' w', (Builtin.append_ #[30, 30] ty #[v, .slice (some ad) m c]).run Tryd.prog w = .ok v' w' ∧ w'.ownsRow base 5 1 v' (n + m) (xs ++ news) ∧ Gd w w' v v' := by
  obtain ⟨i0, hi, hz0, hz1, hz2⟩ := info_parts Tryd.infk5
  have hz : (Value.int IntKind.u8 0).cells.size = 1 := rfl
  have hmx : n + m ≤ maxLen := by unfold maxLen; omega
  rcases hown.2 with ⟨rfl, rfl⟩ | ⟨g, cap, cur, rfl, hbg, hg, hnc, hcm, hcs, htake⟩
  · have hx : xs = [] := List.eq_nil_of_length_eq_zero (by simpa using hown.1)
    subst hx
    have hr := run_append_nil (P := Tryd.prog) w 30 ty 5 i0 _ Tryd.underlying30 hi hz0 ad m c news (by rw [hz1]; omega) hnews h0 (by omega) (by rw [hz2]; omega)
    have ho := own_new w base 0 m [] news 0 (.int .u8 0) hz rfl hl hbase (by simpa using hmx)
    simp only [Nat.zero_add, List.nil_append, Array.empty_append] at ho ⊢
    exact ⟨_, _, hr, ho, gd_new _ _ _ _ _⟩
  · by_cases hroom : n + m ≤ cap
    · have hr := run_append_room (P := Tryd.prog) w 30 ty 5 i0 Tryd.underlying30 hi g n cap cur hg ad m c news (by rw [hz1]; omega) hnews h1 hroom (by rw [hz1]; omega)
      rw [hz1, Nat.mul_one, hl] at hr
      exact ⟨_, _, hr, own_room w base g cap n m cur xs news hbg hg hroom hcm hcs htake hl (by simpa using hown.1), gd_room _ _ _ _ _ _ _⟩
    · have holds : ∀ j u, xs[j]? = some u → w.cell? ((⟨g, 0, none⟩ : Addr).add j) = some u := hown.cells (g := g) rfl
      have hr := run_append_grow (P := Tryd.prog) w 30 ty 5 i0 _ Tryd.underlying30 hi hz0 ⟨g, 0, none⟩ n cap xs (by rw [hz1]; exact hown.1) holds ad m c news (by rw [hz1]; omega) hnews (by omega) (by omega) (growslice_fits (by omega) (by rw [hz2]; omega))
      exact ⟨_, _, hr, own_new w base n m xs news cap _ hz (by simpa using hown.1) hl hbase hmx, gd_new _ _ _ _ _⟩
theorem wpList_app {ops : Array Oper} {rest : List Oper} {o : Oper} {a : Act} {w : World} {Q : Exit → Act → World → Prop} (hgd : o.guard = none) (s x : Operand)
    (ho : o.op = .call { callee := .builtin .append, args := #[s, x], argTypes := #[30, 30] }) (W0 : World) (v : Value) (l : List Nat) (ad : Addr) (m c : Nat) (news : List Nat) (hsv : a.eval s = v) (hxv : a.eval x = .slice (some ad) m c)
    (hB : Bf W0 w v l) (hl : news.length = m) (h0 : 0 < m) (hnews : ∀ j u, (bs news)[j]? = some u → w.cell? (ad.add j) = some u) (hb : l.length + m ≤ 70368744177664)
    (h : ∀ v' w', Bf W0 w' v' (l ++ news) → Gd w w' v v' → wpList Tryd.prog ops Q rest (a.put o.dst v') w') : wpList Tryd.prog ops Q (o :: rest) a w := by
  refine wpList_plain hgd fun K hK => ?_
  obtain ⟨v', w', hrun, r1, r2⟩ := app_row o.type W0.heap.size v l.length (bs l) ad m c (bs news) w hB.2 (by rw [bs_len]; exact hl) h0 hnews (bs_cell _) hb hB.1.size
  unfold Oper.wp execOp
  simp only [ho, resolve, invoke, builtin, Sem.run_bind, Sem.run_pure, Result.andThen_ok, List.map_toArray, List.map_cons, List.map_nil, hsv, hxv, hrun]
  exact hK _ _ (h v' w' (hB.of r2 (by rw [bs_app, List.length_append, hl]; exact r1)) r2)
theorem wp_appo {o : Oper} {a : Act} {w : World} {K : Act → World → Prop} {Q : Exit → Act → World → Prop} (s x : Operand)
    (ho : o.op = .call { callee := .builtin .append, args := #[s, x], argTypes := #[30, 30] }) (W0 : World) (v : Value) (l : List Nat) (ad : Addr) (m c : Nat) (news : List Nat) (hsv : a.eval s = v) (hxv : a.eval x = .slice (some ad) m c)
    (hB : Bf W0 w v l) (hl : news.length = m) (h0 : 0 < m) (hnews : ∀ j u, (bs news)[j]? = some u → w.cell? (ad.add j) = some u) (hb : l.length + m ≤ 70368744177664)
    (h : ∀ v' w', Bf W0 w' v' (l ++ news) → Gd w w' v v' → K (a.put o.dst v') w') : Oper.wp Tryd.prog o a w K Q := by
  obtain ⟨v', w', hrun, r1, r2⟩ := app_row o.type W0.heap.size v l.length (bs l) ad m c (bs news) w hB.2 (by rw [bs_len]; exact hl) h0 hnews (bs_cell _) hb hB.1.size
  unfold Oper.wp execOp
  simp only [ho, resolve, invoke, builtin, Sem.run_bind, Sem.run_pure, Result.andThen_ok, List.map_toArray, List.map_cons, List.map_nil, hsv, hxv, hrun]
  exact h v' w' (hB.of r2 (by rw [bs_app, List.length_append, hl]; exact r1)) r2
theorem if_w {c : Bool} {A B : Prop} (h : c = true) (ha : A) : if c = true then A else B := by rw [if_pos h]; exact ha
theorem Bf.drew {W0 w : World} {v : Value} {l : List Nat} (h : Bf W0 w v l) : Bf W0 w.drew v l := ⟨h.1.drew, h.2⟩
theorem app_str (ty : TypeId) (base : Nat) (v : Value) (n : Nat) (xs : List Value) (s : ByteArray) (w : World) (hown : w.ownsRow base 5 1 v n xs) (hb : n + s.size ≤ 70368744177664) (hbase : base ≤ w.heap.size) :
    ∃ v' w', (Builtin.append_ #[30, 9] ty #[v, .string s]).run Tryd.prog w = .ok v' w' ∧ w'.ownsRow base 5 1 v' (n + s.size) (xs ++ bs (sb s)) ∧ Gd w w' v v' := by
  obtain ⟨i0, hi, hz0, hz1, hz2⟩ := info_parts Tryd.infk5
  have hz : (Value.int IntKind.u8 0).cells.size = 1 := rfl
  have hmx : n + s.size ≤ maxLen := by unfold maxLen; omega
  have hl : (bs (sb s)).length = s.size := by rw [bs_len, sb_len]
  have hx0 : (Array.map (fun b : UInt8 => Value.int IntKind.u8 (b.toNat : Int)) s.data).extract 0 s.size = Array.map (fun b : UInt8 => Value.int IntKind.u8 (b.toNat : Int)) s.data := by
    have hs : s.size = (Array.map (fun b : UInt8 => Value.int IntKind.u8 (b.toNat : Int)) s.data).size := by rw [Array.size_map]; rfl
    rw [hs, Array.extract_size]
  have hx1 : (bs (sb s)).toArray = Array.map (fun b : UInt8 => Value.int IntKind.u8 (b.toNat : Int)) s.data := by
    rw [bs_sb]; apply Array.ext'; simp
  rcases hown.2 with ⟨rfl, rfl⟩ | ⟨g, cap, cur, rfl, hbg, hg, hnc, hcm, hcs, htake⟩
  · have hx : xs = [] := List.eq_nil_of_length_eq_zero (by simpa using hown.1)
    subst hx
    by_cases h0 : s.size = 0
    · refine ⟨.slice none 0 0, w, ?_, ?_, Gd.refl _ _⟩
      · simp [Builtin.append_, run_underlying Tryd.underlying30, run_underlying Tryd.underlying9, sizeOf, typeInfo, hi, Builtin.lenOf, Builtin.firstCells, h0]
      · have : bs (sb s) = [] := List.eq_nil_of_length_eq_zero (by omega)
        rw [this, h0]; exact World.ownsRow_nil _ _ _ _
    · have hr := run_append_nil_string (P := Tryd.prog) w 30 9 ty 5 i0 _ Tryd.underlying30 Tryd.underlying9 hi hz0 s (by omega) (by omega) (by rw [hz2]; omega)
      have ho := own_new w base 0 s.size [] (bs (sb s)) 0 (.int .u8 0) hz rfl hl hbase (by simpa using hmx)
      rw [hx1] at ho
      simp only [Nat.zero_add, List.nil_append, Array.empty_append] at ho ⊢
      exact ⟨_, _, hr, ho, gd_new _ _ _ _ _⟩
  · by_cases hroom : n + s.size ≤ cap
    · have hst := run_storeCells_at Tryd.prog g n 5 (bs (sb s)) 0 cur w hg (by rw [hl]; simp only [Nat.mul_one] at hcs; omega) (bs_cell _)
      simp only [Nat.add_zero] at hst
      refine ⟨_, _, ?_, own_room w base g cap n s.size cur xs (bs (sb s)) hbg hg hroom hcm hcs htake hl (by simpa using hown.1), gd_room _ _ _ _ _ _ _⟩
      rw [hl] at hst
      have hx2 : (Array.map (fun b : UInt8 => Value.int IntKind.u8 (b.toNat : Int)) s.data).toList = bs (sb s) := by rw [← hx1]
      simp [Builtin.append_, run_underlying Tryd.underlying30, run_underlying Tryd.underlying9, sizeOf, typeInfo, hi, Builtin.lenOf, Builtin.firstCells, hroom, Addr.add_lit, hz1, hx0]
      simp at hst hx2
      rw [hx2, hst]
      rfl
    · have holds : ∀ j u, xs[j]? = some u → w.cell? ((⟨g, 0, none⟩ : Addr).add j) = some u := hown.cells (g := g) rfl
      have hlo : xs.length = n := by simpa using hown.1
      have hfo := run_firstCells_some (P := Tryd.prog) w.drew 1 n ⟨g, 0, none⟩ n cap xs (by omega) (by simpa using holds)
      refine ⟨_, _, ?_, own_new w base n s.size xs (bs (sb s)) cap (.int .u8 0) hz hlo hl hbase hmx, gd_new _ _ _ _ _⟩
      have h63' : ¬ (9223372036854775807 < ((n : Int) + (s.size : Int))) := by omega
      have hfit := growslice_fits (need := n + s.size) (old := cap) (bytes := i0.bytes) (by omega) (by rw [hz2]; omega)
      have h48' : ¬ (281474976710656 < Builtin.nextslicecap (n + s.size) cap * i0.bytes) := by omega
      simp [Builtin.append_, run_underlying Tryd.underlying30, run_underlying Tryd.underlying9, sizeOf, typeInfo, zeroValue, hi, hz0, hz1, Builtin.lenOf, hroom, h63', h48', Question.forced, hfo, newRow, grownCap]
      simp [Builtin.firstCells, hx0]
      rw [← hx1]
      have e : ∀ Z : Array Value, xs.toArray ++ ((bs (sb s)).toArray ++ Z) = (xs ++ bs (sb s)).toArray ++ Z := fun Z => by apply Array.ext'; simp
      rw [e]
theorem wpList_apps {ops : Array Oper} {rest : List Oper} {o : Oper} {a : Act} {w : World} {Q : Exit → Act → World → Prop} (hgd : o.guard = none) (s x : Operand)
    (ho : o.op = .call { callee := .builtin .append, args := #[s, x], argTypes := #[30, 9] }) (W0 : World) (v : Value) (l : List Nat) (t : ByteArray) (hsv : a.eval s = v) (hxv : a.eval x = .string t)
    (hB : Bf W0 w v l) (hb : l.length + t.size ≤ 70368744177664)
    (h : ∀ v' w', Bf W0 w' v' (l ++ sb t) → Gd w w' v v' → wpList Tryd.prog ops Q rest (a.put o.dst v') w') : wpList Tryd.prog ops Q (o :: rest) a w := by
  refine wpList_plain hgd fun K hK => ?_
  obtain ⟨v', w', hrun, r1, r2⟩ := app_str o.type W0.heap.size v l.length (bs l) t w hB.2 hb hB.1.size
  unfold Oper.wp execOp
  simp only [ho, resolve, invoke, builtin, Sem.run_bind, Sem.run_pure, Result.andThen_ok, List.map_toArray, List.map_cons, List.map_nil, hsv, hxv, hrun]
  exact hK _ _ (h v' w' (hB.of r2 (by rw [bs_app, List.length_append, sb_len]; exact r1)) r2)

end Go.Proofs.YtndhhmgbekcfoaaDoor
