import Derived.Test.YtndhhmgbekcfoaaDoorL1
import Derived.Deep.Strs
namespace Go.Proofs.YtndhhmgbekcfoaaDoor
open Go.RowKit
set_option linter.unusedVariables false
set_option linter.unusedSimpArgs false
set_option maxRecDepth 100000

open Go.ChangeShapes Go.WideShapes Go.ChangeAt Go.Joins
theorem wAll_mem {H : Type} {P : Program} {e : TypeId} : ∀ {l : List (DataW H)} {i : Nat} {d : DataW H}, l[i]? = some d → ∀ n ∈ d.weights P e, n ∈ DataW.weightsAll P e l
  | d0 :: l, 0, d, hd, n, hn => by
    simp only [List.getElem?_cons_zero, Option.some.injEq] at hd
    subst hd
    simp only [DataW.weightsAll, List.mem_append]
    exact Or.inl hn
  | d0 :: l, i + 1, d, hd, n, hn => by
    simp only [List.getElem?_cons_succ] at hd
    simp only [DataW.weightsAll, List.mem_append]
    exact Or.inr (wAll_mem hd n hn)
  | [], _, _, hd, _, _ => by simp at hd
/-- Light: nothing in it takes more than the reading may hold. -/
def Lt {H : Type} (e : TypeId) (d : DataW H) : Prop := ∀ n ∈ d.weights Tryd.prog e, n ≤ reachBytes
/-- A row that was read: its cells, element by element. -/
theorem row_view {K : Type} {R : (Nat → Option Value) → K → Prop} {H : Type} {enc : TypeId × Value → H} {W : World} (t e : TypeId) (c : Nat) (hu : Tryd.prog.underlying t = some (.slice e)) (hce : Tryd.prog.cellsOf e = c) (hc : 0 < c)
    (conv : ∀ q cs y, DataW.trod enc Tryd.prog W 0 (fun _ => true) true q e cs = some y → Lt e y.1 → cs.length = c → ∃ z : K, ∀ g : Nat → Option Value, (∀ j, j < c → g j = cs[j]?) → R g z)
    {fuel : Nat} {v : Value} {x : DataW H × List MemPlace} (h : DataW.trod enc Tryd.prog W 0 (fun _ => true) true fuel t [v] = some x) (hw : Lt t x.1) :
    ∃ ao ln cp l, v = .slice ao ln cp ∧ RowAt c (fun b o z => R (fun j => W.cell? ⟨b, o + j, none⟩) z) W ao ln l ∧ ln ≤ cp ∧ cp ≤ maxLen ∧ ln * Tryd.prog.bytesOf e ≤ reachBytes := by
  rcases DataW.trod_slice hu h with ⟨hcs, _⟩ | ⟨a, len, cap, elems, rest, n, _, hcs, hx, _, hl, hm, hlen, hel, _⟩
  · simp at hcs
    subst hcs
    exact ⟨none, 0, 0, [], rfl, ⟨rfl, Nat.zero_le _, .inl rfl⟩, Nat.le_refl _, Nat.zero_le _, by simp⟩
  · simp at hcs
    subst hcs
    subst hx
    have hw0 : (elems.length + rest.length) * Tryd.prog.bytesOf e ≤ reachBytes := by
      have := hw ((elems.length + rest.length) * Tryd.prog.bytesOf e) (by simp [DataW.weights, hu])
      exact this
    obtain ⟨zs, hzl, hz⟩ := pick_all len (fun i (z : K) => ∃ cs : List Value, cs.length = c ∧ (∀ j, j < c → W.cell? ((a.add (i * c)).add j) = cs[j]?) ∧ ∀ g : Nat → Option Value, (∀ j, j < c → g j = cs[j]?) → R g z) (by
      intro i hi
      have hE := hel i hi
      rw [hce] at hE
      cases hy : elems[i]? with
      | none => exact absurd (List.getElem?_eq_none_iff.1 hy) (by omega)
      | some y =>
        rw [hy] at hE
        obtain ⟨cs, hc1, hd⟩ := Option.bind_eq_some_iff.1 hE
        obtain ⟨_, hcl, hcc⟩ := World.cells?_some hc1
        have hwy : Lt e y.1 := fun m hm => hw m (by
          simp only [DataW.weights, hu, List.mem_cons, List.mem_append]
          exact .inr (.inl (wAll_mem (i := i) (by simp [hy]) m hm)))
        obtain ⟨z, hz⟩ := conv n cs y hd hwy hcl
        exact ⟨z, cs, hcl, hcc, hz⟩)
    refine ⟨some a, len, cap, zs, rfl, ⟨hzl, by omega, ?_⟩, hl, hm, Nat.le_trans (Nat.mul_le_mul_right _ (by omega)) hw0⟩
    by_cases h0 : len = 0
    · exact .inl h0
    · obtain ⟨z0, hz0⟩ : ∃ z, zs[0]? = some z := ⟨_, List.getElem?_eq_getElem (by omega)⟩
      obtain ⟨cs0, hl0, hc0, _⟩ := hz 0 z0 hz0
      have h00 := hc0 0 hc
      obtain ⟨v0, hv0⟩ : ∃ v, cs0[0]? = some v := ⟨_, List.getElem?_eq_getElem (by omega)⟩
      rw [hv0] at h00
      have hsp := no_spot h00
      obtain ⟨b, off, sp⟩ := a
      have hsp' : sp = none := by
        cases sp with
        | none => rfl
        | some q => simp [Addr.add] at hsp
      subst hsp'
      refine .inr ⟨b, off, rfl, ?_, fun i z hi => ?_⟩
      · have := World.block_lt_of_cell? W _ h00
        simpa [Addr.add] using this
      · obtain ⟨cs, hcl, hcc, hR⟩ := hz i z hi
        refine hR _ (fun j hj => ?_)
        have := hcc j hj
        rw [Addr.add_mid, Addr.add_mid] at this
        exact this
theorem Lt.field {H : Type} {t : TypeId} {fs : Array Field} (hu : Tryd.prog.underlying t = some (.struct fs)) {parts : List (DataW H)} (h : Lt t (.agg parts)) {j : Nat} {ft : TypeId} {d : DataW H} (hf : (fs.toList.map (·.type))[j]? = some ft) (hd : parts[j]? = some d) : Lt ft d :=
  fun n hn => h n (by simp only [DataW.weights, hu]; exact DataW.weights_mem_each hf hd n hn)
theorem IntsAt.of {W : World} {ao : Option Addr} {ln : Nat} {l : List Int} (h : RowAt 1 (fun b o z => W.cell? ⟨b, o + 0, none⟩ = some (.int .i64 z) ∧ I64 z) W ao ln l) : IntsAt W ao ln l := by
  obtain ⟨h1, h2, h3⟩ := h
  rcases h3 with h0 | ⟨b, off, e, hb, hc⟩
  · have : l = [] := List.length_eq_zero_iff.1 (by omega)
    exact ⟨h1, h2, by simp [this], .inl h0⟩
  · refine ⟨h1, h2, fun n hn => ?_, .inr ⟨b, off, e, hb, fun i n hi => ?_⟩⟩
    · obtain ⟨i, hi⟩ := List.getElem?_of_mem hn
      exact (hc i n hi).2
    · simpa using (hc i n hi).1
theorem StrsAt.of {W : World} {ao : Option Addr} {ln : Nat} {l : List ByteArray} (h : RowAt 1 (fun b o z => W.cell? ⟨b, o + 0, none⟩ = some (.string z) ∧ z.size ≤ maxLen) W ao ln l) : StrsAt W ao ln l := by
  obtain ⟨h1, h2, h3⟩ := h
  rcases h3 with h0 | ⟨b, off, e, hb, hc⟩
  · have : l = [] := List.length_eq_zero_iff.1 (by omega)
    exact ⟨h1, h2, by simp [this], .inl h0⟩
  · refine ⟨h1, h2, fun n hn => ?_, .inr ⟨b, off, e, hb, fun i n hi => ?_⟩⟩
    · obtain ⟨i, hi⟩ := List.getElem?_of_mem hn
      exact (hc i n hi).2
    · simpa using (hc i n hi).1
section
variable {H : Type} {enc : TypeId × Value → H} {W : World} {fuel : Nat} {v : Value} {x : DataW H × List MemPlace}
theorem ints_view (t e : TypeId) (hu : Tryd.prog.underlying t = some (.slice e)) (he : Tryd.prog.underlying e = some (.int .i64)) (hce : Tryd.prog.cellsOf e = 1) (h : DataW.trod enc Tryd.prog W 0 (fun _ => true) true fuel t [v] = some x) (hw : Lt t x.1) :
    ∃ ao ln cp l, v = .slice ao ln cp ∧ IntsAt W ao ln l ∧ ln ≤ cp ∧ cp ≤ maxLen ∧ ln * Tryd.prog.bytesOf e ≤ reachBytes := by
  obtain ⟨ao, ln, cp, l, e1, h1, h2, h3, h4⟩ := row_view (R := fun g z => g 0 = some (.int .i64 z) ∧ I64 z) t e 1 hu hce (by decide) (fun q cs y hy _ hl => by
    obtain ⟨n, f0, _, w0⟩ := DataW.trod_int he hy
    subst f0
    exact ⟨n, fun g hg => ⟨hg 0 (by decide), bnd64 w0⟩⟩) h hw
  exact ⟨ao, ln, cp, l, e1, IntsAt.of h1, h2, h3, h4⟩
theorem strs_view (h : DataW.trod enc Tryd.prog W 0 (fun _ => true) true fuel 23 [v] = some x) (hw : Lt 23 x.1) :
    ∃ ao ln cp l, v = .slice ao ln cp ∧ StrsAt W ao ln l ∧ ln ≤ cp ∧ cp ≤ maxLen := by
  obtain ⟨ao, ln, cp, l, e1, h1, h2, h3, _⟩ := row_view (R := fun g z => g 0 = some (.string z) ∧ z.size ≤ maxLen) 23 9 1 Tryd.underlying23 (by kernel_rfl) (by decide) (fun q cs y hy _ hl => by
    obtain ⟨n, f0, _, w0⟩ := DataW.trod_string Tryd.underlying9 hy
    subst f0
    exact ⟨n, fun g hg => ⟨hg 0 (by decide), w0⟩⟩) h hw
  exact ⟨ao, ln, cp, l, e1, StrsAt.of h1, h2, h3⟩
/-- An instruction that was read. -/
theorem ins_view {cs : List Value} (h : DataW.trod enc Tryd.prog W 0 (fun _ => true) true fuel 43 cs = some x) : ∃ z : Ins, cs = [.int .u8 z.op, .int .i64 z.a] ∧ (0 ≤ z.op ∧ z.op ≤ 255) ∧ I64 z.a := by
  have c32 : Tryd.prog.cellsOf 43 = 2 := by kernel_rfl
  have c5 : Tryd.prog.cellsOf 5 = 1 := by kernel_rfl
  have c3 : Tryd.prog.cellsOf 3 = 1 := by kernel_rfl
  obtain ⟨xs, m, _, _, hcl, hxl, hf⟩ := DataW.trod_struct Tryd.underlying43 h
  rw [c32] at hcl
  have hget : ∀ i, i < 2 → ∃ y, xs[i]? = some y := fun i hi => ⟨_, List.getElem?_eq_getElem (by rw [hxl]; exact hi)⟩
  obtain ⟨y0, hy0⟩ := hget 0 (by decide)
  obtain ⟨y1, hy1⟩ := hget 1 (by decide)
  have f0 : DataW.trod enc Tryd.prog W 0 (fun _ => true) true m 5 ((cs.drop 0).take (Tryd.prog.cellsOf 5)) = xs[0]? := hf 0 _ rfl
  have f1 : DataW.trod enc Tryd.prog W 0 (fun _ => true) true m 3 ((cs.drop 1).take (Tryd.prog.cellsOf 3)) = xs[1]? := hf 1 _ rfl
  rw [hy0] at f0
  rw [hy1] at f1
  match cs, hcl with
  | [v0, v1], _ =>
    simp only [c5, c3] at f0 f1
    obtain ⟨k, e0, _, w0⟩ := DataW.trod_int Tryd.underlying5 f0
    obtain ⟨i, e1, _, w1⟩ := DataW.trod_int Tryd.underlying3 f1
    simp at e0 e1
    subst e0 e1
    exact ⟨⟨k, i⟩, rfl, bnd8 w0, bnd64 w1⟩
theorem code_view (h : DataW.trod enc Tryd.prog W 0 (fun _ => true) true fuel 44 [v] = some x) (hw : Lt 44 x.1) :
    ∃ ao ln cp l, v = .slice ao ln cp ∧ CodeAt W ao ln l ∧ ln ≤ cp ∧ cp ≤ maxLen := by
  obtain ⟨ao, ln, cp, l, e1, h1, h2, h3, _⟩ := row_view (R := fun g (z : Ins) => g 0 = some (.int .u8 z.op) ∧ g 1 = some (.int .i64 z.a) ∧ (0 ≤ z.op ∧ z.op ≤ 255) ∧ I64 z.a) 44 43 2 Tryd.underlying44 (by kernel_rfl) (by decide) (fun q cs y hy _ hl => by
    obtain ⟨z, rfl, w0, w1⟩ := ins_view hy
    exact ⟨z, fun g hg => ⟨hg 0 (by decide), hg 1 (by decide), w0, w1⟩⟩) h hw
  exact ⟨ao, ln, cp, l, e1, h1, h2, h3⟩
theorem pros_view (h : DataW.trod enc Tryd.prog W 0 (fun _ => true) true fuel 24 [v] = some x) (hw : Lt 24 x.1) :
    ∃ ao ln cp l, v = .slice ao ln cp ∧ ProsAt W ao ln l ∧ ln ≤ cp ∧ cp ≤ maxLen := by
  have c44 : Tryd.prog.cellsOf 46 = 4 := by kernel_rfl
  have c3 : Tryd.prog.cellsOf 3 = 1 := by kernel_rfl
  have c42 : Tryd.prog.cellsOf 44 = 1 := by kernel_rfl
  obtain ⟨ao, ln, cp, l, e1, h1, h2, h3, _⟩ := row_view (R := fun g (z : Pro) => ∃ ca cl cc, (g 0 = some (.int .i64 z.p) ∧ g 1 = some (.int .i64 z.s) ∧ g 2 = some (.int .i64 z.u) ∧ g 3 = some (.slice ca cl cc)) ∧ PrV W z ca cl cc) 24 46 4 Tryd.underlying24 c44 (by decide) (fun q cs y hy hly hl => by
    obtain ⟨xs, m, _, hx, hcl, hxl, hf⟩ := DataW.trod_struct Tryd.underlying46 hy
    rw [c44] at hcl
    have hget : ∀ i, i < 4 → ∃ y, xs[i]? = some y := fun i hi => ⟨_, List.getElem?_eq_getElem (by rw [hxl]; exact hi)⟩
    obtain ⟨y0, hy0⟩ := hget 0 (by decide)
    obtain ⟨y1, hy1⟩ := hget 1 (by decide)
    obtain ⟨y2, hy2⟩ := hget 2 (by decide)
    obtain ⟨y3, hy3⟩ := hget 3 (by decide)
    have f0 : DataW.trod enc Tryd.prog W 0 (fun _ => true) true m 3 ((cs.drop 0).take (Tryd.prog.cellsOf 3)) = xs[0]? := hf 0 _ rfl
    have f1 : DataW.trod enc Tryd.prog W 0 (fun _ => true) true m 3 ((cs.drop 1).take (Tryd.prog.cellsOf 3)) = xs[1]? := hf 1 _ rfl
    have f2 : DataW.trod enc Tryd.prog W 0 (fun _ => true) true m 3 ((cs.drop 2).take (Tryd.prog.cellsOf 3)) = xs[2]? := hf 2 _ rfl
    have f3 : DataW.trod enc Tryd.prog W 0 (fun _ => true) true m 44 ((cs.drop 3).take (Tryd.prog.cellsOf 44)) = xs[3]? := hf 3 _ rfl
    rw [hy0] at f0
    rw [hy1] at f1
    rw [hy2] at f2
    rw [hy3] at f3
    rw [hx] at hly
    have hl3 : Lt 44 y3.1 := Lt.field Tryd.underlying46 hly (j := 3) rfl (by simp [hy3])
    match cs, hcl with
    | [v0, v1, v2, v3], _ =>
      simp only [c3, c42] at f0 f1 f2 f3
      obtain ⟨p, e0, _, w0⟩ := DataW.trod_int Tryd.underlying3 f0
      obtain ⟨s, e1, _, w1⟩ := DataW.trod_int Tryd.underlying3 f1
      obtain ⟨u, e2, _, w2⟩ := DataW.trod_int Tryd.underlying3 f2
      simp at e0 e1 e2
      subst e0 e1 e2
      obtain ⟨ca, cl, cc, code, e3, hc, hc1, hc2⟩ := code_view (by simpa using f3) hl3
      subst e3
      exact ⟨⟨p, s, u, code⟩, fun g hg => ⟨ca, cl, cc, ⟨hg 0 (by decide), hg 1 (by decide), hg 2 (by decide), hg 3 (by decide)⟩, bnd64 w0, bnd64 w1, bnd64 w2, hc1, hc2, hc⟩⟩) h hw
  exact ⟨ao, ln, cp, l, e1, h1, h2, h3⟩
theorem tabs_view (h : DataW.trod enc Tryd.prog W 0 (fun _ => true) true fuel 25 [v] = some x) (hw : Lt 25 x.1) :
    ∃ ao ln cp l, v = .slice ao ln cp ∧ TbsAt W ao ln l ∧ ln ≤ cp ∧ cp ≤ maxLen := by
  have c41 : Tryd.prog.cellsOf 50 = 3 := by kernel_rfl
  have c4 : Tryd.prog.cellsOf 4 = 1 := by kernel_rfl
  have c39 : Tryd.prog.cellsOf 48 = 1 := by kernel_rfl
  have b3 : Tryd.prog.bytesOf 3 = 8 := by kernel_rfl
  obtain ⟨ao, ln, cp, l, e1, h1, h2, h3, _⟩ := row_view (R := fun g (z : Tbl) => ∃ oa ol oc, (g 0 = some (.slice oa ol oc) ∧ g 1 = some (.bool z.ret) ∧ g 2 = some (.bool z.fin)) ∧ TbV W z oa ol oc) 25 50 3 Tryd.underlying25 c41 (by decide) (fun q cs y hy hly hl => by
    obtain ⟨xs, m, _, hx, hcl, hxl, hf⟩ := DataW.trod_struct Tryd.underlying50 hy
    rw [c41] at hcl
    have hget : ∀ i, i < 3 → ∃ y, xs[i]? = some y := fun i hi => ⟨_, List.getElem?_eq_getElem (by rw [hxl]; exact hi)⟩
    obtain ⟨y0, hy0⟩ := hget 0 (by decide)
    obtain ⟨y1, hy1⟩ := hget 1 (by decide)
    obtain ⟨y2, hy2⟩ := hget 2 (by decide)
    have f0 : DataW.trod enc Tryd.prog W 0 (fun _ => true) true m 48 ((cs.drop 0).take (Tryd.prog.cellsOf 48)) = xs[0]? := hf 0 _ rfl
    have f1 : DataW.trod enc Tryd.prog W 0 (fun _ => true) true m 4 ((cs.drop 1).take (Tryd.prog.cellsOf 4)) = xs[1]? := hf 1 _ rfl
    have f2 : DataW.trod enc Tryd.prog W 0 (fun _ => true) true m 4 ((cs.drop 2).take (Tryd.prog.cellsOf 4)) = xs[2]? := hf 2 _ rfl
    rw [hy0] at f0
    rw [hy1] at f1
    rw [hy2] at f2
    rw [hx] at hly
    have hl0 : Lt 48 y0.1 := Lt.field Tryd.underlying50 hly (j := 0) rfl (by simp [hy0])
    match cs, hcl with
    | [v0, v1, v2], _ =>
      simp only [c4, c39] at f0 f1 f2
      obtain ⟨r, e1, _⟩ := DataW.trod_bool Tryd.underlying4 f1
      obtain ⟨n, e2, _⟩ := DataW.trod_bool Tryd.underlying4 f2
      simp at e1 e2
      subst e1 e2
      obtain ⟨oa, ol, oc, ops, e0, ho, ho1, ho2, ho3⟩ := ints_view 48 3 Tryd.underlying48 Tryd.underlying3 (by kernel_rfl) (by simpa using f0) hl0
      subst e0
      rw [b3] at ho3
      have := reachBytes_lt
      exact ⟨⟨ops, r, n⟩, fun g hg => ⟨oa, ol, oc, ⟨hg 0 (by decide), hg 1 (by decide), hg 2 (by decide)⟩, ho1, ho2, by omega, ho⟩⟩) h hw
  exact ⟨ao, ln, cp, l, e1, h1, h2, h3⟩
end
theorem view27 {H : Type} {enc : TypeId × Value → H} {W : World} {base : Nat} {v : Value} {d : DataW H} {p : List MemPlace} (hv : Value.okWide Tryd.prog W .any base 27 v) (h : DataW.Trod enc Tryd.prog W 0 (fun _ => true) true 27 v d p) (hz : ∀ n ∈ d.weights Tryd.prog 27, n ≤ reachBytes) : ∃ (r : Mw) (m : Mdl), v = r.v ∧ ModAt W r m := by
  obtain ⟨cs, rfl, hsz⟩ := okWide_struct Tryd.underlying27 hv
  obtain ⟨fuel, h⟩ := h
  have c27 : Tryd.prog.cellsOf 27 = 4 := by kernel_rfl
  have c22 : Tryd.prog.cellsOf 22 = 1 := by kernel_rfl
  have c23 : Tryd.prog.cellsOf 23 = 1 := by kernel_rfl
  have c24 : Tryd.prog.cellsOf 24 = 1 := by kernel_rfl
  have c25 : Tryd.prog.cellsOf 25 = 1 := by kernel_rfl
  obtain ⟨xs, m, _, hx, hcl, hxl, hf⟩ := DataW.trod_struct Tryd.underlying27 h
  rw [c27] at hcl
  have hd : d = .agg (xs.map (·.1)) := congrArg Prod.fst hx
  have hly : Lt 27 d := hz
  rw [hd] at hly
  have hget : ∀ i, i < 4 → ∃ y, xs[i]? = some y := fun i hi => ⟨_, List.getElem?_eq_getElem (by rw [hxl]; exact hi)⟩
  obtain ⟨y0, hy0⟩ := hget 0 (by decide)
  obtain ⟨y1, hy1⟩ := hget 1 (by decide)
  obtain ⟨y2, hy2⟩ := hget 2 (by decide)
  obtain ⟨y3, hy3⟩ := hget 3 (by decide)
  have hl0 : Lt 22 y0.1 := Lt.field Tryd.underlying27 hly (j := 0) rfl (by simp [hy0])
  have hl1 : Lt 23 y1.1 := Lt.field Tryd.underlying27 hly (j := 1) rfl (by simp [hy1])
  have hl2 : Lt 24 y2.1 := Lt.field Tryd.underlying27 hly (j := 2) rfl (by simp [hy2])
  have hl3 : Lt 25 y3.1 := Lt.field Tryd.underlying27 hly (j := 3) rfl (by simp [hy3])
  have f0 : DataW.trod enc Tryd.prog W 0 (fun _ => true) true m 22 ((cs.toList.drop 0).take (Tryd.prog.cellsOf 22)) = xs[0]? := hf 0 _ rfl
  have f1 : DataW.trod enc Tryd.prog W 0 (fun _ => true) true m 23 ((cs.toList.drop 1).take (Tryd.prog.cellsOf 23)) = xs[1]? := hf 1 _ rfl
  have f2 : DataW.trod enc Tryd.prog W 0 (fun _ => true) true m 24 ((cs.toList.drop 2).take (Tryd.prog.cellsOf 24)) = xs[2]? := hf 2 _ rfl
  have f3 : DataW.trod enc Tryd.prog W 0 (fun _ => true) true m 25 ((cs.toList.drop 3).take (Tryd.prog.cellsOf 25)) = xs[3]? := hf 3 _ rfl
  rw [hy0] at f0
  rw [hy1] at f1
  rw [hy2] at f2
  rw [hy3] at f3
  have hcs : ∃ v0 v1 v2 v3, cs = #[v0, v1, v2, v3] := by
    have hl : cs.toList.length = 4 := by simpa [Value.cells] using hcl
    match hq : cs.toList, hl with
    | [v0, v1, v2, v3], _ => exact ⟨v0, v1, v2, v3, by apply Array.toList_inj.1; simpa using hq⟩
  obtain ⟨v0, v1, v2, v3, rfl⟩ := hcs
  simp only [c22, c23, c24, c25] at f0 f1 f2 f3
  obtain ⟨ia, il, ic, ints, e0, i0, i1, i2, _⟩ := ints_view 22 2 Tryd.underlying22 Tryd.underlying2 (by kernel_rfl) (by simpa using f0) hl0
  obtain ⟨ta, tl, tc, texts, e1, t0, t1, t2⟩ := strs_view (by simpa using f1) hl1
  obtain ⟨pa, pl, pc, pros, e2, p0, p1, p2⟩ := pros_view (by simpa using f2) hl2
  obtain ⟨ha, hl, hc, tabs, e3, q0, q1, q2⟩ := tabs_view (by simpa using f3) hl3
  subst e0 e1 e2 e3
  exact ⟨⟨ia, il, ic, ta, tl, tc, pa, pl, pc, ha, hl, hc⟩, ⟨ints, texts, pros, tabs⟩, rfl, i0, t0, p0, q0, i1, i2, t1, t2, p1, p2, q1, q2⟩
theorem view32 {H : Type} {enc : TypeId × Value → H} {W : World} {base : Nat} {v : Value} {d : DataW H} {p : List MemPlace} (hv : Value.okWide Tryd.prog W .any base 43 v) (h : DataW.Trod enc Tryd.prog W 0 (fun _ => true) true 43 v d p) : ∃ x : Ins, v = .agg #[.int .u8 x.op, .int .i64 x.a] ∧ (0 ≤ x.op ∧ x.op ≤ 255) ∧ I64 x.a := by
  obtain ⟨cs, rfl, hsz⟩ := okWide_struct Tryd.underlying43 hv
  obtain ⟨fuel, h⟩ := h
  obtain ⟨z, e, w0, w1⟩ := ins_view h
  refine ⟨z, ?_, w0, w1⟩
  have e2 : cs = #[.int .u8 z.op, .int .i64 z.a] := by
    apply Array.toList_inj.1
    simpa [Value.cells] using e
  rw [e2]

end Go.Proofs.YtndhhmgbekcfoaaDoor
