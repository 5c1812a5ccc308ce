import Derived.Test.YtijoadkjkbkjgaaDoorV1
import Derived.Test.YtijoadkjkbkjgaaDoorRows
namespace Go.Proofs.YtijoadkjkbkjgaaDoor
open Go.RowKit
set_option linter.unusedVariables false
set_option linter.unusedSimpArgs false
open Go.ChangeShapes Go.WideShapes Go.ChangeAt Go.Joins
theorem bulk_part {H : Type} {d : DataW H} {l : List (DataW H)} (h : d ∈ l) : Rows.uptoBulk d ≤ Rows.uptoBulkAll l := by
  induction l with
  | nil => cases h
  | cons x r ih =>
    simp only [Rows.uptoBulkAll]
    rcases List.mem_cons.1 h with e | e
    · subst e; omega
    · have := ih e; omega
theorem bulk_slice {H : Type} (elems spare : List (DataW H)) : Rows.uptoBulkAll elems ≤ Rows.uptoBulk (.slice elems spare) := by
  simp only [Rows.uptoBulk]; omega
theorem sum_bulk {H : Type} (n : Nat) : ∀ (zs : List (Tr n)) (el : List (DataW H × List MemPlace)), zs.length = el.length → (∀ (i : Nat) z y, zs[i]? = some z → el[i]? = some y → sz n z ≤ Rows.uptoBulk y.1) → (zs.map (sz n)).sum ≤ Rows.uptoBulkAll (el.map (·.1))
  | [], [], _, _ => by simp [Rows.uptoBulkAll]
  | [], _ :: _, h, _ => by simp at h
  | _ :: _, [], h, _ => by simp at h
  | z :: zs, y :: el, h, hh => by
    have h1 := hh 0 z y rfl rfl
    have h2 := sum_bulk n zs el (by simpa using h) (fun i z' y' a b => hh (i + 1) z' y' (by simpa using a) (by simpa using b))
    simp only [List.map_cons, List.sum_cons, Rows.uptoBulkAll]
    omega
set_option maxRecDepth 100000 in
theorem node_viewB {H : Type} {enc : TypeId × Value → H} {W : World} : ∀ (fuel : Nat) (cs : List Value) (x : DataW H × List MemPlace), DataW.trod enc Tryd.prog W 0 (fun _ => true) true fuel 25 cs = some x → ∀ n, fuel ≤ n → ∃ (r : Rw) (t : Tr n), cs = [.int .u8 r.k, .int .i64 r.n, .string r.s, .slice r.na r.nl r.nc, .slice r.ka r.kl r.kc] ∧ NodeAt W n r.v t ∧ sz n t ≤ Rows.uptoBulk x.1 := by
  intro fuel
  induction fuel using Nat.strongRecOn with
  | ind fuel ih =>
    intro cs x h n hn
    have c25 : Tryd.prog.cellsOf 25 = 5 := by kernel_rfl
    have c5 : Tryd.prog.cellsOf 5 = 1 := by kernel_rfl
    have c2 : Tryd.prog.cellsOf 2 = 1 := by kernel_rfl
    have c9 : Tryd.prog.cellsOf 9 = 1 := by kernel_rfl
    have c22 : Tryd.prog.cellsOf 22 = 1 := by kernel_rfl
    have c23 : Tryd.prog.cellsOf 23 = 1 := by kernel_rfl
    obtain ⟨xs, m, rfl, hxx, hcl, hxl, hf⟩ := DataW.trod_struct Tryd.underlying25 h
    rw [c25] at hcl
    have hget : ∀ i, i < 5 → ∃ y, xs[i]? = some y := fun i hi => ⟨_, List.getElem?_eq_getElem (by rw [hxl]; exact hi)⟩
    obtain ⟨y0, hy0⟩ := hget 0 (by decide)
    obtain ⟨y1, hy1⟩ := hget 1 (by decide)
    obtain ⟨y2, hy2⟩ := hget 2 (by decide)
    obtain ⟨y3, hy3⟩ := hget 3 (by decide)
    obtain ⟨y4, hy4⟩ := hget 4 (by decide)
    have f0 : DataW.trod enc Tryd.prog W 0 (fun _ => true) true m 5 ((cs.drop 0).take (Tryd.prog.cellsOf 5)) = xs[0]? := hf 0 _ rfl
    have f1 : DataW.trod enc Tryd.prog W 0 (fun _ => true) true m 2 ((cs.drop 1).take (Tryd.prog.cellsOf 2)) = xs[1]? := hf 1 _ rfl
    have f2 : DataW.trod enc Tryd.prog W 0 (fun _ => true) true m 9 ((cs.drop 2).take (Tryd.prog.cellsOf 9)) = xs[2]? := hf 2 _ rfl
    have f3 : DataW.trod enc Tryd.prog W 0 (fun _ => true) true m 22 ((cs.drop 3).take (Tryd.prog.cellsOf 22)) = xs[3]? := hf 3 _ rfl
    have f4 : DataW.trod enc Tryd.prog W 0 (fun _ => true) true m 23 ((cs.drop 4).take (Tryd.prog.cellsOf 23)) = xs[4]? := hf 4 _ rfl
    rw [hy0] at f0
    rw [hy1] at f1
    rw [hy2] at f2
    rw [hy3] at f3
    rw [hy4] at f4
    match cs, hcl with
    | [v0, v1, v2, v3, v4], _ =>
      simp only [c5, c2, c9, c22, c23] at f0 f1 f2 f3 f4
      obtain ⟨k, e0, _, w0⟩ := DataW.trod_int Tryd.underlying5 f0
      obtain ⟨i, e1, _, w1⟩ := DataW.trod_int Tryd.underlying2 f1
      obtain ⟨s, e2, _, w2⟩ := DataW.trod_string Tryd.underlying9 f2
      simp at e0 e1 e2
      subst e0 e1 e2
      obtain ⟨na, nl, nc, ns, e3, hst, hnc, hncm⟩ := strs_view (by simpa using f3)
      subst e3
      obtain ⟨n', rfl⟩ : ∃ n', n = n' + 1 := ⟨n - 1, by omega⟩
      have hkids : ∃ ka kl kc ks, v4 = .slice ka kl kc ∧ SeqAt (NodeAt W n') W ka kl ks ∧ kl ≤ kc ∧ kc ≤ maxLen ∧ (ks.map (sz n')).sum ≤ Rows.uptoBulk y4.1 := by
        have f4' : DataW.trod enc Tryd.prog W 0 (fun _ => true) true m 23 [v4] = some y4 := by simpa using f4
        rcases DataW.trod_slice Tryd.underlying23 f4' with ⟨hcs, _⟩ | ⟨a, len, cap, elems, rest, q, hq, hcs, hxs, _, hl, hm, hlen, hel, _⟩
        · simp at hcs
          subst hcs
          exact ⟨none, 0, 0, [], rfl, SeqAt.nil, Nat.le_refl _, Nat.zero_le _, Nat.zero_le _⟩
        · simp at hcs
          subst hcs
          obtain ⟨zs, hzl, hz⟩ := pick_all len (fun i (z : Tr n') => ∃ r : Rw, (W.cell? ((a.add (i * 5)).add 0) = some (.int .u8 r.k) ∧ W.cell? ((a.add (i * 5)).add 1) = some (.int .i64 r.n) ∧ W.cell? ((a.add (i * 5)).add 2) = some (.string r.s) ∧ W.cell? ((a.add (i * 5)).add 3) = some (.slice r.na r.nl r.nc) ∧ W.cell? ((a.add (i * 5)).add 4) = some (.slice r.ka r.kl r.kc)) ∧ NodeAt W n' r.v z ∧ ∀ y, elems[i]? = some y → sz n' z ≤ Rows.uptoBulk y.1) (by
            intro i hi
            have hE := hel i hi
            rw [c25] at hE
            cases hy : elems[i]? with
            | none => exact absurd (List.getElem?_eq_none_iff.1 hy) (by omega)
            | some y =>
              rw [hy] at hE
              obtain ⟨cs, hc, hd⟩ := Option.bind_eq_some_iff.1 hE
              obtain ⟨_, hcl, hcc⟩ := World.cells?_some hc
              obtain ⟨r, t, e, hat, hbk⟩ := ih q (by omega) cs y hd n' (by omega)
              subst e
              exact ⟨t, r, ⟨by simpa using hcc 0 (by omega), by simpa using hcc 1 (by omega), by simpa using hcc 2 (by omega), by simpa using hcc 3 (by omega), by simpa using hcc 4 (by omega)⟩, hat, fun y' hy' => by cases hy'; exact hbk⟩)
          refine ⟨some a, len, cap, zs, rfl, ⟨hzl, by omega, ?_⟩, hl, hm, ?_⟩
          rotate_left
          · rw [hxs]
            refine Nat.le_trans (sum_bulk n' zs elems (by omega) (fun i z y h1 h2 => ?_)) (bulk_slice _ _)
            obtain ⟨r, _, _, hb⟩ := hz i z h1
            exact hb y h2
          by_cases h0 : len = 0
          · exact .inl h0
          · obtain ⟨z0, hz0⟩ : ∃ z, zs[0]? = some z := ⟨_, List.getElem?_eq_getElem (by omega)⟩
            obtain ⟨r0, ⟨h00, _⟩, _⟩ := hz 0 z0 hz0
            have hsp := no_spot h00
            obtain ⟨b, off, sp⟩ := a
            have hsp' : sp = none := by
              cases sp with
              | none => rfl
              | some q => simp [Addr.add] at hsp
            subst hsp'
            refine .inr ⟨b, off, rfl, ?_, fun i z hi => ?_⟩
            · have := World.block_lt_of_cell? W _ h00
              simpa [Addr.add] using this
            · obtain ⟨r, ⟨g0, g1, g2, g3, g4⟩, hat, _⟩ := hz i z hi
              rw [Addr.add_mid, Addr.add_mid] at g0 g1 g2 g3 g4
              exact ⟨r, ⟨g0, g1, g2, g3, g4⟩, hat⟩
      obtain ⟨ka, kl, kc, ks, e4, hsq, hkc, hkcm, hbk⟩ := hkids
      subst e4
      refine ⟨⟨k, i, s, na, nl, nc, ka, kl, kc⟩, (⟨k, i, s, ns, ks⟩ : Nd (Tr n')), rfl, ⟨na, nl, nc, ka, kl, kc, rfl, ⟨(bnd8 w0).1, (bnd8 w0).2, (bnd64 w1).1, (bnd64 w1).2, w2⟩, hnc, hncm, hkc, hkcm, hst, hsq⟩, ?_⟩
      rw [hxx]
      show 1 + (ks.map (sz n')).sum ≤ _
      have := bulk_part (d := y4.1) (l := xs.map (·.1)) (List.mem_map.2 ⟨y4, List.mem_of_getElem? hy4, rfl⟩)
      have e : Rows.uptoBulk (DataW.agg (xs.map (·.1))) = Rows.uptoBulkAll (xs.map (·.1)) + 1 := by simp only [Rows.uptoBulk]
      show _ ≤ Rows.uptoBulk (DataW.agg (xs.map (·.1)))
      rw [e]; omega
set_option maxRecDepth 100000 in
theorem view25B {H : Type} {enc : TypeId × Value → H} {W : World} {base : Nat} {v : Value} {d : DataW H} {p : List MemPlace} (hv : Value.okWide Tryd.prog W .any base 25 v) (h : DataW.Trod enc Tryd.prog W 0 (fun _ => true) true 25 v d p) : ∃ f, ∀ n, f ≤ n → ∃ t : Tr n, NodeAt W n v t ∧ sz n t ≤ Rows.uptoBulk d := by
  obtain ⟨cs, rfl, hsz⟩ := okWide_struct Tryd.underlying25 hv
  obtain ⟨fuel, hf⟩ := h
  refine ⟨fuel, fun n hn => ?_⟩
  obtain ⟨r, t, e, hat, hbk⟩ := node_viewB fuel _ _ hf n hn
  have e2 : cs = #[.int .u8 r.k, .int .i64 r.n, .string r.s, .slice r.na r.nl r.nc, .slice r.ka r.kl r.kc] := by
    apply Array.toList_inj.1
    simpa [Value.cells] using e
  subst e2
  exact ⟨t, hat, hbk⟩

end Go.Proofs.YtijoadkjkbkjgaaDoor
