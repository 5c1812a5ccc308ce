import Derived.Test.YtfgnlddfpemblaaDoorRows
import Derived.Test.YtfgnlddfpemblaaDoorS5
import Derived.ProofKit
import Derived.OpenShut
import Derived.Lib.SmallJoins
import Derived.Deep.Strs
namespace Go.Proofs.YtfgnlddfpemblaaDoor
open Go.RowKit
set_option linter.unusedVariables false
set_option linter.unusedSimpArgs false

open Go.ChangeShapes Go.WideShapes Go.ChangeAt Go.Joins
/-- What the kinds say of a value. -/
structure Wf (z : Va) : Prop where
  t0 : 0 ≤ z.t
  n0 : -9223372036854775808 ≤ z.n
  n1 : z.n ≤ 9223372036854775807
  s : z.s.size ≤ maxLen
/-- The slice at ao of length ln holds the values zs. -/
def ValsAt (W : World) (ao : Option Addr) (ln : Nat) (zs : List Va) : Prop := zs.length = ln ∧ ln ≤ maxLen ∧ (∀ z ∈ zs, Wf z) ∧
  (ln = 0 ∨ ∃ b off, ao = some ⟨b, off, none⟩ ∧ b < W.heap.size ∧ ∀ k z, zs[k]? = some z → W.cell? ⟨b, off + k * 3, none⟩ = some (.int .u8 z.t) ∧ W.cell? ⟨b, off + k * 3 + 1, none⟩ = some (.int .i64 z.n) ∧ W.cell? ⟨b, off + k * 3 + 2, none⟩ = some (.string z.s))
theorem bnd64 {n : Int} (h : (Lit.int .i64 n).wf = true) : -9223372036854775808 ≤ n ∧ n ≤ 9223372036854775807 := by
  have hmin : IntKind.i64.min = -9223372036854775808 := rfl
  have hmax : IntKind.i64.max = 9223372036854775807 := rfl
  simp only [Lit.wf, Bool.and_eq_true, decide_eq_true_eq] at h
  omega
theorem bnd8 {n : Int} (h : (Lit.int .u8 n).wf = true) : 0 ≤ n ∧ n ≤ 255 := by
  have hmin : IntKind.u8.min = 0 := rfl
  have hmax : IntKind.u8.max = 255 := rfl
  simp only [Lit.wf, Bool.and_eq_true, decide_eq_true_eq] at h
  omega
theorem pick_all {α β : Type} (n : Nat) (R : Nat → β → Prop) (h : ∀ i, i < n → ∃ b, R i b) : ∃ l : List β, l.length = n ∧ ∀ i b, l[i]? = some b → R i b := by
  induction n with
  | zero => exact ⟨[], rfl, by simp⟩
  | succ n ih =>
    obtain ⟨l, hl, hr⟩ := ih (fun i hi => h i (by omega))
    obtain ⟨b, hb⟩ := h n (by omega)
    refine ⟨l ++ [b], by simp [hl], fun i c hc => ?_⟩
    rcases Nat.lt_or_ge i n with hi | hi
    · exact hr i c (by rw [List.getElem?_append_left (by omega)] at hc; exact hc)
    · have : i < n + 1 := by have := (List.getElem?_eq_some_iff.1 hc).1; simp [hl] at this; omega
      obtain rfl : i = n := by omega
      rw [List.getElem?_append_right (by omega)] at hc
      simp [hl] at hc
      subst hc; exact hb
theorem view22 {H : Type} {enc : TypeId × Value → H} {W : World} {ao : Option Addr} {ln cp : Nat} {d : DataW H} {p : List MemPlace} (h : DataW.Trod enc Tryd.prog W 0 (fun _ => true) true 22 (.slice ao ln cp) d p) : ∃ zs, ValsAt W ao ln zs := by
  obtain ⟨fuel, hf⟩ := h
  have c24 : Tryd.prog.cellsOf 24 = 3 := by kernel_rfl
  rcases DataW.trod_slice Tryd.underlying22 hf with ⟨hcs, _⟩ | ⟨a, len, cap, elems, rest, n, _, hcs, _, _, hl, hm, hlen, hel, _⟩
  · simp [Value.cells] at hcs
    obtain ⟨rfl, rfl, rfl⟩ := hcs
    exact ⟨[], rfl, Nat.zero_le _, by simp, Or.inl rfl⟩
  · simp [Value.cells] at hcs
    obtain ⟨rfl, rfl, rfl⟩ := hcs
    obtain ⟨zs, hzl, hz⟩ := pick_all (α := Unit) ln (fun i (z : Va) => Wf z ∧ W.cell? ((a.add (i * 3)).add 0) = some (.int .u8 z.t) ∧ W.cell? ((a.add (i * 3)).add 1) = some (.int .i64 z.n) ∧ W.cell? ((a.add (i * 3)).add 2) = some (.string z.s)) (by
      intro i hi
      have hE := hel i hi
      rw [c24] at hE
      cases hy : elems[i]? with
      | none => exact absurd (List.getElem?_eq_none_iff.1 hy) (by omega)
      | some y =>
        rw [hy] at hE
        obtain ⟨cs, hc, hd⟩ := Option.bind_eq_some_iff.1 hE
        obtain ⟨_, hcl, hcc⟩ := World.cells?_some hc
        obtain ⟨y0, y1, y2, m, _, _, h0, h1, h2⟩ := Go.Deep.trod_struct3 Tryd.underlying24 hd
        match cs, hcl with
        | [v0, v1, v2], _ =>
          have e0 : Tryd.prog.cellsOf 5 = 1 := by kernel_rfl
          have e1 : Tryd.prog.cellsOf 2 = 1 := by kernel_rfl
          have e2 : Tryd.prog.cellsOf 9 = 1 := by kernel_rfl
          simp only [e0, e1, e2] at h0 h1 h2
          obtain ⟨t, f0, _, w0⟩ := DataW.trod_int Tryd.underlying5 h0
          obtain ⟨q, f1, _, w1⟩ := DataW.trod_int Tryd.underlying2 h1
          obtain ⟨s, f2, _, w2⟩ := DataW.trod_string Tryd.underlying9 h2
          simp at f0 f1 f2
          subst f0 f1 f2
          exact ⟨⟨t, q, s⟩, ⟨(bnd8 w0).1, (bnd64 w1).1, (bnd64 w1).2, w2⟩, by simpa using hcc 0 (by omega), by simpa using hcc 1 (by omega), by simpa using hcc 2 (by omega)⟩)
    refine ⟨zs, hzl, by omega, fun z hzm => ?_, ?_⟩
    · obtain ⟨i, hi⟩ := List.getElem?_of_mem hzm
      exact (hz i z hi).1
    · by_cases h0 : ln = 0
      · exact .inl h0
      · obtain ⟨z0, hz0⟩ : ∃ z, zs[0]? = some z := ⟨_, List.getElem?_eq_getElem (by omega)⟩
        have h00 := (hz 0 z0 hz0).2.1
        obtain ⟨b, off, sp⟩ := a
        have ea : ((⟨b, off, sp⟩ : Addr).add (0 * 3)).add 0 = ⟨b, off, sp⟩ := by simp [Addr.add]
        rw [ea] at h00
        have hsp : sp = none := by
          unfold World.cell? at h00
          split at h00
          · simp only at h00
            split at h00
            · cases h00
            · rename_i hn; simpa using hn
          · cases h00
        subst hsp
        refine .inr ⟨b, off, rfl, World.block_lt_of_cell? W _ h00, fun k z hk => ?_⟩
        have hadd : ∀ i : Nat, (⟨b, off, none⟩ : Addr).add i = ⟨b, off + i, none⟩ := by intro i; unfold Addr.add; split <;> simp_all
        have hadd2 : ∀ (o i : Nat), (⟨b, o, none⟩ : Addr).add i = ⟨b, o + i, none⟩ := by intro o i; unfold Addr.add; split <;> simp_all
        have := (hz k z hk).2
        rw [hadd, hadd2, hadd2, hadd2] at this
        simpa using this
theorem ValsAt.bw {W W' : World} {ao : Option Addr} {ln : Nat} {zs : List Va} (h : ValsAt W ao ln zs) (k : BW W W') : ValsAt W' ao ln zs := by
  obtain ⟨h1, h2, h3, h4⟩ := h
  refine ⟨h1, h2, h3, ?_⟩
  rcases h4 with h4 | ⟨b, off, e, hb, hc⟩
  · exact .inl h4
  · exact .inr ⟨b, off, e, Nat.lt_of_lt_of_le hb k.size, fun j z hz => ⟨(k.cells b _ hb).trans (hc j z hz).1, (k.cells b _ hb).trans (hc j z hz).2.1, (k.cells b _ hb).trans (hc j z hz).2.2⟩⟩

end Go.Proofs.YtfgnlddfpemblaaDoor
