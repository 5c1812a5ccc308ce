import Derived.Test.YtndhhmgbekcfoaaDoorV1
import Derived.Test.YtndhhmgbekcfoaaDoorQ15
namespace Go.Proofs.YtndhhmgbekcfoaaDoor
open Go.RowKit
set_option linter.unusedVariables false
set_option linter.unusedSimpArgs false

set_option maxRecDepth 100000
section
variable {H : Type} {enc : TypeId × Value → H} {W : World} {base : Nat} {v : Value} {d : DataW H} {p : List MemPlace}
open Go.ChangeShapes Go.WideShapes Go.ChangeAt
theorem view22 (hv : Value.okWide Tryd.prog W .any base 22 v) (h : DataW.Trod enc Tryd.prog W 0 (fun _ => true) true 22 v d p) (hz : ∀ n ∈ d.weights Tryd.prog 22, n ≤ reachBytes) : ∃ ao ln cp l, v = .slice ao ln cp ∧ IntsAt W ao ln l ∧ ln ≤ cp ∧ cp ≤ maxLen := by
  obtain ⟨a, len, cap, rfl⟩ := okWide_slice Tryd.underlying22 hv
  obtain ⟨fuel, h⟩ := h
  obtain ⟨ao, ln, cp, l, e, h1, h2, h3, _⟩ := ints_view 22 2 Tryd.underlying22 Tryd.underlying2 (by kernel_rfl) (v := .slice a len cap) h hz
  exact ⟨ao, ln, cp, l, e, h1, h2, h3⟩
theorem view23 (hv : Value.okWide Tryd.prog W .any base 23 v) (h : DataW.Trod enc Tryd.prog W 0 (fun _ => true) true 23 v d p) (hz : ∀ n ∈ d.weights Tryd.prog 23, n ≤ reachBytes) : ∃ ao ln cp l, v = .slice ao ln cp ∧ StrsAt W ao ln l ∧ ln ≤ cp ∧ cp ≤ maxLen := by
  obtain ⟨a, len, cap, rfl⟩ := okWide_slice Tryd.underlying23 hv
  obtain ⟨fuel, h⟩ := h
  exact strs_view (v := .slice a len cap) h hz
theorem view30 (hv : Value.okWide Tryd.prog W .any base 30 v) (h : DataW.Trod enc Tryd.prog W 0 (fun _ => true) true 30 v d p) (hz : ∀ n ∈ d.weights Tryd.prog 30, n ≤ reachBytes) : ∃ ao cp l, v = .slice ao l.length cp ∧ BysAt W ao cp l := by
  obtain ⟨a, len, cap, rfl⟩ := okWide_slice Tryd.underlying30 hv
  obtain ⟨fuel, h⟩ := h
  obtain ⟨ao, ln, cp, l, e1, h1, h2, h3, h4⟩ := row_view (R := fun g z => g 0 = some (.int .u8 z) ∧ 0 ≤ z ∧ z ≤ 255) 30 5 1 Tryd.underlying30 (by kernel_rfl) (by decide) (fun q cs y hy _ hl => by
    obtain ⟨n, f0, _, w0⟩ := DataW.trod_int Tryd.underlying5 hy
    subst f0
    exact ⟨n, fun g hg => ⟨hg 0 (by decide), bnd8 w0⟩⟩) (v := .slice a len cap) h hz
  obtain ⟨k1, k2, k3⟩ := h1
  have hb : ∀ (i : Nat) (z : Int), l[i]? = some z → ln = 0 ∨ (0 ≤ z ∧ z ≤ 255) := fun i z hi => by
    rcases k3 with k3 | ⟨b, off, _, _, hc⟩
    · exact .inl k3
    · exact .inr (hc i z hi).2
  have hl : (l.map Int.toNat).length = ln := by simpa using k1
  refine ⟨ao, cp, l.map Int.toNat, by rw [hl]; exact e1, by rw [hl]; exact h2, h3, fun k hk => ?_, ?_⟩
  · obtain ⟨z, hz2, rfl⟩ := List.mem_map.1 hk
    obtain ⟨i, hi⟩ := List.getElem?_of_mem hz2
    rcases hb i z hi with h0 | h0
    · have : i < l.length := (List.getElem?_eq_some_iff.1 hi).1; omega
    · omega
  · rw [hl]
    rcases k3 with k3 | ⟨b, off, e, hbl, hc⟩
    · exact .inl k3
    · refine .inr ⟨b, off, e, hbl, fun i hi => ?_⟩
      simp only [List.length_map] at hi
      have hz3 := hc i _ (List.getElem?_eq_getElem hi)
      have : W.cell? ⟨b, off + i * 1 + 0, none⟩ = some (.int .u8 l[i]) := hz3.1
      rw [Nat.mul_one, Nat.add_zero] at this
      rw [this]
      simp only [List.getD, List.getElem?_map, List.getElem?_eq_getElem hi, Option.map_some, Option.getD_some]
      have := hz3.2
      congr 2
      omega
end

end Go.Proofs.YtndhhmgbekcfoaaDoor
