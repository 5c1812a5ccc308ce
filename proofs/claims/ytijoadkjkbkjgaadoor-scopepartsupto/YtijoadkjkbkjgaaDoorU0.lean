import Derived.Test.YtijoadkjkbkjgaaDoorC0
namespace Go.Proofs.YtijoadkjkbkjgaaDoor
open Go.RowKit
set_option linter.unusedVariables false
set_option linter.unusedSimpArgs false

theorem sameKey_string (a b : List UInt8) : (Lit.string a).sameKey (.string b) = decide (a = b) := by
  simp only [Lit.sameKey]
  by_cases h : a = b <;> simp [h]
/-- What the map knows behind k rounds. -/
def UR {H : Type} (l : List ByteArray) (D : DataW H) : Prop := ∃ ent, D = .map ent ∧ (∀ s : ByteArray, (∃ p ∈ ent, p.1.sameKey (.string s.data.toList) = true) ↔ s ∈ l) ∧ (l.Nodup → ent.length = l.length) ∧ (¬ l.Nodup → ent.length < l.length)
theorem UR.nil {H : Type} : UR [] (DataW.map (H := H) []) := ⟨[], rfl, by simp, by simp, by simp⟩
theorem mem_insert {H : Type} (x p : Lit × DataW H) : ∀ l : List (Lit × DataW H), p ∈ DataW.insert x l ↔ p = x ∨ p ∈ l
  | [] => by simp [DataW.insert]
  | y :: r => by
    unfold DataW.insert
    split
    · simp
    · simp only [List.mem_cons, mem_insert x p r]
      constructor
      · rintro (h | h | h)
        · exact .inr (.inl h)
        · exact .inl h
        · exact .inr (.inr h)
      · rintro (h | h | h)
        · exact .inr (.inl h)
        · exact .inl h
        · exact .inr (.inr h)
theorem UR.put {H : Type} {l : List ByteArray} {D : DataW H} (h : UR l D) (s : ByteArray) (d : DataW H) : UR (l ++ [s]) (D.put (.string s.data.toList) d) := by
  obtain ⟨ent, rfl, hk, h1, h2⟩ := h
  refine ⟨_, rfl, fun x => ?_, ?_⟩
  · constructor
    · rintro ⟨p, hp, hs⟩
      rcases (mem_insert _ _ _).1 hp with rfl | hp
      · rw [sameKey_string] at hs
        have := Go.WideShapes.bytes_inj (of_decide_eq_true hs)
        simp [this]
      · have := (hk x).1 ⟨p, (List.mem_filter.1 hp).1, hs⟩
        simp [this]
    · intro hx
      by_cases e : x = s
      · subst e
        exact ⟨_, (mem_insert _ _ _).2 (.inl rfl), by rw [sameKey_string]; simp⟩
      · have hx' : x ∈ l := by simp [e] at hx; exact hx
        obtain ⟨p, hp, hs⟩ := (hk x).2 hx'
        refine ⟨p, (mem_insert _ _ _).2 (.inr (List.mem_filter.2 ⟨hp, ?_⟩)), hs⟩
        cases hc : p.1.sameKey (.string s.data.toList) with
        | false => rfl
        | true =>
          exfalso
          cases hp1 : p.1 with
          | string b =>
            rw [hp1, sameKey_string] at hs hc
            exact e (Go.WideShapes.bytes_inj ((of_decide_eq_true hs).symm.trans (of_decide_eq_true hc)))
          | _ => rw [hp1] at hs; simp [Lit.sameKey] at hs
  · have hins : (DataW.insert ((.string s.data.toList : Lit), d) (ent.filter fun p => !p.1.sameKey (.string s.data.toList))).length = (ent.filter fun p => !p.1.sameKey (.string s.data.toList)).length + 1 := length_insert _ _
    have hfl := List.length_filter_le (fun p : Lit × DataW H => !p.1.sameKey (.string s.data.toList)) ent
    by_cases hm : s ∈ l
    · obtain ⟨p, hp, hs⟩ := (hk s).2 hm
      have hlt : (ent.filter fun p => !p.1.sameKey (.string s.data.toList)).length < ent.length := by
        refine List.length_filter_lt_length_iff_exists.2 ⟨p, hp, by simp [hs]⟩
      have hnd : ¬ (l ++ [s]).Nodup := by
        intro h; rw [List.nodup_append] at h; exact h.2.2 s hm s (by simp) rfl
      refine ⟨fun h => absurd h hnd, fun _ => ?_⟩
      rw [hins, List.length_append]
      by_cases hn : l.Nodup
      · have := h1 hn; simp; omega
      · have := h2 hn; simp; omega
    · have hall : (ent.filter fun p => !p.1.sameKey (.string s.data.toList)) = ent := by
        rw [List.filter_eq_self]
        intro p hp
        cases hc : p.1.sameKey (.string s.data.toList) with
        | false => rfl
        | true => exact absurd ((hk s).1 ⟨p, hp, hc⟩) hm
      have hiff : (l ++ [s]).Nodup ↔ l.Nodup := by
        rw [List.nodup_append]
        constructor
        · exact fun h => h.1
        · exact fun h => ⟨h, by simp, fun a ha b hb => by simp at hb; subst hb; exact fun e => hm (e ▸ ha)⟩
      rw [hins, hall, hiff]
      exact ⟨fun h => by have := h1 h; simp; omega, fun h => by have := h2 h; simp; omega⟩
theorem wf_wrap64 (n : Int) : (Lit.int .i64 (wrap64 n)).wf = true := by
  simp only [Lit.wf, show IntKind.i64.min = -9223372036854775808 from rfl, show IntKind.i64.max = 9223372036854775807 from rfl, Bool.and_eq_true, decide_eq_true_eq, wrap64]; omega
set_option maxRecDepth 100000 in
set_option maxHeartbeats 4000000 in
theorem unlike_any (ao : Option Addr) (ln cp : Nat) (l : List ByteArray) (w : World) (h : StrsAt w ao ln l) (hcp : ln ≤ cp) : Calls Tryd.prog 56 #[.slice ao ln cp] w fun e w' => e = .returned (.bool (decide l.Nodup)) ∧ BW w w' := by
  have H : Hid (StrsAt w ao ln l) := h
  have hl : Hid _ := h.1
  have hm : ln ≤ 9223372036854775807 := by have := h.2.1; unfold maxLen at this; omega
  clear h
  have hmm : ∀ (n : Int) (w : World), (Instr.makeMap 42 (some (.int .i64 n))).run Tryd.prog w = .ok (.map (some w.heap.size)) (w.alloc (.map #[] 0)) := by
    intro n w; first | rfl | simp [Instr.makeMap]
  have hz : ∀ w : World, (zeroValue 3).run Tryd.prog w = .ok (.int .i64 0) w := fun w => by kernel_rfl
  go_enter Tryd.func56, Tryd.ntmps56
  go_wp2_with (fail)
  go_loopw [11] (fun i w' => ∃ k : Nat, k ≤ ln ∧ i = .int .i64 k ∧ (∃ D : DataW Unit, w'.ownsMap Tryd.prog 9 (plainElem Tryd.prog 3) w.heap.size k D ∧ UR (l.take k) D) ∧ BW w w') (fun i _ => ln - (intOf i).toNat)
  case atStart => exact ⟨0, Nat.zero_le _, rfl, ⟨_, World.ownsMap_made w Tryd.prog 9 _, by simpa using UR.nil⟩, (by repeat (first | exact BW.refl _ | apply BW.alloc | apply BW.drewN | apply BW.drew))⟩
  case round =>
    obtain ⟨k, hk, rfl, ⟨D, hown, hur⟩, hb⟩ := hrel
    by_cases hlt : k < ln
    · obtain ⟨b, off, x, rfl, hbl, hx, hxs, hc⟩ := StrsAt.get H.out hlt
      rw [← hb.cells b _ hbl] at hc
      have hkey : keyOf Tryd.prog 9 (.string x) = some (.string x.data.toList) := Go.WideMaps.keyOf_string_mk Tryd.underlying9 hxs
      obtain ⟨c, hrun, hat, hwc⟩ := hown.lookup_int (t := 42) (Go.Maps.string_keyed Tryd.underlying9) Tryd.underlying42 Tryd.underlying3 (hz wr) hkey
      have HU : Hid (∀ d, UR (l.take (k + 1)) (D.put (.string x.data.toList) d)) := fun d => by
        rw [List.take_add_one, hx]; exact hur.put x d
      clear hat hx
      go_wp2_with (first | (at_mapUpdate; refine wpList_mapUpdate_own _ rfl _ _ _ 42 rfl 9 3 (Go.Maps.string_keyed Tryd.underlying9) Tryd.underlying42 _ w.heap.size k D rfl hown (by unfold maxLen; omega) _ _ (.string x.data.toList) rfl rfl hkey _ [] (plainElem_int Tryd.underlying3 (wf_wrap64 _)) ?_))
      intro w1 hown1 hgrow1
      go_wp2_with (fail)
      go_roundw
      case rel => exact ⟨k + 1, by omega, by go_num, ⟨_, hown1, HU.out _⟩, BW.grownBy hb hgrow1 (Nat.le_refl _)⟩
      case measure => simp [intOf]; omega
    · have hkn : ln = k := by omega
      subst hkn
      rw [List.take_of_length_le (by rw [hl.out]; omega)] at hur
      obtain ⟨es, cl, hbk, F, hsz, rfl⟩ := hown
      obtain ⟨ent, he, _, h1, h2⟩ := hur
      cases he
      rw [length_sorted] at h1 h2
      simp only [List.length_map, Array.length_toList] at h1 h2
      have hlen : ∀ ty, (Builtin.len_ #[42] ty #[.map (some w.heap.size)]).run Tryd.prog wr = .ok (.int .i64 es.size) wr := fun ty => by simp [Builtin.len_, run_underlying Tryd.underlying42, MapKept.run_getObj_map hbk, goInt]
      have HR : Hid (((es.size : Int) == (ln : Int)) = decide l.Nodup) := by
        show _ = _
        rw [hl.out] at h1 h2
        by_cases hn : l.Nodup
        · simp [hn, h1 hn]
        · have := h2 hn
          simp [hn]; omega
      clear h1 h2
      generalize es.size = q at *
      go_wp2_with (fail)
      go_ret
      exact ⟨by rw [← HR.out]; rfl, hb⟩

end Go.Proofs.YtijoadkjkbkjgaaDoor
