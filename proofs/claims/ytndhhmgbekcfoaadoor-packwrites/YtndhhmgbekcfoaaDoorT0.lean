import Derived.Test.YtndhhmgbekcfoaaDoorV0
import Derived.Deep.MidRow
namespace Go.Proofs.YtndhhmgbekcfoaaDoor
open Go.RowKit
set_option linter.unusedVariables false
set_option linter.unusedSimpArgs false

/-- The words, and how many parts they take. -/
def wtab : List (List UInt8 × Int) := [([105, 110], 0), ([110, 101, 103], 1), ([110, 111, 116], 1), ([108, 101, 110], 1), ([105, 56], 1), ([105, 49, 54], 1), ([105, 51, 50], 1), ([117, 56], 1), ([117, 49, 54], 1), ([117, 51, 50], 1), ([102, 115, 116], 1), ([115, 110, 100], 1), ([99, 101, 108, 108], 1), ([103, 101, 116], 1), ([111, 117, 116], 1), ([43], 2), ([45], 2), ([42], 2), ([47], 2), ([37], 2), ([97, 110, 100], 2), ([111, 114], 2), ([120, 111, 114], 2), ([115, 104, 108], 2), ([115, 104, 114], 2), ([117, 115, 104, 114], 2), ([60], 2), ([61], 2), ([99, 97, 116], 2), ([97, 116], 2), ([112, 97, 105, 114], 2), ([115, 101, 116], 2)]
def wcs : List Value := wtab.flatMap (fun x => [.string ⟨x.1.toArray⟩, .int .i64 x.2])
def wv : Value := .agg wcs.toArray
def wk (k : Nat) : ByteArray := ⟨(wtab.getD k ([], 0)).1.toArray⟩
def wn (k : Nat) : Int := (wtab.getD k ([], 0)).2
/-- The variable words is as the program's text lays it. -/
def Tw (W : World) : Prop := 1 < W.heap.size ∧ W.rangeAt 1 0 wcs
theorem Tw.bw {W W' : World} (h : Tw W) (k : BW W W') : Tw W' := ⟨Nat.lt_of_lt_of_le h.1 k.size, fun j x hx => (k.cells 1 _ h.1).trans (h.2 j x hx)⟩
theorem load_words {w : World} (h : Tw w) : (Instr.loadAt 136 (.pointer (some ⟨1, 0, none⟩))).run Tryd.prog w = .ok wv w :=
  run_loadAt_mid w 1 0 136 wcs _ h.2 Tryd.underlying136 rfl (by kernel_rfl)
theorem index_words : ∀ (k : Nat) (w : World), k < 32 → (Instr.index 136 wv (.int .i64 k)).run Tryd.prog w = .ok (.agg #[.string (wk k), .int .i64 (wn k)]) w
  | 0, w, _ => by kernel_rfl
  | 1, w, _ => by kernel_rfl
  | 2, w, _ => by kernel_rfl
  | 3, w, _ => by kernel_rfl
  | 4, w, _ => by kernel_rfl
  | 5, w, _ => by kernel_rfl
  | 6, w, _ => by kernel_rfl
  | 7, w, _ => by kernel_rfl
  | 8, w, _ => by kernel_rfl
  | 9, w, _ => by kernel_rfl
  | 10, w, _ => by kernel_rfl
  | 11, w, _ => by kernel_rfl
  | 12, w, _ => by kernel_rfl
  | 13, w, _ => by kernel_rfl
  | 14, w, _ => by kernel_rfl
  | 15, w, _ => by kernel_rfl
  | 16, w, _ => by kernel_rfl
  | 17, w, _ => by kernel_rfl
  | 18, w, _ => by kernel_rfl
  | 19, w, _ => by kernel_rfl
  | 20, w, _ => by kernel_rfl
  | 21, w, _ => by kernel_rfl
  | 22, w, _ => by kernel_rfl
  | 23, w, _ => by kernel_rfl
  | 24, w, _ => by kernel_rfl
  | 25, w, _ => by kernel_rfl
  | 26, w, _ => by kernel_rfl
  | 27, w, _ => by kernel_rfl
  | 28, w, _ => by kernel_rfl
  | 29, w, _ => by kernel_rfl
  | 30, w, _ => by kernel_rfl
  | 31, w, _ => by kernel_rfl
  | n + 32, w, h => absurd h (by omega)
/-- How many parts a word takes. -/
def tk (l : List UInt8) : Int := ((wtab.find? (fun x => x.1 == l)).map (·.2)).getD (-1)
theorem wtab_get (k : Nat) (h : k < 32) : wtab[k]? = some ((wk k).data.toList, wn k) := by
  have hl : k < wtab.length := h
  rw [List.getElem?_eq_getElem hl]
  simp [wk, wn, List.getD, List.getElem?_eq_getElem hl]
theorem tk_hit {l : List UInt8} {k : Nat} (h : k < 32) (hno : ∀ j, j < k → ¬ (wk j).data.toList = l) (he : (wk k).data.toList = l) : tk l = wn k := by
  have hl : k < wtab.length := h
  unfold tk
  have : wtab.find? (fun x => x.1 == l) = some (l, wn k) := by
    rw [List.find?_eq_some_iff_getElem]
    refine ⟨by simp, k, hl, ?_, fun j hj => ?_⟩
    · have := wtab_get k h; rw [List.getElem?_eq_getElem hl, he] at this; exact Option.some.inj this
    · have h2 := wtab_get j (by omega)
      rw [List.getElem?_eq_getElem (by omega : j < wtab.length)] at h2
      rw [Option.some.inj h2]
      simpa using hno j hj
  rw [this]; rfl
theorem tk_none {l : List UInt8} (hno : ∀ j, j < 32 → ¬ (wk j).data.toList = l) : tk l = -1 := by
  unfold tk
  have : wtab.find? (fun x => x.1 == l) = none := by
    rw [List.find?_eq_none]
    intro x hx
    obtain ⟨j, hj⟩ := List.getElem?_of_mem hx
    have hlt : j < wtab.length := (List.getElem?_eq_some_iff.1 hj).1
    have h2 := wtab_get j hlt
    rw [hj] at h2
    rw [Option.some.inj h2]
    simpa using hno j hlt
  rw [this]; rfl
set_option maxRecDepth 100000 in
set_option maxHeartbeats 4000000 in
theorem takes_any (s : ByteArray) (w : World) (h : Tw w) : Calls Tryd.prog 90 #[.string s] w fun e w' => e = .returned (.int .i64 (tk s.data.toList)) ∧ BW w w' := by
  have HW : Hid (Tw w) := h
  clear h
  go_enter Tryd.func90, Tryd.ntmps90
  go_wp2_with (refine wpList_load_mid rfl 136 (.global 1) rfl 1 0 rfl wcs _ HW.out.2 Tryd.underlying136 rfl (by kernel_rfl) (?_ : wpList _ _ _ _ (Act.put _ (some 5) wv) _))
  go_loopw [6] (fun i w' => ∃ k : Nat, k ≤ 32 ∧ Hid (∀ j, j < k → ¬ (wk j).data.toList = s.data.toList) ∧ i = .int .i64 k ∧ BW w w') (fun i _ => 32 - (intOf i).toNat)
  case atStart => exact ⟨0, Nat.zero_le _, fun j h => by omega, rfl, (by repeat (first | exact BW.refl _ | apply BW.alloc | apply BW.drewN | apply BW.drew))⟩
  case round =>
    obtain ⟨k, hk, HA, rfl, hb⟩ := hrel
    have hz := hb.size
    by_cases hlt : k < 32
    · have hI := fun w' => index_words k w' hlt
      by_cases he : (wk k).data.toList = s.data.toList
      · have HT : Hid _ := tk_hit hlt HA.out he
        have he' : (wk k).toList = s.toList := by rw [ByteArray.toList_eq, ByteArray.toList_eq]; exact he
        clear he
        go_wp2_with (fail)
        go_ret
        exact ⟨by rw [HT.out]; rfl, (by repeat (first | exact BW.refl _ | assumption | apply BW.alloc | apply BW.drewN | apply BW.drew | (refine BW.setCell ?_ (by first | omega | (simp; done) | (simp; omega)) _) | (refine BW.trans ?_ (by assumption))))⟩
      · have HQ : Hid (∀ j, j < k + 1 → ¬ (wk j).data.toList = s.data.toList) := fun j hj => by
          rcases Nat.lt_or_ge j k with h | h
          · exact HA.out j h
          · obtain rfl : j = k := by omega
            exact he
        have he' : ¬ (wk k).toList = s.toList := by rw [ByteArray.toList_eq, ByteArray.toList_eq]; exact he
        have he2 : ((wk k).toList == s.toList) = false := by simpa using he'
        clear he
        go_wp2_with (fail)
        go_roundw
        case rel => exact ⟨k + 1, by omega, HQ.out, by go_num, (by repeat (first | exact BW.refl _ | assumption | apply BW.alloc | apply BW.drewN | apply BW.drew | (refine BW.setCell ?_ (by first | omega | (simp; done) | (simp; omega)) _) | (refine BW.trans ?_ (by assumption))))⟩
        case measure => simp [intOf]; omega
    · have hkn : k = 32 := by omega
      subst hkn
      have HT : Hid _ := tk_none HA.out
      go_wp2_with (fail)
      go_ret
      exact ⟨by rw [HT.out]; rfl, (by repeat (first | exact BW.refl _ | assumption | apply BW.alloc | apply BW.drewN | apply BW.drew | (refine BW.setCell ?_ (by first | omega | (simp; done) | (simp; omega)) _) | (refine BW.trans ?_ (by assumption))))⟩

/-- Is a text among some? -/
def inB (l : List ByteArray) (s : ByteArray) : Bool := l.any (fun x => decide (x = s))
theorem bytes_eq' (a b : ByteArray) : a.toList = b.toList ↔ a = b := by
  rw [ByteArray.toList_eq, ByteArray.toList_eq]
  exact ⟨fun h => Go.WideShapes.bytes_inj h, fun h => by rw [h]⟩
set_option maxRecDepth 100000 in
set_option maxHeartbeats 4000000 in
theorem refIn_any (s : ByteArray) (ao : Option Addr) (ln cp : Nat) (l : List ByteArray) (w : World) (h : StrsAt w ao ln l) : Calls Tryd.prog 85 #[.string s, .slice ao ln cp] w fun e w' => e = .returned (.bool (inB l s)) ∧ w' = w := by
  have H : Hid (StrsAt w ao ln l) := h
  have hl : Hid _ := h.1
  have hm : ln ≤ 9223372036854775807 := by have := h.2.1; unfold maxLen at this; omega
  clear h
  go_enter Tryd.func85, Tryd.ntmps85
  go_wp2_with (fail)
  go_loop [8] (fun i => ∃ k : Nat, k ≤ ln ∧ Hid (inB (l.take k) s = false) ∧ i = .int .i64 k) (fun i => ln - (intOf i).toNat)
  case atStart => exact ⟨0, Nat.zero_le _, by simp [Hid, inB], rfl⟩
  case round =>
    obtain ⟨k, hk, HA, rfl⟩ := hrel
    by_cases hlt : k < ln
    · obtain ⟨b, off, x, rfl, hbl, hx, hxs, hc⟩ := StrsAt.get H.out hlt
      have HX : Hid _ := hx
      clear hx hxs
      by_cases he : x = s
      · have e1 := (bytes_eq' x s).2 he
        have HR : Hid (inB l s = true) := any_hit _ HX.out (by simp [he])
        clear he
        go_wp2_with (fail)
        go_ret
        exact ⟨by rw [HR.out]; rfl, rfl⟩
      · have e1 : ¬ x.toList = s.toList := fun e => he ((bytes_eq' x s).1 e)
        have e2 : (x.toList == s.toList) = false := by simpa using e1
        have HQ : Hid (inB (l.take (k + 1)) s = false) := by
          show inB _ _ = false
          have := any_snoc (fun x => decide (x = s)) HX.out
          unfold inB at HA ⊢
          rw [this, HA.out]; simpa using he
        clear he
        go_wp2_with (fail)
        go_round
        case rel => exact ⟨k + 1, by omega, HQ, by go_num⟩
        case measure => simp [intOf]; omega
    · have hkn : ln = k := by omega
      subst hkn
      have HR : Hid (inB l s = false) := by have := HA.out; rw [List.take_of_length_le (by rw [hl.out]; omega)] at this; exact this
      go_wp2_with (fail)
      go_ret
      exact ⟨by rw [HR.out]; rfl, rfl⟩

end Go.Proofs.YtndhhmgbekcfoaaDoor
