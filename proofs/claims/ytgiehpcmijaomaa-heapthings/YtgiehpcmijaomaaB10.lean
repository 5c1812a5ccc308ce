import Derived.Test.YtgiehpcmijaomaaB8
import Derived.LoopTactic
namespace Go.Proofs.Ytgiehpcmijaomaa
open Go.RowKit
set_option linter.unusedVariables false
set_option linter.unusedSimpArgs false
/-- The cells of the things that were made of the numbers l. -/
def TC (t : Int) (l : List Int) : List Value := l.flatMap fun x => thing t 0 0 ⟨#[]⟩ 0 0 ⟨#[]⟩ x
theorem TC_snoc (t : Int) (l : List Int) (x : Int) : TC t (l ++ [x]) = TC t l ++ thing t 0 0 ⟨#[]⟩ 0 0 ⟨#[]⟩ x := by simp [TC]
theorem TC_tag (t : Int) (l : List Int) : ∀ k, k < l.length → (TC t l)[k * 8]? = some (.int .u8 t) := by
  induction l with
  | nil => intro k hk; simp at hk
  | cons a l ih =>
    intro k hk
    cases k with
    | zero => simp [TC]
    | succ k =>
      have := ih k (by simpa using hk)
      have e : TC t (a :: l) = thing t 0 0 ⟨#[]⟩ 0 0 ⟨#[]⟩ a ++ TC t l := by simp [TC]
      rw [e, List.getElem?_append_right (by simp; omega)]
      have e2 : (k + 1) * 8 - (thing t 0 0 ⟨#[]⟩ 0 0 ⟨#[]⟩ a).length = k * 8 := by simp; omega
      rw [e2]; exact this
theorem TC_num (t : Int) (l : List Int) : ∀ k, k < l.length → (TC t l)[k * 8 + 7]? = some (.int .i64 (l[k]?.getD 0)) := by
  induction l with
  | nil => intro k hk; simp at hk
  | cons a l ih =>
    intro k hk
    cases k with
    | zero => simp [TC]
    | succ k =>
      have := ih k (by simpa using hk)
      have e : TC t (a :: l) = thing t 0 0 ⟨#[]⟩ 0 0 ⟨#[]⟩ a ++ TC t l := by simp [TC]
      rw [e, List.getElem?_append_right (by simp; omega)]
      have e2 : (k + 1) * 8 + 7 - (thing t 0 0 ⟨#[]⟩ 0 0 ⟨#[]⟩ a).length = k * 8 + 7 := by simp; omega
      rw [e2]; simpa using this
theorem take_snoc' (l : List Int) (k : Nat) (h : k < l.length) : l.take (k + 1) = l.take k ++ [l[k]?.getD 0] := by
  rw [List.take_succ_eq_append_getElem h]; simp [h]
/-- The other heap: nothing was made in it. -/
def Bare (w : World) (b : Nat) : Prop := w.heap[b]? = some (.cells #[.int .i64 200, .slice none 0 0] 46 (0, 0))
theorem Bare.bw {w w' : World} {b : Nat} (h : Bare w b) (k : BW w w') : Bare w' b := (k.block b (Array.getElem?_eq_some_iff.1 h).1).trans h
theorem Bare.fr {w w' : World} {base b c : Nat} (h : Bare w b) (k : Fr base c w w') (hne : b ≠ c) : Bare w' b :=
  (k.oth b (Array.getElem?_eq_some_iff.1 h).1 hne (fun c' f e => by rw [h] at e; simp at e)).trans h
theorem Bare.is {w : World} {b : Nat} (h : Bare w b) {base : Nat} (hb : base ≤ b) : HeapIs w base b 200 0 [] := ⟨hb, _, h, World.ownsRow_nil _ _ _ _⟩
theorem Bare.no {w : World} {b : Nat} (h : Bare w b) (t : Int) (m : Nat) : NoHas (.pointer (some ⟨b, 0, none⟩)) t t m ⟨#[]⟩ w :=
  fun w1 hb => has_out 0 b 200 0 [] t m (by omega) (by omega) w1 ((h.bw hb).is (Nat.zero_le _))
theorem other_no {w : World} {base b : Nat} {lim : Int} {n : Nat} {xs : List Value} (H : HeapIs w base b lim n xs) (tag t : Int) (ht : (t == tag) = false) (m : Nat) (hm : m < n) (hN : n ≤ 1048576) (hx : xs[m * 8]? = some (.int .u8 t)) : NoHas (.pointer (some ⟨b, 0, none⟩)) tag tag m ⟨#[]⟩ w :=
  fun w1 hb => has_not base b lim n xs tag m hm hN t ht hx w1 (H.bw hb)
set_option maxRecDepth 100000 in
set_option maxHeartbeats 1000000 in
theorem things_far (ao : Option Addr) (len cap : Nat) (tag : Int) (h : 100 < len) (hl : len ≤ maxLen) (w : World) :
    Calls Try.prog 6 #[.slice ao len cap, .int .u8 tag] w fun e w' => e = .returned (.bool true) ∧ BW w w' := by
  unfold maxLen at hl
  go_enter Try.func6, Try.ntmps6
  go_wp2_with (go_at_call 7; refine (awake_any _).mono ?_; rintro e v1 ⟨rfl, hb1⟩)
  go_ret
  exact ⟨rfl, (by repeat (first | exact BW.refl _ | assumption | apply BW.alloc | apply BW.drewN | apply BW.drew | (refine BW.setCell ?_ (by first | omega | (simp; done) | (simp; omega)) _) | (refine BW.trans ?_ (by assumption))))⟩
set_option maxRecDepth 100000 in
set_option maxHeartbeats 8000000 in
theorem things_6z (w : World) (ao : Option Addr) (cap : Nat) (zs : List Int) (hz : zs = []) (tag : Int) (h0 : 0 ≤ tag) (h1 : tag ≤ 255) (ht : tag % 2 = 0) :
    Calls Try.prog 6 #[.slice ao 0 cap, .int .u8 tag] w fun e w' => e = .returned (.bool true) ∧ BW w w' := by
  go_enter Try.func6, Try.ntmps6
  go_upto_region 3 with fail
  go_cut [5, 6] (fun p q wx => p = .pointer (some ⟨w.heap.size, 0, none⟩) ∧ q = .pointer (some ⟨w.heap.size + 1, 0, none⟩) ∧ HeapIs wx w.heap.size w.heap.size 200 0 [] ∧ Bare wx (w.heap.size + 1) ∧ BW w wx)
  case first =>
    go_wp2_with (go_at_call 8; refine (new_any 200 200 (by decide) _).mono ?_; rintro e w1 ⟨rfl, rfl⟩)
    all_goals (go_meet; case rel => exact ⟨rfl, by simp, (heap_new w _ (Nat.le_refl _) _).bw (by repeat (first | exact BW.refl _ | assumption | apply BW.alloc | apply BW.drewN | apply BW.drew | (refine BW.setCell ?_ (by first | omega | (simp; done) | (simp; omega)) _) | (refine BW.trans ?_ (by assumption)))), new_at _ _ _ (by simp), (by repeat (first | exact BW.refl _ | assumption | apply BW.alloc | apply BW.drewN | apply BW.drew | (refine BW.setCell ?_ (by first | omega | (simp; done) | (simp; omega)) _) | (refine BW.trans ?_ (by assumption))))⟩)
  case rest =>
  obtain ⟨rfl, rfl, H0, K0, hB0⟩ := hcut
  go_wp2_with fail
  clear ht
  go_loopw [8] (fun i wr => ∃ k : Nat, k ≤ 0 ∧ i = .int .i64 k ∧ HeapIs wr w.heap.size w.heap.size 200 k (TC 6 (zs.take k)) ∧ Bare wr (w.heap.size + 1) ∧ BW w wr) (fun i _ => 0 - (intOf i).toNat)
  case atStart => exact ⟨0, by omega, rfl, by simpa [TC] using H0, K0, hB0⟩
  case round =>
    clear H0 K0 hB0
    obtain ⟨k, hk, rfl, HR, KR, hbw⟩ := hrel
    by_cases hlt : k < 0
    · omega
    · obtain rfl : 0 = k := by omega
      go_wp2_with fail
      go_loopw [11] (fun i wr => ∃ k : Nat, k ≤ 0 ∧ i = .int .i64 k ∧ HeapIs wr w.heap.size w.heap.size 200 0 (TC 6 (zs.take 0)) ∧ Bare wr (w.heap.size + 1) ∧ BW w wr) (fun i _ => 0 - (intOf i).toNat)
      case atStart => exact ⟨0, by omega, rfl, HR, KR, hbw⟩
      case round =>
        clear HR KR hbw
        obtain ⟨j, hj, rfl, HR, KR, hbw⟩ := hrel
        by_cases hjl : j < 0
        · omega
        · go_wp2_with (go_at_call 7; refine (awake_any _).mono ?_; rintro e v1 ⟨rfl, hb1⟩)
          go_ret
          exact ⟨rfl, (by repeat (first | exact BW.refl _ | assumption | apply BW.alloc | apply BW.drewN | apply BW.drew | (refine BW.setCell ?_ (by first | omega | (simp; done) | (simp; omega)) _) | (refine BW.trans ?_ (by assumption))))⟩
set_option maxRecDepth 100000 in
set_option maxHeartbeats 8000000 in
theorem things_6n (w : World) (b off len cap : Nat) (hb : b < w.heap.size) (zs : List Int) (hlen : zs.length = len) (hl : len ≤ 100) (hc : ∀ k, k < len → w.cell? ⟨b, off + k, none⟩ = some (.int .i64 (zs[k]?.getD 0))) (tag : Int) (h0 : 0 ≤ tag) (h1 : tag ≤ 255) (ht : tag % 2 = 0) :
    Calls Try.prog 6 #[.slice (some ⟨b, off, none⟩) len cap, .int .u8 tag] w fun e w' => e = .returned (.bool true) ∧ BW w w' := by
  go_enter Try.func6, Try.ntmps6
  go_upto_region 3 with fail
  go_cut [5, 6] (fun p q wx => p = .pointer (some ⟨w.heap.size, 0, none⟩) ∧ q = .pointer (some ⟨w.heap.size + 1, 0, none⟩) ∧ HeapIs wx w.heap.size w.heap.size 200 0 [] ∧ Bare wx (w.heap.size + 1) ∧ BW w wx)
  case first =>
    go_wp2_with (go_at_call 8; refine (new_any 200 200 (by decide) _).mono ?_; rintro e w1 ⟨rfl, rfl⟩)
    all_goals (go_meet; case rel => exact ⟨rfl, by simp, (heap_new w _ (Nat.le_refl _) _).bw (by repeat (first | exact BW.refl _ | assumption | apply BW.alloc | apply BW.drewN | apply BW.drew | (refine BW.setCell ?_ (by first | omega | (simp; done) | (simp; omega)) _) | (refine BW.trans ?_ (by assumption)))), new_at _ _ _ (by simp), (by repeat (first | exact BW.refl _ | assumption | apply BW.alloc | apply BW.drewN | apply BW.drew | (refine BW.setCell ?_ (by first | omega | (simp; done) | (simp; omega)) _) | (refine BW.trans ?_ (by assumption))))⟩)
  case rest =>
  obtain ⟨rfl, rfl, H0, K0, hB0⟩ := hcut
  go_wp2_with fail
  clear ht
  go_loopw [8] (fun i wr => ∃ k : Nat, k ≤ len ∧ i = .int .i64 k ∧ HeapIs wr w.heap.size w.heap.size 200 k (TC 6 (zs.take k)) ∧ Bare wr (w.heap.size + 1) ∧ BW w wr) (fun i _ => len - (intOf i).toNat)
  case atStart => exact ⟨0, by omega, rfl, by simpa [TC] using H0, K0, hB0⟩
  case round =>
    clear H0 K0 hB0
    obtain ⟨k, hk, rfl, HR, KR, hbw⟩ := hrel
    by_cases hlt : k < len
    · have hcx := (hbw.cells b (off + k) hb).trans (hc k hlt)
      clear hc
      have TS := take_snoc' zs k (by omega)
      have HT : Hid (TC 6 (zs.take (k + 1)) = TC 6 (zs.take k) ++ thing 6 0 0 ⟨#[]⟩ 0 0 ⟨#[]⟩ (zs[k]?.getD 0)) := by rw [TS]; exact TC_snoc _ _ _
      clear TS
      generalize zs[k]?.getD 0 = x at hcx HT
      go_wp2_with (go_at_call 10; go_must (refine (make_room w.heap.size w.heap.size 200 k _ (by omega) (by omega) _ _ (by decide) _ HR).mono ?_); rintro e w1 ⟨rfl, H1, F1⟩; have B1 : BW w w1 := Below.trans hbw F1.bel; have z1 := F1.size; have K1 := KR.fr F1 (by omega))
      go_roundw
      case rel => exact ⟨k + 1, by omega, by go_num, by rw [HT.out]; exact H1.bw (by repeat (first | exact BW.refl _ | assumption | apply BW.alloc | apply BW.drewN | apply BW.drew | (refine BW.setCell ?_ (by first | omega | (simp; done) | (simp; omega)) _) | (refine BW.trans ?_ (by assumption)))), K1.bw (by repeat (first | exact BW.refl _ | assumption | apply BW.alloc | apply BW.drewN | apply BW.drew | (refine BW.setCell ?_ (by first | omega | (simp; done) | (simp; omega)) _) | (refine BW.trans ?_ (by assumption)))), (by repeat (first | exact BW.refl _ | assumption | apply BW.alloc | apply BW.drewN | apply BW.drew | (refine BW.setCell ?_ (by first | omega | (simp; done) | (simp; omega)) _) | (refine BW.trans ?_ (by assumption))))⟩
      case measure => simp [intOf]; omega
    · obtain rfl : len = k := by omega
      go_wp2_with fail
      go_loopw [11] (fun i wr => ∃ k : Nat, k ≤ len ∧ i = .int .i64 k ∧ HeapIs wr w.heap.size w.heap.size 200 len (TC 6 (zs.take len)) ∧ Bare wr (w.heap.size + 1) ∧ BW w wr) (fun i _ => len - (intOf i).toNat)
      case atStart => exact ⟨0, by omega, rfl, HR, KR, hbw⟩
      case round =>
        clear HR KR hbw
        obtain ⟨j, hj, rfl, HR, KR, hbw⟩ := hrel
        by_cases hjl : j < len
        · have hcx := (hbw.cells b (off + j) hb).trans (hc j hjl)
          have zw := hbw.size
          have lb : b < wr.heap.size := by omega
          have x1 := TC_tag 6 (zs.take len) j (by simp; omega)
          have x2 := TC_num 6 (zs.take len) j (by simp; omega)
          have e3 : (zs.take len)[j]?.getD 0 = zs[j]?.getD 0 := by simp [List.getElem?_take, hjl]
          rw [e3] at x2
          clear hc e3
          generalize zs[j]?.getD 0 = x at hcx x2
          have X1 : Hid _ := x1
          have X2 : Hid _ := x2
          clear x1 x2
          go_wp2_with fail
          refine (thing_ok w.heap.size w.heap.size 200 len _ 6 (by decide) j hjl (by omega) X1.out _ X2.out _ (HR.bw (by repeat (first | exact BW.refl _ | assumption | apply BW.alloc | apply BW.drewN | apply BW.drew | (refine BW.setCell ?_ (by first | omega | (simp; done) | (simp; omega)) _) | (refine BW.trans ?_ (by assumption)))))).mono ?_
          rintro e w1 ⟨rfl, hb1⟩
          have z1 := hb1.size
          (try simp at z1)
          have q1 := fun o => hb1.cells wr.heap.size o (by first | omega | (simp; done) | (simp; omega))
          have g1 := hb1.cells b (off + j) (by first | omega | (simp; done) | (simp; omega))
          have l1 : wr.heap.size < w1.heap.size := (by first | omega | (simp; done) | (simp; omega))
          go_wp2_with fail
          refine (thing_no _ _ _ _ (by decide) _ (Bare.no (KR.bw (by repeat (first | exact BW.refl _ | assumption | apply BW.alloc | apply BW.drewN | apply BW.drew | (refine BW.setCell ?_ (by first | omega | (simp; done) | (simp; omega)) _) | (refine BW.trans ?_ (by assumption))))) _ j)).mono ?_
          rintro e w2 ⟨rfl, hb2⟩
          have z2 := hb2.size
          (try simp at z2)
          have q2 := fun o => hb2.cells wr.heap.size o (by first | omega | (simp; done) | (simp; omega))
          have g2 := hb2.cells b (off + j) (by first | omega | (simp; done) | (simp; omega))
          have l2 : wr.heap.size < w2.heap.size := (by first | omega | (simp; done) | (simp; omega))
          go_wp2_with fail
          refine (thing_no _ _ _ _ (by decide) _ (other_no (HR.bw (by repeat (first | exact BW.refl _ | assumption | apply BW.alloc | apply BW.drewN | apply BW.drew | (refine BW.setCell ?_ (by first | omega | (simp; done) | (simp; omega)) _) | (refine BW.trans ?_ (by assumption))))) 7 6 (by decide) j hjl (by omega) X1.out)).mono ?_
          rintro e w3 ⟨rfl, hb3⟩
          have z3 := hb3.size
          (try simp at z3)
          have g3 := hb3.cells b (off + j) (by first | omega | (simp; done) | (simp; omega))
          go_wp2_with fail
          go_roundw
          case rel => exact ⟨j + 1, by omega, by go_num, HR.bw (by repeat (first | exact BW.refl _ | assumption | apply BW.alloc | apply BW.drewN | apply BW.drew | (refine BW.setCell ?_ (by first | omega | (simp; done) | (simp; omega)) _) | (refine BW.trans ?_ (by assumption)))), KR.bw (by repeat (first | exact BW.refl _ | assumption | apply BW.alloc | apply BW.drewN | apply BW.drew | (refine BW.setCell ?_ (by first | omega | (simp; done) | (simp; omega)) _) | (refine BW.trans ?_ (by assumption)))), (by repeat (first | exact BW.refl _ | assumption | apply BW.alloc | apply BW.drewN | apply BW.drew | (refine BW.setCell ?_ (by first | omega | (simp; done) | (simp; omega)) _) | (refine BW.trans ?_ (by assumption))))⟩
          case measure => simp [intOf]; omega
        · go_wp2_with (go_at_call 7; refine (awake_any _).mono ?_; rintro e v1 ⟨rfl, hb1⟩)
          go_ret
          exact ⟨rfl, (by repeat (first | exact BW.refl _ | assumption | apply BW.alloc | apply BW.drewN | apply BW.drew | (refine BW.setCell ?_ (by first | omega | (simp; done) | (simp; omega)) _) | (refine BW.trans ?_ (by assumption))))⟩
set_option maxRecDepth 100000 in
set_option maxHeartbeats 8000000 in
theorem things_7z (w : World) (ao : Option Addr) (cap : Nat) (zs : List Int) (hz : zs = []) (tag : Int) (h0 : 0 ≤ tag) (h1 : tag ≤ 255) (ht : tag % 2 = 1) :
    Calls Try.prog 6 #[.slice ao 0 cap, .int .u8 tag] w fun e w' => e = .returned (.bool true) ∧ BW w w' := by
  go_enter Try.func6, Try.ntmps6
  go_upto_region 3 with fail
  go_cut [5, 6] (fun p q wx => p = .pointer (some ⟨w.heap.size, 0, none⟩) ∧ q = .pointer (some ⟨w.heap.size + 1, 0, none⟩) ∧ HeapIs wx w.heap.size w.heap.size 200 0 [] ∧ Bare wx (w.heap.size + 1) ∧ BW w wx)
  case first =>
    go_wp2_with (go_at_call 8; refine (new_any 200 200 (by decide) _).mono ?_; rintro e w1 ⟨rfl, rfl⟩)
    all_goals (go_meet; case rel => exact ⟨rfl, by simp, (heap_new w _ (Nat.le_refl _) _).bw (by repeat (first | exact BW.refl _ | assumption | apply BW.alloc | apply BW.drewN | apply BW.drew | (refine BW.setCell ?_ (by first | omega | (simp; done) | (simp; omega)) _) | (refine BW.trans ?_ (by assumption)))), new_at _ _ _ (by simp), (by repeat (first | exact BW.refl _ | assumption | apply BW.alloc | apply BW.drewN | apply BW.drew | (refine BW.setCell ?_ (by first | omega | (simp; done) | (simp; omega)) _) | (refine BW.trans ?_ (by assumption))))⟩)
  case rest =>
  obtain ⟨rfl, rfl, H0, K0, hB0⟩ := hcut
  go_wp2_with fail
  clear ht
  go_loopw [8] (fun i wr => ∃ k : Nat, k ≤ 0 ∧ i = .int .i64 k ∧ HeapIs wr w.heap.size w.heap.size 200 k (TC 7 (zs.take k)) ∧ Bare wr (w.heap.size + 1) ∧ BW w wr) (fun i _ => 0 - (intOf i).toNat)
  case atStart => exact ⟨0, by omega, rfl, by simpa [TC] using H0, K0, hB0⟩
  case round =>
    clear H0 K0 hB0
    obtain ⟨k, hk, rfl, HR, KR, hbw⟩ := hrel
    by_cases hlt : k < 0
    · omega
    · obtain rfl : 0 = k := by omega
      go_wp2_with fail
      go_loopw [11] (fun i wr => ∃ k : Nat, k ≤ 0 ∧ i = .int .i64 k ∧ HeapIs wr w.heap.size w.heap.size 200 0 (TC 7 (zs.take 0)) ∧ Bare wr (w.heap.size + 1) ∧ BW w wr) (fun i _ => 0 - (intOf i).toNat)
      case atStart => exact ⟨0, by omega, rfl, HR, KR, hbw⟩
      case round =>
        clear HR KR hbw
        obtain ⟨j, hj, rfl, HR, KR, hbw⟩ := hrel
        by_cases hjl : j < 0
        · omega
        · go_wp2_with (go_at_call 7; refine (awake_any _).mono ?_; rintro e v1 ⟨rfl, hb1⟩)
          go_ret
          exact ⟨rfl, (by repeat (first | exact BW.refl _ | assumption | apply BW.alloc | apply BW.drewN | apply BW.drew | (refine BW.setCell ?_ (by first | omega | (simp; done) | (simp; omega)) _) | (refine BW.trans ?_ (by assumption))))⟩
set_option maxRecDepth 100000 in
set_option maxHeartbeats 8000000 in
theorem things_7n (w : World) (b off len cap : Nat) (hb : b < w.heap.size) (zs : List Int) (hlen : zs.length = len) (hl : len ≤ 100) (hc : ∀ k, k < len → w.cell? ⟨b, off + k, none⟩ = some (.int .i64 (zs[k]?.getD 0))) (tag : Int) (h0 : 0 ≤ tag) (h1 : tag ≤ 255) (ht : tag % 2 = 1) :
    Calls Try.prog 6 #[.slice (some ⟨b, off, none⟩) len cap, .int .u8 tag] w fun e w' => e = .returned (.bool true) ∧ BW w w' := by
  go_enter Try.func6, Try.ntmps6
  go_upto_region 3 with fail
  go_cut [5, 6] (fun p q wx => p = .pointer (some ⟨w.heap.size, 0, none⟩) ∧ q = .pointer (some ⟨w.heap.size + 1, 0, none⟩) ∧ HeapIs wx w.heap.size w.heap.size 200 0 [] ∧ Bare wx (w.heap.size + 1) ∧ BW w wx)
  case first =>
    go_wp2_with (go_at_call 8; refine (new_any 200 200 (by decide) _).mono ?_; rintro e w1 ⟨rfl, rfl⟩)
    all_goals (go_meet; case rel => exact ⟨rfl, by simp, (heap_new w _ (Nat.le_refl _) _).bw (by repeat (first | exact BW.refl _ | assumption | apply BW.alloc | apply BW.drewN | apply BW.drew | (refine BW.setCell ?_ (by first | omega | (simp; done) | (simp; omega)) _) | (refine BW.trans ?_ (by assumption)))), new_at _ _ _ (by simp), (by repeat (first | exact BW.refl _ | assumption | apply BW.alloc | apply BW.drewN | apply BW.drew | (refine BW.setCell ?_ (by first | omega | (simp; done) | (simp; omega)) _) | (refine BW.trans ?_ (by assumption))))⟩)
  case rest =>
  obtain ⟨rfl, rfl, H0, K0, hB0⟩ := hcut
  go_wp2_with fail
  clear ht
  go_loopw [8] (fun i wr => ∃ k : Nat, k ≤ len ∧ i = .int .i64 k ∧ HeapIs wr w.heap.size w.heap.size 200 k (TC 7 (zs.take k)) ∧ Bare wr (w.heap.size + 1) ∧ BW w wr) (fun i _ => len - (intOf i).toNat)
  case atStart => exact ⟨0, by omega, rfl, by simpa [TC] using H0, K0, hB0⟩
  case round =>
    clear H0 K0 hB0
    obtain ⟨k, hk, rfl, HR, KR, hbw⟩ := hrel
    by_cases hlt : k < len
    · have hcx := (hbw.cells b (off + k) hb).trans (hc k hlt)
      clear hc
      have TS := take_snoc' zs k (by omega)
      have HT : Hid (TC 7 (zs.take (k + 1)) = TC 7 (zs.take k) ++ thing 7 0 0 ⟨#[]⟩ 0 0 ⟨#[]⟩ (zs[k]?.getD 0)) := by rw [TS]; exact TC_snoc _ _ _
      clear TS
      generalize zs[k]?.getD 0 = x at hcx HT
      go_wp2_with (go_at_call 10; go_must (refine (make_room w.heap.size w.heap.size 200 k _ (by omega) (by omega) _ _ (by decide) _ HR).mono ?_); rintro e w1 ⟨rfl, H1, F1⟩; have B1 : BW w w1 := Below.trans hbw F1.bel; have z1 := F1.size; have K1 := KR.fr F1 (by omega))
      go_roundw
      case rel => exact ⟨k + 1, by omega, by go_num, by rw [HT.out]; exact H1.bw (by repeat (first | exact BW.refl _ | assumption | apply BW.alloc | apply BW.drewN | apply BW.drew | (refine BW.setCell ?_ (by first | omega | (simp; done) | (simp; omega)) _) | (refine BW.trans ?_ (by assumption)))), K1.bw (by repeat (first | exact BW.refl _ | assumption | apply BW.alloc | apply BW.drewN | apply BW.drew | (refine BW.setCell ?_ (by first | omega | (simp; done) | (simp; omega)) _) | (refine BW.trans ?_ (by assumption)))), (by repeat (first | exact BW.refl _ | assumption | apply BW.alloc | apply BW.drewN | apply BW.drew | (refine BW.setCell ?_ (by first | omega | (simp; done) | (simp; omega)) _) | (refine BW.trans ?_ (by assumption))))⟩
      case measure => simp [intOf]; omega
    · obtain rfl : len = k := by omega
      go_wp2_with fail
      go_loopw [11] (fun i wr => ∃ k : Nat, k ≤ len ∧ i = .int .i64 k ∧ HeapIs wr w.heap.size w.heap.size 200 len (TC 7 (zs.take len)) ∧ Bare wr (w.heap.size + 1) ∧ BW w wr) (fun i _ => len - (intOf i).toNat)
      case atStart => exact ⟨0, by omega, rfl, HR, KR, hbw⟩
      case round =>
        clear HR KR hbw
        obtain ⟨j, hj, rfl, HR, KR, hbw⟩ := hrel
        by_cases hjl : j < len
        · have hcx := (hbw.cells b (off + j) hb).trans (hc j hjl)
          have zw := hbw.size
          have lb : b < wr.heap.size := by omega
          have x1 := TC_tag 7 (zs.take len) j (by simp; omega)
          have x2 := TC_num 7 (zs.take len) j (by simp; omega)
          have e3 : (zs.take len)[j]?.getD 0 = zs[j]?.getD 0 := by simp [List.getElem?_take, hjl]
          rw [e3] at x2
          clear hc e3
          generalize zs[j]?.getD 0 = x at hcx x2
          have X1 : Hid _ := x1
          have X2 : Hid _ := x2
          clear x1 x2
          go_wp2_with fail
          refine (thing_ok w.heap.size w.heap.size 200 len _ 7 (by decide) j hjl (by omega) X1.out _ X2.out _ (HR.bw (by repeat (first | exact BW.refl _ | assumption | apply BW.alloc | apply BW.drewN | apply BW.drew | (refine BW.setCell ?_ (by first | omega | (simp; done) | (simp; omega)) _) | (refine BW.trans ?_ (by assumption)))))).mono ?_
          rintro e w1 ⟨rfl, hb1⟩
          have z1 := hb1.size
          (try simp at z1)
          have q1 := fun o => hb1.cells wr.heap.size o (by first | omega | (simp; done) | (simp; omega))
          have g1 := hb1.cells b (off + j) (by first | omega | (simp; done) | (simp; omega))
          have l1 : wr.heap.size < w1.heap.size := (by first | omega | (simp; done) | (simp; omega))
          go_wp2_with fail
          refine (thing_no _ _ _ _ (by decide) _ (Bare.no (KR.bw (by repeat (first | exact BW.refl _ | assumption | apply BW.alloc | apply BW.drewN | apply BW.drew | (refine BW.setCell ?_ (by first | omega | (simp; done) | (simp; omega)) _) | (refine BW.trans ?_ (by assumption))))) _ j)).mono ?_
          rintro e w2 ⟨rfl, hb2⟩
          have z2 := hb2.size
          (try simp at z2)
          have q2 := fun o => hb2.cells wr.heap.size o (by first | omega | (simp; done) | (simp; omega))
          have g2 := hb2.cells b (off + j) (by first | omega | (simp; done) | (simp; omega))
          have l2 : wr.heap.size < w2.heap.size := (by first | omega | (simp; done) | (simp; omega))
          go_wp2_with fail
          refine (thing_no _ _ _ _ (by decide) _ (other_no (HR.bw (by repeat (first | exact BW.refl _ | assumption | apply BW.alloc | apply BW.drewN | apply BW.drew | (refine BW.setCell ?_ (by first | omega | (simp; done) | (simp; omega)) _) | (refine BW.trans ?_ (by assumption))))) 6 7 (by decide) j hjl (by omega) X1.out)).mono ?_
          rintro e w3 ⟨rfl, hb3⟩
          have z3 := hb3.size
          (try simp at z3)
          have g3 := hb3.cells b (off + j) (by first | omega | (simp; done) | (simp; omega))
          go_wp2_with fail
          go_roundw
          case rel => exact ⟨j + 1, by omega, by go_num, HR.bw (by repeat (first | exact BW.refl _ | assumption | apply BW.alloc | apply BW.drewN | apply BW.drew | (refine BW.setCell ?_ (by first | omega | (simp; done) | (simp; omega)) _) | (refine BW.trans ?_ (by assumption)))), KR.bw (by repeat (first | exact BW.refl _ | assumption | apply BW.alloc | apply BW.drewN | apply BW.drew | (refine BW.setCell ?_ (by first | omega | (simp; done) | (simp; omega)) _) | (refine BW.trans ?_ (by assumption)))), (by repeat (first | exact BW.refl _ | assumption | apply BW.alloc | apply BW.drewN | apply BW.drew | (refine BW.setCell ?_ (by first | omega | (simp; done) | (simp; omega)) _) | (refine BW.trans ?_ (by assumption))))⟩
          case measure => simp [intOf]; omega
        · go_wp2_with (go_at_call 7; refine (awake_any _).mono ?_; rintro e v1 ⟨rfl, hb1⟩)
          go_ret
          exact ⟨rfl, (by repeat (first | exact BW.refl _ | assumption | apply BW.alloc | apply BW.drewN | apply BW.drew | (refine BW.setCell ?_ (by first | omega | (simp; done) | (simp; omega)) _) | (refine BW.trans ?_ (by assumption))))⟩
/-- A slice of numbers that came in. -/
def IntsAt (w : World) (ao : Option Addr) (len : Nat) (zs : List Int) : Prop := zs.length = len ∧ len ≤ maxLen ∧ (len = 0 ∨ ∃ b off, ao = some ⟨b, off, none⟩ ∧ b < w.heap.size ∧ ∀ k, k < len → w.cell? ⟨b, off + k, none⟩ = some (.int .i64 (zs[k]?.getD 0)))
theorem things_walk (ao : Option Addr) (len cap : Nat) (zs : List Int) (tag : Int) (h0 : 0 ≤ tag) (h1 : tag ≤ 255) (w : World) (hI : IntsAt w ao len zs) :
    Calls Try.prog 6 #[.slice ao len cap, .int .u8 tag] w fun e w' => e = .returned (.bool true) ∧ BW w w' := by
  obtain ⟨hl, hm, hc⟩ := hI
  by_cases hf : 100 < len
  · exact things_far ao len cap tag hf hm w
  · rcases Int.emod_two_eq tag with ht | ht
    · rcases hc with rfl | ⟨b, off, rfl, hb, hc⟩
      · exact things_6z w ao cap zs (List.eq_nil_of_length_eq_zero hl) tag h0 h1 ht
      · exact things_6n w b off len cap hb zs hl (by omega) hc tag h0 h1 ht
    · rcases hc with rfl | ⟨b, off, rfl, hb, hc⟩
      · exact things_7z w ao cap zs (List.eq_nil_of_length_eq_zero hl) tag h0 h1 ht
      · exact things_7n w b off len cap hb zs hl (by omega) hc tag h0 h1 ht
end Go.Proofs.Ytgiehpcmijaomaa
