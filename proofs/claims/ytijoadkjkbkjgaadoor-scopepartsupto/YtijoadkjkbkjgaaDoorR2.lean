import Derived.Test.YtijoadkjkbkjgaaDoorI2
import Derived.Test.YtijoadkjkbkjgaaDoorR1
namespace Go.Proofs.YtijoadkjkbkjgaaDoor
open Go.RowKit
set_option linter.unusedVariables false
set_option linter.unusedSimpArgs false

/-- The reference's right, at a level. -/
def RefRight (n : Nat) : Prop := ∀ (v : Value) (t : Tr n) (d : Nat) (w : World), NodeAt w n v t → d ≤ 61 → sz n t ≤ 2000000 → Calls Tryd.prog 16 #[v, .int .i64 d] w fun e w' => e = .returned (.bool (decide (dep n t + d ≤ 61) && vl n t)) ∧ BW w w'
/-- A part is right, so deep. -/
def kok (n d : Nat) (x : Tr n) : Bool := decide (dep n x + (d + 1) ≤ 61) && vl n x
theorem rt_shp : ∀ {n : Nat} {t : Tr n}, rt n t = true → 1 ≤ knd n t ∧ knd n t ≤ 19
  | 0, t, _ => t.elim
  | n + 1, t, h => by
    obtain ⟨k, hk, fk⟩ := rt_fk h
    have h1 := fk.k1
    have h2 := fk.k2
    show 1 ≤ Nd.k (K := Tr n) t ∧ Nd.k (K := Tr n) t ≤ 19
    rw [hk]; omega
theorem vl_hi {n : Nat} {t : Tr n} (h : 16 < knd n t) : vl n t = false := by
  cases hv : vl n t with
  | false => rfl
  | true =>
    exfalso
    simp only [vl, Bool.and_eq_true, Bool.not_eq_true'] at hv
    obtain ⟨h1, h2⟩ := hv
    have := rt_shp h2
    simp only [isCl, Bool.or_eq_false_iff, beq_eq_false_iff_ne] at h1
    omega
set_option maxRecDepth 100000 in
set_option maxHeartbeats 1000000 in
theorem values_of {n : Nat} (ih : RefRight n) (t : Tr (n + 1)) (na : Option Addr) (nl nc : Nat) (ka : Option Addr) (kl kc : Nat) (m d : Nat) (w : World) (hs : SeqAt (NodeAt w n) w ka kl (Nd.ks (K := Tr n) t)) (hkc : kl ≤ kc) (hkm : kc ≤ maxLen) (hm : m ≤ kl) (hd : d ≤ 60) (hzz : ∀ x ∈ Nd.ks (K := Tr n) t, sz n x ≤ 2000000) (tk tn : Int) (ts : ByteArray) :
    Calls Tryd.prog 25 #[ndv tk tn ts na nl nc ka kl kc, .int .i64 0, .int .i64 m, .int .i64 d] w fun e w' => e = .returned (.bool (((Nd.ks (K := Tr n) t).take m).all (kok n d))) ∧ BW w w' := by
  have S2 : Hid (SeqAt (NodeAt w n) w ka kl (Nd.ks (K := Tr n) t)) := hs
  have IH : Hid (RefRight n) := ih
  have HZZ : Hid (∀ x ∈ Nd.ks (K := Tr n) t, sz n x ≤ 2000000) := hzz
  have hml : kl ≤ 9223372036854775807 := by unfold maxLen at hkm; omega
  generalize hR : ((Nd.ks (K := Tr n) t).take m).all (kok n d) = R
  have HR : Hid _ := hR
  clear hs ih hR hkm hzz
  go_enter Tryd.func25, Tryd.ntmps25
  go_wp2_with (fail)
  go_loopw [9] (fun i w' => ∃ j : Nat, j ≤ m ∧ Hid (((Nd.ks (K := Tr n) t).take j).all (kok n d) = true) ∧ i = .int .i64 j ∧ BW (bx w tk tn ts na nl nc ka kl kc) w') (fun i _ => m - (intOf i).toNat)
  case atStart => exact ⟨0, Nat.zero_le _, by simp [Hid], rfl, (by repeat (first | exact BW.refl _ | apply BW.alloc | apply BW.drewN | apply BW.drew))⟩
  case round =>
    obtain ⟨j, hj, HA, rfl, hb1⟩ := hrel
    obtain ⟨⟨g0, g1, g2, g3, g4⟩, hz1, hb⟩ := bx_at hb1
    by_cases hlt : j < m
    · obtain ⟨b, off, x, rfl, hbl, hx, r, hr, hax⟩ := SeqAt.get S2.out (show j < kl by omega)
      obtain ⟨hk, hss, hk0, hk1, hsm⟩ := hax.parts
      clear hss hsm
      have HX : Hid (NodeAt w n r.v x) := hax
      have HXX : Hid _ := hx
      have HZX : Hid (sz n x ≤ 2000000) := HZZ.out x (List.mem_of_getElem? hx)
      have HXT : Hid (((Nd.ks (K := Tr n) t).take m)[j]? = some x) := by show _ = _; rw [List.getElem?_take_of_lt hlt]; exact hx
      obtain ⟨d0, d1, d2, d3, d4⟩ := hr.bw hb hbl
      have hz := hb.size
      clear hax hx hr
      by_cases h16 : 16 < r.k
      · have e16 : decide ((16 : Int) < r.k) = true := by simpa using h16
        have HRF : Hid (R = false) := by
          show R = _
          rw [← HR.out]
          refine all_miss (kok n d) HXT.out ?_
          unfold kok
          rw [vl_hi (by rw [← hk]; exact h16)]
          simp
        go_wp2_with (fail)
        go_ret
        exact ⟨by rw [HRF.out]; rfl, hb⟩
      · have e16 : decide ((16 : Int) < r.k) = false := by simpa using h16
        have C : Hid (∀ w', BW wr w' → Calls Tryd.prog 16 #[r.v, .int .i64 ((d : Int) + 1)] w' fun e w'' => e = .returned (.bool (kok n d x)) ∧ BW w' w'') := fun w' h => by
          have := IH.out r.v x (d + 1) w' (HX.out.bw (BW.trans hb h)) (by omega) HZX.out
          push_cast at this
          exact this
        clear hk
        go_wp2_with (fail)
        refine (C.out wr (BW.refl _)).mono ?_
        rintro e w2 ⟨rfl, b2⟩
        have HB2 : Hid (BW (bx w tk tn ts na nl nc (some ⟨b, off, none⟩) kl kc) w2) := BW.trans hb1 b2
        cases hkx : kok n d x with
        | true =>
          have HQ : Hid (((Nd.ks (K := Tr n) t).take (j + 1)).all (kok n d) = true) := by show _ = true; rw [all_snoc (kok n d) HXX.out, HA.out, hkx]; rfl
          clear hkx
          go_wp2_with (fail)
          go_roundw
          case rel => exact ⟨j + 1, by omega, HQ, by go_num, HB2.out⟩
          case measure => simp [intOf]; omega
        | false =>
          have HRF : Hid (R = false) := by show R = _; rw [← HR.out]; exact all_miss (kok n d) HXT.out hkx
          clear hkx
          go_wp2_with (fail)
          go_ret
          exact ⟨by rw [HRF.out]; rfl, (bx_at HB2.out).2.2⟩
    · have hjn : m = j := by omega
      subst hjn
      have HRT : Hid (R = true) := by show R = _; rw [← HR.out]; exact HA.out
      go_wp2_with (fail)
      go_ret
      exact ⟨by rw [HRT.out]; rfl, hb⟩
set_option maxRecDepth 100000 in
set_option maxHeartbeats 1000000 in
theorem plain_of {n : Nat} (ih : RefRight n) (t : Tr (n + 1)) (na : Option Addr) (nl nc : Nat) (ka : Option Addr) (kl kc : Nat) (m d : Nat) (w : World) (hs : SeqAt (NodeAt w n) w ka kl (Nd.ks (K := Tr n) t)) (hkc : kl ≤ kc) (hkm : kc ≤ maxLen) (hnm : nl ≤ maxLen) (hd : d ≤ 60) (hzz : ∀ x ∈ Nd.ks (K := Tr n) t, sz n x ≤ 2000000) (tk tn : Int) (ts : ByteArray) :
    Calls Tryd.prog 22 #[ndv tk tn ts na nl nc ka kl kc, .int .i64 m, .int .i64 d] w fun e w' => e = .returned (.bool (decide (kl = m) && decide (nl = 0) && (Nd.ks (K := Tr n) t).all (kok n d))) ∧ BW w w' := by
  have hml : kl ≤ 9223372036854775807 := by unfold maxLen at hkm; omega
  have hmn : nl ≤ 9223372036854775807 := by unfold maxLen at hnm; omega
  have L2 : Hid ((Nd.ks (K := Tr n) t).length = kl) := hs.1
  have C : Hid (∀ w', BW w w' → kl = m → Calls Tryd.prog 25 #[ndv tk tn ts na nl nc ka kl kc, .int .i64 0, .int .i64 m, .int .i64 d] w' fun e w'' => e = .returned (.bool ((Nd.ks (K := Tr n) t).all (kok n d))) ∧ BW w' w'') := fun w' h e => by
    have := values_of ih t na nl nc ka kl kc m d w' (hs.bw h (fun _ _ hh => NodeAt.bw h hh)) hkc hkm (by omega) hd hzz tk tn ts
    rw [List.take_of_length_le (by rw [L2.out]; omega)] at this
    exact this
  generalize (Nd.ks (K := Tr n) t).all (kok n d) = q at *
  clear hs ih hkm hnm hzz
  by_cases h1 : kl = m
  · have e1 : ((kl : Int) == (m : Int)) = true := by simp; omega
    by_cases h2 : nl = 0
    · have e2 : ((nl : Int) == 0) = true := by simp; omega
      have C2 : Hid _ := fun w' h => C.out w' h h1
      have HE : Hid ((decide (kl = m) && decide (nl = 0) && q) = q) := by show _ = q; simp [h1, h2]
      clear h1 h2 C
      generalize (decide (kl = m) && decide (nl = 0) && q) = R at *
      go_enter Tryd.func22, Tryd.ntmps22
      go_wp2_with (fail)
      refine (C2.out _ (by repeat (first | exact BW.refl _ | assumption | apply BW.alloc | apply BW.drewN | apply BW.drew | (refine BW.setCell ?_ (by first | omega | (simp; done) | (simp; omega)) _) | (refine BW.trans ?_ (by assumption))))).mono ?_
      rintro e w2 ⟨rfl, b2⟩
      go_wp2_with (fail)
      go_ret
      exact ⟨by rw [HE.out]; rfl, (by repeat (first | exact BW.refl _ | assumption | apply BW.alloc | apply BW.drewN | apply BW.drew | (refine BW.setCell ?_ (by first | omega | (simp; done) | (simp; omega)) _) | (refine BW.trans ?_ (by assumption))))⟩
    · have e2 : ((nl : Int) == 0) = false := by simp; omega
      have HE : Hid ((decide (kl = m) && decide (nl = 0) && q) = false) := by show _ = false; simp [h2]
      clear C h1 h2
      generalize (decide (kl = m) && decide (nl = 0) && q) = R at *
      go_enter Tryd.func22, Tryd.ntmps22
      go_wp2_with (fail)
      go_ret
      exact ⟨by rw [HE.out]; rfl, (by repeat (first | exact BW.refl _ | assumption | apply BW.alloc | apply BW.drewN | apply BW.drew | (refine BW.setCell ?_ (by first | omega | (simp; done) | (simp; omega)) _) | (refine BW.trans ?_ (by assumption))))⟩
  · have e1 : ((kl : Int) == (m : Int)) = false := by simp; omega
    have HE : Hid ((decide (kl = m) && decide (nl = 0) && q) = false) := by show _ = false; simp [h1]
    clear C h1
    generalize (decide (kl = m) && decide (nl = 0) && q) = R at *
    go_enter Tryd.func22, Tryd.ntmps22
    go_wp2_with (fail)
    go_ret
    exact ⟨by rw [HE.out]; rfl, (by repeat (first | exact BW.refl _ | assumption | apply BW.alloc | apply BW.drewN | apply BW.drew | (refine BW.setCell ?_ (by first | omega | (simp; done) | (simp; omega)) _) | (refine BW.trans ?_ (by assumption))))⟩

end Go.Proofs.YtijoadkjkbkjgaaDoor
