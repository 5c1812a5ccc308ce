import Derived.Test.YtndhhmgbekcfoaaDoorQ15
import Derived.Test.YtndhhmgbekcfoaaDoorG1
import Derived.Test.YtndhhmgbekcfoaaDoorS9
namespace Go.Proofs.YtndhhmgbekcfoaaDoor
open Go.RowKit
set_option linter.unusedVariables false
set_option linter.unusedSimpArgs false

/-- A module of numbers and texts. -/
def mN (l : List Int) (ts : List ByteArray) : Mdl := ⟨l, ts, [⟨0, 1, 0, [⟨3, 0⟩]⟩], []⟩
theorem mN_may (l : List Int) (ts : List ByteArray) (h1 : l.length ≤ 100) (h2 : ts.length ≤ 100) (h3 : ∀ s ∈ ts, s.size ≤ 1000) : mayB (mN l ts) = true := by
  have a : ts.any (fun s => decide (65536 < s.size)) = false := by
    rw [List.any_eq_false]
    intro s hs
    have := h3 s hs
    simp; omega
  have b : l.length ≤ 4096 := by omega
  have c : ts.length ≤ 4096 := by omega
  simp [mayB, fitB, begB, mN, a, b, c, prB, insB, ef, plc, wi, inR]
theorem mN_len (l : List Int) (ts : List ByteArray) (h1 : l.length ≤ 100) (h2 : ts.length ≤ 100) (h3 : ∀ s ∈ ts, s.size ≤ 1000) : (en (mN l ts)).length ≤ 1048576 := by
  have a1 : (l.flatMap (fun n => nb (zz n))).length ≤ l.length * 10 := fm_le (fun x _ => (nb_len _).1)
  have a2 : (ts.flatMap (fun s => nb s.size ++ sb s)).length ≤ ts.length * 1010 := fm_le (fun x hx => by
    have := h3 x hx; have := (nb_len x.size).1; simp only [List.length_append, sb_len]; omega)
  have a3 : (enPros [⟨0, 1, 0, [⟨3, 0⟩]⟩]).length = 7 := by decide +kernel
  have a4 : (enTabs []).length = 1 := by decide +kernel
  have := (nb_len l.length).1; have := (nb_len ts.length).1
  simp only [en, mN, enInts, enTexts, List.length_append, List.length_cons, List.length_nil, a3, a4]
  omega
theorem mN_at {W : World} {B : Nat} {ao bo : Option Addr} {ln lc mn mc : Nat} {l : List Int} {ts : List ByteArray} (h1 : IntsAt W ao ln l) (h2 : StrsAt W bo mn ts) (k1 : ln ≤ lc) (k2 : lc ≤ maxLen) (k3 : mn ≤ mc) (k4 : mc ≤ maxLen)
    (hB : B + 1 < W.heap.size) (h0 : W.cell? ⟨B, 0, none⟩ = some (.int .u8 3)) (h01 : W.cell? ⟨B, 1, none⟩ = some (.int .i64 0))
    (p0 : W.cell? ⟨B + 1, 0, none⟩ = some (.int .i64 0)) (p1 : W.cell? ⟨B + 1, 1, none⟩ = some (.int .i64 1)) (p2 : W.cell? ⟨B + 1, 2, none⟩ = some (.int .i64 0)) (p3 : W.cell? ⟨B + 1, 3, none⟩ = some (.slice (some ⟨B, 0, none⟩) 1 1)) :
    ModAt W ⟨ao, ln, lc, bo, mn, mc, some ⟨B + 1, 0, none⟩, 1, 1, none, 0, 0⟩ (mN l ts) := by
  have := mA_at W W B hB h0 h01 p0 p1 p2 p3
  exact ⟨h1, h2, this.pros, this.tabs, k1, k2, k3, k4, this.p1, this.p2, this.h1, this.h2⟩
set_option maxRecDepth 100000 in
set_option maxHeartbeats 4000000 in
theorem packNumbers_any (ao bo : Option Addr) (ln lc mn mc : Nat) (l : List Int) (ts : List ByteArray) (w : World) (h1 : IntsAt w ao ln l) (h2 : StrsAt w bo mn ts) (k1 : ln ≤ lc) (k2 : lc ≤ maxLen) (k3 : mn ≤ mc) (k4 : mc ≤ maxLen) (hv : Vs w) :
    Calls Tryd.prog 7 #[.slice ao ln lc, .slice bo mn mc] w fun e w' => e = .returned (.bool true) ∧ BW w w' := by
  have HA : Hid (∀ w', BW w w' → Calls Tryd.prog 9 #[] w' fun e w'' => e = .returned (.bool true) ∧ BW w' w'') := fun w' k => awake_any w' (hv.bw k)
  have hll : l.length = ln := h1.1
  have hlt : ts.length = mn := h2.1
  have hmax : ln ≤ 9223372036854775807 ∧ mn ≤ 9223372036854775807 := by unfold maxLen at k2 k4; omega
  obtain ⟨hm1, hm2⟩ := hmax
  by_cases hi : 100 < ln
  · have e1 : decide ((100 : Int) < (ln : Int)) = true := by simp; omega
    clear h1 h2 hv hll hlt
    go_enter Tryd.func7, Tryd.ntmps7
    go_wp2_with (first | (go_at_call 9; go_loud (refine (HA.out _ (BW.refl _)).mono ?_; rintro e w9 ⟨rfl, b9⟩)))
    go_ret
    exact ⟨rfl, b9⟩
  have e1 : decide ((100 : Int) < (ln : Int)) = false := by simp; omega
  by_cases hi2 : 100 < mn
  · have e2 : decide ((100 : Int) < (mn : Int)) = true := by simp; omega
    clear h1 h2 hv hll hlt
    go_enter Tryd.func7, Tryd.ntmps7
    go_wp2_with (first | (go_at_call 9; go_loud (refine (HA.out _ (BW.refl _)).mono ?_; rintro e w9 ⟨rfl, b9⟩)))
    go_ret
    exact ⟨rfl, b9⟩
  have e2 : decide ((100 : Int) < (mn : Int)) = false := by simp; omega
  have H2 : Hid (StrsAt w bo mn ts) := h2
  have HT : Hid (ts.length = mn) := hlt
  -- all that comes behind the texts
  have MAIN : Hid ((∀ s ∈ ts, s.size ≤ 1000) → ModAt (((w.alloc (.cells #[.int .u8 3, .int .i64 0] 43)).alloc (.cells #[.int .i64 0, .int .i64 1, .int .i64 0, .slice (some ⟨w.heap.size, 0, none⟩) 1 1] 46)).alloc (.cells #[.slice ao ln lc, .slice bo mn mc, .slice (some ⟨w.heap.size + 1, 0, none⟩) 1 1, .slice none 0 0] 27)) ⟨ao, ln, lc, bo, mn, mc, some ⟨w.heap.size + 1, 0, none⟩, 1, 1, none, 0, 0⟩ (mN l ts) ∧ mayB (mN l ts) = true ∧ (en (mN l ts)).length ≤ 1048576) := fun hs => by
    refine ⟨?_, mN_may l ts (by omega) (by omega) hs, mN_len l ts (by omega) (by omega) hs⟩
    have hb : BW w (((w.alloc (.cells #[.int .u8 3, .int .i64 0] 43)).alloc (.cells #[.int .i64 0, .int .i64 1, .int .i64 0, .slice (some ⟨w.heap.size, 0, none⟩) 1 1] 46)).alloc (.cells #[.slice ao ln lc, .slice bo mn mc, .slice (some ⟨w.heap.size + 1, 0, none⟩) 1 1, .slice none 0 0] 27)) := (by repeat (first | exact BW.refl _ | apply BW.alloc | apply BW.drewN | apply BW.drew))
    have q := fun j => cell_new (w.alloc (.cells #[.int .u8 3, .int .i64 0] 43)) #[.int .i64 0, .int .i64 1, .int .i64 0, .slice (some ⟨w.heap.size, 0, none⟩) 1 1] 46 j
    rw [show (w.alloc (.cells #[.int .u8 3, .int .i64 0] 43)).heap.size = w.heap.size + 1 by simp] at q
    have o := fun j => ((BW.alloc (BW.refl ((w.alloc (.cells #[.int .u8 3, .int .i64 0] 43)).alloc (.cells #[.int .i64 0, .int .i64 1, .int .i64 0, .slice (some ⟨w.heap.size, 0, none⟩) 1 1] 46))) (.cells #[.slice ao ln lc, .slice bo mn mc, .slice (some ⟨w.heap.size + 1, 0, none⟩) 1 1, .slice none 0 0] 27)).cells (w.heap.size + 1) j (by simp)).trans (q j)
    have o2 := fun j => ((BW.alloc (BW.alloc (BW.refl (w.alloc (.cells #[.int .u8 3, .int .i64 0] 43))) (.cells #[.int .i64 0, .int .i64 1, .int .i64 0, .slice (some ⟨w.heap.size, 0, none⟩) 1 1] 46)) (.cells #[.slice ao ln lc, .slice bo mn mc, .slice (some ⟨w.heap.size + 1, 0, none⟩) 1 1, .slice none 0 0] 27)).cells w.heap.size j (by simp)).trans (cell_new w #[.int .u8 3, .int .i64 0] 43 j)
    exact mN_at (h1.bw hb) (h2.bw hb) k1 k2 k3 k4 (by simp) (o2 0) (o2 1) (o 0) (o 1) (o 2) (o 3)
  have HPut : Hid (∀ x r m, BW w x → ModAt x r m → Calls Tryd.prog 10 #[r.v] x (PutPost m x)) := fun x r m k hm => put_any r m x hm (hv.bw k)
  have HGet : Hid (∀ x g c l, BW w x → BysAt x g c l → Calls Tryd.prog 12 #[.slice g l.length c] x (GetPost l x)) := fun x g c l k hb => get_any x g c l hb (hv.bw k)
  clear h1 h2 hv hll hlt hi hi2
  go_enter Tryd.func7, Tryd.ntmps7
  go_wp2_with (fail)
  go_loopw [5] (fun i w' => ∃ k : Nat, k ≤ mn ∧ Hid (∀ s ∈ ts.take k, s.size ≤ 1000) ∧ i = .int .i64 k ∧ w' = w) (fun i _ => mn - (intOf i).toNat)
  case atStart => exact ⟨0, Nat.zero_le _, fun s hs => by simp at hs, rfl, rfl⟩
  case round =>
    obtain ⟨k, hk, HS, rfl, rfl⟩ := hrel
    by_cases hlt : k < mn
    · obtain ⟨b, off, s, rfl, hbl, hx, hsz, hc0⟩ := StrsAt.get H2.out hlt
      have hsz2 : s.size ≤ 9223372036854775807 := by unfold maxLen at hsz; exact hsz
      by_cases h1000 : 1000 < s.size
      · have e3 : decide ((1000 : Int) < (s.size : Int)) = true := by simp; omega
        clear hx
        go_wp2_with (first | (go_at_call 9; go_loud (refine (HA.out _ (BW.refl _)).mono ?_; rintro e w9 ⟨rfl, b9⟩)))
        go_ret
        exact ⟨rfl, b9⟩
      · have e3 : decide ((1000 : Int) < (s.size : Int)) = false := by simp; omega
        have HS2 : Hid (∀ s ∈ ts.take (k + 1), s.size ≤ 1000) := fun y hy => by
          rw [List.take_add_one, hx] at hy
          simp only [Option.toList_some, List.mem_append, List.mem_singleton] at hy
          rcases hy with hy | rfl
          · exact HS.out y hy
          · omega
        clear hx
        go_wp2_with (fail)
        go_roundw
        case rel => exact ⟨k + 1, by omega, HS2, by go_num, (by first | rfl | trivial)⟩
        case measure => simp [intOf]; omega
    · obtain rfl : k = mn := by omega
      have hall : ∀ s ∈ ts, s.size ≤ 1000 := fun s hs => HS.out s (by rw [List.take_of_length_le (by have := HT.out; omega)]; exact hs)
      obtain ⟨hmod, hmay, hlen⟩ := MAIN.out hall
      have hgm : Gm (mN l ts) := gm_of hmod hmay
      have hget : dGet (en (mN l ts)) = some (mN l ts) := dGet_en hgm hmay hlen
      have hbyt : Byt (en (mN l ts)) := en_byte hgm
      have hpos : 0 < (en (mN l ts)).length := by simp [en]
      have hsm : smM (mN l ts) (mN l ts) = true := (smM_eq _ _).2 rfl
      generalize mN l ts = m at *
      obtain ⟨X, hX⟩ : ∃ X, X = (((wr.alloc (.cells #[.int .u8 3, .int .i64 0] 43)).alloc (.cells #[.int .i64 0, .int .i64 1, .int .i64 0, .slice (some ⟨wr.heap.size, 0, none⟩) 1 1] 46)).alloc (.cells #[.slice ao ln lc, .slice bo k mc, .slice (some ⟨wr.heap.size + 1, 0, none⟩) 1 1, .slice none 0 0] 27)) := ⟨_, rfl⟩
      have hbx : BW wr X := by rw [hX]; exact (by repeat (first | exact BW.refl _ | apply BW.alloc | apply BW.drewN | apply BW.drew))
      rw [← hX] at hmod
      have HBX : Hid (BW wr X) := hbx
      have x0 : ∀ j, X.cell? ⟨wr.heap.size + 1 + 1, j, none⟩ = (#[.slice ao ln lc, .slice bo k mc, .slice (some ⟨wr.heap.size + 1, 0, none⟩) 1 1, .slice none 0 0] : Array Value)[j]? := fun j => by
        rw [hX]
        have := cell_new ((wr.alloc (.cells #[.int .u8 3, .int .i64 0] 43)).alloc (.cells #[.int .i64 0, .int .i64 1, .int .i64 0, .slice (some ⟨wr.heap.size, 0, none⟩) 1 1] 46)) #[.slice ao ln lc, .slice bo k mc, .slice (some ⟨wr.heap.size + 1, 0, none⟩) 1 1, .slice none 0 0] 27 j
        simpa using this
      have hXs : wr.heap.size + 1 + 1 < X.heap.size := by rw [hX]; simp
      have HX : Hid (X = (((wr.alloc (.cells #[.int .u8 3, .int .i64 0] 43)).alloc (.cells #[.int .i64 0, .int .i64 1, .int .i64 0, .slice (some ⟨wr.heap.size, 0, none⟩) 1 1] 46)).alloc (.cells #[.slice ao ln lc, .slice bo k mc, .slice (some ⟨wr.heap.size + 1, 0, none⟩) 1 1, .slice none 0 0] 27))) := hX
      have HP : Hid (Calls Tryd.prog 10 #[.agg #[.slice ao ln lc, .slice bo k mc, .slice (some ⟨wr.heap.size + 1, 0, none⟩) 1 1, .slice none 0 0]] X fun e w' => (∃ v, e = .returned (.tuple #[v, .int .i64 0]) ∧ w'.ownsRow X.heap.size 5 1 v (en m).length (bs (en m))) ∧ BW X w') := (HPut.out X ⟨ao, ln, lc, bo, k, mc, some ⟨wr.heap.size + 1, 0, none⟩, 1, 1, none, 0, 0⟩ m hbx hmod).mono (fun e w'' h => by
        rcases h.2 with ⟨_, v, h3, h4⟩ | ⟨h3, _⟩
        · exact ⟨⟨v, h3, h4⟩, h.1⟩
        · rw [hmay] at h3; cases h3)
      have HMD : Hid (∀ w', BW X w' → ModAt w' ⟨ao, ln, lc, bo, k, mc, some ⟨wr.heap.size + 1, 0, none⟩, 1, 1, none, 0, 0⟩ m) := fun w' k => hmod.bw k
      have HG : Hid (∀ w1 ao c, BW X w1 → BysAt w1 ao c (en m) → Calls Tryd.prog 12 #[.slice ao (en m).length c] w1 fun e w' => BW w1 w' ∧ ∃ r : Mw, e = .returned (.tuple #[r.v, .int .i64 0]) ∧ ModAt w' r m) := fun w1 ao c k hb => (HGet.out w1 ao c (en m) (hbx.trans k) hb).mono (fun e w' h => by
        obtain ⟨h5, h6⟩ := h
        rw [hget] at h6
        exact ⟨h5, h6⟩)
      have HSm : Hid (∀ w' r, ModAt w' ⟨ao, ln, lc, bo, k, mc, some ⟨wr.heap.size + 1, 0, none⟩, 1, 1, none, 0, 0⟩ m → ModAt w' r m → Calls Tryd.prog 14 #[.agg #[.slice ao ln lc, .slice bo k mc, .slice (some ⟨wr.heap.size + 1, 0, none⟩) 1 1, .slice none 0 0], r.v] w' fun e w'' => e = .returned (.bool true) ∧ BW w' w'') := fun w' r k1 k2 => by
        have := refSame_any ⟨ao, ln, lc, bo, k, mc, some ⟨wr.heap.size + 1, 0, none⟩, 1, 1, none, 0, 0⟩ r m m w' k1 k2
        rw [hsm] at this
        exact this
      clear hX hbx hmod hmay hlen hgm hget hsm HPut HGet MAIN hall HS H2 HT
      have HBY : Hid (Byt (en m)) := hbyt
      clear hbyt
      generalize en m = xs at *
      go_wp2_with (first
        | (go_at_call 10; go_loud (rw [← HX.out]; refine Calls.mono HP.out ?_; rintro e w1 ⟨⟨v1, rfl, o1⟩, b1⟩; obtain ⟨g, c, rfl, hg, hz, hc, hm, hB⟩ := own_bytes o1 hpos; have B1 : Hid (BW X w1) := b1; have y0 := fun j => (b1.cells (wr.heap.size + 1 + 1) j hXs).trans (x0 j); have BY : Hid (BysAt w1 (some ⟨g, 0, none⟩) c xs) := ⟨hc, hm, HBY.out, .inr ⟨g, 0, rfl, hz, hB⟩⟩; clear b1 o1 hB))
        | (go_at_call 12; go_loud (refine Calls.mono (HG.out w1 _ c B1.out BY.out) ?_; rintro e w2 ⟨b2, r2, rfl, hm2⟩; obtain ⟨ia', il', ic', ta', tl', tc', pa', pl', pc', ha', hl', hc'⟩ := r2; have M2 : Hid _ := hm2; have B2 : Hid (BW X w2) := BW.trans B1.out b2; have z0 : ∀ j, w2.cell? ⟨wr.heap.size + 1 + 1, j, none⟩ = _ := fun j => (B2.out.cells (wr.heap.size + 1 + 1) j hXs).trans (x0 j); have z00 := z0 0; have z01 := z0 1; have z02 := z0 2; have z03 := z0 3; simp at z00 z01 z02 z03; have zz2 : wr.heap.size + 1 + 1 < w2.heap.size := (by have := B2.out.size; omega); clear b2 hm2 z0))
        | (go_at_call 14; go_loud (refine Calls.mono (HSm.out _ ⟨ia', il', ic', ta', tl', tc', pa', pl', pc', ha', hl', hc'⟩ (HMD.out _ (BW.trans B2.out (by repeat (first | exact BW.refl _ | assumption | apply BW.alloc | apply BW.drewN | apply BW.drew | (refine BW.setCell ?_ (by first | omega | (simp; done) | (simp; omega)) _) | (refine BW.trans ?_ (by assumption)))))) (ModAt.bw M2.out (by repeat (first | exact BW.refl _ | assumption | apply BW.alloc | apply BW.drewN | apply BW.drew | (refine BW.setCell ?_ (by first | omega | (simp; done) | (simp; omega)) _) | (refine BW.trans ?_ (by assumption)))))) ?_; rintro e w3 ⟨rfl, b3⟩))
        | (go_at_call 9; go_loud (refine (HA.out _ (BW.trans HBX.out (BW.trans B2.out (by repeat (first | exact BW.refl _ | assumption | apply BW.alloc | apply BW.drewN | apply BW.drew | (refine BW.setCell ?_ (by first | omega | (simp; done) | (simp; omega)) _) | (refine BW.trans ?_ (by assumption))))))).mono ?_; rintro e w9 ⟨rfl, b9⟩)))
      go_ret
      exact ⟨rfl, BW.trans HBX.out (BW.trans B2.out (by repeat (first | exact BW.refl _ | assumption | apply BW.alloc | apply BW.drewN | apply BW.drew | (refine BW.setCell ?_ (by first | omega | (simp; done) | (simp; omega)) _) | (refine BW.trans ?_ (by assumption)))))⟩

end Go.Proofs.YtndhhmgbekcfoaaDoor
