import Derived.Test.YtfgnlddfpemblaaDoorS19
import Derived.Test.YtfgnlddfpemblaaDoorV1
import Derived.Deep.RegionHeld3
import Derived.Deep.DeepCutAuto
namespace Go.Proofs.YtfgnlddfpemblaaDoor
open Go.RowKit
set_option linter.unusedVariables false
set_option linter.unusedSimpArgs false

theorem Tryd.info34 : (Tryd.prog.info? 34).map (fun i => (i.zero, i.size, i.bytes)) = some (some (.agg #[.int .u8 0, .int .u8 0, .int .i64 0, .string ⟨#[]⟩, .int .u8 0, .int .i64 0, .string ⟨#[]⟩, .int .i64 0]), 8, 80) := by kernel_rfl
set_option maxRecDepth 100000 in
set_option maxHeartbeats 1000000 in
theorem showShows_long (ao : Option Addr) (ln cp : Nat) (tv nv : Int) (sv : ByteArray) (h : 120 < ln) (w : World) (ht : Tab w) : Calls Tryd.prog 3 #[.slice ao ln cp, V tv nv sv] w fun e w' => e = .returned (.bool true) ∧ BW w w' := by
  have e1 : decide ((120 : Int) < (ln : Int)) = true := by simp; omega
  go_enter Tryd.func3, Tryd.ntmps3
  go_wp2_with (fail)
  refine (awake_any _ (ht.bw (by repeat (first | exact BW.refl _ | apply BW.alloc | apply BW.drewN | apply BW.drew)))).mono ?_
  rintro e w1 ⟨rfl, hb1⟩
  go_wp2_with (fail)
  go_ret
  exact ⟨rfl, BW.trans (by repeat (first | exact BW.refl _ | apply BW.alloc | apply BW.drewN | apply BW.drew)) hb1⟩
/-- The heap and the row of the reference's, at the loop's head. -/
structure Both (w : World) (mv : Value) (ps : List (Va × Va)) (w' : World) : Prop where
  heap : HeapIs w' (w.heap.size + 1) (w.heap.size + 1) 1000 ps.length (cellsOf ps)
  form : ∃ g cap, mv = .slice (some ⟨g, 0, none⟩) ps.length cap
  own : w'.ownsRow w.heap.size 34 8 mv ps.length (cellsOf ps)
  bw : BW w w'
theorem Both.step {w w' w'' : World} {mv : Value} {ps : List (Va × Va)} (h : Both w mv ps w') (k : BW w' w'') : Both w mv ps w'' := ⟨h.heap.bw k, h.form, own_bw h.own k, h.bw.trans k⟩
theorem own34_ty {w : World} {B : Nat} {v : Value} {n : Nat} {xs : List Value} (h : w.ownsRow B 34 8 v n xs) : ∀ k, v.ownBlock = some k → B ≤ k ∧ ∃ c, w.heap[k]? = some (.cells c 34 (0, 0)) := by
  intro k hk
  rcases h.2 with ⟨rfl, _⟩ | ⟨g, cap, cur, rfl, hb, hg, _⟩
  · simp [Value.ownBlock] at hk
  · simp [Value.ownBlock] at hk
    subst hk
    exact ⟨hb, cur, hg⟩
theorem own34_fr {w w' : World} {B b base : Nat} {v : Value} {n : Nat} {xs : List Value} {lim : Int} {m : Nat} {ys : List Value} {base' : Nat} (h : w.ownsRow B 34 8 v n xs) (H : HeapIs w base' b lim m ys) (F : Fr base b w w') : w'.ownsRow B 34 8 v n xs := by
  obtain ⟨h2, h3⟩ := h
  refine ⟨h2, ?_⟩
  rcases h3 with h3 | ⟨g, cap, cur, e, hg, hh, r⟩
  · exact .inl h3
  · refine .inr ⟨g, cap, cur, e, hg, ?_, r⟩
    obtain ⟨_, u, h1, _⟩ := H
    exact (F.oth g (Array.getElem?_eq_some_iff.1 hh).1 (by rintro rfl; rw [h1] at hh; simp at hh) (fun c f e => by rw [hh] at e; simp at e)).trans hh
theorem at_grow34 {w w' : World} {row : Option Nat} {k t : Nat} {c : Array Value} (h : w.heap[k]? = some (.cells c t (0, 0))) (ht : t ≠ 34) (hg : w.grownBy w' row) (hr : ∀ r, row = some r → ∃ c, w.heap[r]? = some (.cells c 34 (0, 0))) : w'.heap[k]? = some (.cells c t (0, 0)) :=
  (hg.block k (Array.getElem?_eq_some_iff.1 h).1 (fun e => by obtain ⟨d, hd⟩ := hr k e.symm; rw [h] at hd; simp at hd; exact ht hd.2)).trans h
theorem HeapIs.grow34 {w w' : World} {base b : Nat} {lim : Int} {n : Nat} {xs : List Value} {row : Option Nat} (h : HeapIs w base b lim n xs) (hg : w.grownBy w' row) (hr : ∀ r, row = some r → ∃ c, w.heap[r]? = some (.cells c 34 (0, 0))) : HeapIs w' base b lim n xs := by
  obtain ⟨hb, v, h1, h2, h3⟩ := h
  refine ⟨hb, v, at_grow34 h1 (by decide) hg hr, h2, ?_⟩
  rcases h3 with h3 | ⟨g, cap, cur, e, hgb, hh, r⟩
  · exact .inl h3
  · exact .inr ⟨g, cap, cur, e, hgb, at_grow34 hh (by decide) hg hr, r⟩
def L1 (w : World) (ln : Nat) (tv nv : Int) (sv : ByteArray) (mv i : Value) (w' : World) : Prop := ∃ (k : Nat) (ps : List (Va × Va)), ps.length ≤ k ∧ k ≤ ln ∧ i = .int .i64 k ∧ (∀ p ∈ ps, Fine2 p.1 ∧ Fine2 p.2) ∧ Both w mv ps w' ∧ w'.heap[w.heap.size]? = some (.cells #[.int .u8 tv, .int .i64 nv, .string sv] 24 (0, 0))

set_option maxRecDepth 100000 in
set_option maxHeartbeats 4000000 in
theorem showShows_walk (ao : Option Addr) (ln cp : Nat) (zs : List Va) (tv nv : Int) (sv : ByteArray) (wv : Wf ⟨tv, nv, sv⟩) (hl : ¬ 120 < ln) (w : World) (hv : ValsAt w ao ln zs) (ht : Tab w) : Calls Tryd.prog 3 #[.slice ao ln cp, V tv nv sv] w fun e w' => e = .returned (.bool true) ∧ BW w w' := by
  obtain ⟨i0, hi, hz0, hz1, hz2⟩ := info_parts Tryd.info34
  have e1 : decide ((120 : Int) < (ln : Int)) = false := by simp; omega
  go_enter Tryd.func3, Tryd.ntmps3
  go_wp2_with (fail)
  refine (new_any 1000 1000 (by decide) _).mono ?_
  rintro e w0 ⟨rfl, rfl⟩
  go_wp2_with (fail)
  go_loopw [6, 7] (fun mv i w' => L1 w ln tv nv sv mv i w') (fun _ i _ => ln - (intOf i).toNat)
  case atStart =>
    refine ⟨0, [], Nat.le_refl _, Nat.zero_le _, rfl, by simp, ⟨?_, ⟨_, _, rfl⟩, ?_, (by repeat (first | exact BW.refl _ | apply BW.alloc | apply BW.drewN | apply BW.drew))⟩, new3_a _ _ _ _⟩
    · have := HeapIs.new (w.alloc (.cells #[.int .u8 tv, .int .i64 nv, .string sv] 24)) 1000
      have e : (w.alloc (.cells #[.int .u8 tv, .int .i64 nv, .string sv] 24)).heap.size = w.heap.size + 1 := by simp
      rw [e] at this
      exact this.bw (by repeat (first | exact BW.refl _ | apply BW.alloc | apply BW.drewN | apply BW.drew))
    · exact ⟨rfl, .inr ⟨w.heap.size + 1 + 1, 0, #[], rfl, by omega, new3_c _ _ _ _, Nat.le_refl _, Nat.zero_le _, rfl, rfl⟩⟩
  case round =>
    obtain ⟨k, ps, hjk, hk, rfl, hps, hB, hbox⟩ := hrel
    obtain ⟨g, cap, rfl⟩ := hB.form
    have hh1 := hB.heap.lt
    have hv' := hv.bw hB.bw
    have hzr := hB.bw.size
    by_cases hlt : k + 1 < ln
    · obtain ⟨hzl, hlm, hwf, h4⟩ := hv'
      rcases h4 with h4 | ⟨b, off, rfl, hbl, hcells⟩
      · omega
      obtain ⟨x, hx⟩ : ∃ z, zs[k]? = some z := ⟨_, List.getElem?_eq_getElem (by omega)⟩
      obtain ⟨y, hy⟩ : ∃ z, zs[k + 1]? = some z := ⟨_, List.getElem?_eq_getElem (by omega)⟩
      have wx := hwf x (List.mem_of_getElem? hx)
      have wy := hwf y (List.mem_of_getElem? hy)
      obtain ⟨cx0, cx1, cx2⟩ := hcells k x hx
      obtain ⟨cy0, cy1, cy2⟩ := hcells (k + 1) y hy
      clear hcells hwf hx hy
      obtain ⟨tx, nx, sx⟩ := x
      obtain ⟨ty, ny, sy⟩ := y
      have hi1 : IntKind.i64.wrap ((k : Int) + 1) = (k : Int) + 1 := i64w _ (by omega) (by omega)
      have hi2 : IntKind.i64.wrap ((k : Int) + 2) = (k : Int) + 2 := i64w _ (by omega) (by omega)
      have hlt2 : (k : Int) + 1 < (ln : Int) := by omega
      have hix : 0 ≤ (k : Int) ∧ (k : Int) < (ln : Int) := by omega
      have hiy : 0 ≤ (k : Int) + 1 ∧ (k : Int) + 1 < (ln : Int) := by omega
      have htn : ((k : Int) + 1).toNat = k + 1 := by omega
      have hB' : Hid _ := hB
      have hbox' : Hid _ := hbox
      have hps' : Hid _ := hps
      have hAw : Hid (∀ v, BW w v → Calls Tryd.prog 8 #[] v fun e w' => e = .returned (.bool true) ∧ BW v w') := fun v hb => awake_any v (ht.bw hb)
      have hMx : Hid (∀ v, Calls Tryd.prog 10 #[V tx nx sx] v fun e w' => e = .returned (.bool (mayB tx nx sx)) ∧ BW v w') := may_any tx nx sx wx.t0 wx.s
      have hMy : Hid (∀ v, Calls Tryd.prog 10 #[V ty ny sy] v fun e w' => e = .returned (.bool (mayB ty ny sy)) ∧ BW v w') := may_any ty ny sy wy.t0 wy.s
      clear hB hbox hps hv ht
      go_upto_region 8 with fail
      go_cut [8, 9] (fun p0 p1 wx => ∃ b0 b1, p0 = .pointer (some ⟨b0, 0, none⟩) ∧ p1 = .pointer (some ⟨b1, 0, none⟩) ∧ BW wr wx ∧ b0 ≠ b1 ∧ wr.heap.size ≤ b0 ∧ wr.heap.size ≤ b1 ∧ wx.heap[b0]? = some (.cells #[.int .u8 tx, .int .i64 nx, .string sx] 24 (0, 0)) ∧ wx.heap[b1]? = some (.cells #[.int .u8 ty, .int .i64 ny, .string sy] 24 (0, 0)))
      case first =>
        go_region_held3 (fun w' => w'.cell? ⟨b, off + k * 3, none⟩ = some (.int .u8 tx) ∧ w'.cell? ⟨b, off + k * 3 + 1, none⟩ = some (.int .i64 nx) ∧ w'.cell? ⟨b, off + k * 3 + 2, none⟩ = some (.string sx) ∧ w'.cell? ⟨b, off + (k + 1) * 3, none⟩ = some (.int .u8 ty) ∧ w'.cell? ⟨b, off + (k + 1) * 3 + 1, none⟩ = some (.int .i64 ny) ∧ w'.cell? ⟨b, off + (k + 1) * 3 + 2, none⟩ = some (.string sy)) (go_keep) (fail)
        all_goals (go_wp2_with fail; go_meet)
        all_goals first | exact ⟨_, _, rfl, rfl, (by repeat (first | exact BW.refl _ | apply BW.alloc | apply BW.drewN | apply BW.drew)), by omega, Nat.le_refl _, Nat.le_succ _, new2_a _ _ _, new2_b _ _ _⟩ | exact ⟨_, _, rfl, rfl, (by repeat (first | exact BW.refl _ | apply BW.alloc | apply BW.drewN | apply BW.drew)), by omega, Nat.le_succ _, Nat.le_refl _, new2_b _ _ _, new2_a _ _ _⟩
      case rest =>
        obtain ⟨b0, b1, rfl, rfl, hbw, hne, hb0, hb1, A0, A1⟩ := hcut
        have hBc : Hid (Both w (.slice (some ⟨g, 0, none⟩) ps.length cap) ps wc) := hB'.out.step hbw
        have hbx : Hid (wc.heap[w.heap.size]? = some (.cells #[.int .u8 tv, .int .i64 nv, .string sv] 24 (0, 0))) := (hbw.block _ (by omega)).trans hbox'.out
        have hzc := hbw.size
        clear hB' hbox' hbw cx0 cx1 cx2 cy0 cy1 cy2
        have A0c0 : wc.cell? ⟨b0, 0, none⟩ = some (.int .u8 tx) := (by simp only [World.cell?, A0]; rfl)
        have A0c1 : wc.cell? ⟨b0, 1, none⟩ = some (.int .i64 nx) := (by simp only [World.cell?, A0]; rfl)
        have A0c2 : wc.cell? ⟨b0, 2, none⟩ = some (.string sx) := (by simp only [World.cell?, A0]; rfl)
        have A1c0 : wc.cell? ⟨b1, 0, none⟩ = some (.int .u8 ty) := (by simp only [World.cell?, A1]; rfl)
        have A1c1 : wc.cell? ⟨b1, 1, none⟩ = some (.int .i64 ny) := (by simp only [World.cell?, A1]; rfl)
        have A1c2 : wc.cell? ⟨b1, 2, none⟩ = some (.string sy) := (by simp only [World.cell?, A1]; rfl)
        cases ex : mayB tx nx sx with
        | false =>
          rw [ex] at hMx
          go_wp2_with (fail)
          refine (hMx.out _).mono ?_
          rintro e w1 ⟨rfl, hbw1⟩
          have hB1 : Hid (Both w (.slice (some ⟨g, 0, none⟩) ps.length cap) ps w1) := hBc.out.step hbw1
          have hbx1 : Hid (w1.heap[w.heap.size]? = some (.cells #[.int .u8 tv, .int .i64 nv, .string sv] 24 (0, 0))) := (hbw1.block _ (by omega)).trans hbx.out
          clear A0c0 A0c1 A0c2 A1c0 A1c1 A1c2
          replace A0 := (hbw1.block _ (Array.getElem?_eq_some_iff.1 A0).1).trans A0
          replace A1 := (hbw1.block _ (Array.getElem?_eq_some_iff.1 A1).1).trans A1
          have hz1' := hbw1.size
          clear hbw1 hBc hbx
          have A0c0 : w1.cell? ⟨b0, 0, none⟩ = some (.int .u8 tx) := (by simp only [World.cell?, A0]; rfl)
          have A0c1 : w1.cell? ⟨b0, 1, none⟩ = some (.int .i64 nx) := (by simp only [World.cell?, A0]; rfl)
          have A0c2 : w1.cell? ⟨b0, 2, none⟩ = some (.string sx) := (by simp only [World.cell?, A0]; rfl)
          have A1c0 : w1.cell? ⟨b1, 0, none⟩ = some (.int .u8 ty) := (by simp only [World.cell?, A1]; rfl)
          have A1c1 : w1.cell? ⟨b1, 1, none⟩ = some (.int .i64 ny) := (by simp only [World.cell?, A1]; rfl)
          have A1c2 : w1.cell? ⟨b1, 2, none⟩ = some (.string sy) := (by simp only [World.cell?, A1]; rfl)
          go_wp2_with (fail)
          refine (hAw.out _ hB1.out.bw).mono ?_
          rintro e w9 ⟨rfl, hb9⟩
          go_wp2_with (fail)
          go_ret
          exact ⟨rfl, hB1.out.bw.trans hb9⟩
        | true =>
          rw [ex] at hMx
          go_wp2_with (fail)
          refine (hMx.out _).mono ?_
          rintro e w1 ⟨rfl, hbw1⟩
          have hB1 : Hid (Both w (.slice (some ⟨g, 0, none⟩) ps.length cap) ps w1) := hBc.out.step hbw1
          have hbx1 : Hid (w1.heap[w.heap.size]? = some (.cells #[.int .u8 tv, .int .i64 nv, .string sv] 24 (0, 0))) := (hbw1.block _ (by omega)).trans hbx.out
          clear A0c0 A0c1 A0c2 A1c0 A1c1 A1c2
          replace A0 := (hbw1.block _ (Array.getElem?_eq_some_iff.1 A0).1).trans A0
          replace A1 := (hbw1.block _ (Array.getElem?_eq_some_iff.1 A1).1).trans A1
          have hz1' := hbw1.size
          clear hbw1 hBc hbx
          have A0c0 : w1.cell? ⟨b0, 0, none⟩ = some (.int .u8 tx) := (by simp only [World.cell?, A0]; rfl)
          have A0c1 : w1.cell? ⟨b0, 1, none⟩ = some (.int .i64 nx) := (by simp only [World.cell?, A0]; rfl)
          have A0c2 : w1.cell? ⟨b0, 2, none⟩ = some (.string sx) := (by simp only [World.cell?, A0]; rfl)
          have A1c0 : w1.cell? ⟨b1, 0, none⟩ = some (.int .u8 ty) := (by simp only [World.cell?, A1]; rfl)
          have A1c1 : w1.cell? ⟨b1, 1, none⟩ = some (.int .i64 ny) := (by simp only [World.cell?, A1]; rfl)
          have A1c2 : w1.cell? ⟨b1, 2, none⟩ = some (.string sy) := (by simp only [World.cell?, A1]; rfl)
          go_wp2_with (fail)
          cases ey : mayB ty ny sy with
          | false =>
            rw [ey] at hMy
            refine (hMy.out _).mono ?_
            rintro e w2 ⟨rfl, hbw2⟩
            have hB2 : Hid (Both w (.slice (some ⟨g, 0, none⟩) ps.length cap) ps w2) := hB1.out.step hbw2
            have hbx2 : Hid (w2.heap[w.heap.size]? = some (.cells #[.int .u8 tv, .int .i64 nv, .string sv] 24 (0, 0))) := (hbw2.block _ (by omega)).trans hbx1.out
            clear A0c0 A0c1 A0c2 A1c0 A1c1 A1c2
            replace A0 := (hbw2.block _ (Array.getElem?_eq_some_iff.1 A0).1).trans A0
            replace A1 := (hbw2.block _ (Array.getElem?_eq_some_iff.1 A1).1).trans A1
            have hz2' := hbw2.size
            clear hbw2 hB1 hbx1
            have A0c0 : w2.cell? ⟨b0, 0, none⟩ = some (.int .u8 tx) := (by simp only [World.cell?, A0]; rfl)
            have A0c1 : w2.cell? ⟨b0, 1, none⟩ = some (.int .i64 nx) := (by simp only [World.cell?, A0]; rfl)
            have A0c2 : w2.cell? ⟨b0, 2, none⟩ = some (.string sx) := (by simp only [World.cell?, A0]; rfl)
            have A1c0 : w2.cell? ⟨b1, 0, none⟩ = some (.int .u8 ty) := (by simp only [World.cell?, A1]; rfl)
            have A1c1 : w2.cell? ⟨b1, 1, none⟩ = some (.int .i64 ny) := (by simp only [World.cell?, A1]; rfl)
            have A1c2 : w2.cell? ⟨b1, 2, none⟩ = some (.string sy) := (by simp only [World.cell?, A1]; rfl)
            go_wp2_with (fail)
            refine (hAw.out _ hB2.out.bw).mono ?_
            rintro e w9 ⟨rfl, hb9⟩
            go_wp2_with (fail)
            go_ret
            exact ⟨rfl, hB2.out.bw.trans hb9⟩
          | true =>
            rw [ey] at hMy
            have qx := (may_tells ex).2.1
            have qy := (may_tells ey).2.1
            have e6 : IntKind.i64.wrap ((sx.size : Int) + (sy.size : Int)) = (sx.size : Int) + (sy.size : Int) := i64w _ (by omega) (by omega)
            by_cases hs : 1000 < sx.size + sy.size
            · have e7 : decide ((1000 : Int) < (sx.size : Int) + (sy.size : Int)) = true := by simp; omega
              refine (hMy.out _).mono ?_
              rintro e w2 ⟨rfl, hbw2⟩
              have hB2 : Hid (Both w (.slice (some ⟨g, 0, none⟩) ps.length cap) ps w2) := hB1.out.step hbw2
              have hbx2 : Hid (w2.heap[w.heap.size]? = some (.cells #[.int .u8 tv, .int .i64 nv, .string sv] 24 (0, 0))) := (hbw2.block _ (by omega)).trans hbx1.out
              clear A0c0 A0c1 A0c2 A1c0 A1c1 A1c2
              replace A0 := (hbw2.block _ (Array.getElem?_eq_some_iff.1 A0).1).trans A0
              replace A1 := (hbw2.block _ (Array.getElem?_eq_some_iff.1 A1).1).trans A1
              have hz2' := hbw2.size
              clear hbw2 hB1 hbx1
              have A0c0 : w2.cell? ⟨b0, 0, none⟩ = some (.int .u8 tx) := (by simp only [World.cell?, A0]; rfl)
              have A0c1 : w2.cell? ⟨b0, 1, none⟩ = some (.int .i64 nx) := (by simp only [World.cell?, A0]; rfl)
              have A0c2 : w2.cell? ⟨b0, 2, none⟩ = some (.string sx) := (by simp only [World.cell?, A0]; rfl)
              have A1c0 : w2.cell? ⟨b1, 0, none⟩ = some (.int .u8 ty) := (by simp only [World.cell?, A1]; rfl)
              have A1c1 : w2.cell? ⟨b1, 1, none⟩ = some (.int .i64 ny) := (by simp only [World.cell?, A1]; rfl)
              have A1c2 : w2.cell? ⟨b1, 2, none⟩ = some (.string sy) := (by simp only [World.cell?, A1]; rfl)
              go_wp2_with (fail)
              refine (hAw.out _ hB2.out.bw).mono ?_
              rintro e w9 ⟨rfl, hb9⟩
              go_wp2_with (fail)
              go_ret
              exact ⟨rfl, hB2.out.bw.trans hb9⟩
            · have e7 : decide ((1000 : Int) < (sx.size : Int) + (sy.size : Int)) = false := by simp; omega
              refine (hMy.out _).mono ?_
              rintro e w2 ⟨rfl, hbw2⟩
              have hB2 : Hid (Both w (.slice (some ⟨g, 0, none⟩) ps.length cap) ps w2) := hB1.out.step hbw2
              have hbx2 : Hid (w2.heap[w.heap.size]? = some (.cells #[.int .u8 tv, .int .i64 nv, .string sv] 24 (0, 0))) := (hbw2.block _ (by omega)).trans hbx1.out
              clear A0c0 A0c1 A0c2 A1c0 A1c1 A1c2
              replace A0 := (hbw2.block _ (Array.getElem?_eq_some_iff.1 A0).1).trans A0
              replace A1 := (hbw2.block _ (Array.getElem?_eq_some_iff.1 A1).1).trans A1
              have hz2' := hbw2.size
              clear hbw2 hB1 hbx1
              have A0c0 : w2.cell? ⟨b0, 0, none⟩ = some (.int .u8 tx) := (by simp only [World.cell?, A0]; rfl)
              have A0c1 : w2.cell? ⟨b0, 1, none⟩ = some (.int .i64 nx) := (by simp only [World.cell?, A0]; rfl)
              have A0c2 : w2.cell? ⟨b0, 2, none⟩ = some (.string sx) := (by simp only [World.cell?, A0]; rfl)
              have A1c0 : w2.cell? ⟨b1, 0, none⟩ = some (.int .u8 ty) := (by simp only [World.cell?, A1]; rfl)
              have A1c1 : w2.cell? ⟨b1, 1, none⟩ = some (.int .i64 ny) := (by simp only [World.cell?, A1]; rfl)
              have A1c2 : w2.cell? ⟨b1, 2, none⟩ = some (.string sy) := (by simp only [World.cell?, A1]; rfl)
              go_wp2_with (fail)
              have H2 := hB2.out.heap
              have hlt3 := H2.lt
              refine (pair_room (w.heap.size + 1) (w.heap.size + 1) 1000 ps.length (cellsOf ps) (by omega) (by omega) tx nx sx ty ny sy _ H2).mono ?_
              rintro e w3 ⟨rfl, H3, F3⟩
              have own3 := own34_fr hB2.out.own H2 F3
              have bw3 : BW w w3 := Below.trans (B := w.heap.size) hB2.out.bw (Below.mono F3.bel (Nat.le_succ _))
              have box3 := F3.at24 hbx2.out (by omega)
              clear A0c0 A0c1 A0c2 A1c0 A1c1 A1c2
              replace A0 := F3.at24 A0 (by omega)
              replace A1 := F3.at24 A1 (by omega)
              clear F3 H2 hB2 hbx2
              have A0c0 : w3.cell? ⟨b0, 0, none⟩ = some (.int .u8 tx) := (by simp only [World.cell?, A0]; rfl)
              have A0c1 : w3.cell? ⟨b0, 1, none⟩ = some (.int .i64 nx) := (by simp only [World.cell?, A0]; rfl)
              have A0c2 : w3.cell? ⟨b0, 2, none⟩ = some (.string sx) := (by simp only [World.cell?, A0]; rfl)
              have A1c0 : w3.cell? ⟨b1, 0, none⟩ = some (.int .u8 ty) := (by simp only [World.cell?, A1]; rfl)
              have A1c1 : w3.cell? ⟨b1, 1, none⟩ = some (.int .i64 ny) := (by simp only [World.cell?, A1]; rfl)
              have A1c2 : w3.cell? ⟨b1, 2, none⟩ = some (.string sy) := (by simp only [World.cell?, A1]; rfl)
              have hz3' := bw3.size
              have bw3' : Hid (BW w w3) := bw3
              have box3' : Hid _ := box3
              have H3' : Hid _ := H3
              clear bw3 box3 H3
              go_wp2_with (at_builtin; refine wpList_append_own _ rfl _ _ 28 rfl w.heap.size 34 i0 _ 8 80 Tryd.underlying28 hi hz0 hz1 hz2 rfl (by decide) _ _ (cellsOf ps) rfl (own3.alloc _) ⟨w3.heap.size, 0, none⟩ 1 1 (thing 4 tx nx sx ty ny sy 0) rfl rfl (cells_new _ _ _) (by intro u hu; simp at hu; rcases hu with rfl | rfl | rfl | rfl | rfl | rfl | rfl | rfl <;> rfl) (by unfold maxLen; omega) (by omega) (by simp; omega) ?_)
              intro v' w4 hown' hgrow _
              have hr := fun r e => (own34_ty (own3.alloc (.cells (thing 4 tx nx sx ty ny sy 0).toArray 34)) r e).2
              have hN : Hid (L1 w ln tv nv sv v' (.int .i64 ((k : Int) + 2)) w4) := by
                have el : (ps ++ [((⟨tx, nx, sx⟩ : Va), (⟨ty, ny, sy⟩ : Va))]).length = ps.length + 1 := by simp
                refine ⟨k + 2, ps ++ [(⟨tx, nx, sx⟩, ⟨ty, ny, sy⟩)], by rw [el]; omega, by omega, by simp, ?_, ⟨?_, ?_, ?_, ?_⟩, ?_⟩
                · intro p hp
                  rcases List.mem_append.1 hp with hp | hp
                  · exact hps'.out p hp
                  · simp at hp
                    subst hp
                    exact ⟨⟨may_fine ex wx.t0 wx.n0 wx.n1 (by omega), (may_tells ex).2.2.2.2⟩, ⟨may_fine ey wy.t0 wy.n0 wy.n1 (by omega), (may_tells ey).2.2.2.2⟩⟩
                · rw [el, cellsOf_snoc]
                  exact HeapIs.grow34 (HeapIs.bw H3'.out (by repeat (first | exact BW.refl _ | apply BW.alloc | apply BW.drewN | apply BW.drew))) hgrow hr
                · rw [el]; exact Go.Joins.ownsRow_form hown' (by omega)
                · rw [el, cellsOf_snoc]; exact hown'
                · exact Below.grown (bw3'.out.alloc _) hgrow (by simp; omega) (fun r e => (own34_ty own3 r e).1)
                · exact at_grow34 ((Below.heap_alloc _ _ _ (Array.getElem?_eq_some_iff.1 box3'.out).1).trans box3'.out) (by decide) hgrow hr
              clear hr own3 hown' hgrow H3' bw3' box3'
              go_wp2_with (fail)
              go_roundw
              case rel => exact hN.out
              case measure => simp [intOf]; omega
    · have e8 : ¬ (k : Int) + 1 < (ln : Int) := by omega
      have hi1 : IntKind.i64.wrap ((k : Int) + 1) = (k : Int) + 1 := i64w _ (by omega) (by omega)
      have hAw : Hid (∀ v, BW w v → Calls Tryd.prog 8 #[] v fun e w' => e = .returned (.bool true) ∧ BW v w') := fun v hb => awake_any v (ht.bw hb)
      have hMv : Hid (∀ v, Calls Tryd.prog 10 #[V tv nv sv] v fun e w' => e = .returned (.bool (mayB tv nv sv)) ∧ BW v w') := may_any tv nv sv wv.t0 wv.s
      have c0 : wr.cell? ⟨w.heap.size, 0, none⟩ = some (.int .u8 tv) := (by simp only [World.cell?, hbox]; rfl)
      have c1 : wr.cell? ⟨w.heap.size, 1, none⟩ = some (.int .i64 nv) := (by simp only [World.cell?, hbox]; rfl)
      have c2 : wr.cell? ⟨w.heap.size, 2, none⟩ = some (.string sv) := (by simp only [World.cell?, hbox]; rfl)
      have hB' : Hid _ := hB
      have ht' : Hid _ := ht
      have hps' : Hid _ := hps
      clear hB hv hv' ht hps
      cases ev : mayB tv nv sv with
      | false =>
        rw [ev] at hMv
        go_wp2_with (fail)
        refine (hMv.out _).mono ?_
        rintro e w1 ⟨rfl, hbw1⟩
        have hB1 : Hid (Both w (.slice (some ⟨g, 0, none⟩) ps.length cap) ps w1) := hB'.out.step hbw1
        clear c0 c1 c2
        replace hbox := (hbw1.block _ (by omega)).trans hbox
        have hz1' := hbw1.size
        clear hbw1 hB'
        have c0 : w1.cell? ⟨w.heap.size, 0, none⟩ = some (.int .u8 tv) := (by simp only [World.cell?, hbox]; rfl)
        have c1 : w1.cell? ⟨w.heap.size, 1, none⟩ = some (.int .i64 nv) := (by simp only [World.cell?, hbox]; rfl)
        have c2 : w1.cell? ⟨w.heap.size, 2, none⟩ = some (.string sv) := (by simp only [World.cell?, hbox]; rfl)
        go_wp2_with (fail)
        refine (hAw.out _ hB1.out.bw).mono ?_
        rintro e w9 ⟨rfl, hb9⟩
        go_wp2_with (fail)
        go_ret
        exact ⟨rfl, hB1.out.bw.trans hb9⟩
      | true =>
        rw [ev] at hMv
        have qv := (may_tells ev).2.1
        by_cases hs : 1000 < sv.size
        · have e7 : decide ((1000 : Int) < (sv.size : Int)) = true := by simp; omega
          go_wp2_with (fail)
          refine (hMv.out _).mono ?_
          rintro e w1 ⟨rfl, hbw1⟩
          have hB1 : Hid (Both w (.slice (some ⟨g, 0, none⟩) ps.length cap) ps w1) := hB'.out.step hbw1
          clear c0 c1 c2
          replace hbox := (hbw1.block _ (by omega)).trans hbox
          have hz1' := hbw1.size
          clear hbw1 hB'
          have c0 : w1.cell? ⟨w.heap.size, 0, none⟩ = some (.int .u8 tv) := (by simp only [World.cell?, hbox]; rfl)
          have c1 : w1.cell? ⟨w.heap.size, 1, none⟩ = some (.int .i64 nv) := (by simp only [World.cell?, hbox]; rfl)
          have c2 : w1.cell? ⟨w.heap.size, 2, none⟩ = some (.string sv) := (by simp only [World.cell?, hbox]; rfl)
          go_wp2_with (fail)
          refine (hAw.out _ hB1.out.bw).mono ?_
          rintro e w9 ⟨rfl, hb9⟩
          go_wp2_with (fail)
          go_ret
          exact ⟨rfl, hB1.out.bw.trans hb9⟩
        · have e7 : decide ((1000 : Int) < (sv.size : Int)) = false := by simp; omega
          go_wp2_with (fail)
          refine (hMv.out _).mono ?_
          rintro e w1 ⟨rfl, hbw1⟩
          have hB1 : Hid (Both w (.slice (some ⟨g, 0, none⟩) ps.length cap) ps w1) := hB'.out.step hbw1
          clear c0 c1 c2
          replace hbox := (hbw1.block _ (by omega)).trans hbox
          have hz1' := hbw1.size
          clear hbw1 hB'
          have c0 : w1.cell? ⟨w.heap.size, 0, none⟩ = some (.int .u8 tv) := (by simp only [World.cell?, hbox]; rfl)
          have c1 : w1.cell? ⟨w.heap.size, 1, none⟩ = some (.int .i64 nv) := (by simp only [World.cell?, hbox]; rfl)
          have c2 : w1.cell? ⟨w.heap.size, 2, none⟩ = some (.string sv) := (by simp only [World.cell?, hbox]; rfl)
          go_wp2_with (fail)
          have hF2 : Fine2 ⟨tv, nv, sv⟩ := ⟨may_fine ev wv.t0 wv.n0 wv.n1 (by omega), (may_tells ev).2.2.2.2⟩
          have hS : Hid (∀ v, BW w1 v → Calls Tryd.prog 12 #[.iface 26 (.pointer (some ⟨w.heap.size + 1, 0, none⟩)), V tv nv sv] v fun e w' => e = .returned (.string ⟨(sho (look ps) 6 ⟨tv, nv, sv⟩).toArray⟩) ∧ BW v w') := fun v hv =>
            show_any _ _ (look_fine (fun p hp => ⟨(hps'.out p hp).1.fine, (hps'.out p hp).2.fine⟩)) ⟨tv, nv, sv⟩ hF2.fine v ((Look.heap hB1.out.heap (by omega)).up hv.size hv) (Tab.bw ht'.out (hB1.out.bw.trans hv))
          have hR : Hid (∀ v, BW w1 v → Calls Tryd.prog 13 #[.slice (some ⟨g, 0, none⟩) ps.length cap, V tv nv sv, .int .i64 0] v fun e w' => e = .returned (.string ⟨(sho (look ps) 6 ⟨tv, nv, sv⟩).toArray⟩) ∧ BW v w') := by
            intro v hv
            have hg := (own34_ty hB1.out.own g rfl).1
            have hrow : RowIs w1 (.slice (some ⟨g, 0, none⟩) ps.length cap) ps := ⟨w.heap.size, g, cap, hg, rfl, hB1.out.own⟩
            exact refShow_any _ ps (by omega) hps'.out 6 (Nat.le_refl _) ⟨tv, nv, sv⟩ hF2 v (hrow.bw hv)
          have hb1w : Hid (BW w w1) := hB1.out.bw
          have n0 : w.heap.size < w1.heap.size := by omega
          generalize (⟨(sho (look ps) 6 ⟨tv, nv, sv⟩).toArray⟩ : ByteArray) = X at *
          clear hB1 ht' hps' hF2 hbox
          go_region_held3 (fun w' => w'.cell? ⟨w.heap.size, 0, none⟩ = some (.int .u8 tv) ∧ w'.cell? ⟨w.heap.size, 1, none⟩ = some (.int .i64 nv) ∧ w'.cell? ⟨w.heap.size, 2, none⟩ = some (.string sv)) (go_keep) (first | (go_at_call 8; refine (hAw.out _ (hb1w.out.trans (by repeat (first | exact BW.refl _ | assumption | apply BW.alloc | apply BW.drewN | apply BW.drew | (refine BW.setCell ?_ (by first | omega | (simp; done) | (simp; omega)) _) | (refine BW.trans ?_ (by assumption)))))).mono ?_; rintro e v8 ⟨rfl, hbv8⟩; have hzv8 := hbv8.size; (try simp at hzv8); have v8q := fun o => hbv8.cells w.heap.size o (by first | omega | (simp; done) | (simp; omega)); have nv8 : w.heap.size < v8.heap.size := (by omega)) | (go_at_call 13; refine (hR.out _ (by repeat (first | exact BW.refl _ | assumption | apply BW.alloc | apply BW.drewN | apply BW.drew | (refine BW.setCell ?_ (by first | omega | (simp; done) | (simp; omega)) _) | (refine BW.trans ?_ (by assumption))))).mono ?_; rintro e v13 ⟨rfl, hbv13⟩; have hzv13 := hbv13.size; (try simp at hzv13); have v13q := fun o => hbv13.cells w.heap.size o (by first | omega | (simp; done) | (simp; omega)); have nv13 : w.heap.size < v13.heap.size := (by omega)) | (go_at_call 12; refine (hS.out _ (by repeat (first | exact BW.refl _ | assumption | apply BW.alloc | apply BW.drewN | apply BW.drew | (refine BW.setCell ?_ (by first | omega | (simp; done) | (simp; omega)) _) | (refine BW.trans ?_ (by assumption))))).mono ?_; rintro e v12 ⟨rfl, hbv12⟩; have hzv12 := hbv12.size; (try simp at hzv12); have v12q := fun o => hbv12.cells w.heap.size o (by first | omega | (simp; done) | (simp; omega)); have nv12 : w.heap.size < v12.heap.size := (by omega)))
          all_goals
            go_wp2_with (fail)
            go_ret
            exact ⟨rfl, hb1w.out.trans (by repeat (first | exact BW.refl _ | assumption | apply BW.alloc | apply BW.drewN | apply BW.drew | (refine BW.setCell ?_ (by first | omega | (simp; done) | (simp; omega)) _) | (refine BW.trans ?_ (by assumption))))⟩

theorem showShows_any (ao : Option Addr) (ln cp : Nat) (zs : List Va) (tv nv : Int) (sv : ByteArray) (wv : Wf ⟨tv, nv, sv⟩) (w : World) (hv : ValsAt w ao ln zs) (ht : Tab w) : Calls Tryd.prog 3 #[.slice ao ln cp, V tv nv sv] w fun e w' => e = .returned (.bool true) ∧ BW w w' := by
  by_cases h : 120 < ln
  · exact showShows_long ao ln cp tv nv sv h w ht
  · exact showShows_walk ao ln cp zs tv nv sv wv h w hv ht

end Go.Proofs.YtfgnlddfpemblaaDoor
