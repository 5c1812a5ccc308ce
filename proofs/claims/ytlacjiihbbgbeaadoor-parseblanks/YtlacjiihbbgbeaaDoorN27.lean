import Derived.Test.YtlacjiihbbgbeaaDoorN25
import Derived.Test.YtlacjiihbbgbeaaDoorM6
namespace Go.Proofs.YtlacjiihbbgbeaaDoor
open Go.RowKit
set_option linter.unusedVariables false
set_option linter.unusedSimpArgs false

def chk1 : Bool := match lexAll [40, 43, 32, 49, 41] with
  | .ok ts => (match pProg ts with
    | .error er => er.1 == 12 && er.2 == 1
    | .ok _ => false)
  | .error _ => false
def chk2 : Bool := match lexAll [40, 43, 32, 49, 32, 50, 41] with
  | .ok ts => (match pProg ts with
    | .error _ => false
    | .ok x => (Nd.ks (K := Tr 59) x).length == 2)
  | .error _ => false
set_option maxRecDepth 100000 in
theorem chk1_t : chk1 = true := by decide +kernel
set_option maxRecDepth 100000 in
theorem chk2_t : chk2 = true := by decide +kernel
theorem ex1 (w : World) (hE : Er w) (hG : Gv w) : Calls Tryd.prog 5 #[.string ⟨#[40, 43, 32, 49, 41]⟩] w fun e w' => e = .returned (.tuple #[.agg #[.int .u8 0, .int .i64 0, .string ⟨#[]⟩, .slice none 0 0, .slice none 0 0], .int .i64 4, .int .i64 12]) ∧ BW w w' := by
  refine (parse_any ⟨#[40, 43, 32, 49, 41]⟩ w hE hG).mono fun e w' h => ?_
  have hc := chk1_t
  unfold chk1 at hc
  unfold PostPar at h
  have hl : (⟨#[40, 43, 32, 49, 41]⟩ : ByteArray).data.toList = [40, 43, 32, 49, 41] := rfl
  rw [hl] at h
  cases hL : lexAll [40, 43, 32, 49, 41] with
  | error er => rw [hL] at hc; cases hc
  | ok ts =>
    rw [hL] at hc h
    dsimp only at hc h
    cases hp : pProg ts with
    | ok x => rw [hp] at hc; cases hc
    | error er =>
      rw [hp] at hc h
      dsimp only at hc h
      obtain ⟨a, b⟩ := er
      simp at hc
      obtain ⟨rfl, rfl⟩ := hc
      exact h
theorem ex2 (w : World) (hE : Er w) (hG : Gv w) : Calls Tryd.prog 5 #[.string ⟨#[40, 43, 32, 49, 32, 50, 41]⟩] w fun e w' => ∃ k n s na nl nc ka kc, e = .returned (.tuple #[ndv k n s na nl nc ka 2 kc, .int .i64 0, .int .i64 0]) ∧ BW w w' := by
  refine (parse_any ⟨#[40, 43, 32, 49, 32, 50, 41]⟩ w hE hG).mono fun e w' h => ?_
  have hc := chk2_t
  unfold chk2 at hc
  unfold PostPar at h
  have hl : (⟨#[40, 43, 32, 49, 32, 50, 41]⟩ : ByteArray).data.toList = [40, 43, 32, 49, 32, 50, 41] := rfl
  rw [hl] at h
  cases hL : lexAll [40, 43, 32, 49, 32, 50, 41] with
  | error er => rw [hL] at hc; cases hc
  | ok ts =>
    rw [hL] at hc h
    dsimp only at hc h
    cases hp : pProg ts with
    | error er => rw [hp] at hc; cases hc
    | ok x =>
      rw [hp] at hc h
      dsimp only at hc h
      obtain ⟨v, rfl, hx, hb⟩ := h
      obtain ⟨na, nl, nc, ka, kl, kc, rfl, wf, a, s1, s2, _⟩ := hx
      have h2 : kl = 2 := by
        have h1 := s2.1
        have h3 : (Nd.ks (K := Tr 59) x).length = 2 := by simpa using hc
        exact h1.symm.trans h3
      subst h2
      exact ⟨_, _, _, na, nl, nc, ka, kc, rfl, hb⟩
set_option maxRecDepth 100000 in
set_option maxHeartbeats 4000000 in
theorem awakeP_any (w : World) (hE : Er w) (hG : Gv w) : Calls Tryd.prog 4 #[] w fun e w' => e = .returned (.bool true) ∧ BW w w' := by
  have C1 : Hid (∀ w', BW w w' → Calls Tryd.prog 5 #[.string ⟨#[40, 43, 32, 49, 41]⟩] w' fun e w'' => e = .returned (.tuple #[.agg #[.int .u8 0, .int .i64 0, .string ⟨#[]⟩, .slice none 0 0, .slice none 0 0], .int .i64 4, .int .i64 12]) ∧ BW w' w'') := fun w' hb => ex1 w' (hE.bw hb) (hG.bw hb)
  have C2 : Hid (∀ w', BW w w' → Calls Tryd.prog 5 #[.string ⟨#[40, 43, 32, 49, 32, 50, 41]⟩] w' fun e w'' => ∃ k n s na nl nc ka kc, e = .returned (.tuple #[ndv k n s na nl nc ka 2 kc, .int .i64 0, .int .i64 0]) ∧ BW w' w'') := fun w' hb => ex2 w' (hE.bw hb) (hG.bw hb)
  clear hE hG
  go_enter Tryd.func4, Tryd.ntmps4
  go_wp2_with (fail)
  refine (C1.out _ (by repeat (first | exact BW.refl _ | assumption | apply BW.alloc | apply BW.drewN | apply BW.drew | (refine BW.setCell ?_ (by first | omega | (simp; done) | (simp; omega)) _) | (refine BW.trans ?_ (by assumption))))).mono ?_
  rintro e w1 ⟨rfl, b1⟩
  have HB1 : Hid (BW w w1) := b1
  clear b1 C1
  go_wp2_with (fail)
  refine (C2.out _ (BW.trans HB1.out (by repeat (first | exact BW.refl _ | assumption | apply BW.alloc | apply BW.drewN | apply BW.drew | (refine BW.setCell ?_ (by first | omega | (simp; done) | (simp; omega)) _) | (refine BW.trans ?_ (by assumption)))))).mono ?_
  rintro e w2 ⟨k, n, s, na, nl, nc, ka, kc, rfl, b2⟩
  have HB2 : Hid (BW w w2) := BW.trans HB1.out (BW.trans (by repeat (first | exact BW.refl _ | assumption | apply BW.alloc | apply BW.drewN | apply BW.drew | (refine BW.setCell ?_ (by first | omega | (simp; done) | (simp; omega)) _) | (refine BW.trans ?_ (by assumption)))) b2)
  clear b2 C2 HB1
  go_wp2_with (fail)
  go_ret
  exact ⟨rfl, BW.trans HB2.out (by repeat (first | exact BW.refl _ | assumption | apply BW.alloc | apply BW.drewN | apply BW.drew | (refine BW.setCell ?_ (by first | omega | (simp; done) | (simp; omega)) _) | (refine BW.trans ?_ (by assumption))))⟩


theorem pCd_ne (er : Pe) : ¬ pCd er = 0 := by
  unfold pCd
  by_cases h : er.1 = 11
  · rw [if_pos h]; decide
  · rw [if_neg h]
    by_cases h2 : er.1 = 12
    · rw [if_pos h2]; decide
    · rw [if_neg h2]; decide
theorem parse_cases (s : ByteArray) (w : World) (hE : Er w) (hG : Gv w) : Calls Tryd.prog 5 #[.string s] w fun e w' => BW w w' ∧ ((∃ (ro : Rw) (a c : Int), e = .returned (.tuple #[ro.v, .int .i64 a, .int .i64 c]) ∧ ¬ c = 0) ∨ (∃ (ro : Rw) (ts : List Tok) (x : Tr 60), lexAll s.data.toList = .ok ts ∧ pProg ts = .ok x ∧ e = .returned (.tuple #[ro.v, .int .i64 0, .int .i64 0]) ∧ NodeQ (fun b => w.heap.size ≤ b ∧ b < w'.heap.size) w' 60 ro.v x)) := by
  refine (parse_any s w hE hG).mono fun e w' h => ?_
  unfold PostPar at h
  cases hL : lexAll s.data.toList with
  | error er =>
    rw [hL] at h
    obtain ⟨bk, k⟩ := er
    have := lexAll_code hL
    exact ⟨h.2, .inl ⟨⟨0, 0, ⟨#[]⟩, none, 0, 0, none, 0, 0⟩, _, _, h.1, by omega⟩⟩
  | ok ts =>
    rw [hL] at h
    dsimp only at h
    cases hp : pProg ts with
    | error er =>
      rw [hp] at h
      exact ⟨h.2, .inl ⟨⟨0, 0, ⟨#[]⟩, none, 0, 0, none, 0, 0⟩, _, _, h.1, pCd_ne er⟩⟩
    | ok x =>
      rw [hp] at h
      obtain ⟨v, rfl, hx, hb⟩ := h
      obtain ⟨ro, rfl⟩ := hx.rw
      exact ⟨hb, .inr ⟨ro, ts, x, rfl, hp, rfl, hx⟩⟩
theorem parse_good (s : ByteArray) (ts : List Tok) (x : Tr 60) (w : World) (hE : Er w) (hG : Gv w) (hL : lexAll s.data.toList = .ok ts) (hp : pProg ts = .ok x) : Calls Tryd.prog 5 #[.string s] w fun e w' => ∃ ro : Rw, e = .returned (.tuple #[ro.v, .int .i64 0, .int .i64 0]) ∧ NodeAt w' 60 ro.v x ∧ BW w w' := by
  refine (parse_any s w hE hG).mono fun e w' h => ?_
  unfold PostPar at h
  rw [hL] at h
  dsimp only at h
  rw [hp] at h
  obtain ⟨v, rfl, hx, hb⟩ := h
  obtain ⟨ro, rfl⟩ := hx.rw
  exact ⟨ro, rfl, NodeQ.at' hx, hb⟩
set_option maxRecDepth 100000 in
set_option maxHeartbeats 4000000 in
theorem blanks_walk (s t : ByteArray) (w : World) (hE : Er w) (hG : Gv w) : Calls Tryd.prog 3 #[.string s, .string t] w fun e w' => e = .returned (.bool true) ∧ BW w w' := by
  have HE : Hid (Er w) := hE
  have HG : Hid (Gv w) := hG
  have CA : Hid (∀ w', BW w w' → Calls Tryd.prog 4 #[] w' fun e w'' => e = .returned (.bool true) ∧ BW w' w'') := fun w' hb => awakeP_any w' (hE.bw hb) (hG.bw hb)
  clear hE hG
  by_cases h1 : 20000 < s.size
  · have c1 : decide ((20000 : Int) < s.size) = true := decide_eq_true (by omega)
    go_enter Tryd.func3, Tryd.ntmps3
    go_wp2_with (go_at_call 4; refine (CA.out _ (by repeat (first | exact BW.refl _ | assumption | apply BW.alloc | apply BW.drewN | apply BW.drew | (refine BW.setCell ?_ (by first | omega | (simp; done) | (simp; omega)) _) | (refine BW.trans ?_ (by assumption))))).mono ?_; rintro e w1 ⟨rfl, b1⟩)
    go_ret
    exact ⟨rfl, BW.trans (by repeat (first | exact BW.refl _ | assumption | apply BW.alloc | apply BW.drewN | apply BW.drew | (refine BW.setCell ?_ (by first | omega | (simp; done) | (simp; omega)) _) | (refine BW.trans ?_ (by assumption)))) b1⟩
  · have c1 : decide ((20000 : Int) < s.size) = false := decide_eq_false (by omega)
    by_cases h2 : 300 < t.size
    · have c2 : decide ((300 : Int) < t.size) = true := decide_eq_true (by omega)
      go_enter Tryd.func3, Tryd.ntmps3
      go_wp2_with (go_at_call 4; refine (CA.out _ (by repeat (first | exact BW.refl _ | assumption | apply BW.alloc | apply BW.drewN | apply BW.drew | (refine BW.setCell ?_ (by first | omega | (simp; done) | (simp; omega)) _) | (refine BW.trans ?_ (by assumption))))).mono ?_; rintro e w1 ⟨rfl, b1⟩)
      go_ret
      exact ⟨rfl, BW.trans (by repeat (first | exact BW.refl _ | assumption | apply BW.alloc | apply BW.drewN | apply BW.drew | (refine BW.setCell ?_ (by first | omega | (simp; done) | (simp; omega)) _) | (refine BW.trans ?_ (by assumption)))) b1⟩
    · have c2 : decide ((300 : Int) < t.size) = false := decide_eq_false (by omega)
      go_enter Tryd.func3, Tryd.ntmps3
      go_wp2_with (fail)
      go_loopw [5] (fun i wr => ∃ j : Nat, i = .int .i64 j ∧ j ≤ t.size ∧ Hid (∀ k (h : k < t.size), k < j → ¬ t[k] = 10) ∧ wr = w) (fun i _ => t.size - (intOf i).toNat)
      case atStart => exact ⟨0, rfl, Nat.zero_le _, fun k h hk => by omega, rfl⟩
      case round =>
        obtain ⟨j, rfl, hj, HJ, hwr⟩ := hrel
        subst wr
        by_cases hlt : j < t.size
        · have c3 : decide ((j : Int) < t.size) = true := decide_eq_true (by omega)
          by_cases h10 : t[j] = 10
          · have c4 : ((t[j].toNat : Int) == 10) = true := by rw [h10]; rfl
            go_wp2_with (go_at_call 4; refine (CA.out _ (by repeat (first | exact BW.refl _ | assumption | apply BW.alloc | apply BW.drewN | apply BW.drew | (refine BW.setCell ?_ (by first | omega | (simp; done) | (simp; omega)) _) | (refine BW.trans ?_ (by assumption))))).mono ?_; rintro e w1 ⟨rfl, b1⟩)
            go_ret
            exact ⟨rfl, BW.trans (by repeat (first | exact BW.refl _ | assumption | apply BW.alloc | apply BW.drewN | apply BW.drew | (refine BW.setCell ?_ (by first | omega | (simp; done) | (simp; omega)) _) | (refine BW.trans ?_ (by assumption)))) b1⟩
          · have c4 : ((t[j].toNat : Int) == 10) = false := by
              have : ¬ t[j].toNat = 10 := fun e => h10 (UInt8.toNat_inj.1 e)
              simp; omega
            go_wp2_with (fail)
            go_roundw
            case rel => exact ⟨j + 1, by go_num, by omega, fun k h hk => by
              rcases (by omega : k < j ∨ k = j) with h' | rfl
              · exact HJ.out k h h'
              · exact h10, by first | rfl | trivial⟩
            case measure => simp [intOf]; omega
        · have c3 : decide ((j : Int) < t.size) = false := decide_eq_false (by omega)
          have HN : Hid (∀ c ∈ t.data.toList, ¬ c = 10) := by
            intro c hc
            obtain ⟨k, hk, rfl⟩ := List.mem_iff_getElem.1 hc
            have hk' : k < t.size := by simpa using hk
            exact HJ.out k hk' (by omega)
          clear HJ
          go_wp2_with (fail)
          refine (parse_cases s w HE.out HG.out).mono ?_
          rintro e w1 ⟨b1, h⟩
          have HB1 : Hid (BW w w1) := b1
          have hz1 := b1.size
          rcases h with ⟨ro, a, c, rfl, hc⟩ | ⟨ro, ts, x, hL, hp, rfl, hx⟩
          · have e1 : (c != 0) = true := by simpa using hc
            have e2 : ¬ c = 0 := hc
            clear b1
            go_wp2_with (fail)
            refine (parse_cases _ _ (HE.out.bw (BW.trans HB1.out (by repeat (first | exact BW.refl _ | assumption | apply BW.alloc | apply BW.drewN | apply BW.drew | (refine BW.setCell ?_ (by first | omega | (simp; done) | (simp; omega)) _) | (refine BW.trans ?_ (by assumption)))))) (HG.out.bw (BW.trans HB1.out (by repeat (first | exact BW.refl _ | assumption | apply BW.alloc | apply BW.drewN | apply BW.drew | (refine BW.setCell ?_ (by first | omega | (simp; done) | (simp; omega)) _) | (refine BW.trans ?_ (by assumption))))))).mono ?_
            rintro e w2 ⟨b2, h2⟩
            have HB2 : Hid (BW w w2) := BW.trans HB1.out (BW.trans (by repeat (first | exact BW.refl _ | assumption | apply BW.alloc | apply BW.drewN | apply BW.drew | (refine BW.setCell ?_ (by first | omega | (simp; done) | (simp; omega)) _) | (refine BW.trans ?_ (by assumption)))) b2)
            have CA2 : Hid (∀ w', BW w2 w' → Calls Tryd.prog 4 #[] w' fun e w'' => e = .returned (.bool true) ∧ BW w' w'') := fun w' hb => CA.out w' (BW.trans HB2.out hb)
            clear b2
            rcases h2 with ⟨ro2, a2, c2', rfl, _⟩ | ⟨ro2, ts, x, _, _, rfl, _⟩
            · go_wp2_with (go_at_call 4; refine (CA2.out _ (by repeat (first | exact BW.refl _ | assumption | apply BW.alloc | apply BW.drewN | apply BW.drew | (refine BW.setCell ?_ (by first | omega | (simp; done) | (simp; omega)) _) | (refine BW.trans ?_ (by assumption))))).mono ?_; rintro e w3 ⟨rfl, b3⟩)
              go_ret
              exact ⟨rfl, BW.trans HB2.out (BW.trans (by repeat (first | exact BW.refl _ | assumption | apply BW.alloc | apply BW.drewN | apply BW.drew | (refine BW.setCell ?_ (by first | omega | (simp; done) | (simp; omega)) _) | (refine BW.trans ?_ (by assumption)))) b3)⟩
            · go_wp2_with (go_at_call 4; refine (CA2.out _ (by repeat (first | exact BW.refl _ | assumption | apply BW.alloc | apply BW.drewN | apply BW.drew | (refine BW.setCell ?_ (by first | omega | (simp; done) | (simp; omega)) _) | (refine BW.trans ?_ (by assumption))))).mono ?_; rintro e w3 ⟨rfl, b3⟩)
              go_ret
              exact ⟨rfl, BW.trans HB2.out (BW.trans (by repeat (first | exact BW.refl _ | assumption | apply BW.alloc | apply BW.drewN | apply BW.drew | (refine BW.setCell ?_ (by first | omega | (simp; done) | (simp; omega)) _) | (refine BW.trans ?_ (by assumption)))) b3)⟩
          · have HX : Hid (NodeQ (fun b => w.heap.size ≤ b ∧ b < w1.heap.size) w1 60 ro.v x) := hx
            have HLP : Hid (lexAll s.data.toList = .ok ts ∧ pProg ts = .ok x) := ⟨hL, hp⟩
            clear b1 hx hL hp
            go_wp2_with (fail)
            obtain ⟨W1, hW1⟩ : ∃ W1, W1 = w1.alloc (.cells #[.int .u8 ro.k, .int .i64 ro.n, .string ro.s, .slice ro.na ro.nl ro.nc, .slice ro.ka ro.kl ro.kc] 26) := ⟨_, rfl⟩
            have bW1 : BW w1 W1 := by rw [hW1]; exact BW.alloc (BW.refl _) _
            have hzW1 : w1.heap.size < W1.heap.size := by rw [hW1]; simp
            have HNB : Hid (W1.heap[w1.heap.size]? = some (.cells #[.int .u8 ro.k, .int .i64 ro.n, .string ro.s, .slice ro.na ro.nl ro.nc, .slice ro.ka ro.kl ro.kc] 26 (0, 0))) := by show _ = _; rw [hW1]; exact heap_alloc_new _ _
            have HBW1 : Hid (BW w W1) := BW.trans HB1.out bW1
            have HX1 : Hid (NodeAt W1 60 ro.v x) := (NodeQ.at' HX.out).bw bW1
            have CS : Hid (Calls Tryd.prog 5 #[.string (⟨#[32, 59]⟩ ++ t ++ ⟨#[10]⟩ ++ s ++ ⟨#[10, 9, 59]⟩ ++ t)] W1 fun e w' => ∃ ro : Rw, e = .returned (.tuple #[ro.v, .int .i64 0, .int .i64 0]) ∧ NodeAt w' 60 ro.v x ∧ BW W1 w') := by
              obtain ⟨us, hL2, hk⟩ := lex_blanks (note := t.data.toList) HN.out (by simp; omega) (by simp; omega) HLP.out.1
              exact parse_good _ us x W1 (HE.out.bw HBW1.out) (HG.out.bw HBW1.out) (by rw [← hL2]; congr 1; simp) (prog_sim hk.symm HLP.out.2)
            rw [← hW1]
            clear hW1 HX HLP HN bW1
            refine CS.out.mono ?_
            rintro e w2 ⟨ro2, rfl, hx2, b2⟩
            have hz2 := b2.size
            have g0 : w2.cell? ⟨w1.heap.size, 0, none⟩ = some (.int .u8 ro.k) := (b2.cells w1.heap.size 0 (by omega)).trans (by rw [Lib.cell_of_heap HNB.out]; rfl)
            have g1 : w2.cell? ⟨w1.heap.size, 1, none⟩ = some (.int .i64 ro.n) := (b2.cells w1.heap.size 1 (by omega)).trans (by rw [Lib.cell_of_heap HNB.out]; rfl)
            have g2 : w2.cell? ⟨w1.heap.size, 2, none⟩ = some (.string ro.s) := (b2.cells w1.heap.size 2 (by omega)).trans (by rw [Lib.cell_of_heap HNB.out]; rfl)
            have g3 : w2.cell? ⟨w1.heap.size, 3, none⟩ = some (.slice ro.na ro.nl ro.nc) := (b2.cells w1.heap.size 3 (by omega)).trans (by rw [Lib.cell_of_heap HNB.out]; rfl)
            have g4 : w2.cell? ⟨w1.heap.size, 4, none⟩ = some (.slice ro.ka ro.kl ro.kc) := (b2.cells w1.heap.size 4 (by omega)).trans (by rw [Lib.cell_of_heap HNB.out]; rfl)
            have f0 : ∀ o, (w2.alloc o).cell? ⟨w1.heap.size, 0, none⟩ = some (.int .u8 ro.k) := fun o => (World.cell?_alloc_some _ _ _ (by rw [g0]; rfl)).trans g0
            have f1 : ∀ o, (w2.alloc o).cell? ⟨w1.heap.size, 1, none⟩ = some (.int .i64 ro.n) := fun o => (World.cell?_alloc_some _ _ _ (by rw [g1]; rfl)).trans g1
            have f2 : ∀ o, (w2.alloc o).cell? ⟨w1.heap.size, 2, none⟩ = some (.string ro.s) := fun o => (World.cell?_alloc_some _ _ _ (by rw [g2]; rfl)).trans g2
            have f3 : ∀ o, (w2.alloc o).cell? ⟨w1.heap.size, 3, none⟩ = some (.slice ro.na ro.nl ro.nc) := fun o => (World.cell?_alloc_some _ _ _ (by rw [g3]; rfl)).trans g3
            have f4 : ∀ o, (w2.alloc o).cell? ⟨w1.heap.size, 4, none⟩ = some (.slice ro.ka ro.kl ro.kc) := fun o => (World.cell?_alloc_some _ _ _ (by rw [g4]; rfl)).trans g4
            have HB2 : Hid (BW w w2) := BW.trans HBW1.out b2
            have CA2 : Hid (∀ w', BW w2 w' → Calls Tryd.prog 4 #[] w' fun e w'' => e = .returned (.bool true) ∧ BW w' w'') := fun w' hb => CA.out w' (BW.trans HB2.out hb)
            have C6 : Hid (∀ w', BW w2 w' → Calls Tryd.prog 6 #[ro.v, ro2.v] w' fun e w'' => e = .returned (.bool true) ∧ BW w' w'') := fun w' hb => by
              have := refSame_any 60 ro.v ro2.v x x w' ((HX1.out.bw b2).bw hb) (hx2.bw hb)
              rw [(sm_eq 60 x x).2 rfl] at this
              exact this
            have HX2 : Hid _ := hx2
            clear b2 CS hx2 g0 g1 g2 g3 g4
            go_wp2_with (first | (go_at_call 6; refine (C6.out _ (by repeat (first | exact BW.refl _ | assumption | apply BW.alloc | apply BW.drewN | apply BW.drew | (refine BW.setCell ?_ (by first | omega | (simp; done) | (simp; omega)) _) | (refine BW.trans ?_ (by assumption))))).mono ?_; rintro e w3 ⟨rfl, b3⟩) | (go_at_call 4; refine (CA2.out _ (by repeat (first | exact BW.refl _ | assumption | apply BW.alloc | apply BW.drewN | apply BW.drew | (refine BW.setCell ?_ (by first | omega | (simp; done) | (simp; omega)) _) | (refine BW.trans ?_ (by assumption))))).mono ?_; rintro e w4 ⟨rfl, b4⟩))
            go_ret
            exact ⟨rfl, BW.trans HB2.out (by repeat (first | exact BW.refl _ | assumption | apply BW.alloc | apply BW.drewN | apply BW.drew | (refine BW.setCell ?_ (by first | omega | (simp; done) | (simp; omega)) _) | (refine BW.trans ?_ (by assumption))))⟩

end Go.Proofs.YtlacjiihbbgbeaaDoor
