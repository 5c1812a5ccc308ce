import Derived.Test.YtiokcokmpmpcfaaDoorD2
namespace Go.Proofs.YtiokcokmpmpcfaaDoor
open Go.RowKit
set_option linter.unusedVariables false
set_option linter.unusedSimpArgs false

theorem ShU.lt {B b : Nat} {T : TypeId} {r : List Value} {l : List UInt8} {w : World} (h : ShU B b T r l w) : b < w.heap.size := h.sh.lt
theorem Sh.map {B b : Nat} {v : Value} {l : List UInt8} {w : World} (h : Sh B b 45 [v] l w) : w.cell? ⟨b, 2, none⟩ = some v := by
  obtain ⟨_, p, u, _, hb, _⟩ := h
  rw [Lib.cell_of_heap hb]; rfl
theorem wt_kid {n : Nat} : ∀ (l : List (Tr n)) (j : Nat) (x : Tr n), l[j]? = some x → ((l.take j).map (wt n)).sum + wt n x ≤ (l.map (wt n)).sum := by
  intro l j x h
  have h1 : (l.take (j + 1)) = l.take j ++ [x] := by rw [List.take_add_one, h]; rfl
  have h2 : ((l.take (j + 1)).map (wt n)).sum = ((l.take j).map (wt n)).sum + wt n x := by rw [h1]; simp
  have h3 : (l.map (wt n)).sum = ((l.take (j + 1)).map (wt n)).sum + ((l.drop (j + 1)).map (wt n)).sum := by
    rw [← List.sum_append_nat, ← List.map_append, List.take_append_drop]
  omega
theorem shp_lt {k : Nat} {s : Shp} (h : shp k = some s) : k ≤ 19 := by
  rcases Nat.lt_or_ge k 20 with h' | h'
  · omega
  · obtain ⟨m, rfl⟩ := Nat.exists_eq_add_of_le h'
    rw [Nat.add_comm] at h
    cases h
set_option maxRecDepth 100000 in
set_option maxHeartbeats 3000000 in
theorem bracketed_of {n : Nat} (ih : PrintAt n) (v : Value) (t : Tr (n + 1)) (l : List UInt8) (W w : World) (b mb : Nat) (h : NodeAt W (n + 1) v t) (hsh : ShapesAt W mb) (htab : Tab W) (hW : BW W w) (hb : W.heap.size ≤ b) (hS : Sh W.heap.size b 45 [.map (some mb)] l w) (hrt : rt (n + 1) t = true) (hsm : Sm (n + 1) t) (hlen : l.length + wt (n + 1) t ≤ 100000000000000) :
    Calls Tryd.prog 44 #[.pointer (some ⟨b, 0, none⟩), v] w fun e w' => e = .returned (.tuple #[]) ∧ ShU W.heap.size b 45 [.map (some mb)] (l ++ (40 :: bj (opn (hdB (Nd.k (K := Tr n) t).toNat) (Nd.k (K := Tr n) t) (Nd.s (K := Tr n) t) (Nd.ns (K := Tr n) t)) ++ (Nd.ks (K := Tr n) t).flatMap (fun x => 32 :: txt n x) ++ [41])) w' ∧ Fs W.heap.size b w w' := by
  obtain ⟨⟨s, hsp, hsu⟩, hkr⟩ := rt_kids hrt
  obtain ⟨c1, c2, c3, c4, c5⟩ := hsm
  obtain ⟨na, nl, nc, ka, kl, kc, rfl, wf, a1, a2, a3, a4, s1, s2⟩ := h
  have hml : kl ≤ 9223372036854775807 := by unfold maxLen at a4; omega
  have IH : Hid (∀ v x l w, x ∈ Nd.ks (K := Tr n) t → NodeAt W n v x → BW W w → Sh W.heap.size b 45 [.map (some mb)] l w → l.length + wt n x ≤ 100000000000000 → Calls Tryd.prog 21 #[.pointer (some ⟨b, 0, none⟩), v] w fun e w' => e = .returned (.tuple #[]) ∧ ShU W.heap.size b 45 [.map (some mb)] (l ++ txt n x) w' ∧ Fs W.heap.size b w w') :=
    fun v x l w hx hn hw hs hl => ih v x l W w b mb hn hsh htab hw hb hs (hkr x hx) (c5 x hx) hl
  have S1 : Hid (StrsAt W na nl (Nd.ns (K := Tr n) t)) := s1
  have S2 : Hid (SeqAt (NodeAt W n) W ka kl (Nd.ks (K := Tr n) t)) := s2
  have L2 : Hid ((Nd.ks (K := Tr n) t).length = kl) := s2.1
  have HWT : Hid (l.length + (8 * (Nd.s (K := Tr n) t).size + (bj (Nd.ns (K := Tr n) t)).length + 100 + ((Nd.ks (K := Tr n) t).map (wt n)).sum) ≤ 100000000000000) := hlen
  have HOL := opn_len (Nd.k (K := Tr n) t).toNat (Nd.k (K := Tr n) t) (Nd.s (K := Tr n) t) (Nd.ns (K := Tr n) t)
  have HFL : Hid (∀ j, (((Nd.ks (K := Tr n) t).take j).flatMap (fun x => 32 :: txt n x)).length ≤ (((Nd.ks (K := Tr n) t).take j).map (wt n)).sum) := fun j => flat_wt (txt_wt n) _ (fun x hx => c5 x (List.mem_of_mem_take hx))
  have hk0 := wf.k0
  have hnl : nl ≤ 2000000 := by rw [← s1.1]; exact c2
  have HOP : Hid (∀ w', BW W w' → b < w'.heap.size → w'.cell? ⟨b, 2, none⟩ = some (.map (some mb)) → Calls Tryd.prog 61 #[.pointer (some ⟨b, 0, none⟩), ndv (Nd.k (K := Tr n) t) (Nd.n (K := Tr n) t) (Nd.s (K := Tr n) t) na nl nc ka kl kc] w' (OpenPost w' (opn (hdB (Nd.k (K := Tr n) t).toNat) (Nd.k (K := Tr n) t) (Nd.s (K := Tr n) t) (Nd.ns (K := Tr n) t)))) := fun w' hw hl hm => by
    have hkk : (Nd.k (K := Tr n) t) = (((Nd.k (K := Tr n) t).toNat : Nat) : Int) := (Int.toNat_of_nonneg hk0).symm
    have e : hdB (Nd.k (K := Tr n) t).toNat = s.head := by unfold hdB; rw [hsp]
    have hs19 := shp_lt hsp
    have := opening_any b mb (Nd.k (K := Tr n) t).toNat (Nd.n (K := Tr n) t) (Nd.s (K := Tr n) t) na nl nc ka kl kc (Nd.ns (K := Tr n) t) s w' hsp (by omega) hl hm (hsh.bw hw) (s1.bw hw) a1 hnl c4 (by rw [← e]; have := hd_size (Nd.k (K := Tr n) t).toNat; omega) c3
    rw [← hkk, ← e] at this
    exact this
  have HOn : Hid (∀ L : List ByteArray, L = opn (hdB (Nd.k (K := Tr n) t).toNat) (Nd.k (K := Tr n) t) (Nd.s (K := Tr n) t) (Nd.ns (K := Tr n) t) → L.length ≤ 3000000) := fun L e => by
    subst e
    unfold opn
    split
    · simp
    · split
      · simp
      · split <;> simp <;> omega
  generalize opn (hdB (Nd.k (K := Tr n) t).toNat) (Nd.k (K := Tr n) t) (Nd.s (K := Tr n) t) (Nd.ns (K := Tr n) t) = L at *
  generalize Nd.k (K := Tr n) t = tk at *
  generalize Nd.n (K := Tr n) t = tn at *
  generalize Nd.s (K := Tr n) t = ts at *
  have HL : Hid ((bj L).length ≤ 20 + ts.size + (bj (Nd.ns (K := Tr n) t)).length) := HOL
  clear hrt hsp hsu hkr c1 c2 c3 c4 c5 wf a1 a2 a4 s1 s2 hlen HOL ih htab hsh hk0
  go_enter Tryd.func44, Tryd.ntmps44
  go_wp2_with (fail)
  have hltb := hS.lt
  have hzW := hW.size
  refine (writeByte_n 40 40 rfl W.heap.size b 45 [.map (some mb)] (hm45 _) l _ (hS.bw (BW.alloc (BW.refl _) _)) (by have := HWT.out; omega) (by simp; omega)).mono ?_
  rintro e w2 ⟨rfl, h2, f2⟩
  have hbx : (w.alloc (.cells #[.int .u8 tk, .int .i64 tn, .string ts, .slice na nl nc, .slice ka kl kc] 25)).heap[w.heap.size]? = some (.cells #[.int .u8 tk, .int .i64 tn, .string ts, .slice na nl nc, .slice ka kl kc] 25 (0, 0)) := heap_alloc_new w _
  have hnb : ¬ w.heap.size = b := by omega
  have hbx2 : w2.heap[w.heap.size]? = some (.cells #[.int .u8 tk, .int .i64 tn, .string ts, .slice na nl nc, .slice ka kl kc] 25 (0, 0)) := f2.oth _ _ hbx (by simpa using hnb) (by intro c fz e; cases e)
  have q0 : w2.cell? ⟨w.heap.size, 0, none⟩ = some (.int .u8 tk) := by rw [Lib.cell_of_heap hbx2]; rfl
  have q1 : w2.cell? ⟨w.heap.size, 1, none⟩ = some (.int .i64 tn) := by rw [Lib.cell_of_heap hbx2]; rfl
  have q2 : w2.cell? ⟨w.heap.size, 2, none⟩ = some (.string ts) := by rw [Lib.cell_of_heap hbx2]; rfl
  have q3 : w2.cell? ⟨w.heap.size, 3, none⟩ = some (.slice na nl nc) := by rw [Lib.cell_of_heap hbx2]; rfl
  have q4 : w2.cell? ⟨w.heap.size, 4, none⟩ = some (.slice ka kl kc) := by rw [Lib.cell_of_heap hbx2]; rfl
  have F2 : Hid (Fs W.heap.size b w w2) := (BW.fs (BW.alloc (BW.refl w) _) hzW).trans f2
  have hbW2 : BW W w2 := F2.out.bw hW
  have hlt2 : w.heap.size < w2.heap.size := (Array.getElem?_eq_some_iff.1 hbx2).1
  have hlb2 := h2.lt
  have hmp2 := h2.sh.map
  clear f2 hbx
  go_wp2_with (fail)
  go_region_held3 (fun w' => w'.cell? ⟨w.heap.size, 0, none⟩ = some (.int .u8 tk) ∧ w'.cell? ⟨w.heap.size, 1, none⟩ = some (.int .i64 tn) ∧ w'.cell? ⟨w.heap.size, 2, none⟩ = some (.string ts) ∧ w'.cell? ⟨w.heap.size, 3, none⟩ = some (.slice na nl nc) ∧ w'.cell? ⟨w.heap.size, 4, none⟩ = some (.slice ka kl kc)) (go_keep) (first
    | (go_at_call 61; refine (HOP.out _ (BW.drew hbW2) (by simpa using hlb2) hmp2).mono ?_; rintro e w3 ⟨⟨ao, cp, rfl, hst, hcp⟩, b3⟩; have z1 := fun o => b3.cells w.heap.size o (by simpa using hlt2); have y3 : BW w2 w3 := BW.trans (BW.drew (BW.refl _)) b3)
    | (go_at_call 60; refine (join_any _ _ _ L _ hst hcp (by have := HL.out; have := HWT.out; omega) (by have := HOn.out L rfl; omega)).mono ?_; rintro e w4 ⟨rfl, b4⟩; have z2 := fun o => b4.cells w.heap.size o (by have := y3.size; omega); have y4 : BW w2 w4 := BW.trans y3 b4)
    | (go_at_call 40; refine (writeString_any W.heap.size b 45 [.map (some mb)] (hm45 _) (l ++ [40]) _ _ (h2.sh.bw y4) (by rw [bjB_size]; have := HL.out; have := HWT.out; simp; omega) (by have := y4.size; omega)).mono ?_; rintro e w5 ⟨rfl, h5, f5⟩; have z3 := fun o => f5.cells ((y4.block w.heap.size hlt2).trans hbx2) (by decide) hnb o))
  have F5 : Hid (Fs W.heap.size b w w5) := F2.out.trans ((BW.fs y4 (by omega)).trans f5)
  have H5 : Hid (Sh W.heap.size b 45 [.map (some mb)] (l ++ 40 :: bj L) w5) := by
    have := h5.sh
    rw [List.append_assoc] at this
    exact this
  have hq4 : w5.cell? ⟨w.heap.size, 4, none⟩ = some (.slice ka kl kc) := by rw [z3 4, y4.cells _ _ hlt2]; exact q4
  clear z1 z2 z3 y3 y4 b3 b4 f5 h5 hst hcp h2 hmp2 hlb2 hbW2 q0 q1 q2 q3 q4 hbx2
  go_wp2_with (fail)
  clear hq4
  go_loopw [21] (fun i w' => ∃ j : Nat, j ≤ kl ∧ i = .int .i64 j ∧ Sh W.heap.size b 45 [.map (some mb)] (l ++ (40 :: bj L ++ ((Nd.ks (K := Tr n) t).take j).flatMap (fun x => 32 :: txt n x))) w' ∧ Fs W.heap.size b w w') (fun i _ => kl - (intOf i).toNat)
  case atStart => exact ⟨0, Nat.zero_le _, rfl, by simpa using H5.out, F5.out⟩
  case round =>
    obtain ⟨j, hj, rfl, hsh, hfs⟩ := hrel
    have hbW := hfs.bw hW
    have hzr := hfs.size
    have hlr := hsh.lt
    have HSH : Hid (Sh W.heap.size b 45 [.map (some mb)] (l ++ (40 :: bj L ++ ((Nd.ks (K := Tr n) t).take j).flatMap (fun x => 32 :: txt n x))) wr) := hsh
    by_cases hlt : j < kl
    · obtain ⟨bk, off, x, rfl, hbl, hx, r, hr, hax⟩ := SeqAt.get S2.out hlt
      have HX : Hid (NodeAt W n r.v x) := hax
      have HM : Hid (x ∈ Nd.ks (K := Tr n) t) := List.mem_of_getElem? hx
      have hwk := wt_kid (Nd.ks (K := Tr n) t) j x hx
      have hlen1 : Hid ((l ++ (40 :: bj L ++ ((Nd.ks (K := Tr n) t).take j).flatMap (fun x => 32 :: txt n x))).length + 1 + wt n x ≤ 100000000000000) := by
        show _ ≤ _
        have := HFL.out j
        have := HL.out
        have := HWT.out
        simp only [List.length_append, List.length_cons]
        omega
      have HSN : Hid (((Nd.ks (K := Tr n) t).take (j + 1)).flatMap (fun x => 32 :: txt n x) = ((Nd.ks (K := Tr n) t).take j).flatMap (fun x => 32 :: txt n x) ++ 32 :: txt n x) := by
        show _ = _
        rw [List.take_add_one, hx]; simp
      obtain ⟨d0, d1, d2, d3, d4⟩ := hr.bw hbW hbl
      clear hax hx hr hwk hsh
      go_wp2_with (fail)
      refine (writeByte_n 32 32 rfl W.heap.size b 45 [.map (some mb)] (hm45 _) (l ++ (40 :: bj L ++ ((Nd.ks (K := Tr n) t).take j).flatMap (fun x => 32 :: txt n x))) _ (HSH.out.bw (BW.alloc (BW.refl _) _)) (by have := hlen1.out; omega) (by simp; omega)).mono ?_
      rintro e w6 ⟨rfl, h6, f6⟩
      have hbk : (wr.alloc (.cells #[.int .u8 r.k, .int .i64 r.n, .string r.s, .slice r.na r.nl r.nc, .slice r.ka r.kl r.kc] 25)).heap[wr.heap.size]? = some (.cells #[.int .u8 r.k, .int .i64 r.n, .string r.s, .slice r.na r.nl r.nc, .slice r.ka r.kl r.kc] 25 (0, 0)) := heap_alloc_new wr _
      have hnb2 : ¬ wr.heap.size = b := by omega
      have hk6 : w6.heap[wr.heap.size]? = some (.cells #[.int .u8 r.k, .int .i64 r.n, .string r.s, .slice r.na r.nl r.nc, .slice r.ka r.kl r.kc] 25 (0, 0)) := f6.oth _ _ hbk (by simpa using hnb2) (by intro c fz e; cases e)
      have q0 : w6.cell? ⟨wr.heap.size, 0, none⟩ = some (.int .u8 r.k) := by rw [Lib.cell_of_heap hk6]; rfl
      have q1 : w6.cell? ⟨wr.heap.size, 1, none⟩ = some (.int .i64 r.n) := by rw [Lib.cell_of_heap hk6]; rfl
      have q2 : w6.cell? ⟨wr.heap.size, 2, none⟩ = some (.string r.s) := by rw [Lib.cell_of_heap hk6]; rfl
      have q3 : w6.cell? ⟨wr.heap.size, 3, none⟩ = some (.slice r.na r.nl r.nc) := by rw [Lib.cell_of_heap hk6]; rfl
      have q4 : w6.cell? ⟨wr.heap.size, 4, none⟩ = some (.slice r.ka r.kl r.kc) := by rw [Lib.cell_of_heap hk6]; rfl
      have F6 : Hid (Fs W.heap.size b w w6) := hfs.trans ((BW.fs (BW.alloc (BW.refl wr) _) (by omega)).trans f6)
      have H6 : Hid (ShU W.heap.size b 45 [.map (some mb)] ((l ++ (40 :: bj L ++ ((Nd.ks (K := Tr n) t).take j).flatMap (fun x => 32 :: txt n x))) ++ [32]) w6) := h6
      clear f6 hbk hk6 h6
      go_wp2_with (fail)
      refine (IH.out _ x ((l ++ (40 :: bj L ++ ((Nd.ks (K := Tr n) t).take j).flatMap (fun x => 32 :: txt n x))) ++ [32]) _ HM.out HX.out (F6.out.bw hW) H6.out.sh (by have := hlen1.out; simp only [List.length_append, List.length_cons, List.length_nil] at *; omega)).mono ?_
      rintro e w7 ⟨rfl, h7, f7⟩
      have F7 : Hid (Fs W.heap.size b w w7) := F6.out.trans f7
      have H7 : Hid (Sh W.heap.size b 45 [.map (some mb)] (l ++ (40 :: bj L ++ ((Nd.ks (K := Tr n) t).take (j + 1)).flatMap (fun x => 32 :: txt n x))) w7) := by
        have := h7.sh
        rw [HSN.out]
        show Sh _ _ _ _ _ _
        simpa using this
      clear h7 f7
      go_wp2_with (fail)
      go_roundw
      case rel => exact ⟨j + 1, by omega, by go_num, H7.out, F7.out⟩
      case measure => simp [intOf]; omega
    · have hjn : kl = j := by omega
      subst hjn
      have HT : Hid ((Nd.ks (K := Tr n) t).take kl = Nd.ks (K := Tr n) t) := List.take_of_length_le (by rw [L2.out]; omega)
      clear hsh
      go_wp2_with (fail)
      refine (writeByte_n 41 41 rfl W.heap.size b 45 [.map (some mb)] (hm45 _) _ _ HSH.out (by have := HFL.out kl; have := HL.out; have := HWT.out; rw [HT.out] at *; simp only [List.length_append, List.length_cons]; omega) (by omega)).mono ?_
      rintro e w6 ⟨rfl, h6, f6⟩
      rw [HT.out] at h6
      go_wp2_with (fail)
      go_end0
      exact ⟨rfl, by simpa using h6, hfs.trans f6⟩

theorem su_parts {s : Shp} {k n : Int} {x : ByteArray} {ns : List ByteArray} {kl : Nat} (h : su s k n x ns kl = true) : tx s.f x = true := by
  unfold su at h
  simp only [Bool.and_eq_true] at h
  exact h.1.1.1.1.1.1
set_option maxRecDepth 100000 in
set_option maxHeartbeats 1000000 in
theorem node_br (b : Nat) (tk tn : Int) (ts : ByteArray) (na : Option Addr) (nl nc : Nat) (ka : Option Addr) (kl kc : Nat) (w : World) (X : List UInt8) (mb : Nat) (W : World) (hzW : W.heap.size ≤ w.heap.size) (e1 : (tk == 1) = false) (e2 : (tk == 2) = false) (e3 : (tk == 3) = false) (e4 : (tk == 4) = false) (e5 : (tk == 5) = false)
    (hC : ∀ w', BW w w' → Calls Tryd.prog 44 #[.pointer (some ⟨b, 0, none⟩), ndv tk tn ts na nl nc ka kl kc] w' fun e w'' => e = .returned (.tuple #[]) ∧ ShU W.heap.size b 45 [.map (some mb)] X w'' ∧ Fs W.heap.size b w' w'') :
    Calls Tryd.prog 21 #[.pointer (some ⟨b, 0, none⟩), ndv tk tn ts na nl nc ka kl kc] w fun e w' => e = .returned (.tuple #[]) ∧ ShU W.heap.size b 45 [.map (some mb)] X w' ∧ Fs W.heap.size b w w' := by
  have HC : Hid _ := hC
  clear hC
  go_enter Tryd.func21, Tryd.ntmps21
  go_wp2_with (go_at_call 44; refine (HC.out _ (BW.alloc (BW.refl w) _)).mono ?_; rintro e w2 ⟨rfl, h2, f2⟩)
  go_end0
  exact ⟨rfl, h2, (BW.fs (BW.alloc (BW.refl w) _) hzW).trans f2⟩
theorem node_any : ∀ n, PrintAt n := by
  intro n
  induction n with
  | zero => intro v t l W w b mb h; exact h.elim
  | succ n ih =>
    intro v t l W w b mb h hsh htab hW hb hS hrt hsm hlen
    have HB := fun w' (hw : BW w w') => bracketed_of ih v t l W w' b mb h hsh htab (BW.trans hW hw) hb (hS.bw hw) hrt hsm hlen
    obtain ⟨⟨s, hsp, hsu⟩, hkr⟩ := rt_kids hrt
    have htx := su_parts hsu
    obtain ⟨c1, c2, c3, c4, c5⟩ := hsm
    obtain ⟨na, nl, nc, ka, kl, kc, rfl, wf, _⟩ := h
    have hz := hW.size
    have hl2 : l.length + (8 * (Nd.s (K := Tr n) t).size + (bj (Nd.ns (K := Tr n) t)).length + 100 + ((Nd.ks (K := Tr n) t).map (wt n)).sum) ≤ 100000000000000 := hlen
    have hT : txt (n + 1) t = if (Nd.k (K := Tr n) t) = 1 then Lib.itoa (Nd.n (K := Tr n) t) else if (Nd.k (K := Tr n) t) = 2 then Lib.formatBool ((Nd.n (K := Tr n) t) == 1) else if (Nd.k (K := Tr n) t) = 3 then quo (Nd.s (K := Tr n) t).data.toList else if (Nd.k (K := Tr n) t) = 4 then [117, 110, 105, 116] else if (Nd.k (K := Tr n) t) = 5 then (Nd.s (K := Tr n) t).data.toList else
      40 :: bj (opn (hdB (Nd.k (K := Tr n) t).toNat) (Nd.k (K := Tr n) t) (Nd.s (K := Tr n) t) (Nd.ns (K := Tr n) t)) ++ (Nd.ks (K := Tr n) t).flatMap (fun x => 32 :: txt n x) ++ [41] := rfl
    generalize Nd.k (K := Tr n) t = tk at *
    by_cases k1 : tk = 1
    · subst k1
      rw [hT, if_pos rfl]
      exact node_1 _ b mb l _ _ na nl nc ka kl kc w hS hz (htab.bw hW) c1.1 c1.2 (by omega)
    · by_cases k2 : tk = 2
      · subst k2
        rw [hT, if_neg k1, if_pos rfl]
        exact node_2 _ b mb l _ _ na nl nc ka kl kc w hS hz (by omega)
      · by_cases k3 : tk = 3
        · subst k3
          rw [hT, if_neg k1, if_neg k2, if_pos rfl]
          have hs : (Nd.s (K := Tr n) t).size ≤ 65536 := by
            cases hsp
            simpa [tx] using htx
          exact node_3 _ b mb l _ _ na nl nc ka kl kc w hS hz (by omega) (by omega)
        · by_cases k4 : tk = 4
          · subst k4
            rw [hT, if_neg k1, if_neg k2, if_neg k3, if_pos rfl]
            exact node_4 _ b mb l _ _ na nl nc ka kl kc w hS hz (by omega)
          · by_cases k5 : tk = 5
            · subst k5
              rw [hT, if_neg k1, if_neg k2, if_neg k3, if_neg k4, if_pos rfl]
              have hs : (Nd.s (K := Tr n) t).size ≤ 65536 := by
                cases hsp
                have h2 : nmB (Nd.s (K := Tr n) t) = true := by simpa [tx] using htx
                simp only [nmB, wdB, Bool.and_eq_true, decide_eq_true_eq] at h2
                exact h2.1.1.1.1
              exact node_5 _ b mb l _ _ na nl nc ka kl kc w hS hz (by omega) (by omega)
            · rw [hT, if_neg k1, if_neg k2, if_neg k3, if_neg k4, if_neg k5]
              exact node_br b tk _ _ na nl nc ka kl kc w _ mb W hz (by simpa using k1) (by simpa using k2) (by simpa using k3) (by simpa using k4) (by simpa using k5) HB

end Go.Proofs.YtiokcokmpmpcfaaDoor
