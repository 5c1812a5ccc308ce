import Derived.Test.YtlacjiihbbgbeaaDoorV3
namespace Go.Proofs.YtlacjiihbbgbeaaDoor
open Go.RowKit
set_option linter.unusedVariables false
set_option linter.unusedSimpArgs false

theorem pTake_len {st q : Ps} {t : Tok} (h : pTake st = .ok (t, q)) : q.1.length + 1 = st.1.length := by
  obtain ⟨ts, g⟩ := st
  cases ts with
  | nil => cases h
  | cons a r => cases h; rfl
theorem pExpect_len {k : Nat} {st q : Ps} {t : Tok} (h : pExpect k st = .ok (t, q)) : q.1.length + 1 = st.1.length := by
  unfold pExpect at h
  cases hx : pTake st with
  | error e => rw [hx] at h; cases h
  | ok p =>
    obtain ⟨u, r⟩ := p
    rw [hx] at h
    simp only at h
    split at h
    · cases h; exact pTake_len hx
    · cases h
theorem pName_len {l : List (List UInt8)} {st q : Ps} {s : List UInt8} (h : pName l st = .ok (s, q)) : q.1.length + 1 = st.1.length := by
  unfold pName at h
  cases hx : pExpect 3 st with
  | error e => rw [hx] at h; cases h
  | ok p =>
    obtain ⟨u, r⟩ := p
    rw [hx] at h
    simp only at h
    split at h
    · cases h; exact pExpect_len hx
    · cases h
theorem own_map {w : World} {base e z mb : Nat} {v : Value} {n : Nat} {xs : List Value} {l : List (List UInt8)} (h : w.ownsRow base e z v n xs) (hm : TkIs w mb l) (e : some mb = v.ownBlock) : False := by
  rcases h.2 with ⟨rfl, _⟩ | ⟨g, cap, cur, rfl, hb, hg, _⟩
  · simp [Value.ownBlock] at e
  · simp [Value.ownBlock] at e
    subst e
    obtain ⟨D, ⟨es, cl, h1, _⟩, _⟩ := hm
    rw [h1] at hg
    cases hg

/-- Names as a slice. -/
def nmsV (lo : Nat) (w : World) (v : Value) (ns : List (List UInt8)) : Prop := ∃ ao cp, v = .slice ao ns.length cp ∧ StrsAt w ao ns.length (ns.map bsB) ∧ ns.length ≤ cp ∧ cp ≤ maxLen ∧ (ns.length = 0 ∨ ∃ b off, ao = some ⟨b, off, none⟩ ∧ lo ≤ b ∧ b < w.heap.size)
/-- What is left behind the names. -/
def pFin (x : Pr (List (List UInt8))) : Pr (List (List UInt8)) := match x with
  | .error e => .error e
  | .ok (l, st2) => match pTake st2 with
    | .error e => .error e
    | .ok (_, st3) => .ok (l, st3)
theorem own_names {w : World} {base : Nat} {v : Value} {ns : List (List UInt8)} (h : w.ownsRow base 9 1 v ns.length ((ns.map bsB).map Value.string)) (hs : ∀ s ∈ ns, s.length ≤ 100000) : nmsV base w v ns := by
  have h' : w.ownsRow base 9 1 v (ns.map bsB).length ((ns.map bsB).map Value.string) := by simpa using h
  obtain ⟨ao, cp, e, h1, h2, h3⟩ := own_strs' h' (fun s hm => by
    obtain ⟨x, hx, rfl⟩ := List.mem_map.1 hm
    have := hs x hx
    unfold maxLen; show x.toArray.size ≤ _; simp; omega)
  simp only [List.length_map] at e h1 h2
  refine ⟨ao, cp, e, h1, h2, h3, ?_⟩
  rcases h.2 with ⟨_, h0⟩ | ⟨g, cap, cur, e2, hb, hg, _⟩
  · exact .inl h0
  · rw [e2] at e
    cases e
    exact .inr ⟨g, 0, rfl, hb, (Array.getElem?_eq_some_iff.1 hg).1⟩
set_option maxRecDepth 100000 in
set_option maxHeartbeats 4000000 in
theorem params_any (rb B N : Nat) (st : Ps) (w : World) (h : RdP rb B N st w) : Calls Tryd.prog 41 #[.pointer (some ⟨rb, 0, none⟩)] w (PostP (nmsV w.heap.size) rb B N w (pParams st)) := by
  have hlt := h.lt
  have hBw := h.2.2.2.2.1
  have hmm : ∀ w : World, (Instr.makeMap 83 none).run Tryd.prog w = .ok (.map (some w.heap.size)) (w.alloc (.map #[] 0)) := fun w => by first | rfl | simp [Instr.makeMap]
  have C : Hid (Calls Tryd.prog 19 #[.pointer (some ⟨rb, 0, none⟩), .int .u8 1] w (PostP (tvl N) rb B N w (pExpect 1 st))) := expect_any rb B N 1 (by omega) st _ h
  unfold pParams
  cases hx : pExpect 1 st with
  | error er =>
    rw [hx] at C
    show Calls Tryd.prog 41 _ w (fun e w' => e = .panicked (thrP N er) ∧ Fl rb w w')
    have C2 : Hid (Calls Tryd.prog 19 #[.pointer (some ⟨rb, 0, none⟩), .int .u8 1] w (fun e w' => e = .panicked (thrP N er) ∧ Fl rb w w')) := C.out
    clear C h hx
    go_enter Tryd.func41, Tryd.ntmps41
    go_wp2_with (go_at_call 19; refine C2.out.mono ?_; rintro e w1 ⟨rfl, f1⟩)
    exact ⟨rfl, rfl, f1⟩
  | ok p =>
    obtain ⟨t, st1⟩ := p
    rw [hx] at C
    have C2 : Hid (Calls Tryd.prog 19 #[.pointer (some ⟨rb, 0, none⟩), .int .u8 1] w (fun e w' => e = .returned (.agg #[.int .u8 t.kind, .string ⟨t.s.toArray⟩, .int .i64 t.n, .int .i64 ((N - t.back : Nat) : Int)]) ∧ TokOk t ∧ RdP rb B N st1 w' ∧ Fl rb w w')) := C.out.mono fun e w' hh => by
      obtain ⟨v, h1, ⟨h2, h3⟩, h4, h5⟩ := hh
      subst h2
      exact ⟨h1, h3, h4, h5⟩
    clear C hx h
    show Calls Tryd.prog 41 _ w (PostP (nmsV w.heap.size) rb B N w (pFin (pParF (st1.1.length + 1) [] st1)))
    generalize hR : pFin (pParF (st1.1.length + 1) [] st1) = R
    have HR : Hid (pFin (pParF (st1.1.length + 1) [] st1) = R) := hR
    clear hR
    go_enter Tryd.func41, Tryd.ntmps41
    go_wp2_with (fail)
    refine C2.out.mono ?_
    rintro e w1 ⟨rfl, ok, R1, F1⟩
    have hz1 := F1.size
    have hlen : st1.1.length ≤ 100000 := R1.2.2.1.2
    have H0 : Hid (RdP rb B N st1 (w1.alloc (.map #[] 0)) ∧ TkIs (w1.alloc (.map #[] 0)) w1.heap.size [] ∧ Fl rb w (w1.alloc (.map #[] 0))) := ⟨R1.bw (BW.alloc (BW.refl _) _), TkIs.new w1, F1.alloc _⟩
    clear C2 F1 R1 ok
    go_wp2_with (fail)
    go_loopg [3] st1.1.length (fun k v wr => ∃ (ns : List (List UInt8)) (q : Ps) (c : Nat), k = q.1.length ∧ q.1.length < c ∧ ns.length + q.1.length ≤ 100000 ∧ w1.heap.size < wr.heap.size ∧ RdP rb B N q wr ∧ TkIs wr w1.heap.size ns ∧ wr.ownsRow w.heap.size 9 1 v ns.length ((ns.map bsB).map Value.string) ∧ Hid ((∀ s ∈ ns, s.length ≤ 100000) ∧ pFin (pParF c ns q) = R) ∧ Fl rb w wr)
    case atStart => exact ⟨[], st1, st1.1.length + 1, rfl, by omega, by simpa using hlen, by simp, H0.out.1, H0.out.2.1, World.ownsRow_nil _ _ _ _, ⟨by simp, HR.out⟩, H0.out.2.2⟩
    case round =>
      clear H0
      obtain ⟨ns, q, c, rfl, hc, hnl, hzm, Rq, Tq, hown, HQ, Fq⟩ := hrel
      obtain ⟨ts, g⟩ := q
      have hltr := Rq.lt
      have HRq : Hid (RdP rb B N (ts, g) wr) := Rq
      have HTq : Hid (TkIs wr w1.heap.size ns) := Tq
      have HFq : Hid (Fl rb w wr) := Fq
      have HOq : Hid (wr.ownsRow w.heap.size 9 1 _ ns.length ((ns.map bsB).map Value.string)) := hown
      obtain ⟨c, rfl⟩ : ∃ c', c = c' + 1 := ⟨c - 1, by omega⟩
      cases ts with
      | nil =>
        have CP : Hid (Calls Tryd.prog 27 #[.pointer (some ⟨rb, 0, none⟩)] wr fun e w' => e = .panicked (thrP N (11, 0)) ∧ BW wr w') := peek_nil rb B N g wr Rq
        obtain rfl : R = .error (11, 0) := HQ.out.2.symm
        clear Rq Tq Fq hown HR
        go_wp2_with (go_at_call 27; refine CP.out.mono ?_; rintro e w2 ⟨rfl, b2⟩)
        exact ⟨rfl, rfl, HFq.out.trans (b2.fl rb)⟩
      | cons t r =>
        have CP : Hid (Calls Tryd.prog 27 #[.pointer (some ⟨rb, 0, none⟩)] wr fun e w' => e = .returned (.agg #[.int .u8 t.kind, .string ⟨t.s.toArray⟩, .int .i64 t.n, .int .i64 ((N - t.back : Nat) : Int)]) ∧ BW wr w') := peek_cons rb B N g t r wr Rq
        have hfd : ∀ w', (Instr.field 50 (.agg #[.int .u8 t.kind, .string ⟨t.s.toArray⟩, .int .i64 t.n, .int .i64 ((N - t.back : Nat) : Int)]) 0).run Tryd.prog w' = .ok (.int .u8 t.kind) w' := fun w' => by kernel_rfl
        by_cases h2 : t.kind = 2
        · have HQ2 : Hid (R = .ok (ns, (r, g))) := by
            show R = _
            rw [← HQ.out.2]
            have e : pParF (c + 1) ns (t :: r, g) = if t.kind = 2 then .ok (ns, (t :: r, g)) else match pName ns (t :: r, g) with
              | .error e => .error e
              | .ok (x, st1) => pParF c (ns ++ [x]) st1 := rfl
            rw [e, if_pos h2]
            rfl
          have c1 : ((t.kind : Int) == 2) = true := by simp; omega
          have c2 : ((t.kind : Int) != 2) = false := by simp; omega
          have HS : Hid (∀ s ∈ ns, s.length ≤ 100000) := HQ.out.1
          clear Rq Tq Fq hown HR HQ h2
          go_wp2_with (fail)
          refine CP.out.mono ?_
          rintro e w2 ⟨rfl, b2⟩
          have C15 : Hid (Calls Tryd.prog 15 #[.pointer (some ⟨rb, 0, none⟩)] w2 fun e w' => e = .returned (.agg #[.int .u8 t.kind, .string ⟨t.s.toArray⟩, .int .i64 t.n, .int .i64 ((N - t.back : Nat) : Int)]) ∧ RdP rb B N (r, g) w' ∧ Fl rb w2 w') := take_cons rb B N g t r w2 (HRq.out.bw b2)
          have HO2 := own_bw HOq.out b2
          have HF2 : Hid (Fl rb w w2) := HFq.out.trans (b2.fl rb)
          have HR2 : Hid (RdP rb B N (t :: r, g) w2) := HRq.out.bw b2
          clear CP b2 HOq HFq HRq HTq
          go_wp2_with (fail)
          refine C15.out.mono ?_
          rintro e w3 ⟨rfl, R3, F3⟩
          have HO3 := own_names (own_fl HO2 HR2.out F3 (by decide)) HS.out
          have HR3 : Hid (RdP rb B N (r, g) w3) := R3
          have HF3 : Hid (Fl rb w w3) := HF2.out.trans F3
          have HO3' : Hid _ := HO3
          clear R3 F3 HO2 C15 HO3
          go_wp2_with (fail)
          go_ret
          rw [HQ2.out]
          exact ⟨_, rfl, HO3'.out, HR3.out, HF3.out⟩
        · have c1 : ((t.kind : Int) == 2) = false := by simp; omega
          have c2 : ((t.kind : Int) != 2) = true := by simp; omega
          have HQ2 : Hid (pFin (match pName ns (t :: r, g) with
              | .error e => .error e
              | .ok (x, st1) => pParF c (ns ++ [x]) st1) = R) := by
            show _ = R
            rw [← HQ.out.2]
            have e : pParF (c + 1) ns (t :: r, g) = if t.kind = 2 then .ok (ns, (t :: r, g)) else match pName ns (t :: r, g) with
              | .error e => .error e
              | .ok (x, st1) => pParF c (ns ++ [x]) st1 := rfl
            rw [e, if_neg h2]
          have HS : Hid (∀ s ∈ ns, s.length ≤ 100000) := HQ.out.1
          simp only [List.length_cons] at hc hnl
          clear Rq Tq Fq hown HR HQ h2
          go_wp2_with (fail)
          refine CP.out.mono ?_
          rintro e w2 ⟨rfl, b2⟩
          have HR2 : Hid (RdP rb B N (t :: r, g) w2) := HRq.out.bw b2
          have HT2 : Hid (TkIs w2 w1.heap.size ns) := HTq.out.same (b2.block w1.heap.size hzm)
          have CN : Hid (Calls Tryd.prog 40 #[.pointer (some ⟨rb, 0, none⟩), .map (some w1.heap.size)] w2 (PostM rb B N w1.heap.size ns w2 (pName ns (t :: r, g)))) := name_any rb B N w1.heap.size ns _ w2 HR2.out HT2.out (by omega) (by omega)
          have HO2 := own_bw HOq.out b2
          have HO2' : Hid (w2.ownsRow w.heap.size 9 1 _ ns.length ((ns.map bsB).map Value.string)) := HO2
          have HF2 : Hid (Fl rb w w2) := HFq.out.trans (b2.fl rb)
          have hz2 := b2.size
          clear CP b2 HOq HFq HRq HTq HO2
          cases hp : pName ns (t :: r, g) with
          | error er =>
            rw [hp] at CN HQ2
            obtain rfl : R = .error er := HQ2.out.symm
            clear hp HQ2
            go_wp2_with (fail)
            refine CN.out.mono ?_
            rintro e w3 ⟨rfl, f3⟩
            exact ⟨rfl, rfl, f3.fl HF2.out (by omega)⟩
          | ok p =>
            obtain ⟨s, q2⟩ := p
            rw [hp] at CN HQ2
            have hq2 := pName_len hp
            simp only [List.length_cons] at hq2
            clear hp
            go_wp2_with (fail)
            refine CN.out.mono ?_
            rintro e w3 ⟨rfl, R3, T3, hs3, f3⟩
            have HO3 := own_f2 HO2'.out HR2.out HT2.out f3 (by decide)
            have hz3 := f3.size
            have HR3 : Hid (RdP rb B N q2 w3) := R3
            have HT3 : Hid (TkIs w3 w1.heap.size (ns ++ [s])) := T3
            have HF3 : Hid (Fl rb w w3) := f3.fl HF2.out (by omega)
            have hB3 := R3.2.2.2.2.1
            clear R3 T3 f3 CN HO2' HR2 HT2 HF2
            have HO3' := HO3
            rw [show ns.length = (ns.map bsB).length by simp] at HO3'
            go_wp2_with (at_builtin; refine wpList_append_strs rfl _ _ rfl w.heap.size _ (ns.map bsB) [bsB s] (some ⟨w3.heap.size, 0, none⟩) 1 1 rfl rfl (HO3'.alloc _) (strs_one w3 (bsB s) (by unfold maxLen; show s.toArray.size ≤ _; simp; omega)) (by simp; omega) (by simp; omega) ?_)
            intro v' w4 hown4 hgrow4
            have hgb : ∀ j, j < w.heap.size → w4.heap[j]? = w3.heap[j]? := fun j hj => (hgrow4.block j (by simp; omega) (fun e => by have := own_ge HO3' j e.symm; omega)).trans ((BW.alloc (BW.refl w3) _).block j (by omega))
            have hz4 := hgrow4.size
            simp at hz4
            have HO4 : Hid (w4.ownsRow w.heap.size 9 1 v' (ns ++ [s]).length (((ns ++ [s]).map bsB).map Value.string)) := by show World.ownsRow _ _ _ _ _ _ _; simpa using hown4
            have HR4 : Hid (RdP rb B N q2 w4) := HR3.out.up (fun j hj => hgb j (by omega)) (by omega)
            have HF4 : Hid (Fl rb w w4) := HF3.out.hi hgb hgrow4.os hgrow4.tape hgrow4.output (by omega)
            have HT4 : Hid (TkIs w4 w1.heap.size (ns ++ [s])) := HT3.out.same ((hgrow4.block w1.heap.size (by simp; omega) (fun e => own_map HO3' HT3.out e)).trans ((BW.alloc (BW.refl w3) _).block w1.heap.size (by omega)))
            clear hown4 hgrow4 hgb HO3 HO3' HR3 HF3 HT3
            go_wp2_with (fail)
            go_roundg q2.1.length
            case measure => simp only [List.length_cons]; omega
            case rel => exact ⟨ns ++ [s], q2, c, rfl, by omega, by simp; omega, by omega, HR4.out, HT4.out, HO4.out, ⟨fun x hx => by rcases List.mem_append.1 hx with h | h; exact HS.out x h; simp at h; subst h; exact hs3, HQ2.out⟩, HF4.out⟩

end Go.Proofs.YtlacjiihbbgbeaaDoor
