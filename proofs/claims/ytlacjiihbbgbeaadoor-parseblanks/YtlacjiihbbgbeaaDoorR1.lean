import Derived.Test.YtlacjiihbbgbeaaDoorM1
namespace Go.Proofs.YtlacjiihbbgbeaaDoor
open Go.RowKit
set_option linter.unusedVariables false
set_option linter.unusedSimpArgs false

/-- The reader in block b has the source s, and has come to the place p. -/
def Rd (b : Nat) (s : ByteArray) (p : Nat) (w : World) : Prop := w.heap[b]? = some (.cells #[.string s, .int .i64 p] 45 (0, 0))
/-- What a call that may move the reader in block b leaves of the world. -/
structure Fd (b : Nat) (w w' : World) : Prop where
  bel : Below b w w'
  oth : ∀ k, k < w.heap.size → k ≠ b → w'.heap[k]? = w.heap[k]?
theorem Fd.refl (b : Nat) (w : World) : Fd b w w := ⟨Below.refl _ _, fun _ _ _ => rfl⟩
theorem Fd.size {b : Nat} {w w' : World} (h : Fd b w w') : w.heap.size ≤ w'.heap.size := h.bel.size
theorem Fd.trans {b : Nat} {w w' w'' : World} (h : Fd b w w') (k : Fd b w' w'') : Fd b w w'' :=
  ⟨h.bel.trans k.bel, fun j hj hb => (k.oth j (Nat.lt_of_lt_of_le hj h.size) hb).trans (h.oth j hj hb)⟩
theorem BW.fd {w w' : World} (h : BW w w') {b : Nat} (hb : b ≤ w.heap.size) : Fd b w w' := ⟨Below.mono h hb, fun k hk _ => h.block k hk⟩
theorem Fd.drewN {b : Nat} {a c : World} (h : Fd b a c) (n : Nat) : Fd b a (c.drewN n) := ⟨⟨h.bel.os, h.bel.tape, h.bel.output, h.bel.size, h.bel.block⟩, h.oth⟩
theorem Fd.drew {b : Nat} {a c : World} (h : Fd b a c) : Fd b a c.drew := ⟨Below.drew h.bel, h.oth⟩
theorem Fd.set {b : Nat} {a c : World} (h : Fd b a c) (o : Nat) (u : Value) : Fd b a (c.setCell ⟨b, o, none⟩ u) :=
  ⟨Below.setCell h.bel (p := ⟨b, o, none⟩) (Nat.le_refl _) u, fun k hk hb => (heap_setCell_other _ ⟨b, o, none⟩ k u hb).trans (h.oth k hk hb)⟩
theorem Rd.lt {b : Nat} {s : ByteArray} {p : Nat} {w : World} (h : Rd b s p w) : b < w.heap.size := (Array.getElem?_eq_some_iff.1 h).1
theorem Rd.c0 {b : Nat} {s : ByteArray} {p : Nat} {w : World} (h : Rd b s p w) : w.cell? ⟨b, 0, none⟩ = some (.string s) := by rw [Lib.cell_of_heap h]; rfl
theorem Rd.c1 {b : Nat} {s : ByteArray} {p : Nat} {w : World} (h : Rd b s p w) : w.cell? ⟨b, 1, none⟩ = some (.int .i64 p) := by rw [Lib.cell_of_heap h]; rfl
theorem Rd.z {b : Nat} {s : ByteArray} {p : Nat} {w : World} (h : Rd b s p w) (o : Nat) : w.frozen? ⟨b, o, none⟩ = false := Lib.frozen_of_heap h o
theorem Rd.bw {b : Nat} {s : ByteArray} {p : Nat} {w w' : World} (h : Rd b s p w) (k : BW w w') : Rd b s p w' := (k.block b h.lt).trans h
theorem Rd.set {b : Nat} {s : ByteArray} {p : Nat} {w : World} (h : Rd b s p w) (q : Nat) : Rd b s q (w.setCell ⟨b, 1, none⟩ (.int .i64 q)) := heap_setCell_same _ b 1 _ 45 _ h
abbrev unend : List PanicEntry := [{ v := .iface 42 (.agg #[]), recovered := false }]
abbrev misf (p : Int) : List PanicEntry := [{ v := .iface 43 (.int .i64 p), recovered := false }]
def thrown (N : Nat) (rest : List UInt8) (e : Nat) : List PanicEntry := if e = 11 then unend else misf ((N - rest.length : Nat) : Int)
theorem drop_here (s : ByteArray) (p : Nat) (h : p < s.size) : s.data.toList.drop p = s[p] :: s.data.toList.drop (p + 1) := by
  rw [List.drop_eq_getElem_cons (by simpa using h)]; rfl
theorem drop_end (s : ByteArray) (p : Nat) (h : ¬ p < s.size) : s.data.toList.drop p = [] := List.drop_of_length_le (by simp; omega)
theorem drop_len (s : ByteArray) (p : Nat) : (s.data.toList.drop p).length = s.size - p := by simp
/-- The reader has come to where l is left. -/
def At (s : ByteArray) (p : Nat) (l : List UInt8) : Prop := p ≤ s.size ∧ s.data.toList.drop p = l
theorem At.nil {s : ByteArray} {p : Nat} (h : At s p []) : p = s.size := by
  have := congrArg List.length h.2
  rw [drop_len] at this; have := h.1; simp at *; omega
theorem At.cons {s : ByteArray} {p : Nat} {c : UInt8} {r : List UInt8} (h : At s p (c :: r)) : ∃ hp : p < s.size, s[p] = c ∧ At s (p + 1) r := by
  have h1 := h.2
  by_cases hp : p < s.size
  · rw [drop_here s p hp] at h1
    injection h1 with h1 h2
    exact ⟨hp, h1, by omega, h2⟩
  · rw [drop_end s p hp] at h1; cases h1
theorem At.len {s : ByteArray} {p : Nat} {l : List UInt8} (h : At s p l) : l.length = s.size - p := by rw [← h.2, drop_len]
theorem At.place {s : ByteArray} {p : Nat} {l : List UInt8} (h : At s p l) : s.size - l.length = p := by rw [h.len]; have := h.1; omega
theorem At.uniq {s : ByteArray} {p q : Nat} {l : List UInt8} (h : At s p l) (k : At s q l) : p = q := h.place.symm.trans k.place
def Post {α : Type} (f : α → Value) (b : Nat) (s : ByteArray) (w : World) (R : Res α) (e : Ending) (w' : World) : Prop :=
  match R with
  | .ok a rest => e = .returned (f a) ∧ ∃ q, At s q rest ∧ Rd b s q w' ∧ Fd b w w'
  | .error k rest => e = .panicked (thrown s.size rest k) ∧ Fd b w w'
set_option maxRecDepth 100000 in
set_option maxHeartbeats 1000000 in
theorem next_end (b : Nat) (s : ByteArray) (hs : s.size ≤ 100000) (w : World) (h : Rd b s s.size w) :
    Calls Tryd.prog 31 #[.pointer (some ⟨b, 0, none⟩)] w fun e w' => e = .panicked unend ∧ Fd b w w' := by
  have c0 := h.c0
  have c1 := h.c1
  go_enter Tryd.func31, Tryd.ntmps31
  go_wp2_with (fail)
  go_quiet (fail)
  go_wp2_with (fail)
  exact ⟨rfl, rfl, (Fd.refl b w).drewN _⟩
set_option maxRecDepth 100000 in
set_option maxHeartbeats 1000000 in
theorem next_one (b : Nat) (s : ByteArray) (hs : s.size ≤ 100000) (p : Nat) (hp : p < s.size) (w : World) (h : Rd b s p w) :
    Calls Tryd.prog 31 #[.pointer (some ⟨b, 0, none⟩)] w fun e w' => e = .returned (.int .u8 s[p].toNat) ∧ Rd b s (p + 1) w' ∧ Fd b w w' := by
  have c0 := h.c0
  have c1 := h.c1
  have hz := h.z
  have hn : ¬ (p : Int) = s.size := by omega
  go_enter Tryd.func31, Tryd.ntmps31
  go_wp2_with (fail)
  go_quiet (fail)
  go_wp2_with (fail)
  go_quiet (fail)
  go_wp2_with (fail)
  go_ret
  exact ⟨rfl, h.set (p + 1), (by repeat (first | exact Fd.refl _ _ | apply Fd.drewN | apply Fd.drew | apply Fd.set))⟩
theorem hx_some {n a : Int} (h : hx n = some a) : (48 ≤ n ∧ n ≤ 57 ∧ a = n - 48) ∨ (97 ≤ n ∧ n ≤ 102 ∧ a = n - 87) ∨ (65 ≤ n ∧ n ≤ 70 ∧ a = n - 55) := by
  unfold hx at h
  split at h
  · injection h with h; exact .inl ⟨by omega, by omega, h.symm⟩
  · split at h
    · injection h with h; exact .inr (.inl ⟨by omega, by omega, h.symm⟩)
    · split at h
      · injection h with h; exact .inr (.inr ⟨by omega, by omega, h.symm⟩)
      · cases h
theorem hx_none {n : Int} (h : hx n = none) : ¬ (48 ≤ n ∧ n ≤ 57) ∧ ¬ (97 ≤ n ∧ n ≤ 102) ∧ ¬ (65 ≤ n ∧ n ≤ 70) := by
  unfold hx at h
  split at h
  · cases h
  · split at h
    · cases h
    · split at h
      · cases h
      · exact ⟨by omega, by omega, by omega⟩
theorem next_any (b : Nat) (s : ByteArray) (hs : s.size ≤ 100000) (p : Nat) (l : List UInt8) (hl : At s p l) (w : World) (h : Rd b s p w) :
    Calls Tryd.prog 31 #[.pointer (some ⟨b, 0, none⟩)] w (Post (fun c : UInt8 => .int .u8 c.toNat) b s w (nxt l)) := by
  cases l with
  | nil =>
    obtain rfl := hl.nil
    exact next_end b s hs w h
  | cons c r =>
    obtain ⟨hp, rfl, h2⟩ := hl.cons
    refine (next_one b s hs p hp w h).mono ?_
    rintro e w' ⟨rfl, h3, h4⟩
    exact ⟨rfl, p + 1, h2, h3, h4⟩
set_option maxRecDepth 100000 in
set_option maxHeartbeats 1000000 in
theorem digit_any (b : Nat) (s : ByteArray) (hs : s.size ≤ 100000) (p : Nat) (l : List UInt8) (hl : At s p l) (w : World) (h : Rd b s p w) :
    Calls Tryd.prog 44 #[.pointer (some ⟨b, 0, none⟩)] w (Post (fun a : Int => .int .u8 a) b s w (dig l)) := by
  have hC := next_any b s hs p l hl w h
  cases l with
  | nil =>
    go_enter Tryd.func44, Tryd.ntmps44
    go_wp2_with (go_at_call 31; refine hC.mono ?_; rintro e w' ⟨rfl, hf⟩)
    exact ⟨rfl, rfl, hf⟩
  | cons c r =>
    obtain ⟨hp, rfl, hA⟩ := hl.cons
    cases hh : hx s[p].toNat with
    | some a =>
      have hd : dig (s[p] :: r) = .ok a r := by simp [dig, hh]
      rw [hd]
      rcases hx_some hh with ⟨d1, d2, rfl⟩ | ⟨d1, d2, rfl⟩ | ⟨d1, d2, rfl⟩
      · have t1 : IntKind.u8.wrap ((s[p].toNat : Int) - 48) = s[p].toNat - 48 := u8w _ (by omega) (by omega)
        go_enter Tryd.func44, Tryd.ntmps44
        go_wp2_with (go_at_call 31; refine hC.mono ?_; rintro e w' ⟨rfl, q, hq, hR, hf⟩; obtain rfl := hA.uniq hq; have c1 := hR.c1)
        go_ret
        exact ⟨rfl, _, hq, hR, hf⟩
      · have t1 : IntKind.u8.wrap ((s[p].toNat : Int) - 97) = s[p].toNat - 97 := u8w _ (by omega) (by omega)
        have t2 : IntKind.u8.wrap ((s[p].toNat : Int) - 97 + 10) = s[p].toNat - 87 := by rw [u8w _ (by omega) (by omega)]; omega
        have d3 : (57 : Int) < s[p].toNat := by omega
        go_enter Tryd.func44, Tryd.ntmps44
        go_wp2_with (go_at_call 31; refine hC.mono ?_; rintro e w' ⟨rfl, q, hq, hR, hf⟩; obtain rfl := hA.uniq hq; have c1 := hR.c1)
        all_goals first | (exfalso; omega) | (go_ret; exact ⟨rfl, _, hq, hR, hf⟩)
      · have t1 : IntKind.u8.wrap ((s[p].toNat : Int) - 65) = s[p].toNat - 65 := u8w _ (by omega) (by omega)
        have t2 : IntKind.u8.wrap ((s[p].toNat : Int) - 65 + 10) = s[p].toNat - 55 := by rw [u8w _ (by omega) (by omega)]; omega
        have d3 : (57 : Int) < s[p].toNat := by omega
        have d4 : (s[p].toNat : Int) < 97 := by omega
        go_enter Tryd.func44, Tryd.ntmps44
        go_wp2_with (go_at_call 31; refine hC.mono ?_; rintro e w' ⟨rfl, q, hq, hR, hf⟩; obtain rfl := hA.uniq hq; have c1 := hR.c1)
        all_goals first | (exfalso; omega) | (go_ret; exact ⟨rfl, _, hq, hR, hf⟩)
    | none =>
      have hd : dig (s[p] :: r) = .error 10 (s[p] :: r) := by simp [dig, hh]
      rw [hd]
      obtain ⟨d1, d2, d3⟩ := hx_none hh
      have ht : thrown s.size (s[p] :: r) 10 = misf p := by unfold thrown; rw [if_neg (by decide), hl.place]
      have hw : IntKind.i64.wrap (((p + 1 : Nat) : Int) - 1) = p := by rw [i64w _ (by omega) (by omega)]; omega
      go_enter Tryd.func44, Tryd.ntmps44
      go_wp2_with (go_at_call 31; refine hC.mono ?_; rintro e w' ⟨rfl, q, hq, hR, hf⟩; obtain rfl := hA.uniq hq; have c1 := hR.c1)
      all_goals first | (exfalso; omega) | exact ⟨rfl, by rw [ht], hf⟩

end Go.Proofs.YtlacjiihbbgbeaaDoor
