import Derived.Test.YtfgnlddfpemblaaDoorS6
namespace Go.Proofs.YtfgnlddfpemblaaDoor
open Go.RowKit
set_option linter.unusedVariables false
set_option linter.unusedSimpArgs false

theorem AsksB.up {B B' f : Nat} {p v r : Value} {w W : World} (h : AsksB B f p v r w) (hB : B ≤ B') (k : Below B w W) : AsksB B' f p v r W := fun w1 h1 => h w1 (k.trans (Below.mono h1 hB))
theorem Look.up {B B' : Nat} {pv : Value} {f : Va → Option (Va × Va)} {w W : World} (h : Look B pv f w) (hB : B ≤ B') (k : Below B w W) : Look B' pv f W := by
  rcases h with h | ⟨p, e, h⟩
  · exact .inl h
  · exact .inr ⟨p, e, fun x hx => ⟨fun hn => ((h x hx).1 hn).up hB k, fun y z hs => ⟨((h x hx).2 y z hs).1.up hB k, ((h x hx).2 y z hs).2.up hB k⟩⟩⟩
set_option maxRecDepth 100000 in
set_option maxHeartbeats 1000000 in
theorem show_any (pv : Value) (f : Va → Option (Va × Va)) (hf : ∀ x y z, f x = some (y, z) → Fine y ∧ Fine z) (x : Va) (hF : Fine x) (w : World) (hl : Look w.heap.size pv f w) (ht : Tab w) :
    Calls Tryd.prog 12 #[pv, x.v] w fun e w' => e = .returned (.string ⟨(sho f 6 x).toArray⟩) ∧ BW w w' := by
  have hV : Hid (∀ (l : List UInt8) (w' : World), Sh (w.heap.size + 1) (w.heap.size + 1) pv l w' → Env (w.heap.size + 1) pv f w' → l.length + 10000 * 2 ^ 6 ≤ 140737488355328 → Calls Tryd.prog 18 #[.pointer (some ⟨w.heap.size + 1, 0, none⟩), x.v, .int .i64 6] w' fun e w'' => e = .returned (.tuple #[]) ∧ ShU (w.heap.size + 1) (w.heap.size + 1) pv (l ++ sho f 6 x) w'' ∧ Fs (w.heap.size + 1) (w.heap.size + 1) w' w'') :=
    fun l w' h1 h2 h3 => value_any _ _ pv f hf 6 (by omega) x hF l w' h1 h2 h3
  have hne := sho_ne f 6 x
  have hE : Hid (Env (w.heap.size + 1) pv f ((w.alloc (.cells #[.int .u8 x.t, .int .i64 x.n, .string x.s] 24)).alloc (.cells #[.pointer none, .slice none 0 0, pv] 58))) :=
    ⟨hl.up (by omega) ((by repeat (first | exact BW.refl _ | apply BW.alloc | apply BW.drewN | apply BW.drew)) : BW w _), ht.bw (by repeat (first | exact BW.refl _ | apply BW.alloc | apply BW.drewN | apply BW.drew)), by simp, by omega⟩
  have hpv : pv = .nilIface ∨ ∃ p, pv = .iface 26 p := by
    rcases hl with ⟨e, _⟩ | ⟨p, e, _⟩
    · exact .inl e
    · exact .inr ⟨p, e⟩
  clear hl ht hf hF
  generalize sho f 6 x = out at *
  obtain ⟨t, n, s⟩ := x
  have hS : Hid (Sh (w.heap.size + 1) (w.heap.size + 1) pv [] ((w.alloc (.cells #[.int .u8 t, .int .i64 n, .string s] 24)).alloc (.cells #[.pointer none, .slice none 0 0, pv] 58))) := by
    have := Sh.new (w.alloc (.cells #[.int .u8 t, .int .i64 n, .string s] 24)) pv
    have e : (w.alloc (.cells #[.int .u8 t, .int .i64 n, .string s] 24)).heap.size = w.heap.size + 1 := by simp
    rw [e] at this
    exact this
  rcases hpv with rfl | ⟨p, rfl⟩
  all_goals
    go_enter Tryd.func12, Tryd.ntmps12
    go_wp2_with (fail)
    refine (hV.out _ _ hS.out hE.out (by simp)).mono ?_
    rintro e w1 ⟨rfl, h1, f1⟩
    go_wp2_with (fail)
    refine (string_any _ _ _ _ _ h1 (by simpa using hne)).mono ?_
    rintro e w2 ⟨rfl, hb2⟩
    go_wp2_with (fail)
    go_ret
    exact ⟨by simp, Below.trans (B := w.heap.size) ((by repeat (first | exact BW.refl _ | apply BW.alloc | apply BW.drewN | apply BW.drew)) : BW w _) (Below.mono (f1.bel.trans hb2) (Nat.le_succ _))⟩
/-- The cells of a heap's pairs. -/
def cellsOf (ps : List (Va × Va)) : List Value := ps.flatMap fun p => thing 4 p.1.t p.1.n p.1.s p.2.t p.2.n p.2.s 0
/-- The pair at a value's place. -/
def look (ps : List (Va × Va)) (x : Va) : Option (Va × Va) := if x.s = ⟨#[]⟩ ∧ 0 ≤ x.n then ps[x.n.toNat]? else none
theorem cellsOf_at : ∀ (ps : List (Va × Va)) (m : Nat) (y z : Va), ps[m]? = some (y, z) → ∀ j u, (thing 4 y.t y.n y.s z.t z.n z.s 0)[j]? = some u → (cellsOf ps)[m * 8 + j]? = some u := by
  intro ps
  induction ps with
  | nil => intro m y z h; simp at h
  | cons p ps ih =>
    intro m y z h j u hj
    have e : cellsOf (p :: ps) = thing 4 p.1.t p.1.n p.1.s p.2.t p.2.n p.2.s 0 ++ cellsOf ps := by simp [cellsOf]
    have hl : (thing 4 p.1.t p.1.n p.1.s p.2.t p.2.n p.2.s 0).length = 8 := rfl
    have hj8 : j < 8 := (List.getElem?_eq_some_iff.1 hj).1
    rw [e]
    cases m with
    | zero =>
      simp at h; subst h
      rw [List.getElem?_append_left (by omega)]
      simpa using hj
    | succ m =>
      rw [List.getElem?_append_right (by omega), hl]
      have := ih m y z (by simpa using h) j u hj
      have e2 : (m + 1) * 8 + j - 8 = m * 8 + j := by omega
      rw [e2]; exact this
theorem cellsOf_snoc (ps : List (Va × Va)) (a b : Va) : cellsOf (ps ++ [(a, b)]) = cellsOf ps ++ thing 4 a.t a.n a.s b.t b.n b.s 0 := by simp [cellsOf]
theorem Look.heap {w : World} {base b : Nat} {lim : Int} {ps : List (Va × Va)} (H : HeapIs w base b lim ps.length (cellsOf ps)) (hN : ps.length ≤ 1048576) : Look w.heap.size (.iface 26 (.pointer (some ⟨b, 0, none⟩))) (look ps) w := by
  refine .inr ⟨_, rfl, fun x hx => ⟨fun hn w1 hb => ?_, fun y z hs => ?_⟩⟩
  · obtain ⟨t, n, s⟩ := x
    simp only at hx
    subst hx
    refine fst_no _ _ _ _ w1 ?_
    intro w2 hb2
    by_cases hs : s = ⟨#[]⟩
    · subst hs
      by_cases hm : n < 0
      · exact has_neg _ 4 n hm w2
      · refine has_out base b lim ps.length (cellsOf ps) 4 n (by omega) ?_ w2 ((H.bw hb).bw hb2)
        unfold look at hn
        rw [if_pos ⟨rfl, by simp only; omega⟩] at hn
        have := List.getElem?_eq_none_iff.1 hn
        simp only at this
        omega
    · exact has_str _ 4 n s (str_ne hs) w2
  · obtain ⟨t, n, s⟩ := x
    simp only at hx
    subst hx
    unfold look at hs
    split at hs
    · rename_i hc
      simp only at hc hs
      obtain ⟨rfl, h0⟩ := hc
      obtain ⟨m, rfl⟩ : ∃ m : Nat, n = m := ⟨n.toNat, by omega⟩
      simp only [Int.toNat_natCast] at hs
      have hm := (List.getElem?_eq_some_iff.1 hs).1
      have hc := cellsOf_at ps m y z hs
      exact ⟨fun w1 hb => fst_ok base b lim ps.length (cellsOf ps) m hm hN (hc 0 _ rfl) _ _ _ (hc 1 _ rfl) (hc 2 _ rfl) (hc 3 _ rfl) w1 (H.bw hb),
        fun w1 hb => snd_ok base b lim ps.length (cellsOf ps) m hm hN (hc 0 _ rfl) _ _ _ (hc 4 _ rfl) (hc 5 _ rfl) (hc 6 _ rfl) w1 (H.bw hb)⟩
    · cases hs
theorem Look.none (B : Nat) (w : World) : Look B .nilIface (fun _ => none) w := .inl ⟨rfl, fun _ => rfl⟩
theorem look_fine {ps : List (Va × Va)} (h : ∀ p ∈ ps, Fine p.1 ∧ Fine p.2) : ∀ x y z, look ps x = some (y, z) → Fine y ∧ Fine z := by
  intro x y z e
  unfold look at e
  split at e
  · exact h (y, z) (List.mem_of_getElem? e)
  · cases e
theorem HeapIs.new (w : World) (lim : Int) : HeapIs (w.alloc (.cells #[.int .i64 lim, .slice none 0 0] 46)) w.heap.size w.heap.size lim 0 [] :=
  ⟨Nat.le_refl _, .slice none 0 0, heap_alloc_new _ _, rfl, .inl ⟨rfl, rfl⟩⟩
theorem awake_text : sho (look [(⟨1, 1, ⟨#[]⟩⟩, ⟨2, 1, ⟨#[]⟩⟩)]) 6 ⟨4, 0, ⟨#[]⟩⟩ = [40, 49, 32, 46, 32, 116, 114, 117, 101, 41] := by
  have e1 : Lib.itoa 1 = [49] := by
    show (if (1 : Int) < 0 then _ else Lib.decDigits 1) = _
    rw [if_neg (by omega), Lib.decDigits]; simp
  have e2 : Lib.formatBool true = [116, 114, 117, 101] := by decide
  simp [sho, look, flat, e1, e2]

end Go.Proofs.YtfgnlddfpemblaaDoor
