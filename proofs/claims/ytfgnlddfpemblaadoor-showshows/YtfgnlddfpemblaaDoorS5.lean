import Derived.Test.YtfgnlddfpemblaaDoorS4
namespace Go.Proofs.YtfgnlddfpemblaaDoor
open Go.RowKit
set_option linter.unusedVariables false
set_option linter.unusedSimpArgs false

/-- What p's method f answers of v, in whatever world that has what was there below B. -/
def AsksB (B f : Nat) (p v r : Value) (w : World) : Prop := ∀ w1, Below B w w1 → Calls Tryd.prog f #[p, v] w1 fun e w' => e = .returned r ∧ BW w1 w'
theorem AsksB.below {B f : Nat} {p v r : Value} {w w' : World} (h : AsksB B f p v r w) (k : Below B w w') : AsksB B f p v r w' := fun w1 h1 => h w1 (k.trans h1)
theorem AsksB.asks {B f : Nat} {p v r : Value} {w : World} (h : AsksB B f p v r w) (hB : B ≤ w.heap.size) : Asks f p v r w := fun w1 h1 => h w1 (Below.mono h1 hB)
/-- The pairs that pv tells are f's. -/
def Look (B : Nat) (pv : Value) (f : Va → Option (Va × Va)) (w : World) : Prop :=
  (pv = .nilIface ∧ ∀ x, f x = none) ∨ ∃ p, pv = .iface 26 p ∧ ∀ x : Va, x.t = 4 → (f x = none → AsksB B 61 p x.v (.tuple #[Z, .int .i64 2]) w) ∧ ∀ y z, f x = some (y, z) → AsksB B 61 p x.v (.tuple #[y.v, .int .i64 0]) w ∧ AsksB B 63 p x.v (.tuple #[z.v, .int .i64 0]) w
theorem Look.below {B : Nat} {pv : Value} {f : Va → Option (Va × Va)} {w w' : World} (h : Look B pv f w) (k : Below B w w') : Look B pv f w' := by
  rcases h with h | ⟨p, e, h⟩
  · exact .inl h
  · exact .inr ⟨p, e, fun x hx => ⟨fun hn => ((h x hx).1 hn).below k, fun y z hs => ⟨((h x hx).2 y z hs).1.below k, ((h x hx).2 y z hs).2.below k⟩⟩⟩
/-- All that a shower leans on, beside itself. -/
structure Env (B : Nat) (pv : Value) (f : Va → Option (Va × Va)) (w : World) : Prop where
  look : Look B pv f w
  tab : Tab w
  le : B ≤ w.heap.size
  pos : 0 < B
theorem Env.below {B : Nat} {pv : Value} {f : Va → Option (Va × Va)} {w w' : World} (h : Env B pv f w) (k : Below B w w') : Env B pv f w' :=
  ⟨h.look.below k, h.tab.below h.pos h.tab.lt k, Nat.le_trans h.le k.size, h.pos⟩
theorem Env.bw {B : Nat} {pv : Value} {f : Va → Option (Va × Va)} {w w' : World} (h : Env B pv f w) (k : BW w w') : Env B pv f w' := h.below (Below.mono k h.le)
theorem Env.fs {B b : Nat} {pv : Value} {f : Va → Option (Va × Va)} {w w' : World} (h : Env B pv f w) (k : Fs B b w w') : Env B pv f w' := h.below k.bel
theorem Sh.cell2 {B b : Nat} {pv : Value} {l : List UInt8} {w : World} (h : Sh B b pv l w) : w.cell? ⟨b, 2, none⟩ = some pv := by
  obtain ⟨hb, p, v, hp, h1, h2⟩ := h
  simp only [World.cell?, h1]; rfl
theorem Fs.at24 {B b k : Nat} {w w' : World} {c : Array Value} (h : Fs B b w w') (hk : w.heap[k]? = some (.cells c 24 (0, 0))) (hb : k ≠ b) : w'.heap[k]? = some (.cells c 24 (0, 0)) :=
  h.oth k _ hk (by simpa using hb) (by simp)
theorem parts_nope (B b : Nat) (pv : Value) (f : Va → Option (Va × Va)) (l : List UInt8) (x : Va) (hx : x.t = 4) (hf : f x = none) (w : World) (h : Sh B b pv l w) (hE : Env B pv f w) :
    Calls Tryd.prog 32 #[.pointer (some ⟨b, 0, none⟩), x.v] w fun e w' => e = .returned (.tuple #[Z, Z, .bool false]) ∧ BW w w' := by
  have hc := h.cell2
  rcases hE.look with ⟨rfl, _⟩ | ⟨p, rfl, hl⟩
  · exact parts_nil b _ _ _ w h.lt hc
  · exact parts_no b p _ _ _ w h.lt hc (((hl x hx).1 hf).asks hE.le)
theorem parts_some (B b : Nat) (pv : Value) (f : Va → Option (Va × Va)) (l : List UInt8) (x y z : Va) (hx : x.t = 4) (hf : f x = some (y, z)) (w : World) (h : Sh B b pv l w) (hE : Env B pv f w) :
    Calls Tryd.prog 32 #[.pointer (some ⟨b, 0, none⟩), x.v] w fun e w' => e = .returned (.tuple #[y.v, z.v, .bool true]) ∧ BW w w' := by
  have hc := h.cell2
  rcases hE.look with ⟨rfl, hn⟩ | ⟨p, rfl, hl⟩
  · rw [hn x] at hf; cases hf
  · have := (hl x hx).2 y z hf
    exact parts_two b p _ _ _ _ _ _ _ _ _ w h.lt hc (this.1.asks hE.le) (this.2.asks hE.le)
/-- A value, shown, with so many pairs in one another at most. -/
def sho (f : Va → Option (Va × Va)) : Nat → Va → List UInt8
  | 0, x => flat x
  | d + 1, x => if x.t = 4 then (match f x with | none => [46, 46] | some (y, z) => 40 :: (sho f d y ++ [32, 46, 32] ++ sho f d z ++ [41])) else flat x
/-- A value that may be shown. -/
structure Fine (x : Va) : Prop where
  t0 : 0 ≤ x.t
  t7 : x.t ≤ 7
  n0 : -9223372036854775808 ≤ x.n
  n1 : x.n ≤ 9223372036854775807
  s : x.s.size ≤ 1000
theorem flat_len' (x : Va) (h : Fine x) : (flat x).length ≤ 4002 := by
  unfold flat
  split; · simp
  split; · have := Lib.itoa_length_le x.n h.n0 h.n1; omega
  split
  · cases (x.n != 0)
    · show (Lib.formatBool false).length ≤ 4002
      decide
    · show (Lib.formatBool true).length ≤ 4002
      decide
  split; · have := quo_len x.s.data.toList; have := h.s; simp at this ⊢; (have e : x.s.data.size = x.s.size := rfl); simp only [Array.length_toList] at *; omega
  split; · simp
  split; · simp
  split <;> simp
theorem sho_len (f : Va → Option (Va × Va)) (hf : ∀ x y z, f x = some (y, z) → Fine y ∧ Fine z) : ∀ (d : Nat) (x : Va), Fine x → (sho f d x).length + 5 ≤ 4010 * 2 ^ d := by
  intro d
  induction d with
  | zero => intro x hx; have := flat_len' x hx; simp only [sho]; omega
  | succ d ih =>
    intro x hx
    have hp : 4010 * 2 ^ (d + 1) = 2 * (4010 * 2 ^ d) := by rw [Nat.pow_succ]; omega
    have hp1 : 1 ≤ 2 ^ d := Nat.one_le_two_pow
    simp only [sho]
    split
    · split
      · simp; omega
      · rename_i y z e
        have h1 := ih y (hf _ _ _ e).1
        have h2 := ih z (hf _ _ _ e).2
        simp only [List.length_cons, List.length_append, List.length_nil]; omega
    · have := flat_len' x hx; omega

end Go.Proofs.YtfgnlddfpemblaaDoor
