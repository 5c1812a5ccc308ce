import Derived.Test.YtiokcokmpmpcfaaDoorD1
namespace Go.Proofs.YtiokcokmpmpcfaaDoor
open Go.RowKit
set_option linter.unusedVariables false
set_option linter.unusedSimpArgs false

def hdB (k : Nat) : ByteArray := match shp k with | some s => s.head | none => ⟨#[]⟩
/-- A node's text. -/
def txt : (n : Nat) → Tr n → List UInt8
  | 0, _ => []
  | n + 1, t => if (Nd.k (K := Tr n) t) = 1 then Lib.itoa (Nd.n (K := Tr n) t) else if (Nd.k (K := Tr n) t) = 2 then Lib.formatBool ((Nd.n (K := Tr n) t) == 1) else if (Nd.k (K := Tr n) t) = 3 then quo (Nd.s (K := Tr n) t).data.toList else if (Nd.k (K := Tr n) t) = 4 then [117, 110, 105, 116] else if (Nd.k (K := Tr n) t) = 5 then (Nd.s (K := Tr n) t).data.toList else
    40 :: bj (opn (hdB (Nd.k (K := Tr n) t).toNat) (Nd.k (K := Tr n) t) (Nd.s (K := Tr n) t) (Nd.ns (K := Tr n) t)) ++ (Nd.ks (K := Tr n) t).flatMap (fun x => 32 :: txt n x) ++ [41]
/-- A bound on it. -/
def wt : (n : Nat) → Tr n → Nat
  | 0, _ => 0
  | n + 1, t => 8 * (Nd.s (K := Tr n) t).size + (bj (Nd.ns (K := Tr n) t)).length + 100 + ((Nd.ks (K := Tr n) t).map (wt n)).sum
/-- No field is great. -/
def Sm : (n : Nat) → Tr n → Prop
  | 0, _ => False
  | n + 1, t => (-9223372036854775808 ≤ (Nd.n (K := Tr n) t) ∧ (Nd.n (K := Tr n) t) ≤ 9223372036854775807) ∧ (Nd.ns (K := Tr n) t).length ≤ 2000000 ∧ (bj (Nd.ns (K := Tr n) t)).length ≤ 1000000000 ∧ (Nd.s (K := Tr n) t).size ≤ 100000000 ∧ ∀ x ∈ Nd.ks (K := Tr n) t, Sm n x
theorem hd_size : ∀ k : Nat, (hdB k).size ≤ 7
  | 0 => by decide
  | 1 => by decide
  | 2 => by decide
  | 3 => by decide
  | 4 => by decide
  | 5 => by decide
  | 6 => by decide
  | 7 => by decide
  | 8 => by decide
  | 9 => by decide
  | 10 => by decide
  | 11 => by decide
  | 12 => by decide
  | 13 => by decide
  | 14 => by decide
  | 15 => by decide
  | 16 => by decide
  | 17 => by decide
  | 18 => by decide
  | 19 => by decide
  | n + 20 => by show ByteArray.size ⟨#[]⟩ ≤ 7; decide
theorem bj_cons (a : ByteArray) (l : List ByteArray) (h : l ≠ []) : bj (a :: l) = a.data.toList ++ 32 :: bj l := by
  cases l with
  | nil => exact absurd rfl h
  | cons b r => simp [bj, Lib.join, List.intercalate, List.intersperse]
theorem bj_one (a : ByteArray) : bj [a] = a.data.toList := by simp [bj, Lib.join, List.intercalate]
theorem bj_nil : bj [] = [] := rfl
theorem bj_cons_len (a : ByteArray) (l : List ByteArray) : (bj (a :: l)).length ≤ a.size + 1 + (bj l).length := by
  have ha : a.data.toList.length = a.size := by simp
  cases l with
  | nil => rw [bj_one, ha]; omega
  | cons b r => rw [bj_cons a (b :: r) (by simp), List.length_append, List.length_cons, ha]; omega
theorem opn_len (k : Nat) (kk : Int) (s : ByteArray) (ns : List ByteArray) : (bj (opn (hdB k) kk s ns)).length ≤ 20 + s.size + (bj ns).length := by
  have hh := hd_size k
  unfold opn
  split
  · rw [bj_one]; have : s.data.toList.length = s.size := by simp
    omega
  · split
    · have h1 := bj_cons_len (hdB k) [s, ⟨#[40]⟩ ++ bjB ns ++ ⟨#[41]⟩]
      have h2 := bj_cons_len s [⟨#[40]⟩ ++ bjB ns ++ ⟨#[41]⟩]
      have h3 : (bj [⟨#[40]⟩ ++ bjB ns ++ ⟨#[41]⟩]).length = 1 + (bj ns).length + 1 := by
        rw [bj_one]
        have : ∀ x : ByteArray, x.data.toList.length = x.size := fun x => by simp
        rw [this, ByteArray.size_append, ByteArray.size_append, bjB_size]; rfl
      omega
    · split
      · have h1 := bj_cons_len (hdB k) ns; omega
      · have h1 := bj_cons_len (hdB k) (s :: ns)
        have h2 := bj_cons_len s ns
        omega
theorem flat_wt {n : Nat} (ih : ∀ x : Tr n, Sm n x → (txt n x).length + 1 ≤ wt n x) : ∀ l : List (Tr n), (∀ x ∈ l, Sm n x) → (l.flatMap (fun x => 32 :: txt n x)).length ≤ (l.map (wt n)).sum := by
  intro l
  induction l with
  | nil => intro _; simp
  | cons a r ihr =>
    intro h
    have h1 := ih a (h a List.mem_cons_self)
    have h2 := ihr (fun x hx => h x (List.mem_cons_of_mem _ hx))
    simp only [List.flatMap_cons, List.length_append, List.length_cons, List.map_cons, List.sum_cons]
    omega
theorem txt_wt : ∀ (n : Nat) (t : Tr n), Sm n t → (txt n t).length + 1 ≤ wt n t := by
  intro n
  induction n with
  | zero => intro t; exact t.elim
  | succ n ih =>
    intro t h
    obtain ⟨h1, h2, h3, h4, h5⟩ := h
    have hs : (Nd.s (K := Tr n) t).data.toList.length = (Nd.s (K := Tr n) t).size := by simp
    have hf := flat_wt ih (Nd.ks (K := Tr n) t) h5
    have ho := opn_len (Nd.k (K := Tr n) t).toNat (Nd.k (K := Tr n) t) (Nd.s (K := Tr n) t) (Nd.ns (K := Tr n) t)
    have hq := quo_len (Nd.s (K := Tr n) t).data.toList
    have hi := Lib.itoa_length_le (Nd.n (K := Tr n) t) h1.1 h1.2
    have hb : (Lib.formatBool ((Nd.n (K := Tr n) t) == 1)).length ≤ 5 := by cases ((Nd.n (K := Tr n) t) == 1) <;> decide
    show (if _ then _ else _ : List UInt8).length + 1 ≤ 8 * _ + _ + 100 + _
    split
    · omega
    · split
      · omega
      · split
        · omega
        · split
          · simp; omega
          · split
            · omega
            · simp only [List.length_cons, List.length_append, List.length_nil]
              omega
theorem rt_kids {n : Nat} {t : Tr (n + 1)} (h : rt (n + 1) t = true) : (∃ s, shp (Nd.k (K := Tr n) t).toNat = some s ∧ su s (Nd.k (K := Tr n) t) (Nd.n (K := Tr n) t) (Nd.s (K := Tr n) t) (Nd.ns (K := Tr n) t) (Nd.ks (K := Tr n) t).length = true) ∧ ∀ x ∈ Nd.ks (K := Tr n) t, rt n x = true := by
  unfold rt at h
  split at h
  · cases h
  · rename_i s hs
    rw [Bool.and_eq_true] at h
    refine ⟨⟨s, hs, h.1⟩, ?_⟩
    have hcl : ∀ (l : List (Tr n)) (la : Int) (ops : List ByteArray), clsG (knd n) (ttx n) (rt n) la ops l = true → ∀ x ∈ l, rt n x = true := by
      intro l
      induction l with
      | nil => intro la ops _ x hx; cases hx
      | cons a r ih =>
        intro la ops hc x hx
        unfold clsG at hc
        split at hc
        · cases hc
        · rename_i hno
          simp only [Bool.or_eq_true, not_or, Bool.not_eq_true', Bool.not_eq_false] at hno
          rcases List.mem_cons.1 hx with rfl | hx
          · exact hno.2
          · exact ih _ _ hc x hx
    intro x hx
    have h2 := h.2
    split at h2
    · rw [Bool.and_eq_true] at h2
      cases hks : (Nd.ks (K := Tr n) t) with
      | nil => rw [hks] at hx; cases hx
      | cons a r =>
        rw [hks] at hx h2
        rcases List.mem_cons.1 hx with rfl | hx
        · have := List.all_eq_true.1 h2.2 x (by simp)
          rw [Bool.and_eq_true] at this; exact this.2
        · exact hcl _ _ _ h2.1 x (by simpa using hx)
    · have := List.all_eq_true.1 h2 x hx
      rw [Bool.and_eq_true] at this; exact this.2
theorem Fs.cells {B b : Nat} {w w' : World} (h : Fs B b w w') {k : Nat} {c : Array Value} {T : TypeId} {fz : Nat × Nat} (hk : w.heap[k]? = some (.cells c T fz)) (hT : T ≠ 5) (hn : ¬ k = b) (o : Nat) : w'.cell? ⟨k, o, none⟩ = w.cell? ⟨k, o, none⟩ :=
  cell_block ((h.oth k _ hk (by simpa using hn) (fun c' fz' e => hT (by cases e; rfl))).trans hk.symm) o
theorem Fs.bw {W w w' : World} {b : Nat} (h : Fs W.heap.size b w w') (hb : BW W w) : BW W w' := Below.trans hb h.bel
def PrintAt (n : Nat) : Prop := ∀ (v : Value) (t : Tr n) (l : List UInt8) (W w : World) (b mb : Nat), NodeAt W n v t → ShapesAt W mb → Tab W → BW W w → W.heap.size ≤ b → Sh W.heap.size b 45 [.map (some mb)] l w → rt n t = true → Sm n t → l.length + wt n t ≤ 100000000000000 →
  Calls Tryd.prog 21 #[.pointer (some ⟨b, 0, none⟩), v] w fun e w' => e = .returned (.tuple #[]) ∧ ShU W.heap.size b 45 [.map (some mb)] (l ++ txt n t) w' ∧ Fs W.heap.size b w w'

end Go.Proofs.YtiokcokmpmpcfaaDoor
