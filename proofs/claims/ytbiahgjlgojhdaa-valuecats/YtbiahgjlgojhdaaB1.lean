import Derived.Test.YtbiahgjlgojhdaaProg
import Derived.WalkKit
import Derived.WalkSpells
import Derived.WalkLawsBesides
namespace Go.Proofs.Ytbiahgjlgojhdaa
open Go.RowKit
/-- What a walk leaves of the world: nothing that was there has turned. -/
def BW (w w' : World) : Prop := Below w.heap.size w w'
theorem BW.refl (w : World) : BW w w := Below.refl _ _
theorem BW.size {w w' : World} (h : BW w w') : w.heap.size ≤ w'.heap.size := Below.size h
theorem BW.trans {a b c : World} (h : BW a b) (k : BW b c) : BW a c := Below.trans h (Below.mono k (BW.size h))
theorem BW.alloc {a b : World} (h : BW a b) (o : Obj) : BW a (b.alloc o) := Below.alloc h (BW.size h) o
theorem BW.drew {a b : World} (h : BW a b) : BW a b.drew := Below.drew h
theorem BW.setCell {a b : World} (h : BW a b) {p : Addr} (hp : a.heap.size ≤ p.block) (u : Value) : BW a (b.setCell p u) := Below.setCell h hp u
theorem BW.cells {W w1 : World} (hb : BW W w1) : ∀ b o, b < W.heap.size → w1.cell? ⟨b, o, none⟩ = W.cell? ⟨b, o, none⟩ := fun b o h => Below.cell hb (p := ⟨b, o, none⟩) h
theorem BW.froz {W w1 : World} (hb : BW W w1) : ∀ b o, b < W.heap.size → w1.frozen? ⟨b, o, none⟩ = W.frozen? ⟨b, o, none⟩ := fun b o h => Below.frozen hb (p := ⟨b, o, none⟩) h

/-- A truth's number. -/
def bN (b : Bool) : Int := if b then 1 else 0
abbrev V (t n : Int) (s : ByteArray) : Value := .agg #[.int .u8 t, .int .i64 n, .string s]

set_option maxHeartbeats 400000 in
theorem of_any (n : Int) (w : World) :
    Calls Try.prog 21 #[.int .i64 n] w fun e w' => e = .returned (V 1 n ⟨#[]⟩) ∧ BW w w' := by
  go_enter Try.func21, Try.ntmps21
  go_wp2
  exact bodyPost_ret (v := V 1 n ⟨#[]⟩) (by simp [results, Try.results21, go_sem]) rfl ⟨rfl, (BW.refl _).alloc _⟩
set_option maxHeartbeats 400000 in
theorem int_any (n : Int) (w : World) :
    Calls Try.prog 22 #[.int .i64 n] w fun e w' => e = .returned (V 1 n ⟨#[]⟩) ∧ BW w w' := by
  go_enter Try.func22, Try.ntmps22
  go_wp2
  exact bodyPost_ret (v := V 1 n ⟨#[]⟩) (by simp [results, Try.results22, go_sem]) rfl ⟨rfl, (BW.refl _).alloc _⟩
set_option maxHeartbeats 400000 in
theorem is_any (b : Bool) (w : World) :
    Calls Try.prog 23 #[.bool b] w fun e w' => e = .returned (V 2 (bN b) ⟨#[]⟩) ∧ BW w w' := by
  cases b
  · go_enter Try.func23, Try.ntmps23
    go_wp2
    exact bodyPost_ret (v := V 2 0 ⟨#[]⟩) (by simp [results, Try.results23, go_sem]) rfl ⟨rfl, (BW.refl _).alloc _⟩
  · go_enter Try.func23, Try.ntmps23
    go_wp2
    exact bodyPost_ret (v := V 2 1 ⟨#[]⟩) (by simp [results, Try.results23, go_sem]) rfl ⟨rfl, (BW.refl _).alloc _⟩
set_option maxHeartbeats 400000 in
theorem bool_any (b : Bool) (w : World) :
    Calls Try.prog 25 #[.bool b] w fun e w' => e = .returned (V 2 (bN b) ⟨#[]⟩) ∧ BW w w' := by
  cases b
  · go_enter Try.func25, Try.ntmps25
    go_wp2
    exact bodyPost_ret (v := V 2 0 ⟨#[]⟩) (by simp [results, Try.results25, go_sem]) rfl ⟨rfl, (BW.refl _).alloc _⟩
  · go_enter Try.func25, Try.ntmps25
    go_wp2
    exact bodyPost_ret (v := V 2 1 ⟨#[]⟩) (by simp [results, Try.results25, go_sem]) rfl ⟨rfl, (BW.refl _).alloc _⟩
set_option maxHeartbeats 400000 in
theorem text_any (s : ByteArray) (w : World) :
    Calls Try.prog 24 #[.string s] w fun e w' => e = .returned (V 3 0 s) ∧ BW w w' := by
  go_enter Try.func24, Try.ntmps24
  go_wp2
  exact bodyPost_ret (v := V 3 0 s) (by simp [results, Try.results24, go_sem]) rfl ⟨rfl, (BW.refl _).alloc _⟩
set_option maxHeartbeats 400000 in
theorem number_ok (n : Int) (w : World) :
    Calls Try.prog 36 #[.int .i64 n, .int .i64 0] w fun e w' => e = .returned (.tuple #[V 1 n ⟨#[]⟩, .int .i64 0]) ∧ BW w w' := by
  go_enter Try.func36, Try.ntmps36
  go_wp2_with (first | (go_at_call 21; refine (of_any _ _).mono ?_; rintro e w1 ⟨rfl, hb⟩; have hc := hb.cells; have hf := hb.froz; have hz := hb.size))
  exact bodyPost_ret (v := .tuple #[V 1 n ⟨#[]⟩, .int .i64 0]) (by simp [results, Try.results36, go_sem, hc]) rfl ⟨rfl, by repeat (first | exact BW.refl _ | assumption | apply BW.alloc | (refine BW.setCell ?_ (by simp) _) | (refine BW.trans ?_ (by assumption)))⟩
set_option maxHeartbeats 400000 in
theorem number_err (n e : Int) (h : (e == 0) = false) (w : World) :
    Calls Try.prog 36 #[.int .i64 n, .int .i64 e] w fun e' w' => e' = .returned (.tuple #[V 0 0 ⟨#[]⟩, .int .i64 e]) ∧ BW w w' := by
  go_enter Try.func36, Try.ntmps36
  go_wp2
  exact bodyPost_ret (v := .tuple #[V 0 0 ⟨#[]⟩, .int .i64 e]) (by simp [results, Try.results36, go_sem]) rfl ⟨rfl, by repeat (first | exact BW.refl _ | assumption | apply BW.alloc | (refine BW.setCell ?_ (by simp) _) | (refine BW.trans ?_ (by assumption)))⟩
end Go.Proofs.Ytbiahgjlgojhdaa
