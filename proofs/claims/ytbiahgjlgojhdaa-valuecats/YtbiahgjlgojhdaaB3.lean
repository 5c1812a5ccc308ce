import Derived.Test.YtbiahgjlgojhdaaB2
namespace Go.Proofs.Ytbiahgjlgojhdaa
open Go.RowKit
set_option linter.unusedVariables false
/-- What 'reckoned' comes to at a word and two numbers. -/
def Reck (wd : ByteArray) (a b n e : Int) : Prop := ∀ w : World, Calls Try.prog 37 #[.string wd, .int .i64 a, .int .i64 b] w fun x w' => x = .returned (.tuple #[.int .i64 n, .int .i64 e]) ∧ BW w w'
def Two2 (k : Nat) (a b n e : Int) : Prop := ∀ w : World, Calls Try.prog k #[.int .i64 a, .int .i64 b] w fun x w' => x = .returned (.tuple #[.int .i64 n, .int .i64 e]) ∧ BW w w'
def Mov (wd : ByteArray) (a b n e : Int) : Prop := ∀ w : World, Calls Try.prog 47 #[.string wd, .int .i64 a, .int .i64 b] w fun x w' => x = .returned (.tuple #[.int .i64 n, .int .i64 e]) ∧ BW w w'
set_option maxHeartbeats 400000 in
theorem reck_add {a b n e : Int} (h : Two2 43 a b n e) : Reck ⟨#[43]⟩ a b n e := by
  intro w
  go_enter Try.func37, Try.ntmps37
  go_wp2_with (first | (go_at_call 43; refine (h _).mono ?_; rintro e w1 ⟨rfl, hb⟩; have hc := hb.cells; have hf := hb.froz; have hz := hb.size))
  go_ret2
  exact ⟨rfl, (by repeat (first | exact BW.refl _ | assumption | apply BW.alloc | apply BW.drew | (refine BW.setCell ?_ (by first | omega | (simp; done) | (simp; omega)) _) | (refine BW.trans ?_ (by assumption))))⟩
set_option maxHeartbeats 400000 in
theorem reck_sub {a b n e : Int} (h : Two2 40 a b n e) : Reck ⟨#[45]⟩ a b n e := by
  intro w
  go_enter Try.func37, Try.ntmps37
  go_wp2_with (first | (go_at_call 40; refine (h _).mono ?_; rintro e w1 ⟨rfl, hb⟩; have hc := hb.cells; have hf := hb.froz; have hz := hb.size))
  go_ret2
  exact ⟨rfl, (by repeat (first | exact BW.refl _ | assumption | apply BW.alloc | apply BW.drew | (refine BW.setCell ?_ (by first | omega | (simp; done) | (simp; omega)) _) | (refine BW.trans ?_ (by assumption))))⟩
set_option maxHeartbeats 400000 in
theorem reck_mul {a b n e : Int} (h : Two2 44 a b n e) : Reck ⟨#[42]⟩ a b n e := by
  intro w
  go_enter Try.func37, Try.ntmps37
  go_wp2_with (first | (go_at_call 44; refine (h _).mono ?_; rintro e w1 ⟨rfl, hb⟩; have hc := hb.cells; have hf := hb.froz; have hz := hb.size))
  go_ret2
  exact ⟨rfl, (by repeat (first | exact BW.refl _ | assumption | apply BW.alloc | apply BW.drew | (refine BW.setCell ?_ (by first | omega | (simp; done) | (simp; omega)) _) | (refine BW.trans ?_ (by assumption))))⟩
set_option maxHeartbeats 400000 in
theorem reck_quo {a b n e : Int} (h : Two2 45 a b n e) : Reck ⟨#[47]⟩ a b n e := by
  intro w
  go_enter Try.func37, Try.ntmps37
  go_wp2_with (first | (go_at_call 45; refine (h _).mono ?_; rintro e w1 ⟨rfl, hb⟩; have hc := hb.cells; have hf := hb.froz; have hz := hb.size))
  go_ret2
  exact ⟨rfl, (by repeat (first | exact BW.refl _ | assumption | apply BW.alloc | apply BW.drew | (refine BW.setCell ?_ (by first | omega | (simp; done) | (simp; omega)) _) | (refine BW.trans ?_ (by assumption))))⟩
set_option maxHeartbeats 400000 in
theorem reck_rem {a b n e : Int} (h : Two2 46 a b n e) : Reck ⟨#[37]⟩ a b n e := by
  intro w
  go_enter Try.func37, Try.ntmps37
  go_wp2_with (first | (go_at_call 46; refine (h _).mono ?_; rintro e w1 ⟨rfl, hb⟩; have hc := hb.cells; have hf := hb.froz; have hz := hb.size))
  go_ret2
  exact ⟨rfl, (by repeat (first | exact BW.refl _ | assumption | apply BW.alloc | apply BW.drew | (refine BW.setCell ?_ (by first | omega | (simp; done) | (simp; omega)) _) | (refine BW.trans ?_ (by assumption))))⟩
set_option maxHeartbeats 400000 in
theorem reck_and (a b : Int) : Reck ⟨#[97, 110, 100]⟩ a b (bits .and .i64 a b) 0 := by
  intro w
  go_enter Try.func37, Try.ntmps37
  go_wp2
  go_ret2
  exact ⟨rfl, (by repeat (first | exact BW.refl _ | assumption | apply BW.alloc | apply BW.drew | (refine BW.setCell ?_ (by first | omega | (simp; done) | (simp; omega)) _) | (refine BW.trans ?_ (by assumption))))⟩
set_option maxHeartbeats 400000 in
theorem reck_or (a b : Int) : Reck ⟨#[111, 114]⟩ a b (bits .or .i64 a b) 0 := by
  intro w
  go_enter Try.func37, Try.ntmps37
  go_wp2
  go_ret2
  exact ⟨rfl, (by repeat (first | exact BW.refl _ | assumption | apply BW.alloc | apply BW.drew | (refine BW.setCell ?_ (by first | omega | (simp; done) | (simp; omega)) _) | (refine BW.trans ?_ (by assumption))))⟩
set_option maxHeartbeats 400000 in
theorem reck_xor (a b : Int) : Reck ⟨#[120, 111, 114]⟩ a b (bits .xor .i64 a b) 0 := by
  intro w
  go_enter Try.func37, Try.ntmps37
  go_wp2
  go_ret2
  exact ⟨rfl, (by repeat (first | exact BW.refl _ | assumption | apply BW.alloc | apply BW.drew | (refine BW.setCell ?_ (by first | omega | (simp; done) | (simp; omega)) _) | (refine BW.trans ?_ (by assumption))))⟩
set_option maxHeartbeats 400000 in
theorem reck_shl {a b n e : Int} (h : Mov ⟨#[115, 104, 108]⟩ a b n e) : Reck ⟨#[115, 104, 108]⟩ a b n e := by
  intro w
  go_enter Try.func37, Try.ntmps37
  go_wp2_with (first | (go_at_call 47; refine (h _).mono ?_; rintro e w1 ⟨rfl, hb⟩; have hc := hb.cells; have hf := hb.froz; have hz := hb.size))
  go_ret2
  exact ⟨rfl, (by repeat (first | exact BW.refl _ | assumption | apply BW.alloc | apply BW.drew | (refine BW.setCell ?_ (by first | omega | (simp; done) | (simp; omega)) _) | (refine BW.trans ?_ (by assumption))))⟩
set_option maxHeartbeats 400000 in
theorem reck_shr {a b n e : Int} (h : Mov ⟨#[115, 104, 114]⟩ a b n e) : Reck ⟨#[115, 104, 114]⟩ a b n e := by
  intro w
  go_enter Try.func37, Try.ntmps37
  go_wp2_with (first | (go_at_call 47; refine (h _).mono ?_; rintro e w1 ⟨rfl, hb⟩; have hc := hb.cells; have hf := hb.froz; have hz := hb.size))
  go_ret2
  exact ⟨rfl, (by repeat (first | exact BW.refl _ | assumption | apply BW.alloc | apply BW.drew | (refine BW.setCell ?_ (by first | omega | (simp; done) | (simp; omega)) _) | (refine BW.trans ?_ (by assumption))))⟩
set_option maxHeartbeats 400000 in
theorem reck_ushr {a b n e : Int} (h : Mov ⟨#[117, 115, 104, 114]⟩ a b n e) : Reck ⟨#[117, 115, 104, 114]⟩ a b n e := by
  intro w
  go_enter Try.func37, Try.ntmps37
  go_wp2_with (first | (go_at_call 47; refine (h _).mono ?_; rintro e w1 ⟨rfl, hb⟩; have hc := hb.cells; have hf := hb.froz; have hz := hb.size))
  go_ret2
  exact ⟨rfl, (by repeat (first | exact BW.refl _ | assumption | apply BW.alloc | apply BW.drew | (refine BW.setCell ?_ (by first | omega | (simp; done) | (simp; omega)) _) | (refine BW.trans ?_ (by assumption))))⟩
set_option maxHeartbeats 400000 in
theorem two_add {a b n : Int} (sa sb : ByteArray) (h : Reck ⟨#[43]⟩ a b n 0) (w : World) :
    Calls Try.prog 19 #[.string ⟨#[43]⟩, V 1 a sa, V 1 b sb] w fun e w' => e = .returned (.tuple #[V 1 n ⟨#[]⟩, .int .i64 (0)]) ∧ BW w w' := by
  go_enter Try.func19, Try.ntmps19
  go_wp2_with (first | (go_at_call 37; refine (h _).mono ?_; rintro e w1 ⟨rfl, hb⟩; have hz := hb.size; (try simp at hz); have hc0 := fun o => hb.cells (w.heap.size + 1 + 1) o (by first | omega | (simp; done) | (simp; omega)); have hf0 := fun o => hb.froz (w.heap.size + 1 + 1) o (by first | omega | (simp; done) | (simp; omega))) | (go_at_call 36; refine (number_ok _ _).mono ?_; rintro e w1 ⟨rfl, hb⟩; have hz := hb.size; (try simp at hz); have hc0 := fun o => hb.cells (w.heap.size + 1 + 1) o (by first | omega | (simp; done) | (simp; omega)); have hf0 := fun o => hb.froz (w.heap.size + 1 + 1) o (by first | omega | (simp; done) | (simp; omega))))
  exact bodyPost_ret (v := .tuple #[V 1 n ⟨#[]⟩, .int .i64 (0)]) (by simp [results, Try.results19, go_sem, *]) rfl ⟨rfl, (by repeat (first | exact BW.refl _ | assumption | apply BW.alloc | apply BW.drew | (refine BW.setCell ?_ (by first | omega | (simp; done) | (simp; omega)) _) | (refine BW.trans ?_ (by assumption))))⟩
set_option maxHeartbeats 400000 in
theorem two_add_err {a b n x : Int} (sa sb : ByteArray) (h : Reck ⟨#[43]⟩ a b n x) (he : (x == 0) = false) (w : World) :
    Calls Try.prog 19 #[.string ⟨#[43]⟩, V 1 a sa, V 1 b sb] w fun e w' => e = .returned (.tuple #[V 0 0 ⟨#[]⟩, .int .i64 (x)]) ∧ BW w w' := by
  go_enter Try.func19, Try.ntmps19
  go_wp2_with (first | (go_at_call 37; refine (h _).mono ?_; rintro e w1 ⟨rfl, hb⟩; have hz := hb.size; (try simp at hz); have hc0 := fun o => hb.cells (w.heap.size + 1 + 1) o (by first | omega | (simp; done) | (simp; omega)); have hf0 := fun o => hb.froz (w.heap.size + 1 + 1) o (by first | omega | (simp; done) | (simp; omega))) | (go_at_call 36; refine (number_err _ _ he _).mono ?_; rintro e w1 ⟨rfl, hb⟩; have hz := hb.size; (try simp at hz); have hc0 := fun o => hb.cells (w.heap.size + 1 + 1) o (by first | omega | (simp; done) | (simp; omega)); have hf0 := fun o => hb.froz (w.heap.size + 1 + 1) o (by first | omega | (simp; done) | (simp; omega))))
  exact bodyPost_ret (v := .tuple #[V 0 0 ⟨#[]⟩, .int .i64 (x)]) (by simp [results, Try.results19, go_sem, *]) rfl ⟨rfl, (by repeat (first | exact BW.refl _ | assumption | apply BW.alloc | apply BW.drew | (refine BW.setCell ?_ (by first | omega | (simp; done) | (simp; omega)) _) | (refine BW.trans ?_ (by assumption))))⟩
set_option maxHeartbeats 400000 in
theorem two_add_tag1 (ta a tb b : Int) (sa sb : ByteArray) (h : (ta != 1) = true) (w : World) :
    Calls Try.prog 19 #[.string ⟨#[43]⟩, V ta a sa, V tb b sb] w fun e w' => e = .returned (.tuple #[V 0 0 ⟨#[]⟩, .int .i64 (2)]) ∧ BW w w' := by
  go_enter Try.func19, Try.ntmps19
  go_wp2
  exact bodyPost_ret (v := .tuple #[V 0 0 ⟨#[]⟩, .int .i64 (2)]) (by simp [results, Try.results19, go_sem]) rfl ⟨rfl, (by repeat (first | exact BW.refl _ | assumption | apply BW.alloc | apply BW.drew | (refine BW.setCell ?_ (by first | omega | (simp; done) | (simp; omega)) _) | (refine BW.trans ?_ (by assumption))))⟩
set_option maxHeartbeats 400000 in
theorem two_add_tag2 (ta a tb b : Int) (sa sb : ByteArray) (h : (ta != 1) = false) (h' : (tb != 1) = true) (w : World) :
    Calls Try.prog 19 #[.string ⟨#[43]⟩, V ta a sa, V tb b sb] w fun e w' => e = .returned (.tuple #[V 0 0 ⟨#[]⟩, .int .i64 (2)]) ∧ BW w w' := by
  go_enter Try.func19, Try.ntmps19
  go_wp2
  exact bodyPost_ret (v := .tuple #[V 0 0 ⟨#[]⟩, .int .i64 (2)]) (by simp [results, Try.results19, go_sem]) rfl ⟨rfl, (by repeat (first | exact BW.refl _ | assumption | apply BW.alloc | apply BW.drew | (refine BW.setCell ?_ (by first | omega | (simp; done) | (simp; omega)) _) | (refine BW.trans ?_ (by assumption))))⟩
set_option maxHeartbeats 400000 in
theorem two_sub {a b n : Int} (sa sb : ByteArray) (h : Reck ⟨#[45]⟩ a b n 0) (w : World) :
    Calls Try.prog 19 #[.string ⟨#[45]⟩, V 1 a sa, V 1 b sb] w fun e w' => e = .returned (.tuple #[V 1 n ⟨#[]⟩, .int .i64 (0)]) ∧ BW w w' := by
  go_enter Try.func19, Try.ntmps19
  go_wp2_with (first | (go_at_call 37; refine (h _).mono ?_; rintro e w1 ⟨rfl, hb⟩; have hz := hb.size; (try simp at hz); have hc0 := fun o => hb.cells (w.heap.size + 1 + 1) o (by first | omega | (simp; done) | (simp; omega)); have hf0 := fun o => hb.froz (w.heap.size + 1 + 1) o (by first | omega | (simp; done) | (simp; omega))) | (go_at_call 36; refine (number_ok _ _).mono ?_; rintro e w1 ⟨rfl, hb⟩; have hz := hb.size; (try simp at hz); have hc0 := fun o => hb.cells (w.heap.size + 1 + 1) o (by first | omega | (simp; done) | (simp; omega)); have hf0 := fun o => hb.froz (w.heap.size + 1 + 1) o (by first | omega | (simp; done) | (simp; omega))))
  exact bodyPost_ret (v := .tuple #[V 1 n ⟨#[]⟩, .int .i64 (0)]) (by simp [results, Try.results19, go_sem, *]) rfl ⟨rfl, (by repeat (first | exact BW.refl _ | assumption | apply BW.alloc | apply BW.drew | (refine BW.setCell ?_ (by first | omega | (simp; done) | (simp; omega)) _) | (refine BW.trans ?_ (by assumption))))⟩
set_option maxHeartbeats 400000 in
theorem two_sub_err {a b n x : Int} (sa sb : ByteArray) (h : Reck ⟨#[45]⟩ a b n x) (he : (x == 0) = false) (w : World) :
    Calls Try.prog 19 #[.string ⟨#[45]⟩, V 1 a sa, V 1 b sb] w fun e w' => e = .returned (.tuple #[V 0 0 ⟨#[]⟩, .int .i64 (x)]) ∧ BW w w' := by
  go_enter Try.func19, Try.ntmps19
  go_wp2_with (first | (go_at_call 37; refine (h _).mono ?_; rintro e w1 ⟨rfl, hb⟩; have hz := hb.size; (try simp at hz); have hc0 := fun o => hb.cells (w.heap.size + 1 + 1) o (by first | omega | (simp; done) | (simp; omega)); have hf0 := fun o => hb.froz (w.heap.size + 1 + 1) o (by first | omega | (simp; done) | (simp; omega))) | (go_at_call 36; refine (number_err _ _ he _).mono ?_; rintro e w1 ⟨rfl, hb⟩; have hz := hb.size; (try simp at hz); have hc0 := fun o => hb.cells (w.heap.size + 1 + 1) o (by first | omega | (simp; done) | (simp; omega)); have hf0 := fun o => hb.froz (w.heap.size + 1 + 1) o (by first | omega | (simp; done) | (simp; omega))))
  exact bodyPost_ret (v := .tuple #[V 0 0 ⟨#[]⟩, .int .i64 (x)]) (by simp [results, Try.results19, go_sem, *]) rfl ⟨rfl, (by repeat (first | exact BW.refl _ | assumption | apply BW.alloc | apply BW.drew | (refine BW.setCell ?_ (by first | omega | (simp; done) | (simp; omega)) _) | (refine BW.trans ?_ (by assumption))))⟩
set_option maxHeartbeats 400000 in
theorem two_sub_tag1 (ta a tb b : Int) (sa sb : ByteArray) (h : (ta != 1) = true) (w : World) :
    Calls Try.prog 19 #[.string ⟨#[45]⟩, V ta a sa, V tb b sb] w fun e w' => e = .returned (.tuple #[V 0 0 ⟨#[]⟩, .int .i64 (2)]) ∧ BW w w' := by
  go_enter Try.func19, Try.ntmps19
  go_wp2
  exact bodyPost_ret (v := .tuple #[V 0 0 ⟨#[]⟩, .int .i64 (2)]) (by simp [results, Try.results19, go_sem]) rfl ⟨rfl, (by repeat (first | exact BW.refl _ | assumption | apply BW.alloc | apply BW.drew | (refine BW.setCell ?_ (by first | omega | (simp; done) | (simp; omega)) _) | (refine BW.trans ?_ (by assumption))))⟩
set_option maxHeartbeats 400000 in
theorem two_sub_tag2 (ta a tb b : Int) (sa sb : ByteArray) (h : (ta != 1) = false) (h' : (tb != 1) = true) (w : World) :
    Calls Try.prog 19 #[.string ⟨#[45]⟩, V ta a sa, V tb b sb] w fun e w' => e = .returned (.tuple #[V 0 0 ⟨#[]⟩, .int .i64 (2)]) ∧ BW w w' := by
  go_enter Try.func19, Try.ntmps19
  go_wp2
  exact bodyPost_ret (v := .tuple #[V 0 0 ⟨#[]⟩, .int .i64 (2)]) (by simp [results, Try.results19, go_sem]) rfl ⟨rfl, (by repeat (first | exact BW.refl _ | assumption | apply BW.alloc | apply BW.drew | (refine BW.setCell ?_ (by first | omega | (simp; done) | (simp; omega)) _) | (refine BW.trans ?_ (by assumption))))⟩
set_option maxHeartbeats 400000 in
theorem two_mul {a b n : Int} (sa sb : ByteArray) (h : Reck ⟨#[42]⟩ a b n 0) (w : World) :
    Calls Try.prog 19 #[.string ⟨#[42]⟩, V 1 a sa, V 1 b sb] w fun e w' => e = .returned (.tuple #[V 1 n ⟨#[]⟩, .int .i64 (0)]) ∧ BW w w' := by
  go_enter Try.func19, Try.ntmps19
  go_wp2_with (first | (go_at_call 37; refine (h _).mono ?_; rintro e w1 ⟨rfl, hb⟩; have hz := hb.size; (try simp at hz); have hc0 := fun o => hb.cells (w.heap.size + 1 + 1) o (by first | omega | (simp; done) | (simp; omega)); have hf0 := fun o => hb.froz (w.heap.size + 1 + 1) o (by first | omega | (simp; done) | (simp; omega))) | (go_at_call 36; refine (number_ok _ _).mono ?_; rintro e w1 ⟨rfl, hb⟩; have hz := hb.size; (try simp at hz); have hc0 := fun o => hb.cells (w.heap.size + 1 + 1) o (by first | omega | (simp; done) | (simp; omega)); have hf0 := fun o => hb.froz (w.heap.size + 1 + 1) o (by first | omega | (simp; done) | (simp; omega))))
  exact bodyPost_ret (v := .tuple #[V 1 n ⟨#[]⟩, .int .i64 (0)]) (by simp [results, Try.results19, go_sem, *]) rfl ⟨rfl, (by repeat (first | exact BW.refl _ | assumption | apply BW.alloc | apply BW.drew | (refine BW.setCell ?_ (by first | omega | (simp; done) | (simp; omega)) _) | (refine BW.trans ?_ (by assumption))))⟩
set_option maxHeartbeats 400000 in
theorem two_mul_err {a b n x : Int} (sa sb : ByteArray) (h : Reck ⟨#[42]⟩ a b n x) (he : (x == 0) = false) (w : World) :
    Calls Try.prog 19 #[.string ⟨#[42]⟩, V 1 a sa, V 1 b sb] w fun e w' => e = .returned (.tuple #[V 0 0 ⟨#[]⟩, .int .i64 (x)]) ∧ BW w w' := by
  go_enter Try.func19, Try.ntmps19
  go_wp2_with (first | (go_at_call 37; refine (h _).mono ?_; rintro e w1 ⟨rfl, hb⟩; have hz := hb.size; (try simp at hz); have hc0 := fun o => hb.cells (w.heap.size + 1 + 1) o (by first | omega | (simp; done) | (simp; omega)); have hf0 := fun o => hb.froz (w.heap.size + 1 + 1) o (by first | omega | (simp; done) | (simp; omega))) | (go_at_call 36; refine (number_err _ _ he _).mono ?_; rintro e w1 ⟨rfl, hb⟩; have hz := hb.size; (try simp at hz); have hc0 := fun o => hb.cells (w.heap.size + 1 + 1) o (by first | omega | (simp; done) | (simp; omega)); have hf0 := fun o => hb.froz (w.heap.size + 1 + 1) o (by first | omega | (simp; done) | (simp; omega))))
  exact bodyPost_ret (v := .tuple #[V 0 0 ⟨#[]⟩, .int .i64 (x)]) (by simp [results, Try.results19, go_sem, *]) rfl ⟨rfl, (by repeat (first | exact BW.refl _ | assumption | apply BW.alloc | apply BW.drew | (refine BW.setCell ?_ (by first | omega | (simp; done) | (simp; omega)) _) | (refine BW.trans ?_ (by assumption))))⟩
set_option maxHeartbeats 400000 in
theorem two_mul_tag1 (ta a tb b : Int) (sa sb : ByteArray) (h : (ta != 1) = true) (w : World) :
    Calls Try.prog 19 #[.string ⟨#[42]⟩, V ta a sa, V tb b sb] w fun e w' => e = .returned (.tuple #[V 0 0 ⟨#[]⟩, .int .i64 (2)]) ∧ BW w w' := by
  go_enter Try.func19, Try.ntmps19
  go_wp2
  exact bodyPost_ret (v := .tuple #[V 0 0 ⟨#[]⟩, .int .i64 (2)]) (by simp [results, Try.results19, go_sem]) rfl ⟨rfl, (by repeat (first | exact BW.refl _ | assumption | apply BW.alloc | apply BW.drew | (refine BW.setCell ?_ (by first | omega | (simp; done) | (simp; omega)) _) | (refine BW.trans ?_ (by assumption))))⟩
set_option maxHeartbeats 400000 in
theorem two_mul_tag2 (ta a tb b : Int) (sa sb : ByteArray) (h : (ta != 1) = false) (h' : (tb != 1) = true) (w : World) :
    Calls Try.prog 19 #[.string ⟨#[42]⟩, V ta a sa, V tb b sb] w fun e w' => e = .returned (.tuple #[V 0 0 ⟨#[]⟩, .int .i64 (2)]) ∧ BW w w' := by
  go_enter Try.func19, Try.ntmps19
  go_wp2
  exact bodyPost_ret (v := .tuple #[V 0 0 ⟨#[]⟩, .int .i64 (2)]) (by simp [results, Try.results19, go_sem]) rfl ⟨rfl, (by repeat (first | exact BW.refl _ | assumption | apply BW.alloc | apply BW.drew | (refine BW.setCell ?_ (by first | omega | (simp; done) | (simp; omega)) _) | (refine BW.trans ?_ (by assumption))))⟩
set_option maxHeartbeats 400000 in
theorem two_quo {a b n : Int} (sa sb : ByteArray) (h : Reck ⟨#[47]⟩ a b n 0) (w : World) :
    Calls Try.prog 19 #[.string ⟨#[47]⟩, V 1 a sa, V 1 b sb] w fun e w' => e = .returned (.tuple #[V 1 n ⟨#[]⟩, .int .i64 (0)]) ∧ BW w w' := by
  go_enter Try.func19, Try.ntmps19
  go_wp2_with (first | (go_at_call 37; refine (h _).mono ?_; rintro e w1 ⟨rfl, hb⟩; have hz := hb.size; (try simp at hz); have hc0 := fun o => hb.cells (w.heap.size + 1 + 1) o (by first | omega | (simp; done) | (simp; omega)); have hf0 := fun o => hb.froz (w.heap.size + 1 + 1) o (by first | omega | (simp; done) | (simp; omega))) | (go_at_call 36; refine (number_ok _ _).mono ?_; rintro e w1 ⟨rfl, hb⟩; have hz := hb.size; (try simp at hz); have hc0 := fun o => hb.cells (w.heap.size + 1 + 1) o (by first | omega | (simp; done) | (simp; omega)); have hf0 := fun o => hb.froz (w.heap.size + 1 + 1) o (by first | omega | (simp; done) | (simp; omega))))
  exact bodyPost_ret (v := .tuple #[V 1 n ⟨#[]⟩, .int .i64 (0)]) (by simp [results, Try.results19, go_sem, *]) rfl ⟨rfl, (by repeat (first | exact BW.refl _ | assumption | apply BW.alloc | apply BW.drew | (refine BW.setCell ?_ (by first | omega | (simp; done) | (simp; omega)) _) | (refine BW.trans ?_ (by assumption))))⟩
set_option maxHeartbeats 400000 in
theorem two_quo_err {a b n x : Int} (sa sb : ByteArray) (h : Reck ⟨#[47]⟩ a b n x) (he : (x == 0) = false) (w : World) :
    Calls Try.prog 19 #[.string ⟨#[47]⟩, V 1 a sa, V 1 b sb] w fun e w' => e = .returned (.tuple #[V 0 0 ⟨#[]⟩, .int .i64 (x)]) ∧ BW w w' := by
  go_enter Try.func19, Try.ntmps19
  go_wp2_with (first | (go_at_call 37; refine (h _).mono ?_; rintro e w1 ⟨rfl, hb⟩; have hz := hb.size; (try simp at hz); have hc0 := fun o => hb.cells (w.heap.size + 1 + 1) o (by first | omega | (simp; done) | (simp; omega)); have hf0 := fun o => hb.froz (w.heap.size + 1 + 1) o (by first | omega | (simp; done) | (simp; omega))) | (go_at_call 36; refine (number_err _ _ he _).mono ?_; rintro e w1 ⟨rfl, hb⟩; have hz := hb.size; (try simp at hz); have hc0 := fun o => hb.cells (w.heap.size + 1 + 1) o (by first | omega | (simp; done) | (simp; omega)); have hf0 := fun o => hb.froz (w.heap.size + 1 + 1) o (by first | omega | (simp; done) | (simp; omega))))
  exact bodyPost_ret (v := .tuple #[V 0 0 ⟨#[]⟩, .int .i64 (x)]) (by simp [results, Try.results19, go_sem, *]) rfl ⟨rfl, (by repeat (first | exact BW.refl _ | assumption | apply BW.alloc | apply BW.drew | (refine BW.setCell ?_ (by first | omega | (simp; done) | (simp; omega)) _) | (refine BW.trans ?_ (by assumption))))⟩
set_option maxHeartbeats 400000 in
theorem two_quo_tag1 (ta a tb b : Int) (sa sb : ByteArray) (h : (ta != 1) = true) (w : World) :
    Calls Try.prog 19 #[.string ⟨#[47]⟩, V ta a sa, V tb b sb] w fun e w' => e = .returned (.tuple #[V 0 0 ⟨#[]⟩, .int .i64 (2)]) ∧ BW w w' := by
  go_enter Try.func19, Try.ntmps19
  go_wp2
  exact bodyPost_ret (v := .tuple #[V 0 0 ⟨#[]⟩, .int .i64 (2)]) (by simp [results, Try.results19, go_sem]) rfl ⟨rfl, (by repeat (first | exact BW.refl _ | assumption | apply BW.alloc | apply BW.drew | (refine BW.setCell ?_ (by first | omega | (simp; done) | (simp; omega)) _) | (refine BW.trans ?_ (by assumption))))⟩
set_option maxHeartbeats 400000 in
theorem two_quo_tag2 (ta a tb b : Int) (sa sb : ByteArray) (h : (ta != 1) = false) (h' : (tb != 1) = true) (w : World) :
    Calls Try.prog 19 #[.string ⟨#[47]⟩, V ta a sa, V tb b sb] w fun e w' => e = .returned (.tuple #[V 0 0 ⟨#[]⟩, .int .i64 (2)]) ∧ BW w w' := by
  go_enter Try.func19, Try.ntmps19
  go_wp2
  exact bodyPost_ret (v := .tuple #[V 0 0 ⟨#[]⟩, .int .i64 (2)]) (by simp [results, Try.results19, go_sem]) rfl ⟨rfl, (by repeat (first | exact BW.refl _ | assumption | apply BW.alloc | apply BW.drew | (refine BW.setCell ?_ (by first | omega | (simp; done) | (simp; omega)) _) | (refine BW.trans ?_ (by assumption))))⟩
set_option maxHeartbeats 400000 in
theorem two_rem {a b n : Int} (sa sb : ByteArray) (h : Reck ⟨#[37]⟩ a b n 0) (w : World) :
    Calls Try.prog 19 #[.string ⟨#[37]⟩, V 1 a sa, V 1 b sb] w fun e w' => e = .returned (.tuple #[V 1 n ⟨#[]⟩, .int .i64 (0)]) ∧ BW w w' := by
  go_enter Try.func19, Try.ntmps19
  go_wp2_with (first | (go_at_call 37; refine (h _).mono ?_; rintro e w1 ⟨rfl, hb⟩; have hz := hb.size; (try simp at hz); have hc0 := fun o => hb.cells (w.heap.size + 1 + 1) o (by first | omega | (simp; done) | (simp; omega)); have hf0 := fun o => hb.froz (w.heap.size + 1 + 1) o (by first | omega | (simp; done) | (simp; omega))) | (go_at_call 36; refine (number_ok _ _).mono ?_; rintro e w1 ⟨rfl, hb⟩; have hz := hb.size; (try simp at hz); have hc0 := fun o => hb.cells (w.heap.size + 1 + 1) o (by first | omega | (simp; done) | (simp; omega)); have hf0 := fun o => hb.froz (w.heap.size + 1 + 1) o (by first | omega | (simp; done) | (simp; omega))))
  exact bodyPost_ret (v := .tuple #[V 1 n ⟨#[]⟩, .int .i64 (0)]) (by simp [results, Try.results19, go_sem, *]) rfl ⟨rfl, (by repeat (first | exact BW.refl _ | assumption | apply BW.alloc | apply BW.drew | (refine BW.setCell ?_ (by first | omega | (simp; done) | (simp; omega)) _) | (refine BW.trans ?_ (by assumption))))⟩
set_option maxHeartbeats 400000 in
theorem two_rem_err {a b n x : Int} (sa sb : ByteArray) (h : Reck ⟨#[37]⟩ a b n x) (he : (x == 0) = false) (w : World) :
    Calls Try.prog 19 #[.string ⟨#[37]⟩, V 1 a sa, V 1 b sb] w fun e w' => e = .returned (.tuple #[V 0 0 ⟨#[]⟩, .int .i64 (x)]) ∧ BW w w' := by
  go_enter Try.func19, Try.ntmps19
  go_wp2_with (first | (go_at_call 37; refine (h _).mono ?_; rintro e w1 ⟨rfl, hb⟩; have hz := hb.size; (try simp at hz); have hc0 := fun o => hb.cells (w.heap.size + 1 + 1) o (by first | omega | (simp; done) | (simp; omega)); have hf0 := fun o => hb.froz (w.heap.size + 1 + 1) o (by first | omega | (simp; done) | (simp; omega))) | (go_at_call 36; refine (number_err _ _ he _).mono ?_; rintro e w1 ⟨rfl, hb⟩; have hz := hb.size; (try simp at hz); have hc0 := fun o => hb.cells (w.heap.size + 1 + 1) o (by first | omega | (simp; done) | (simp; omega)); have hf0 := fun o => hb.froz (w.heap.size + 1 + 1) o (by first | omega | (simp; done) | (simp; omega))))
  exact bodyPost_ret (v := .tuple #[V 0 0 ⟨#[]⟩, .int .i64 (x)]) (by simp [results, Try.results19, go_sem, *]) rfl ⟨rfl, (by repeat (first | exact BW.refl _ | assumption | apply BW.alloc | apply BW.drew | (refine BW.setCell ?_ (by first | omega | (simp; done) | (simp; omega)) _) | (refine BW.trans ?_ (by assumption))))⟩
set_option maxHeartbeats 400000 in
theorem two_rem_tag1 (ta a tb b : Int) (sa sb : ByteArray) (h : (ta != 1) = true) (w : World) :
    Calls Try.prog 19 #[.string ⟨#[37]⟩, V ta a sa, V tb b sb] w fun e w' => e = .returned (.tuple #[V 0 0 ⟨#[]⟩, .int .i64 (2)]) ∧ BW w w' := by
  go_enter Try.func19, Try.ntmps19
  go_wp2
  exact bodyPost_ret (v := .tuple #[V 0 0 ⟨#[]⟩, .int .i64 (2)]) (by simp [results, Try.results19, go_sem]) rfl ⟨rfl, (by repeat (first | exact BW.refl _ | assumption | apply BW.alloc | apply BW.drew | (refine BW.setCell ?_ (by first | omega | (simp; done) | (simp; omega)) _) | (refine BW.trans ?_ (by assumption))))⟩
set_option maxHeartbeats 400000 in
theorem two_rem_tag2 (ta a tb b : Int) (sa sb : ByteArray) (h : (ta != 1) = false) (h' : (tb != 1) = true) (w : World) :
    Calls Try.prog 19 #[.string ⟨#[37]⟩, V ta a sa, V tb b sb] w fun e w' => e = .returned (.tuple #[V 0 0 ⟨#[]⟩, .int .i64 (2)]) ∧ BW w w' := by
  go_enter Try.func19, Try.ntmps19
  go_wp2
  exact bodyPost_ret (v := .tuple #[V 0 0 ⟨#[]⟩, .int .i64 (2)]) (by simp [results, Try.results19, go_sem]) rfl ⟨rfl, (by repeat (first | exact BW.refl _ | assumption | apply BW.alloc | apply BW.drew | (refine BW.setCell ?_ (by first | omega | (simp; done) | (simp; omega)) _) | (refine BW.trans ?_ (by assumption))))⟩
set_option maxHeartbeats 400000 in
theorem two_and {a b n : Int} (sa sb : ByteArray) (h : Reck ⟨#[97, 110, 100]⟩ a b n 0) (w : World) :
    Calls Try.prog 19 #[.string ⟨#[97, 110, 100]⟩, V 1 a sa, V 1 b sb] w fun e w' => e = .returned (.tuple #[V 1 n ⟨#[]⟩, .int .i64 (0)]) ∧ BW w w' := by
  go_enter Try.func19, Try.ntmps19
  go_wp2_with (first | (go_at_call 37; refine (h _).mono ?_; rintro e w1 ⟨rfl, hb⟩; have hz := hb.size; (try simp at hz); have hc0 := fun o => hb.cells (w.heap.size + 1 + 1) o (by first | omega | (simp; done) | (simp; omega)); have hf0 := fun o => hb.froz (w.heap.size + 1 + 1) o (by first | omega | (simp; done) | (simp; omega))) | (go_at_call 36; refine (number_ok _ _).mono ?_; rintro e w1 ⟨rfl, hb⟩; have hz := hb.size; (try simp at hz); have hc0 := fun o => hb.cells (w.heap.size + 1 + 1) o (by first | omega | (simp; done) | (simp; omega)); have hf0 := fun o => hb.froz (w.heap.size + 1 + 1) o (by first | omega | (simp; done) | (simp; omega))))
  exact bodyPost_ret (v := .tuple #[V 1 n ⟨#[]⟩, .int .i64 (0)]) (by simp [results, Try.results19, go_sem, *]) rfl ⟨rfl, (by repeat (first | exact BW.refl _ | assumption | apply BW.alloc | apply BW.drew | (refine BW.setCell ?_ (by first | omega | (simp; done) | (simp; omega)) _) | (refine BW.trans ?_ (by assumption))))⟩
set_option maxHeartbeats 400000 in
theorem two_and_err {a b n x : Int} (sa sb : ByteArray) (h : Reck ⟨#[97, 110, 100]⟩ a b n x) (he : (x == 0) = false) (w : World) :
    Calls Try.prog 19 #[.string ⟨#[97, 110, 100]⟩, V 1 a sa, V 1 b sb] w fun e w' => e = .returned (.tuple #[V 0 0 ⟨#[]⟩, .int .i64 (x)]) ∧ BW w w' := by
  go_enter Try.func19, Try.ntmps19
  go_wp2_with (first | (go_at_call 37; refine (h _).mono ?_; rintro e w1 ⟨rfl, hb⟩; have hz := hb.size; (try simp at hz); have hc0 := fun o => hb.cells (w.heap.size + 1 + 1) o (by first | omega | (simp; done) | (simp; omega)); have hf0 := fun o => hb.froz (w.heap.size + 1 + 1) o (by first | omega | (simp; done) | (simp; omega))) | (go_at_call 36; refine (number_err _ _ he _).mono ?_; rintro e w1 ⟨rfl, hb⟩; have hz := hb.size; (try simp at hz); have hc0 := fun o => hb.cells (w.heap.size + 1 + 1) o (by first | omega | (simp; done) | (simp; omega)); have hf0 := fun o => hb.froz (w.heap.size + 1 + 1) o (by first | omega | (simp; done) | (simp; omega))))
  exact bodyPost_ret (v := .tuple #[V 0 0 ⟨#[]⟩, .int .i64 (x)]) (by simp [results, Try.results19, go_sem, *]) rfl ⟨rfl, (by repeat (first | exact BW.refl _ | assumption | apply BW.alloc | apply BW.drew | (refine BW.setCell ?_ (by first | omega | (simp; done) | (simp; omega)) _) | (refine BW.trans ?_ (by assumption))))⟩
set_option maxHeartbeats 400000 in
theorem two_and_tag1 (ta a tb b : Int) (sa sb : ByteArray) (h : (ta != 1) = true) (w : World) :
    Calls Try.prog 19 #[.string ⟨#[97, 110, 100]⟩, V ta a sa, V tb b sb] w fun e w' => e = .returned (.tuple #[V 0 0 ⟨#[]⟩, .int .i64 (2)]) ∧ BW w w' := by
  go_enter Try.func19, Try.ntmps19
  go_wp2
  exact bodyPost_ret (v := .tuple #[V 0 0 ⟨#[]⟩, .int .i64 (2)]) (by simp [results, Try.results19, go_sem]) rfl ⟨rfl, (by repeat (first | exact BW.refl _ | assumption | apply BW.alloc | apply BW.drew | (refine BW.setCell ?_ (by first | omega | (simp; done) | (simp; omega)) _) | (refine BW.trans ?_ (by assumption))))⟩
set_option maxHeartbeats 400000 in
theorem two_and_tag2 (ta a tb b : Int) (sa sb : ByteArray) (h : (ta != 1) = false) (h' : (tb != 1) = true) (w : World) :
    Calls Try.prog 19 #[.string ⟨#[97, 110, 100]⟩, V ta a sa, V tb b sb] w fun e w' => e = .returned (.tuple #[V 0 0 ⟨#[]⟩, .int .i64 (2)]) ∧ BW w w' := by
  go_enter Try.func19, Try.ntmps19
  go_wp2
  exact bodyPost_ret (v := .tuple #[V 0 0 ⟨#[]⟩, .int .i64 (2)]) (by simp [results, Try.results19, go_sem]) rfl ⟨rfl, (by repeat (first | exact BW.refl _ | assumption | apply BW.alloc | apply BW.drew | (refine BW.setCell ?_ (by first | omega | (simp; done) | (simp; omega)) _) | (refine BW.trans ?_ (by assumption))))⟩
set_option maxHeartbeats 400000 in
theorem two_or {a b n : Int} (sa sb : ByteArray) (h : Reck ⟨#[111, 114]⟩ a b n 0) (w : World) :
    Calls Try.prog 19 #[.string ⟨#[111, 114]⟩, V 1 a sa, V 1 b sb] w fun e w' => e = .returned (.tuple #[V 1 n ⟨#[]⟩, .int .i64 (0)]) ∧ BW w w' := by
  go_enter Try.func19, Try.ntmps19
  go_wp2_with (first | (go_at_call 37; refine (h _).mono ?_; rintro e w1 ⟨rfl, hb⟩; have hz := hb.size; (try simp at hz); have hc0 := fun o => hb.cells (w.heap.size + 1 + 1) o (by first | omega | (simp; done) | (simp; omega)); have hf0 := fun o => hb.froz (w.heap.size + 1 + 1) o (by first | omega | (simp; done) | (simp; omega))) | (go_at_call 36; refine (number_ok _ _).mono ?_; rintro e w1 ⟨rfl, hb⟩; have hz := hb.size; (try simp at hz); have hc0 := fun o => hb.cells (w.heap.size + 1 + 1) o (by first | omega | (simp; done) | (simp; omega)); have hf0 := fun o => hb.froz (w.heap.size + 1 + 1) o (by first | omega | (simp; done) | (simp; omega))))
  exact bodyPost_ret (v := .tuple #[V 1 n ⟨#[]⟩, .int .i64 (0)]) (by simp [results, Try.results19, go_sem, *]) rfl ⟨rfl, (by repeat (first | exact BW.refl _ | assumption | apply BW.alloc | apply BW.drew | (refine BW.setCell ?_ (by first | omega | (simp; done) | (simp; omega)) _) | (refine BW.trans ?_ (by assumption))))⟩
set_option maxHeartbeats 400000 in
theorem two_or_err {a b n x : Int} (sa sb : ByteArray) (h : Reck ⟨#[111, 114]⟩ a b n x) (he : (x == 0) = false) (w : World) :
    Calls Try.prog 19 #[.string ⟨#[111, 114]⟩, V 1 a sa, V 1 b sb] w fun e w' => e = .returned (.tuple #[V 0 0 ⟨#[]⟩, .int .i64 (x)]) ∧ BW w w' := by
  go_enter Try.func19, Try.ntmps19
  go_wp2_with (first | (go_at_call 37; refine (h _).mono ?_; rintro e w1 ⟨rfl, hb⟩; have hz := hb.size; (try simp at hz); have hc0 := fun o => hb.cells (w.heap.size + 1 + 1) o (by first | omega | (simp; done) | (simp; omega)); have hf0 := fun o => hb.froz (w.heap.size + 1 + 1) o (by first | omega | (simp; done) | (simp; omega))) | (go_at_call 36; refine (number_err _ _ he _).mono ?_; rintro e w1 ⟨rfl, hb⟩; have hz := hb.size; (try simp at hz); have hc0 := fun o => hb.cells (w.heap.size + 1 + 1) o (by first | omega | (simp; done) | (simp; omega)); have hf0 := fun o => hb.froz (w.heap.size + 1 + 1) o (by first | omega | (simp; done) | (simp; omega))))
  exact bodyPost_ret (v := .tuple #[V 0 0 ⟨#[]⟩, .int .i64 (x)]) (by simp [results, Try.results19, go_sem, *]) rfl ⟨rfl, (by repeat (first | exact BW.refl _ | assumption | apply BW.alloc | apply BW.drew | (refine BW.setCell ?_ (by first | omega | (simp; done) | (simp; omega)) _) | (refine BW.trans ?_ (by assumption))))⟩
set_option maxHeartbeats 400000 in
theorem two_or_tag1 (ta a tb b : Int) (sa sb : ByteArray) (h : (ta != 1) = true) (w : World) :
    Calls Try.prog 19 #[.string ⟨#[111, 114]⟩, V ta a sa, V tb b sb] w fun e w' => e = .returned (.tuple #[V 0 0 ⟨#[]⟩, .int .i64 (2)]) ∧ BW w w' := by
  go_enter Try.func19, Try.ntmps19
  go_wp2
  exact bodyPost_ret (v := .tuple #[V 0 0 ⟨#[]⟩, .int .i64 (2)]) (by simp [results, Try.results19, go_sem]) rfl ⟨rfl, (by repeat (first | exact BW.refl _ | assumption | apply BW.alloc | apply BW.drew | (refine BW.setCell ?_ (by first | omega | (simp; done) | (simp; omega)) _) | (refine BW.trans ?_ (by assumption))))⟩
set_option maxHeartbeats 400000 in
theorem two_or_tag2 (ta a tb b : Int) (sa sb : ByteArray) (h : (ta != 1) = false) (h' : (tb != 1) = true) (w : World) :
    Calls Try.prog 19 #[.string ⟨#[111, 114]⟩, V ta a sa, V tb b sb] w fun e w' => e = .returned (.tuple #[V 0 0 ⟨#[]⟩, .int .i64 (2)]) ∧ BW w w' := by
  go_enter Try.func19, Try.ntmps19
  go_wp2
  exact bodyPost_ret (v := .tuple #[V 0 0 ⟨#[]⟩, .int .i64 (2)]) (by simp [results, Try.results19, go_sem]) rfl ⟨rfl, (by repeat (first | exact BW.refl _ | assumption | apply BW.alloc | apply BW.drew | (refine BW.setCell ?_ (by first | omega | (simp; done) | (simp; omega)) _) | (refine BW.trans ?_ (by assumption))))⟩
set_option maxHeartbeats 400000 in
theorem two_xor {a b n : Int} (sa sb : ByteArray) (h : Reck ⟨#[120, 111, 114]⟩ a b n 0) (w : World) :
    Calls Try.prog 19 #[.string ⟨#[120, 111, 114]⟩, V 1 a sa, V 1 b sb] w fun e w' => e = .returned (.tuple #[V 1 n ⟨#[]⟩, .int .i64 (0)]) ∧ BW w w' := by
  go_enter Try.func19, Try.ntmps19
  go_wp2_with (first | (go_at_call 37; refine (h _).mono ?_; rintro e w1 ⟨rfl, hb⟩; have hz := hb.size; (try simp at hz); have hc0 := fun o => hb.cells (w.heap.size + 1 + 1) o (by first | omega | (simp; done) | (simp; omega)); have hf0 := fun o => hb.froz (w.heap.size + 1 + 1) o (by first | omega | (simp; done) | (simp; omega))) | (go_at_call 36; refine (number_ok _ _).mono ?_; rintro e w1 ⟨rfl, hb⟩; have hz := hb.size; (try simp at hz); have hc0 := fun o => hb.cells (w.heap.size + 1 + 1) o (by first | omega | (simp; done) | (simp; omega)); have hf0 := fun o => hb.froz (w.heap.size + 1 + 1) o (by first | omega | (simp; done) | (simp; omega))))
  exact bodyPost_ret (v := .tuple #[V 1 n ⟨#[]⟩, .int .i64 (0)]) (by simp [results, Try.results19, go_sem, *]) rfl ⟨rfl, (by repeat (first | exact BW.refl _ | assumption | apply BW.alloc | apply BW.drew | (refine BW.setCell ?_ (by first | omega | (simp; done) | (simp; omega)) _) | (refine BW.trans ?_ (by assumption))))⟩
set_option maxHeartbeats 400000 in
theorem two_xor_err {a b n x : Int} (sa sb : ByteArray) (h : Reck ⟨#[120, 111, 114]⟩ a b n x) (he : (x == 0) = false) (w : World) :
    Calls Try.prog 19 #[.string ⟨#[120, 111, 114]⟩, V 1 a sa, V 1 b sb] w fun e w' => e = .returned (.tuple #[V 0 0 ⟨#[]⟩, .int .i64 (x)]) ∧ BW w w' := by
  go_enter Try.func19, Try.ntmps19
  go_wp2_with (first | (go_at_call 37; refine (h _).mono ?_; rintro e w1 ⟨rfl, hb⟩; have hz := hb.size; (try simp at hz); have hc0 := fun o => hb.cells (w.heap.size + 1 + 1) o (by first | omega | (simp; done) | (simp; omega)); have hf0 := fun o => hb.froz (w.heap.size + 1 + 1) o (by first | omega | (simp; done) | (simp; omega))) | (go_at_call 36; refine (number_err _ _ he _).mono ?_; rintro e w1 ⟨rfl, hb⟩; have hz := hb.size; (try simp at hz); have hc0 := fun o => hb.cells (w.heap.size + 1 + 1) o (by first | omega | (simp; done) | (simp; omega)); have hf0 := fun o => hb.froz (w.heap.size + 1 + 1) o (by first | omega | (simp; done) | (simp; omega))))
  exact bodyPost_ret (v := .tuple #[V 0 0 ⟨#[]⟩, .int .i64 (x)]) (by simp [results, Try.results19, go_sem, *]) rfl ⟨rfl, (by repeat (first | exact BW.refl _ | assumption | apply BW.alloc | apply BW.drew | (refine BW.setCell ?_ (by first | omega | (simp; done) | (simp; omega)) _) | (refine BW.trans ?_ (by assumption))))⟩
set_option maxHeartbeats 400000 in
theorem two_xor_tag1 (ta a tb b : Int) (sa sb : ByteArray) (h : (ta != 1) = true) (w : World) :
    Calls Try.prog 19 #[.string ⟨#[120, 111, 114]⟩, V ta a sa, V tb b sb] w fun e w' => e = .returned (.tuple #[V 0 0 ⟨#[]⟩, .int .i64 (2)]) ∧ BW w w' := by
  go_enter Try.func19, Try.ntmps19
  go_wp2
  exact bodyPost_ret (v := .tuple #[V 0 0 ⟨#[]⟩, .int .i64 (2)]) (by simp [results, Try.results19, go_sem]) rfl ⟨rfl, (by repeat (first | exact BW.refl _ | assumption | apply BW.alloc | apply BW.drew | (refine BW.setCell ?_ (by first | omega | (simp; done) | (simp; omega)) _) | (refine BW.trans ?_ (by assumption))))⟩
set_option maxHeartbeats 400000 in
theorem two_xor_tag2 (ta a tb b : Int) (sa sb : ByteArray) (h : (ta != 1) = false) (h' : (tb != 1) = true) (w : World) :
    Calls Try.prog 19 #[.string ⟨#[120, 111, 114]⟩, V ta a sa, V tb b sb] w fun e w' => e = .returned (.tuple #[V 0 0 ⟨#[]⟩, .int .i64 (2)]) ∧ BW w w' := by
  go_enter Try.func19, Try.ntmps19
  go_wp2
  exact bodyPost_ret (v := .tuple #[V 0 0 ⟨#[]⟩, .int .i64 (2)]) (by simp [results, Try.results19, go_sem]) rfl ⟨rfl, (by repeat (first | exact BW.refl _ | assumption | apply BW.alloc | apply BW.drew | (refine BW.setCell ?_ (by first | omega | (simp; done) | (simp; omega)) _) | (refine BW.trans ?_ (by assumption))))⟩
set_option maxHeartbeats 400000 in
theorem two_shl {a b n : Int} (sa sb : ByteArray) (h : Reck ⟨#[115, 104, 108]⟩ a b n 0) (w : World) :
    Calls Try.prog 19 #[.string ⟨#[115, 104, 108]⟩, V 1 a sa, V 1 b sb] w fun e w' => e = .returned (.tuple #[V 1 n ⟨#[]⟩, .int .i64 (0)]) ∧ BW w w' := by
  go_enter Try.func19, Try.ntmps19
  go_wp2_with (first | (go_at_call 37; refine (h _).mono ?_; rintro e w1 ⟨rfl, hb⟩; have hz := hb.size; (try simp at hz); have hc0 := fun o => hb.cells (w.heap.size + 1 + 1) o (by first | omega | (simp; done) | (simp; omega)); have hf0 := fun o => hb.froz (w.heap.size + 1 + 1) o (by first | omega | (simp; done) | (simp; omega))) | (go_at_call 36; refine (number_ok _ _).mono ?_; rintro e w1 ⟨rfl, hb⟩; have hz := hb.size; (try simp at hz); have hc0 := fun o => hb.cells (w.heap.size + 1 + 1) o (by first | omega | (simp; done) | (simp; omega)); have hf0 := fun o => hb.froz (w.heap.size + 1 + 1) o (by first | omega | (simp; done) | (simp; omega))))
  exact bodyPost_ret (v := .tuple #[V 1 n ⟨#[]⟩, .int .i64 (0)]) (by simp [results, Try.results19, go_sem, *]) rfl ⟨rfl, (by repeat (first | exact BW.refl _ | assumption | apply BW.alloc | apply BW.drew | (refine BW.setCell ?_ (by first | omega | (simp; done) | (simp; omega)) _) | (refine BW.trans ?_ (by assumption))))⟩
set_option maxHeartbeats 400000 in
theorem two_shl_err {a b n x : Int} (sa sb : ByteArray) (h : Reck ⟨#[115, 104, 108]⟩ a b n x) (he : (x == 0) = false) (w : World) :
    Calls Try.prog 19 #[.string ⟨#[115, 104, 108]⟩, V 1 a sa, V 1 b sb] w fun e w' => e = .returned (.tuple #[V 0 0 ⟨#[]⟩, .int .i64 (x)]) ∧ BW w w' := by
  go_enter Try.func19, Try.ntmps19
  go_wp2_with (first | (go_at_call 37; refine (h _).mono ?_; rintro e w1 ⟨rfl, hb⟩; have hz := hb.size; (try simp at hz); have hc0 := fun o => hb.cells (w.heap.size + 1 + 1) o (by first | omega | (simp; done) | (simp; omega)); have hf0 := fun o => hb.froz (w.heap.size + 1 + 1) o (by first | omega | (simp; done) | (simp; omega))) | (go_at_call 36; refine (number_err _ _ he _).mono ?_; rintro e w1 ⟨rfl, hb⟩; have hz := hb.size; (try simp at hz); have hc0 := fun o => hb.cells (w.heap.size + 1 + 1) o (by first | omega | (simp; done) | (simp; omega)); have hf0 := fun o => hb.froz (w.heap.size + 1 + 1) o (by first | omega | (simp; done) | (simp; omega))))
  exact bodyPost_ret (v := .tuple #[V 0 0 ⟨#[]⟩, .int .i64 (x)]) (by simp [results, Try.results19, go_sem, *]) rfl ⟨rfl, (by repeat (first | exact BW.refl _ | assumption | apply BW.alloc | apply BW.drew | (refine BW.setCell ?_ (by first | omega | (simp; done) | (simp; omega)) _) | (refine BW.trans ?_ (by assumption))))⟩
set_option maxHeartbeats 400000 in
theorem two_shl_tag1 (ta a tb b : Int) (sa sb : ByteArray) (h : (ta != 1) = true) (w : World) :
    Calls Try.prog 19 #[.string ⟨#[115, 104, 108]⟩, V ta a sa, V tb b sb] w fun e w' => e = .returned (.tuple #[V 0 0 ⟨#[]⟩, .int .i64 (2)]) ∧ BW w w' := by
  go_enter Try.func19, Try.ntmps19
  go_wp2
  exact bodyPost_ret (v := .tuple #[V 0 0 ⟨#[]⟩, .int .i64 (2)]) (by simp [results, Try.results19, go_sem]) rfl ⟨rfl, (by repeat (first | exact BW.refl _ | assumption | apply BW.alloc | apply BW.drew | (refine BW.setCell ?_ (by first | omega | (simp; done) | (simp; omega)) _) | (refine BW.trans ?_ (by assumption))))⟩
set_option maxHeartbeats 400000 in
theorem two_shl_tag2 (ta a tb b : Int) (sa sb : ByteArray) (h : (ta != 1) = false) (h' : (tb != 1) = true) (w : World) :
    Calls Try.prog 19 #[.string ⟨#[115, 104, 108]⟩, V ta a sa, V tb b sb] w fun e w' => e = .returned (.tuple #[V 0 0 ⟨#[]⟩, .int .i64 (2)]) ∧ BW w w' := by
  go_enter Try.func19, Try.ntmps19
  go_wp2
  exact bodyPost_ret (v := .tuple #[V 0 0 ⟨#[]⟩, .int .i64 (2)]) (by simp [results, Try.results19, go_sem]) rfl ⟨rfl, (by repeat (first | exact BW.refl _ | assumption | apply BW.alloc | apply BW.drew | (refine BW.setCell ?_ (by first | omega | (simp; done) | (simp; omega)) _) | (refine BW.trans ?_ (by assumption))))⟩
set_option maxHeartbeats 400000 in
theorem two_shr {a b n : Int} (sa sb : ByteArray) (h : Reck ⟨#[115, 104, 114]⟩ a b n 0) (w : World) :
    Calls Try.prog 19 #[.string ⟨#[115, 104, 114]⟩, V 1 a sa, V 1 b sb] w fun e w' => e = .returned (.tuple #[V 1 n ⟨#[]⟩, .int .i64 (0)]) ∧ BW w w' := by
  go_enter Try.func19, Try.ntmps19
  go_wp2_with (first | (go_at_call 37; refine (h _).mono ?_; rintro e w1 ⟨rfl, hb⟩; have hz := hb.size; (try simp at hz); have hc0 := fun o => hb.cells (w.heap.size + 1 + 1) o (by first | omega | (simp; done) | (simp; omega)); have hf0 := fun o => hb.froz (w.heap.size + 1 + 1) o (by first | omega | (simp; done) | (simp; omega))) | (go_at_call 36; refine (number_ok _ _).mono ?_; rintro e w1 ⟨rfl, hb⟩; have hz := hb.size; (try simp at hz); have hc0 := fun o => hb.cells (w.heap.size + 1 + 1) o (by first | omega | (simp; done) | (simp; omega)); have hf0 := fun o => hb.froz (w.heap.size + 1 + 1) o (by first | omega | (simp; done) | (simp; omega))))
  exact bodyPost_ret (v := .tuple #[V 1 n ⟨#[]⟩, .int .i64 (0)]) (by simp [results, Try.results19, go_sem, *]) rfl ⟨rfl, (by repeat (first | exact BW.refl _ | assumption | apply BW.alloc | apply BW.drew | (refine BW.setCell ?_ (by first | omega | (simp; done) | (simp; omega)) _) | (refine BW.trans ?_ (by assumption))))⟩
set_option maxHeartbeats 400000 in
theorem two_shr_err {a b n x : Int} (sa sb : ByteArray) (h : Reck ⟨#[115, 104, 114]⟩ a b n x) (he : (x == 0) = false) (w : World) :
    Calls Try.prog 19 #[.string ⟨#[115, 104, 114]⟩, V 1 a sa, V 1 b sb] w fun e w' => e = .returned (.tuple #[V 0 0 ⟨#[]⟩, .int .i64 (x)]) ∧ BW w w' := by
  go_enter Try.func19, Try.ntmps19
  go_wp2_with (first | (go_at_call 37; refine (h _).mono ?_; rintro e w1 ⟨rfl, hb⟩; have hz := hb.size; (try simp at hz); have hc0 := fun o => hb.cells (w.heap.size + 1 + 1) o (by first | omega | (simp; done) | (simp; omega)); have hf0 := fun o => hb.froz (w.heap.size + 1 + 1) o (by first | omega | (simp; done) | (simp; omega))) | (go_at_call 36; refine (number_err _ _ he _).mono ?_; rintro e w1 ⟨rfl, hb⟩; have hz := hb.size; (try simp at hz); have hc0 := fun o => hb.cells (w.heap.size + 1 + 1) o (by first | omega | (simp; done) | (simp; omega)); have hf0 := fun o => hb.froz (w.heap.size + 1 + 1) o (by first | omega | (simp; done) | (simp; omega))))
  exact bodyPost_ret (v := .tuple #[V 0 0 ⟨#[]⟩, .int .i64 (x)]) (by simp [results, Try.results19, go_sem, *]) rfl ⟨rfl, (by repeat (first | exact BW.refl _ | assumption | apply BW.alloc | apply BW.drew | (refine BW.setCell ?_ (by first | omega | (simp; done) | (simp; omega)) _) | (refine BW.trans ?_ (by assumption))))⟩
set_option maxHeartbeats 400000 in
theorem two_shr_tag1 (ta a tb b : Int) (sa sb : ByteArray) (h : (ta != 1) = true) (w : World) :
    Calls Try.prog 19 #[.string ⟨#[115, 104, 114]⟩, V ta a sa, V tb b sb] w fun e w' => e = .returned (.tuple #[V 0 0 ⟨#[]⟩, .int .i64 (2)]) ∧ BW w w' := by
  go_enter Try.func19, Try.ntmps19
  go_wp2
  exact bodyPost_ret (v := .tuple #[V 0 0 ⟨#[]⟩, .int .i64 (2)]) (by simp [results, Try.results19, go_sem]) rfl ⟨rfl, (by repeat (first | exact BW.refl _ | assumption | apply BW.alloc | apply BW.drew | (refine BW.setCell ?_ (by first | omega | (simp; done) | (simp; omega)) _) | (refine BW.trans ?_ (by assumption))))⟩
set_option maxHeartbeats 400000 in
theorem two_shr_tag2 (ta a tb b : Int) (sa sb : ByteArray) (h : (ta != 1) = false) (h' : (tb != 1) = true) (w : World) :
    Calls Try.prog 19 #[.string ⟨#[115, 104, 114]⟩, V ta a sa, V tb b sb] w fun e w' => e = .returned (.tuple #[V 0 0 ⟨#[]⟩, .int .i64 (2)]) ∧ BW w w' := by
  go_enter Try.func19, Try.ntmps19
  go_wp2
  exact bodyPost_ret (v := .tuple #[V 0 0 ⟨#[]⟩, .int .i64 (2)]) (by simp [results, Try.results19, go_sem]) rfl ⟨rfl, (by repeat (first | exact BW.refl _ | assumption | apply BW.alloc | apply BW.drew | (refine BW.setCell ?_ (by first | omega | (simp; done) | (simp; omega)) _) | (refine BW.trans ?_ (by assumption))))⟩
set_option maxHeartbeats 400000 in
theorem two_ushr {a b n : Int} (sa sb : ByteArray) (h : Reck ⟨#[117, 115, 104, 114]⟩ a b n 0) (w : World) :
    Calls Try.prog 19 #[.string ⟨#[117, 115, 104, 114]⟩, V 1 a sa, V 1 b sb] w fun e w' => e = .returned (.tuple #[V 1 n ⟨#[]⟩, .int .i64 (0)]) ∧ BW w w' := by
  go_enter Try.func19, Try.ntmps19
  go_wp2_with (first | (go_at_call 37; refine (h _).mono ?_; rintro e w1 ⟨rfl, hb⟩; have hz := hb.size; (try simp at hz); have hc0 := fun o => hb.cells (w.heap.size + 1 + 1) o (by first | omega | (simp; done) | (simp; omega)); have hf0 := fun o => hb.froz (w.heap.size + 1 + 1) o (by first | omega | (simp; done) | (simp; omega))) | (go_at_call 36; refine (number_ok _ _).mono ?_; rintro e w1 ⟨rfl, hb⟩; have hz := hb.size; (try simp at hz); have hc0 := fun o => hb.cells (w.heap.size + 1 + 1) o (by first | omega | (simp; done) | (simp; omega)); have hf0 := fun o => hb.froz (w.heap.size + 1 + 1) o (by first | omega | (simp; done) | (simp; omega))))
  exact bodyPost_ret (v := .tuple #[V 1 n ⟨#[]⟩, .int .i64 (0)]) (by simp [results, Try.results19, go_sem, *]) rfl ⟨rfl, (by repeat (first | exact BW.refl _ | assumption | apply BW.alloc | apply BW.drew | (refine BW.setCell ?_ (by first | omega | (simp; done) | (simp; omega)) _) | (refine BW.trans ?_ (by assumption))))⟩
set_option maxHeartbeats 400000 in
theorem two_ushr_err {a b n x : Int} (sa sb : ByteArray) (h : Reck ⟨#[117, 115, 104, 114]⟩ a b n x) (he : (x == 0) = false) (w : World) :
    Calls Try.prog 19 #[.string ⟨#[117, 115, 104, 114]⟩, V 1 a sa, V 1 b sb] w fun e w' => e = .returned (.tuple #[V 0 0 ⟨#[]⟩, .int .i64 (x)]) ∧ BW w w' := by
  go_enter Try.func19, Try.ntmps19
  go_wp2_with (first | (go_at_call 37; refine (h _).mono ?_; rintro e w1 ⟨rfl, hb⟩; have hz := hb.size; (try simp at hz); have hc0 := fun o => hb.cells (w.heap.size + 1 + 1) o (by first | omega | (simp; done) | (simp; omega)); have hf0 := fun o => hb.froz (w.heap.size + 1 + 1) o (by first | omega | (simp; done) | (simp; omega))) | (go_at_call 36; refine (number_err _ _ he _).mono ?_; rintro e w1 ⟨rfl, hb⟩; have hz := hb.size; (try simp at hz); have hc0 := fun o => hb.cells (w.heap.size + 1 + 1) o (by first | omega | (simp; done) | (simp; omega)); have hf0 := fun o => hb.froz (w.heap.size + 1 + 1) o (by first | omega | (simp; done) | (simp; omega))))
  exact bodyPost_ret (v := .tuple #[V 0 0 ⟨#[]⟩, .int .i64 (x)]) (by simp [results, Try.results19, go_sem, *]) rfl ⟨rfl, (by repeat (first | exact BW.refl _ | assumption | apply BW.alloc | apply BW.drew | (refine BW.setCell ?_ (by first | omega | (simp; done) | (simp; omega)) _) | (refine BW.trans ?_ (by assumption))))⟩
set_option maxHeartbeats 400000 in
theorem two_ushr_tag1 (ta a tb b : Int) (sa sb : ByteArray) (h : (ta != 1) = true) (w : World) :
    Calls Try.prog 19 #[.string ⟨#[117, 115, 104, 114]⟩, V ta a sa, V tb b sb] w fun e w' => e = .returned (.tuple #[V 0 0 ⟨#[]⟩, .int .i64 (2)]) ∧ BW w w' := by
  go_enter Try.func19, Try.ntmps19
  go_wp2
  exact bodyPost_ret (v := .tuple #[V 0 0 ⟨#[]⟩, .int .i64 (2)]) (by simp [results, Try.results19, go_sem]) rfl ⟨rfl, (by repeat (first | exact BW.refl _ | assumption | apply BW.alloc | apply BW.drew | (refine BW.setCell ?_ (by first | omega | (simp; done) | (simp; omega)) _) | (refine BW.trans ?_ (by assumption))))⟩
set_option maxHeartbeats 400000 in
theorem two_ushr_tag2 (ta a tb b : Int) (sa sb : ByteArray) (h : (ta != 1) = false) (h' : (tb != 1) = true) (w : World) :
    Calls Try.prog 19 #[.string ⟨#[117, 115, 104, 114]⟩, V ta a sa, V tb b sb] w fun e w' => e = .returned (.tuple #[V 0 0 ⟨#[]⟩, .int .i64 (2)]) ∧ BW w w' := by
  go_enter Try.func19, Try.ntmps19
  go_wp2
  exact bodyPost_ret (v := .tuple #[V 0 0 ⟨#[]⟩, .int .i64 (2)]) (by simp [results, Try.results19, go_sem]) rfl ⟨rfl, (by repeat (first | exact BW.refl _ | assumption | apply BW.alloc | apply BW.drew | (refine BW.setCell ?_ (by first | omega | (simp; done) | (simp; omega)) _) | (refine BW.trans ?_ (by assumption))))⟩
def Fourlt (ta a tb b t n e : Int) (sa sb s : ByteArray) : Prop := ∀ w : World, Calls Try.prog 32 #[V ta a sa, V tb b sb] w fun x w' => x = .returned (.tuple #[V t n s, .int .i64 e]) ∧ BW w w'
set_option maxHeartbeats 400000 in
theorem two_lt {ta a tb b t n x : Int} {sa sb s : ByteArray} (h : Fourlt ta a tb b t n x sa sb s) (w : World) :
    Calls Try.prog 19 #[.string ⟨#[60]⟩, V ta a sa, V tb b sb] w fun e w' => e = .returned (.tuple #[V t n s, .int .i64 (x)]) ∧ BW w w' := by
  go_enter Try.func19, Try.ntmps19
  go_wp2_with (first | (go_at_call 32; refine (h _).mono ?_; rintro e w1 ⟨rfl, hb⟩; have hz := hb.size; (try simp at hz); have hc0 := fun o => hb.cells (w.heap.size + 1 + 1) o (by first | omega | (simp; done) | (simp; omega)); have hf0 := fun o => hb.froz (w.heap.size + 1 + 1) o (by first | omega | (simp; done) | (simp; omega))))
  exact bodyPost_ret (v := .tuple #[V t n s, .int .i64 (x)]) (by simp [results, Try.results19, go_sem, *]) rfl ⟨rfl, (by repeat (first | exact BW.refl _ | assumption | apply BW.alloc | apply BW.drew | (refine BW.setCell ?_ (by first | omega | (simp; done) | (simp; omega)) _) | (refine BW.trans ?_ (by assumption))))⟩
def Foureq (ta a tb b t n e : Int) (sa sb s : ByteArray) : Prop := ∀ w : World, Calls Try.prog 33 #[V ta a sa, V tb b sb] w fun x w' => x = .returned (.tuple #[V t n s, .int .i64 e]) ∧ BW w w'
set_option maxHeartbeats 400000 in
theorem two_eq {ta a tb b t n x : Int} {sa sb s : ByteArray} (h : Foureq ta a tb b t n x sa sb s) (w : World) :
    Calls Try.prog 19 #[.string ⟨#[61]⟩, V ta a sa, V tb b sb] w fun e w' => e = .returned (.tuple #[V t n s, .int .i64 (x)]) ∧ BW w w' := by
  go_enter Try.func19, Try.ntmps19
  go_wp2_with (first | (go_at_call 33; refine (h _).mono ?_; rintro e w1 ⟨rfl, hb⟩; have hz := hb.size; (try simp at hz); have hc0 := fun o => hb.cells (w.heap.size + 1 + 1) o (by first | omega | (simp; done) | (simp; omega)); have hf0 := fun o => hb.froz (w.heap.size + 1 + 1) o (by first | omega | (simp; done) | (simp; omega))))
  exact bodyPost_ret (v := .tuple #[V t n s, .int .i64 (x)]) (by simp [results, Try.results19, go_sem, *]) rfl ⟨rfl, (by repeat (first | exact BW.refl _ | assumption | apply BW.alloc | apply BW.drew | (refine BW.setCell ?_ (by first | omega | (simp; done) | (simp; omega)) _) | (refine BW.trans ?_ (by assumption))))⟩
def Fourcat (ta a tb b t n e : Int) (sa sb s : ByteArray) : Prop := ∀ w : World, Calls Try.prog 34 #[V ta a sa, V tb b sb] w fun x w' => x = .returned (.tuple #[V t n s, .int .i64 e]) ∧ BW w w'
set_option maxHeartbeats 400000 in
theorem two_cat {ta a tb b t n x : Int} {sa sb s : ByteArray} (h : Fourcat ta a tb b t n x sa sb s) (w : World) :
    Calls Try.prog 19 #[.string ⟨#[99, 97, 116]⟩, V ta a sa, V tb b sb] w fun e w' => e = .returned (.tuple #[V t n s, .int .i64 (x)]) ∧ BW w w' := by
  go_enter Try.func19, Try.ntmps19
  go_wp2_with (first | (go_at_call 34; refine (h _).mono ?_; rintro e w1 ⟨rfl, hb⟩; have hz := hb.size; (try simp at hz); have hc0 := fun o => hb.cells (w.heap.size + 1 + 1) o (by first | omega | (simp; done) | (simp; omega)); have hf0 := fun o => hb.froz (w.heap.size + 1 + 1) o (by first | omega | (simp; done) | (simp; omega))))
  exact bodyPost_ret (v := .tuple #[V t n s, .int .i64 (x)]) (by simp [results, Try.results19, go_sem, *]) rfl ⟨rfl, (by repeat (first | exact BW.refl _ | assumption | apply BW.alloc | apply BW.drew | (refine BW.setCell ?_ (by first | omega | (simp; done) | (simp; omega)) _) | (refine BW.trans ?_ (by assumption))))⟩
def Fourat (ta a tb b t n e : Int) (sa sb s : ByteArray) : Prop := ∀ w : World, Calls Try.prog 35 #[V ta a sa, V tb b sb] w fun x w' => x = .returned (.tuple #[V t n s, .int .i64 e]) ∧ BW w w'
set_option maxHeartbeats 400000 in
theorem two_at {ta a tb b t n x : Int} {sa sb s : ByteArray} (h : Fourat ta a tb b t n x sa sb s) (w : World) :
    Calls Try.prog 19 #[.string ⟨#[97, 116]⟩, V ta a sa, V tb b sb] w fun e w' => e = .returned (.tuple #[V t n s, .int .i64 (x)]) ∧ BW w w' := by
  go_enter Try.func19, Try.ntmps19
  go_wp2_with (first | (go_at_call 35; refine (h _).mono ?_; rintro e w1 ⟨rfl, hb⟩; have hz := hb.size; (try simp at hz); have hc0 := fun o => hb.cells (w.heap.size + 1 + 1) o (by first | omega | (simp; done) | (simp; omega)); have hf0 := fun o => hb.froz (w.heap.size + 1 + 1) o (by first | omega | (simp; done) | (simp; omega))))
  exact bodyPost_ret (v := .tuple #[V t n s, .int .i64 (x)]) (by simp [results, Try.results19, go_sem, *]) rfl ⟨rfl, (by repeat (first | exact BW.refl _ | assumption | apply BW.alloc | apply BW.drew | (refine BW.setCell ?_ (by first | omega | (simp; done) | (simp; omega)) _) | (refine BW.trans ?_ (by assumption))))⟩
end Go.Proofs.Ytbiahgjlgojhdaa
