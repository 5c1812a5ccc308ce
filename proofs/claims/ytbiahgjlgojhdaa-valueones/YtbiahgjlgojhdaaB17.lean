import Derived.Test.YtbiahgjlgojhdaaB16
import Derived.Deep.RegionWith
import Derived.Deep.RegionHeld3
import Derived.Deep.DeepCutAuto
namespace Go.Proofs.Ytbiahgjlgojhdaa
open Go.RowKit
set_option linter.unusedVariables false
theorem row11 (w : World) (b : Nat) (hb : b = w.heap.size) : Row (w.alloc (.cells #[.string ⟨#[43]⟩, .string ⟨#[45]⟩, .string ⟨#[42]⟩, .string ⟨#[47]⟩, .string ⟨#[37]⟩, .string ⟨#[97, 110, 100]⟩, .string ⟨#[111, 114]⟩, .string ⟨#[120, 111, 114]⟩, .string ⟨#[115, 104, 108]⟩, .string ⟨#[115, 104, 114]⟩, .string ⟨#[117, 115, 104, 114]⟩] 9)) b elevenL := by
  subst hb
  intro i hi
  have hi' : i < 11 := hi
  rw [World.cell?_alloc_new]
  obtain rfl | rfl | rfl | rfl | rfl | rfl | rfl | rfl | rfl | rfl | rfl : i = 0 ∨ i = 1 ∨ i = 2 ∨ i = 3 ∨ i = 4 ∨ i = 5 ∨ i = 6 ∨ i = 7 ∨ i = 8 ∨ i = 9 ∨ i = 10 := by omega
  all_goals rfl
theorem in_eleven (wd : ByteArray) (b : Nat) (m : Nat) (hm : m < 11) (he : elevenL[m]'hm = wd) (w : World) (hr : Row w b elevenL) :
    Calls Try.prog 38 #[.string wd, .slice (some ⟨b, 0, none⟩) 11 11] w fun e w' => e = .returned (.bool true) ∧ BW w w' :=
  in_yes wd b elevenL (by decide) w hr m hm (by subst he; simp)
set_option maxRecDepth 100000 in
set_option maxHeartbeats 400000 in
theorem two20 (wd : ByteArray) (m : Nat) (hm : m < 11) (he : elevenL[m]'hm = wd) (a b t n x : Int) (sa sb : ByteArray) (hp : Pair wd a b t n x) (w : World) :
    Calls Try.prog 20 #[.string wd, V 1 a sa, V 1 b sb] w fun e w' => e = .returned (.tuple #[V t n ⟨#[]⟩, .int .i64 (x)]) ∧ BW w w' := by
  go_enter Try.func20, Try.ntmps20
  go_wp2_with (first | (go_at_call 38; refine (in_eleven wd _ m hm he _ (row11 _ _ (by simp))).mono ?_; rintro e w1 ⟨rfl, hb⟩; have hz := hb.size; (try simp at hz); have hc0 := fun o => hb.cells (w.heap.size) o (by first | omega | (simp; done) | (simp; omega)); have hf0 := fun o => hb.froz (w.heap.size) o (by first | omega | (simp; done) | (simp; omega)); have hc1 := fun o => hb.cells (w.heap.size + 1) o (by first | omega | (simp; done) | (simp; omega)); have hf1 := fun o => hb.froz (w.heap.size + 1) o (by first | omega | (simp; done) | (simp; omega)); have hc2 := fun o => hb.cells (w.heap.size + 1 + 1) o (by first | omega | (simp; done) | (simp; omega)); have hf2 := fun o => hb.froz (w.heap.size + 1 + 1) o (by first | omega | (simp; done) | (simp; omega)); have hc3 := fun o => hb.cells (w.heap.size + 1 + 1 + 1) o (by first | omega | (simp; done) | (simp; omega)); have hf3 := fun o => hb.froz (w.heap.size + 1 + 1 + 1) o (by first | omega | (simp; done) | (simp; omega))) | (go_at_call 39; refine (hp.ref _).mono ?_; rintro e w1 ⟨rfl, hb⟩; have hz := hb.size; (try simp at hz); have hc0 := fun o => hb.cells (w.heap.size) o (by first | omega | (simp; done) | (simp; omega)); have hf0 := fun o => hb.froz (w.heap.size) o (by first | omega | (simp; done) | (simp; omega)); have hc1 := fun o => hb.cells (w.heap.size + 1) o (by first | omega | (simp; done) | (simp; omega)); have hf1 := fun o => hb.froz (w.heap.size + 1) o (by first | omega | (simp; done) | (simp; omega)); have hc2 := fun o => hb.cells (w.heap.size + 1 + 1) o (by first | omega | (simp; done) | (simp; omega)); have hf2 := fun o => hb.froz (w.heap.size + 1 + 1) o (by first | omega | (simp; done) | (simp; omega)); have hc3 := fun o => hb.cells (w.heap.size + 1 + 1 + 1) o (by first | omega | (simp; done) | (simp; omega)); have hf3 := fun o => hb.froz (w.heap.size + 1 + 1 + 1) o (by first | omega | (simp; done) | (simp; omega))))
  exact bodyPost_ret (v := .tuple #[V t n ⟨#[]⟩, .int .i64 (x)]) (by simp [results, Try.results20, go_sem, *]) rfl ⟨rfl, (by repeat (first | exact BW.refl _ | assumption | apply BW.alloc | apply BW.drew | (refine BW.setCell ?_ (by first | omega | (simp; done) | (simp; omega)) _) | (refine BW.trans ?_ (by assumption))))⟩
end Go.Proofs.Ytbiahgjlgojhdaa
