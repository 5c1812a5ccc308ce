import Derived.Test.YtfgnlddfpemblaaDoorH2
import Derived.Test.YtfgnlddfpemblaaDoorS3t
import Derived.Defers
import Derived.Recover
import Derived.Deep.RegionHeld3
import Derived.Deep.DeepCutAuto
namespace Go.Proofs.YtfgnlddfpemblaaDoor
open Go.RowKit
set_option linter.unusedVariables false
set_option linter.unusedSimpArgs false

theorem new3_a (w : World) (o1 o2 o3 : Obj) : (((w.alloc o1).alloc o2).alloc o3).heap[w.heap.size]? = some o1 := by
  rw [Below.heap_alloc _ _ _ (by simp; omega), Below.heap_alloc _ _ _ (by simp)]
  exact heap_alloc_new w o1
theorem new3_b (w : World) (o1 o2 o3 : Obj) : (((w.alloc o1).alloc o2).alloc o3).heap[w.heap.size + 1]? = some o2 := by
  rw [Below.heap_alloc _ _ _ (by simp)]
  have := heap_alloc_new (w.alloc o1) o2
  simpa using this
theorem new3_c (w : World) (o1 o2 o3 : Obj) : (((w.alloc o1).alloc o2).alloc o3).heap[w.heap.size + 1 + 1]? = some o3 := by
  have := heap_alloc_new ((w.alloc o1).alloc o2) o3
  simpa using this


set_option maxRecDepth 100000 in
theorem door32 (tm : Array Value) (w : World) (R : Ending → World → Prop) (k1 k2 : Nat) (t1 n1 : Int) (s1 : ByteArray) (t2 n2 : Int) (s2 : ByteArray) (x : Bool) (h4 : tm.getD 4 undef = .pointer (some ⟨k1, 0, none⟩)) (h5 : tm.getD 5 undef = .pointer (some ⟨k2, 0, none⟩)) (h6 : tm.getD 6 undef = .bool x)
    (b1 : w.heap[k1]? = some (.cells #[.int .u8 t1, .int .i64 n1, .string s1] 24 (0, 0))) (b2 : w.heap[k2]? = some (.cells #[.int .u8 t2, .int .i64 n2, .string s2] 24 (0, 0))) (h : R (.returned (.tuple #[V t1 n1 s1, V t2 n2 s2, .bool x])) w) :
    bodyPostD Tryd.prog Tryd.f32 R .ret { tmps := tm, defers := [{ target := .fn (.func 38) #[], args := #[] }] } w := by
  refine leaves_cons (f := 38) (args := #[]) (by simp) (by simp [go_sem]) ?_
  refine (catch_idle _).mono ?_
  rintro e u' w'' ⟨rfl, rfl, rfl⟩
  refine ⟨_, ?_, h⟩
  have c0 : w''.cell? ⟨k1, 0, none⟩ = some (.int .u8 t1) := by simp only [World.cell?, b1]; rfl
  have c1 : w''.cell? ⟨k1, 1, none⟩ = some (.int .i64 n1) := by simp only [World.cell?, b1]; rfl
  have c2 : w''.cell? ⟨k1, 2, none⟩ = some (.string s1) := by simp only [World.cell?, b1]; rfl
  have d0 : w''.cell? ⟨k2, 0, none⟩ = some (.int .u8 t2) := by simp only [World.cell?, b2]; rfl
  have d1 : w''.cell? ⟨k2, 1, none⟩ = some (.int .i64 n2) := by simp only [World.cell?, b2]; rfl
  have d2 : w''.cell? ⟨k2, 2, none⟩ = some (.string s2) := by simp only [World.cell?, b2]; rfl
  simp only [Array.getD_eq_getD_getElem?] at h4 h5 h6
  simp [results, Tryd.results32, go_sem, h4, h5, h6, c0, c1, c2, d0, d1, d2]
theorem set3o {w : World} {b k : Nat} {a c d : Value} {o : Obj} (h : w.heap[k]? = some o) (hk : k ≠ b) : (((w.setCell ⟨b, 0, none⟩ a).setCell ⟨b, 1, none⟩ c).setCell ⟨b, 2, none⟩ d).heap[k]? = some o :=
  (heap_setCell_other _ ⟨b, 2, none⟩ k d hk).trans ((heap_setCell_other _ ⟨b, 1, none⟩ k c hk).trans ((heap_setCell_other _ ⟨b, 0, none⟩ k a hk).trans h))

theorem set3 {w : World} {b : Nat} {x y z a c d : Value} (h : w.heap[b]? = some (.cells #[x, y, z] 24 (0, 0))) : (((w.setCell ⟨b, 0, none⟩ a).setCell ⟨b, 1, none⟩ c).setCell ⟨b, 2, none⟩ d).heap[b]? = some (.cells #[a, c, d] 24 (0, 0)) := by
  have h1 := heap_setCell_same w b 0 _ 24 a h
  have h2 := heap_setCell_same _ b 1 _ 24 c h1
  exact heap_setCell_same _ b 2 _ 24 d h2
theorem drew_set (w : World) (p : Addr) (v : Value) : (w.setCell p v).drew = w.drew.setCell p v := rfl
theorem six_end (tm : Array Value) (w0 w : World) (k1 k2 : Nat) (x1 x2 x3 y1 y2 y3 : Value) (t1 n1 : Int) (s1 : ByteArray) (t2 n2 : Int) (s2 : ByteArray) (x : Bool) (b1 : w.heap[k1]? = some (.cells #[x1, x2, x3] 24 (0, 0))) (b2 : w.heap[k2]? = some (.cells #[y1, y2, y3] 24 (0, 0))) (hne : k1 ≠ k2) (hbw : BW w0 w) (z1 : w0.heap.size ≤ k1) (z2 : w0.heap.size ≤ k2) (h4 : tm.getD 4 undef = .pointer (some ⟨k1, 0, none⟩)) (h5 : tm.getD 5 undef = .pointer (some ⟨k2, 0, none⟩)) (h6 : tm.getD 6 undef = .bool x) :
    bodyPostD Tryd.prog Tryd.f32 (fun e w' => e = .returned (.tuple #[V t1 n1 s1, V t2 n2 s2, .bool x]) ∧ BW w0 w') .ret { tmps := tm, defers := [{ target := .fn (.func 38) #[], args := #[] }] } ((((((w.setCell ⟨k1, 0, none⟩ (.int .u8 t1)).setCell ⟨k1, 1, none⟩ (.int .i64 n1)).setCell ⟨k1, 2, none⟩ (.string s1)).setCell ⟨k2, 0, none⟩ (.int .u8 t2)).setCell ⟨k2, 1, none⟩ (.int .i64 n2)).setCell ⟨k2, 2, none⟩ (.string s2)) :=
  door32 tm _ _ k1 k2 t1 n1 s1 t2 n2 s2 x h4 h5 h6 (set3o (set3 b1) hne) (set3 (set3o b2 (Ne.symm hne))) ⟨rfl, (((((hbw.setCell z1 _).setCell z1 _).setCell z1 _).setCell z2 _).setCell z2 _).setCell z2 _⟩

set_option maxRecDepth 100000 in
set_option maxHeartbeats 1000000 in
theorem parts_no (b : Nat) (p : Value) (t m : Int) (s : ByteArray) (w : World) (hlt : b < w.heap.size) (hp : w.cell? ⟨b, 2, none⟩ = some (.iface 26 p)) (h1 : Asks 61 p (V t m s) (.tuple #[Z, .int .i64 2]) w) :
    Calls Tryd.prog 32 #[.pointer (some ⟨b, 0, none⟩), V t m s] w fun e w' => e = .returned (.tuple #[Z, Z, .bool false]) ∧ BW w w' := by
  have hmf : ∀ (fn : Fn) (first cap : Array Value) (w : World), (Instr.makeFunc fn first cap).run Tryd.prog w = .ok (.func fn first cap) w := fun _ _ _ _ => rfl
  have hl1 : b < w.heap.size + 1 := by omega
  have hl2 : b < w.heap.size + 1 + 1 := by omega
  have hn0 : ¬ b = w.heap.size := by omega
  have hn1 : ¬ b = w.heap.size + 1 := by omega
  have hn2 : ¬ b = w.heap.size + 1 + 1 := by omega
  have hn3 : ¬ b = w.heap.size + 1 + 1 + 1 := by omega
  have hm1 : ∀ w : World, (method 213 26 p "Fst").run Tryd.prog w = .ok (61, p) w := fun _ => by kernel_rfl
  have hm2 : ∀ w : World, (method 213 26 p "Snd").run Tryd.prog w = .ok (63, p) w := fun _ => by kernel_rfl
  go_enter_defers Tryd.func32, Tryd.ntmps32
  go_wp2_with (fail)
  obtain ⟨W, hW⟩ : ∃ W, W = ((w.alloc (.cells #[.int .u8 t, .int .i64 m, .string s] 24)).alloc (.cells #[.int .u8 0, .int .i64 0, .string ⟨#[]⟩] 24)).alloc (.cells #[.int .u8 0, .int .i64 0, .string ⟨#[]⟩] 24) := ⟨_, rfl⟩
  rw [← hW]
  have hbw : BW w W := by rw [hW]; exact (by repeat (first | exact BW.refl _ | apply BW.alloc | apply BW.drewN | apply BW.drew))
  have hWs : w.heap.size + 1 + 1 + 1 ≤ W.heap.size := by rw [hW]; simp
  have W1 : W.heap[w.heap.size]? = some (.cells #[.int .u8 t, .int .i64 m, .string s] 24 (0, 0)) := by rw [hW]; exact new3_a _ _ _ _
  have W2 : W.heap[w.heap.size + 1]? = some (.cells #[.int .u8 0, .int .i64 0, .string ⟨#[]⟩] 24 (0, 0)) := by rw [hW]; exact new3_b _ _ _ _
  have W3 : W.heap[w.heap.size + 1 + 1]? = some (.cells #[.int .u8 0, .int .i64 0, .string ⟨#[]⟩] 24 (0, 0)) := by rw [hW]; exact new3_c _ _ _ _
  clear hW
  have P0 : W.cell? ⟨b, 2, none⟩ = some (.iface 26 p) := (hbw.cells b 2 hlt).trans hp
  have n0 : ¬ b = W.heap.size := by omega
  have n1 : ¬ w.heap.size = W.heap.size := by omega
  have n0' : ¬ W.heap.size = b := by omega
  have n1' : ¬ W.heap.size = w.heap.size := by omega
  have n3 : b < W.heap.size := by omega
  have n4 : w.heap.size < W.heap.size := by omega
  have W1c0 : W.cell? ⟨w.heap.size, 0, none⟩ = some (.int .u8 t) := (by simp only [World.cell?, W1]; rfl); have W1z0 : W.frozen? ⟨w.heap.size, 0, none⟩ = false := (by simp [World.frozen?, W1]); have W1c1 : W.cell? ⟨w.heap.size, 1, none⟩ = some (.int .i64 m) := (by simp only [World.cell?, W1]; rfl); have W1z1 : W.frozen? ⟨w.heap.size, 1, none⟩ = false := (by simp [World.frozen?, W1]); have W1c2 : W.cell? ⟨w.heap.size, 2, none⟩ = some (.string s) := (by simp only [World.cell?, W1]; rfl); have W1z2 : W.frozen? ⟨w.heap.size, 2, none⟩ = false := (by simp [World.frozen?, W1])
  have W2c0 : W.cell? ⟨w.heap.size + 1, 0, none⟩ = some (.int .u8 0) := (by simp only [World.cell?, W2]; rfl); have W2z0 : W.frozen? ⟨w.heap.size + 1, 0, none⟩ = false := (by simp [World.frozen?, W2]); have W2c1 : W.cell? ⟨w.heap.size + 1, 1, none⟩ = some (.int .i64 0) := (by simp only [World.cell?, W2]; rfl); have W2z1 : W.frozen? ⟨w.heap.size + 1, 1, none⟩ = false := (by simp [World.frozen?, W2]); have W2c2 : W.cell? ⟨w.heap.size + 1, 2, none⟩ = some (.string ⟨#[]⟩) := (by simp only [World.cell?, W2]; rfl); have W2z2 : W.frozen? ⟨w.heap.size + 1, 2, none⟩ = false := (by simp [World.frozen?, W2])
  have W3c0 : W.cell? ⟨w.heap.size + 1 + 1, 0, none⟩ = some (.int .u8 0) := (by simp only [World.cell?, W3]; rfl); have W3z0 : W.frozen? ⟨w.heap.size + 1 + 1, 0, none⟩ = false := (by simp [World.frozen?, W3]); have W3c1 : W.cell? ⟨w.heap.size + 1 + 1, 1, none⟩ = some (.int .i64 0) := (by simp only [World.cell?, W3]; rfl); have W3z1 : W.frozen? ⟨w.heap.size + 1 + 1, 1, none⟩ = false := (by simp [World.frozen?, W3]); have W3c2 : W.cell? ⟨w.heap.size + 1 + 1, 2, none⟩ = some (.string ⟨#[]⟩) := (by simp only [World.cell?, W3]; rfl); have W3z2 : W.frozen? ⟨w.heap.size + 1 + 1, 2, none⟩ = false := (by simp [World.frozen?, W3])
  go_upto_region 4 with fail
  go_cut [7, 8] from 10 (fun p0 e0 wx => ∃ b0, p0 = .pointer (some ⟨b0, 0, none⟩) ∧ e0 = .int .i64 2 ∧ BW W wx ∧ W.heap.size ≤ b0 ∧ wx.heap[b0]? = some (.cells #[.int .u8 0, .int .i64 0, .string ⟨#[]⟩] 24 (0, 0)))
  case first =>
    go_region_held3 (fun w' => w'.cell? ⟨b, 2, none⟩ = some (.iface 26 p) ∧ w'.cell? ⟨w.heap.size, 0, none⟩ = some (.int .u8 t) ∧ w'.cell? ⟨w.heap.size, 1, none⟩ = some (.int .i64 m) ∧ w'.cell? ⟨w.heap.size, 2, none⟩ = some (.string s)) (go_keep) (first | (go_at_call 61; refine (h1 _ (hbw.trans (by repeat (first | exact BW.refl _ | apply BW.alloc | apply BW.drewN | apply BW.drew)))).mono ?_; rintro e w1 ⟨rfl, hb1⟩; have hz := hb1.size; (try simp at hz); have q0 := fun o => hb1.cells b o (by first | omega | (simp; done) | (simp; omega)); have q1 := fun o => hb1.cells w.heap.size o (by first | omega | (simp; done) | (simp; omega)); have d0 : ¬ b = w1.heap.size := (by omega); have d1 : ¬ w.heap.size = w1.heap.size := (by omega); have d0' : ¬ w1.heap.size = b := (by omega); have d1' : ¬ w1.heap.size = w.heap.size := (by omega); (try (have r2 : w1.heap[W.heap.size]? = some (.cells #[.int .u8 0, .int .i64 0, .string ⟨#[]⟩] 24 (0, 0)) := ((hb1.block _ (by first | omega | (simp; done) | (simp; omega))).trans (new_at _ _ _ (by first | rfl | simp))); have r2c0 : w1.cell? ⟨W.heap.size, 0, none⟩ = some (.int .u8 0) := (by simp only [World.cell?, r2]; rfl); have r2z0 : w1.frozen? ⟨W.heap.size, 0, none⟩ = false := (by simp [World.frozen?, r2]); have r2c1 : w1.cell? ⟨W.heap.size, 1, none⟩ = some (.int .i64 0) := (by simp only [World.cell?, r2]; rfl); have r2z1 : w1.frozen? ⟨W.heap.size, 1, none⟩ = false := (by simp [World.frozen?, r2]); have r2c2 : w1.cell? ⟨W.heap.size, 2, none⟩ = some (.string ⟨#[]⟩) := (by simp only [World.cell?, r2]; rfl); have r2z2 : w1.frozen? ⟨W.heap.size, 2, none⟩ = false := (by simp [World.frozen?, r2])))))
    all_goals (go_wp2_with fail; go_meet)
    all_goals first | exact ⟨w1.heap.size, rfl, rfl, ((BW.refl _).drew.trans hb1).alloc _, by omega, heap_alloc_new _ _⟩ | exact ⟨W.heap.size, rfl, rfl, ((((((BW.refl _).alloc _).drew.trans hb1).setCell (Nat.le_refl _) _).setCell (Nat.le_refl _) _).setCell (Nat.le_refl _) _), Nat.le_refl _, set3 r2⟩
  case rest =>
    obtain ⟨b0, rfl, rfl, hbc, hb0, Hb0⟩ := hcut
    replace W1 := (hbc.block _ (Array.getElem?_eq_some_iff.1 W1).1).trans W1
    replace W2 := (hbc.block _ (Array.getElem?_eq_some_iff.1 W2).1).trans W2
    replace W3 := (hbc.block _ (Array.getElem?_eq_some_iff.1 W3).1).trans W3
    replace hbw := hbw.trans hbc
    have hzc := hbc.size
    clear W1c0 W1c1 W1c2 W2c0 W2c1 W2c2 W3c0 W3c1 W3c2 W1z0 W1z1 W1z2 W2z0 W2z1 W2z2 W3z0 W3z1 W3z2 P0 n0 n1 n0' n1' n3 n4
    have P0 : wc.cell? ⟨b, 2, none⟩ = some (.iface 26 p) := (hbw.cells b 2 hlt).trans hp
    have n0 : ¬ b = wc.heap.size := by omega
    have n1 : ¬ w.heap.size = wc.heap.size := by omega
    have n0' : ¬ wc.heap.size = b := by omega
    have n1' : ¬ wc.heap.size = w.heap.size := by omega
    have n3 : b < wc.heap.size := by omega
    have n4 : w.heap.size < wc.heap.size := by omega
    have W1c0 : wc.cell? ⟨w.heap.size, 0, none⟩ = some (.int .u8 t) := (by simp only [World.cell?, W1]; rfl); have W1z0 : wc.frozen? ⟨w.heap.size, 0, none⟩ = false := (by simp [World.frozen?, W1]); have W1c1 : wc.cell? ⟨w.heap.size, 1, none⟩ = some (.int .i64 m) := (by simp only [World.cell?, W1]; rfl); have W1z1 : wc.frozen? ⟨w.heap.size, 1, none⟩ = false := (by simp [World.frozen?, W1]); have W1c2 : wc.cell? ⟨w.heap.size, 2, none⟩ = some (.string s) := (by simp only [World.cell?, W1]; rfl); have W1z2 : wc.frozen? ⟨w.heap.size, 2, none⟩ = false := (by simp [World.frozen?, W1])
    have W2c0 : wc.cell? ⟨w.heap.size + 1, 0, none⟩ = some (.int .u8 0) := (by simp only [World.cell?, W2]; rfl); have W2z0 : wc.frozen? ⟨w.heap.size + 1, 0, none⟩ = false := (by simp [World.frozen?, W2]); have W2c1 : wc.cell? ⟨w.heap.size + 1, 1, none⟩ = some (.int .i64 0) := (by simp only [World.cell?, W2]; rfl); have W2z1 : wc.frozen? ⟨w.heap.size + 1, 1, none⟩ = false := (by simp [World.frozen?, W2]); have W2c2 : wc.cell? ⟨w.heap.size + 1, 2, none⟩ = some (.string ⟨#[]⟩) := (by simp only [World.cell?, W2]; rfl); have W2z2 : wc.frozen? ⟨w.heap.size + 1, 2, none⟩ = false := (by simp [World.frozen?, W2])
    have W3c0 : wc.cell? ⟨w.heap.size + 1 + 1, 0, none⟩ = some (.int .u8 0) := (by simp only [World.cell?, W3]; rfl); have W3z0 : wc.frozen? ⟨w.heap.size + 1 + 1, 0, none⟩ = false := (by simp [World.frozen?, W3]); have W3c1 : wc.cell? ⟨w.heap.size + 1 + 1, 1, none⟩ = some (.int .i64 0) := (by simp only [World.cell?, W3]; rfl); have W3z1 : wc.frozen? ⟨w.heap.size + 1 + 1, 1, none⟩ = false := (by simp [World.frozen?, W3]); have W3c2 : wc.cell? ⟨w.heap.size + 1 + 1, 2, none⟩ = some (.string ⟨#[]⟩) := (by simp only [World.cell?, W3]; rfl); have W3z2 : wc.frozen? ⟨w.heap.size + 1 + 1, 2, none⟩ = false := (by simp [World.frozen?, W3])
    clear hbc W1
    go_wp2_with (fail)
    exact six_end _ w wc (w.heap.size + 1) (w.heap.size + 1 + 1) _ _ _ _ _ _ _ _ _ _ _ _ _ W2 W3 (by omega) hbw (by omega) (by omega) rfl rfl rfl

set_option maxRecDepth 100000 in
set_option maxHeartbeats 1000000 in
theorem parts_two (b : Nat) (p : Value) (t m : Int) (s : ByteArray) (t1 na : Int) (s1 : ByteArray) (t2 nb : Int) (s2 : ByteArray) (w : World) (hlt : b < w.heap.size) (hp : w.cell? ⟨b, 2, none⟩ = some (.iface 26 p)) (h1 : Asks 61 p (V t m s) (.tuple #[V t1 na s1, .int .i64 0]) w) (h2 : Asks 63 p (V t m s) (.tuple #[V t2 nb s2, .int .i64 0]) w) :
    Calls Tryd.prog 32 #[.pointer (some ⟨b, 0, none⟩), V t m s] w fun e w' => e = .returned (.tuple #[V t1 na s1, V t2 nb s2, .bool true]) ∧ BW w w' := by
  have hmf : ∀ (fn : Fn) (first cap : Array Value) (w : World), (Instr.makeFunc fn first cap).run Tryd.prog w = .ok (.func fn first cap) w := fun _ _ _ _ => rfl
  have hl1 : b < w.heap.size + 1 := by omega
  have hl2 : b < w.heap.size + 1 + 1 := by omega
  have hn0 : ¬ b = w.heap.size := by omega
  have hn1 : ¬ b = w.heap.size + 1 := by omega
  have hn2 : ¬ b = w.heap.size + 1 + 1 := by omega
  have hn3 : ¬ b = w.heap.size + 1 + 1 + 1 := by omega
  have hm1 : ∀ w : World, (method 213 26 p "Fst").run Tryd.prog w = .ok (61, p) w := fun _ => by kernel_rfl
  have hm2 : ∀ w : World, (method 213 26 p "Snd").run Tryd.prog w = .ok (63, p) w := fun _ => by kernel_rfl
  go_enter_defers Tryd.func32, Tryd.ntmps32
  go_wp2_with (fail)
  obtain ⟨W, hW⟩ : ∃ W, W = ((w.alloc (.cells #[.int .u8 t, .int .i64 m, .string s] 24)).alloc (.cells #[.int .u8 0, .int .i64 0, .string ⟨#[]⟩] 24)).alloc (.cells #[.int .u8 0, .int .i64 0, .string ⟨#[]⟩] 24) := ⟨_, rfl⟩
  rw [← hW]
  have hbw : BW w W := by rw [hW]; exact (by repeat (first | exact BW.refl _ | apply BW.alloc | apply BW.drewN | apply BW.drew))
  have hWs : w.heap.size + 1 + 1 + 1 ≤ W.heap.size := by rw [hW]; simp
  have W1 : W.heap[w.heap.size]? = some (.cells #[.int .u8 t, .int .i64 m, .string s] 24 (0, 0)) := by rw [hW]; exact new3_a _ _ _ _
  have W2 : W.heap[w.heap.size + 1]? = some (.cells #[.int .u8 0, .int .i64 0, .string ⟨#[]⟩] 24 (0, 0)) := by rw [hW]; exact new3_b _ _ _ _
  have W3 : W.heap[w.heap.size + 1 + 1]? = some (.cells #[.int .u8 0, .int .i64 0, .string ⟨#[]⟩] 24 (0, 0)) := by rw [hW]; exact new3_c _ _ _ _
  clear hW
  have P0 : W.cell? ⟨b, 2, none⟩ = some (.iface 26 p) := (hbw.cells b 2 hlt).trans hp
  have n0 : ¬ b = W.heap.size := by omega
  have n1 : ¬ w.heap.size = W.heap.size := by omega
  have n0' : ¬ W.heap.size = b := by omega
  have n1' : ¬ W.heap.size = w.heap.size := by omega
  have n3 : b < W.heap.size := by omega
  have n4 : w.heap.size < W.heap.size := by omega
  have W1c0 : W.cell? ⟨w.heap.size, 0, none⟩ = some (.int .u8 t) := (by simp only [World.cell?, W1]; rfl); have W1z0 : W.frozen? ⟨w.heap.size, 0, none⟩ = false := (by simp [World.frozen?, W1]); have W1c1 : W.cell? ⟨w.heap.size, 1, none⟩ = some (.int .i64 m) := (by simp only [World.cell?, W1]; rfl); have W1z1 : W.frozen? ⟨w.heap.size, 1, none⟩ = false := (by simp [World.frozen?, W1]); have W1c2 : W.cell? ⟨w.heap.size, 2, none⟩ = some (.string s) := (by simp only [World.cell?, W1]; rfl); have W1z2 : W.frozen? ⟨w.heap.size, 2, none⟩ = false := (by simp [World.frozen?, W1])
  have W2c0 : W.cell? ⟨w.heap.size + 1, 0, none⟩ = some (.int .u8 0) := (by simp only [World.cell?, W2]; rfl); have W2z0 : W.frozen? ⟨w.heap.size + 1, 0, none⟩ = false := (by simp [World.frozen?, W2]); have W2c1 : W.cell? ⟨w.heap.size + 1, 1, none⟩ = some (.int .i64 0) := (by simp only [World.cell?, W2]; rfl); have W2z1 : W.frozen? ⟨w.heap.size + 1, 1, none⟩ = false := (by simp [World.frozen?, W2]); have W2c2 : W.cell? ⟨w.heap.size + 1, 2, none⟩ = some (.string ⟨#[]⟩) := (by simp only [World.cell?, W2]; rfl); have W2z2 : W.frozen? ⟨w.heap.size + 1, 2, none⟩ = false := (by simp [World.frozen?, W2])
  have W3c0 : W.cell? ⟨w.heap.size + 1 + 1, 0, none⟩ = some (.int .u8 0) := (by simp only [World.cell?, W3]; rfl); have W3z0 : W.frozen? ⟨w.heap.size + 1 + 1, 0, none⟩ = false := (by simp [World.frozen?, W3]); have W3c1 : W.cell? ⟨w.heap.size + 1 + 1, 1, none⟩ = some (.int .i64 0) := (by simp only [World.cell?, W3]; rfl); have W3z1 : W.frozen? ⟨w.heap.size + 1 + 1, 1, none⟩ = false := (by simp [World.frozen?, W3]); have W3c2 : W.cell? ⟨w.heap.size + 1 + 1, 2, none⟩ = some (.string ⟨#[]⟩) := (by simp only [World.cell?, W3]; rfl); have W3z2 : W.frozen? ⟨w.heap.size + 1 + 1, 2, none⟩ = false := (by simp [World.frozen?, W3])
  go_upto_region 4 with fail
  go_cut [7, 8] from 10 (fun p0 e0 wx => ∃ b0, p0 = .pointer (some ⟨b0, 0, none⟩) ∧ e0 = .int .i64 0 ∧ BW W wx ∧ W.heap.size ≤ b0 ∧ wx.heap[b0]? = some (.cells #[.int .u8 t1, .int .i64 na, .string s1] 24 (0, 0)))
  case first =>
    go_region_held3 (fun w' => w'.cell? ⟨b, 2, none⟩ = some (.iface 26 p) ∧ w'.cell? ⟨w.heap.size, 0, none⟩ = some (.int .u8 t) ∧ w'.cell? ⟨w.heap.size, 1, none⟩ = some (.int .i64 m) ∧ w'.cell? ⟨w.heap.size, 2, none⟩ = some (.string s)) (go_keep) (first | (go_at_call 61; refine (h1 _ (hbw.trans (by repeat (first | exact BW.refl _ | apply BW.alloc | apply BW.drewN | apply BW.drew)))).mono ?_; rintro e w1 ⟨rfl, hb1⟩; have hz := hb1.size; (try simp at hz); have q0 := fun o => hb1.cells b o (by first | omega | (simp; done) | (simp; omega)); have q1 := fun o => hb1.cells w.heap.size o (by first | omega | (simp; done) | (simp; omega)); have d0 : ¬ b = w1.heap.size := (by omega); have d1 : ¬ w.heap.size = w1.heap.size := (by omega); have d0' : ¬ w1.heap.size = b := (by omega); have d1' : ¬ w1.heap.size = w.heap.size := (by omega); (try (have r2 : w1.heap[W.heap.size]? = some (.cells #[.int .u8 0, .int .i64 0, .string ⟨#[]⟩] 24 (0, 0)) := ((hb1.block _ (by first | omega | (simp; done) | (simp; omega))).trans (new_at _ _ _ (by first | rfl | simp))); have r2c0 : w1.cell? ⟨W.heap.size, 0, none⟩ = some (.int .u8 0) := (by simp only [World.cell?, r2]; rfl); have r2z0 : w1.frozen? ⟨W.heap.size, 0, none⟩ = false := (by simp [World.frozen?, r2]); have r2c1 : w1.cell? ⟨W.heap.size, 1, none⟩ = some (.int .i64 0) := (by simp only [World.cell?, r2]; rfl); have r2z1 : w1.frozen? ⟨W.heap.size, 1, none⟩ = false := (by simp [World.frozen?, r2]); have r2c2 : w1.cell? ⟨W.heap.size, 2, none⟩ = some (.string ⟨#[]⟩) := (by simp only [World.cell?, r2]; rfl); have r2z2 : w1.frozen? ⟨W.heap.size, 2, none⟩ = false := (by simp [World.frozen?, r2])))))
    all_goals (go_wp2_with fail; go_meet)
    all_goals first | exact ⟨w1.heap.size, rfl, rfl, ((BW.refl _).drew.trans hb1).alloc _, by omega, heap_alloc_new _ _⟩ | exact ⟨W.heap.size, rfl, rfl, ((((((BW.refl _).alloc _).drew.trans hb1).setCell (Nat.le_refl _) _).setCell (Nat.le_refl _) _).setCell (Nat.le_refl _) _), Nat.le_refl _, set3 r2⟩
  case rest =>
    obtain ⟨b0, rfl, rfl, hbc, hb0, Hb0⟩ := hcut
    replace W1 := (hbc.block _ (Array.getElem?_eq_some_iff.1 W1).1).trans W1
    replace W2 := (hbc.block _ (Array.getElem?_eq_some_iff.1 W2).1).trans W2
    replace W3 := (hbc.block _ (Array.getElem?_eq_some_iff.1 W3).1).trans W3
    replace hbw := hbw.trans hbc
    have hzc := hbc.size
    clear W1c0 W1c1 W1c2 W2c0 W2c1 W2c2 W3c0 W3c1 W3c2 W1z0 W1z1 W1z2 W2z0 W2z1 W2z2 W3z0 W3z1 W3z2 P0 n0 n1 n0' n1' n3 n4
    have P0 : wc.cell? ⟨b, 2, none⟩ = some (.iface 26 p) := (hbw.cells b 2 hlt).trans hp
    have n0 : ¬ b = wc.heap.size := by omega
    have n1 : ¬ w.heap.size = wc.heap.size := by omega
    have n0' : ¬ wc.heap.size = b := by omega
    have n1' : ¬ wc.heap.size = w.heap.size := by omega
    have n3 : b < wc.heap.size := by omega
    have n4 : w.heap.size < wc.heap.size := by omega
    have W1c0 : wc.cell? ⟨w.heap.size, 0, none⟩ = some (.int .u8 t) := (by simp only [World.cell?, W1]; rfl); have W1z0 : wc.frozen? ⟨w.heap.size, 0, none⟩ = false := (by simp [World.frozen?, W1]); have W1c1 : wc.cell? ⟨w.heap.size, 1, none⟩ = some (.int .i64 m) := (by simp only [World.cell?, W1]; rfl); have W1z1 : wc.frozen? ⟨w.heap.size, 1, none⟩ = false := (by simp [World.frozen?, W1]); have W1c2 : wc.cell? ⟨w.heap.size, 2, none⟩ = some (.string s) := (by simp only [World.cell?, W1]; rfl); have W1z2 : wc.frozen? ⟨w.heap.size, 2, none⟩ = false := (by simp [World.frozen?, W1])
    have W2c0 : wc.cell? ⟨w.heap.size + 1, 0, none⟩ = some (.int .u8 0) := (by simp only [World.cell?, W2]; rfl); have W2z0 : wc.frozen? ⟨w.heap.size + 1, 0, none⟩ = false := (by simp [World.frozen?, W2]); have W2c1 : wc.cell? ⟨w.heap.size + 1, 1, none⟩ = some (.int .i64 0) := (by simp only [World.cell?, W2]; rfl); have W2z1 : wc.frozen? ⟨w.heap.size + 1, 1, none⟩ = false := (by simp [World.frozen?, W2]); have W2c2 : wc.cell? ⟨w.heap.size + 1, 2, none⟩ = some (.string ⟨#[]⟩) := (by simp only [World.cell?, W2]; rfl); have W2z2 : wc.frozen? ⟨w.heap.size + 1, 2, none⟩ = false := (by simp [World.frozen?, W2])
    have W3c0 : wc.cell? ⟨w.heap.size + 1 + 1, 0, none⟩ = some (.int .u8 0) := (by simp only [World.cell?, W3]; rfl); have W3z0 : wc.frozen? ⟨w.heap.size + 1 + 1, 0, none⟩ = false := (by simp [World.frozen?, W3]); have W3c1 : wc.cell? ⟨w.heap.size + 1 + 1, 1, none⟩ = some (.int .i64 0) := (by simp only [World.cell?, W3]; rfl); have W3z1 : wc.frozen? ⟨w.heap.size + 1 + 1, 1, none⟩ = false := (by simp [World.frozen?, W3]); have W3c2 : wc.cell? ⟨w.heap.size + 1 + 1, 2, none⟩ = some (.string ⟨#[]⟩) := (by simp only [World.cell?, W3]; rfl); have W3z2 : wc.frozen? ⟨w.heap.size + 1 + 1, 2, none⟩ = false := (by simp [World.frozen?, W3])
    go_upto_region 7 with fail
    go_cut [9, 8] from 10 (fun p0 e0 wx => ∃ b0, p0 = .pointer (some ⟨b0, 0, none⟩) ∧ e0 = .int .i64 0 ∧ BW wc wx ∧ wc.heap.size ≤ b0 ∧ wx.heap[b0]? = some (.cells #[.int .u8 t2, .int .i64 nb, .string s2] 24 (0, 0)))
    case first =>
      go_region_held3 (fun w' => w'.cell? ⟨b, 2, none⟩ = some (.iface 26 p) ∧ w'.cell? ⟨w.heap.size, 0, none⟩ = some (.int .u8 t) ∧ w'.cell? ⟨w.heap.size, 1, none⟩ = some (.int .i64 m) ∧ w'.cell? ⟨w.heap.size, 2, none⟩ = some (.string s)) (go_keep) (first | (go_at_call 63; refine (h2 _ (hbw.trans (by repeat (first | exact BW.refl _ | apply BW.alloc | apply BW.drewN | apply BW.drew)))).mono ?_; rintro e w2 ⟨rfl, hb1⟩; have hz := hb1.size; (try simp at hz); have q0 := fun o => hb1.cells b o (by first | omega | (simp; done) | (simp; omega)); have q1 := fun o => hb1.cells w.heap.size o (by first | omega | (simp; done) | (simp; omega)); have d0 : ¬ b = w2.heap.size := (by omega); have d1 : ¬ w.heap.size = w2.heap.size := (by omega); have d0' : ¬ w2.heap.size = b := (by omega); have d1' : ¬ w2.heap.size = w.heap.size := (by omega); (try (have r2 : w2.heap[wc.heap.size]? = some (.cells #[.int .u8 0, .int .i64 0, .string ⟨#[]⟩] 24 (0, 0)) := ((hb1.block _ (by first | omega | (simp; done) | (simp; omega))).trans (new_at _ _ _ (by first | rfl | simp))); have r2c0 : w2.cell? ⟨wc.heap.size, 0, none⟩ = some (.int .u8 0) := (by simp only [World.cell?, r2]; rfl); have r2z0 : w2.frozen? ⟨wc.heap.size, 0, none⟩ = false := (by simp [World.frozen?, r2]); have r2c1 : w2.cell? ⟨wc.heap.size, 1, none⟩ = some (.int .i64 0) := (by simp only [World.cell?, r2]; rfl); have r2z1 : w2.frozen? ⟨wc.heap.size, 1, none⟩ = false := (by simp [World.frozen?, r2]); have r2c2 : w2.cell? ⟨wc.heap.size, 2, none⟩ = some (.string ⟨#[]⟩) := (by simp only [World.cell?, r2]; rfl); have r2z2 : w2.frozen? ⟨wc.heap.size, 2, none⟩ = false := (by simp [World.frozen?, r2])))))
      all_goals (go_wp2_with fail; go_meet)
      all_goals first | exact ⟨w2.heap.size, rfl, rfl, ((BW.refl _).drew.trans hb1).alloc _, by omega, heap_alloc_new _ _⟩ | exact ⟨wc.heap.size, rfl, rfl, ((((((BW.refl _).alloc _).drew.trans hb1).setCell (Nat.le_refl _) _).setCell (Nat.le_refl _) _).setCell (Nat.le_refl _) _), Nat.le_refl _, set3 r2⟩
    case rest =>
      obtain ⟨b1, rfl, rfl, hbc, hb1, Hb1⟩ := hcut
      replace W1 := (hbc.block _ (Array.getElem?_eq_some_iff.1 W1).1).trans W1
      replace W2 := (hbc.block _ (Array.getElem?_eq_some_iff.1 W2).1).trans W2
      replace W3 := (hbc.block _ (Array.getElem?_eq_some_iff.1 W3).1).trans W3
      replace hbw := hbw.trans hbc
      have hzc := hbc.size
      clear W1c0 W1c1 W1c2 W2c0 W2c1 W2c2 W3c0 W3c1 W3c2 W1z0 W1z1 W1z2 W2z0 W2z1 W2z2 W3z0 W3z1 W3z2 P0 n0 n1 n0' n1' n3 n4
      replace Hb0 := (hbc.block _ (Array.getElem?_eq_some_iff.1 Hb0).1).trans Hb0
      have P0 : wc.cell? ⟨b, 2, none⟩ = some (.iface 26 p) := (hbw.cells b 2 hlt).trans hp
      have Hb0c0 : wc.cell? ⟨b0, 0, none⟩ = some (.int .u8 t1) := (by simp only [World.cell?, Hb0]; rfl); have Hb0z0 : wc.frozen? ⟨b0, 0, none⟩ = false := (by simp [World.frozen?, Hb0]); have Hb0c1 : wc.cell? ⟨b0, 1, none⟩ = some (.int .i64 na) := (by simp only [World.cell?, Hb0]; rfl); have Hb0z1 : wc.frozen? ⟨b0, 1, none⟩ = false := (by simp [World.frozen?, Hb0]); have Hb0c2 : wc.cell? ⟨b0, 2, none⟩ = some (.string s1) := (by simp only [World.cell?, Hb0]; rfl); have Hb0z2 : wc.frozen? ⟨b0, 2, none⟩ = false := (by simp [World.frozen?, Hb0])
      have Hb1c0 : wc.cell? ⟨b1, 0, none⟩ = some (.int .u8 t2) := (by simp only [World.cell?, Hb1]; rfl); have Hb1z0 : wc.frozen? ⟨b1, 0, none⟩ = false := (by simp [World.frozen?, Hb1]); have Hb1c1 : wc.cell? ⟨b1, 1, none⟩ = some (.int .i64 nb) := (by simp only [World.cell?, Hb1]; rfl); have Hb1z1 : wc.frozen? ⟨b1, 1, none⟩ = false := (by simp [World.frozen?, Hb1]); have Hb1c2 : wc.cell? ⟨b1, 2, none⟩ = some (.string s2) := (by simp only [World.cell?, Hb1]; rfl); have Hb1z2 : wc.frozen? ⟨b1, 2, none⟩ = false := (by simp [World.frozen?, Hb1])
      have W2c0 : wc.cell? ⟨w.heap.size + 1, 0, none⟩ = some (.int .u8 0) := (by simp only [World.cell?, W2]; rfl); have W2z0 : wc.frozen? ⟨w.heap.size + 1, 0, none⟩ = false := (by simp [World.frozen?, W2]); have W2c1 : wc.cell? ⟨w.heap.size + 1, 1, none⟩ = some (.int .i64 0) := (by simp only [World.cell?, W2]; rfl); have W2z1 : wc.frozen? ⟨w.heap.size + 1, 1, none⟩ = false := (by simp [World.frozen?, W2]); have W2c2 : wc.cell? ⟨w.heap.size + 1, 2, none⟩ = some (.string ⟨#[]⟩) := (by simp only [World.cell?, W2]; rfl); have W2z2 : wc.frozen? ⟨w.heap.size + 1, 2, none⟩ = false := (by simp [World.frozen?, W2])
      have W3c0 : wc.cell? ⟨w.heap.size + 1 + 1, 0, none⟩ = some (.int .u8 0) := (by simp only [World.cell?, W3]; rfl); have W3z0 : wc.frozen? ⟨w.heap.size + 1 + 1, 0, none⟩ = false := (by simp [World.frozen?, W3]); have W3c1 : wc.cell? ⟨w.heap.size + 1 + 1, 1, none⟩ = some (.int .i64 0) := (by simp only [World.cell?, W3]; rfl); have W3z1 : wc.frozen? ⟨w.heap.size + 1 + 1, 1, none⟩ = false := (by simp [World.frozen?, W3]); have W3c2 : wc.cell? ⟨w.heap.size + 1 + 1, 2, none⟩ = some (.string ⟨#[]⟩) := (by simp only [World.cell?, W3]; rfl); have W3z2 : wc.frozen? ⟨w.heap.size + 1 + 1, 2, none⟩ = false := (by simp [World.frozen?, W3])
      have m0 : ¬ b0 = w.heap.size + 1 := by omega
      have m1 : ¬ b0 = w.heap.size + 1 + 1 := by omega
      have m2 : ¬ b1 = w.heap.size + 1 := by omega
      have m3 : ¬ b1 = w.heap.size + 1 + 1 := by omega
      have m4 : ¬ w.heap.size + 1 = b0 := by omega
      have m5 : ¬ w.heap.size + 1 + 1 = b0 := by omega
      have m6 : ¬ w.heap.size + 1 = b1 := by omega
      have m7 : ¬ w.heap.size + 1 + 1 = b1 := by omega
      clear W1 Hb0 Hb1
      go_wp2_with (fail)
      go_region_held3 (fun w' => w'.cell? ⟨b0, 0, none⟩ = some (.int .u8 t1) ∧ w'.cell? ⟨b0, 1, none⟩ = some (.int .i64 na) ∧ w'.cell? ⟨b0, 2, none⟩ = some (.string s1) ∧ w'.cell? ⟨b1, 0, none⟩ = some (.int .u8 t2) ∧ w'.cell? ⟨b1, 1, none⟩ = some (.int .i64 nb) ∧ w'.cell? ⟨b1, 2, none⟩ = some (.string s2)) (go_keep) (fail)
      go_wp2_with (fail)
      rw [drew_set, drew_set, drew_set, drew_set, drew_set, drew_set]
      exact six_end _ w wc.drew (w.heap.size + 1) (w.heap.size + 1 + 1) _ _ _ _ _ _ _ _ _ _ _ _ _ W2 W3 (by omega) hbw.drew (by omega) (by omega) rfl rfl rfl

end Go.Proofs.YtfgnlddfpemblaaDoor
