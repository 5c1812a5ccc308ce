import Derived.Test.YtgiehpcmijaomaaB2
namespace Go.Proofs.Ytgiehpcmijaomaa
open Go.RowKit
set_option linter.unusedVariables false
set_option linter.unusedSimpArgs false
theorem new_at (W : World) (o : Obj) (k : Nat) (hk : k = W.heap.size) : (W.alloc o).heap[k]? = some o := by subst hk; exact heap_alloc_new W o
theorem Fr.at26 {base b k : Nat} {W w1 : World} {c : Array Value} (h : Fr base b W w1) (hk : W.heap[k]? = some (.cells c 26 (0, 0))) (hb : k ≠ b) : w1.heap[k]? = some (.cells c 26 (0, 0)) :=
  (h.oth k (Array.getElem?_eq_some_iff.1 hk).1 hb (fun c' f e => by rw [hk] at e; simp at e)).trans hk
theorem made_in (t : Int) (h : t = 6 ∨ t = 7) (w : World) : Calls Try.prog 20 #[.int .u8 t] w fun e w' => e = .returned (.bool true) ∧ w' = w := by
  rcases h with rfl | rfl
  all_goals
    go_enter Try.func20, Try.ntmps20
    go_wp2
    go_ret
    exact ⟨rfl, rfl⟩
theorem made_not (t : Int) (h1 : (t == 6) = false) (h2 : (t == 7) = false) (w : World) : Calls Try.prog 20 #[.int .u8 t] w fun e w' => e = .returned (.bool false) ∧ w' = w := by
  go_enter Try.func20, Try.ntmps20
  go_wp2
  go_ret
  exact ⟨by first | rfl | simp [h1, h2], rfl⟩
theorem len_nil (w : World) : Calls Try.prog 11 #[.pointer none] w fun e w' => e = .returned (.int .i64 0) ∧ w' = w := by
  go_enter Try.func11, Try.ntmps11
  go_wp2
  go_ret
  exact ⟨rfl, rfl⟩
theorem len_any (base b : Nat) (lim : Int) (n : Nat) (xs : List Value) (w : World) (H : HeapIs w base b lim n xs) : Calls Try.prog 11 #[.pointer (some ⟨b, 0, none⟩)] w fun e w' => e = .returned (.int .i64 n) ∧ w' = w := by
  obtain ⟨hb, v, h1, hown⟩ := H
  have hc1 : w.cell? ⟨b, 1, none⟩ = some v := by simp [World.cell?, h1]
  rcases Go.Joins.ownsRow_forms hown with ⟨rfl, rfl⟩ | ⟨g, cap, rfl⟩
  all_goals
    clear hown h1
    go_enter Try.func11, Try.ntmps11
    go_wp2
    go_ret
    exact ⟨rfl, rfl⟩
set_option maxRecDepth 100000 in
set_option maxHeartbeats 1000000 in
theorem pair_room (base b : Nat) (lim : Int) (n : Nat) (xs : List Value) (hn : n < lim) (hlim : lim ≤ 1048576) (t1 n1 : Int) (s1 : ByteArray) (t2 n2 : Int) (s2 : ByteArray) (w : World) (H : HeapIs w base b lim n xs) :
    Calls Try.prog 12 #[.pointer (some ⟨b, 0, none⟩), V t1 n1 s1, V t2 n2 s2] w fun e w' => e = .returned (.tuple #[V 4 n ⟨#[]⟩, .int .i64 0]) ∧ HeapIs w' base b lim (n + 1) (xs ++ thing 4 t1 n1 s1 t2 n2 s2 0) ∧ Fr base b w w' := by
  have hlt := H.lt
  have hbb : base ≤ w.heap.size := by have := H.1; omega
  go_enter Try.func12, Try.ntmps12
  go_wp2_with (first | (go_at_call 19; refine (add_room base b lim n xs hn hlim _ _ _ _ _ _ _ _ _ (H.bw (by repeat (first | exact BW.refl _ | apply BW.alloc | apply BW.drewN | apply BW.drew)))).mono ?_; rintro e w1 ⟨rfl, H1, FR⟩; have q := FR.at26 (k := w.heap.size + 1 + 1) (new_at _ _ _ (by simp)) (by omega); have FR2 := (BW.fr (w := w) (b := b) (by repeat (first | exact BW.refl _ | apply BW.alloc | apply BW.drewN | apply BW.drew)) hbb).trans FR; have hT : Ty w1 (w.heap.size + 1 + 1) 26 := ⟨_, q⟩; have k0 : w1.cell? ⟨w.heap.size + 1 + 1, 0, none⟩ = some _ := (by simp only [World.cell?, q]; rfl); have k1 : w1.cell? ⟨w.heap.size + 1 + 1, 1, none⟩ = some _ := (by simp only [World.cell?, q]; rfl); have k2 : w1.cell? ⟨w.heap.size + 1 + 1, 2, none⟩ = some _ := (by simp only [World.cell?, q]; rfl); have f0 : w1.frozen? ⟨w.heap.size + 1 + 1, 0, none⟩ = false := (by simp [World.frozen?, q]); have f1 : w1.frozen? ⟨w.heap.size + 1 + 1, 1, none⟩ = false := (by simp [World.frozen?, q]); have f2 : w1.frozen? ⟨w.heap.size + 1 + 1, 2, none⟩ = false := (by simp [World.frozen?, q]); clear q FR))
  refine bodyPost_ret (v := .tuple #[V 4 n ⟨#[]⟩, .int .i64 0]) (by simp [results, Try.results12, go_sem, *]) rfl ⟨rfl, ?_, ?_⟩
  · exact HeapIs.put (by decide) (by decide) ((hT.setCell _ _ _).setCell _ _ _) (HeapIs.put (by decide) (by decide) (hT.setCell _ _ _) (HeapIs.put (by decide) (by decide) hT H1 _ _) _ _) _ _
  · exact ((FR2.setNew hbb (by omega) _ _).setNew hbb (by omega) _ _).setNew hbb (by omega) _ _
set_option maxRecDepth 100000 in
set_option maxHeartbeats 1000000 in
theorem pair_full (base b : Nat) (lim : Int) (n : Nat) (xs : List Value) (hn : lim ≤ n) (t1 n1 : Int) (s1 : ByteArray) (t2 n2 : Int) (s2 : ByteArray) (w : World) (H : HeapIs w base b lim n xs) :
    Calls Try.prog 12 #[.pointer (some ⟨b, 0, none⟩), V t1 n1 s1, V t2 n2 s2] w fun e w' => e = .returned (.tuple #[Z, .int .i64 17]) ∧ BW w w' := by
  go_enter Try.func12, Try.ntmps12
  go_wp2_with (first | (go_at_call 19; refine (add_full base b lim n xs hn _ _ _ _ _ _ _ _ _ (H.bw (by repeat (first | exact BW.refl _ | apply BW.alloc | apply BW.drewN | apply BW.drew)))).mono ?_; rintro e w1 ⟨rfl, hb1⟩; have hz := hb1.size; (try simp at hz); have q := fun o => hb1.cells (w.heap.size + 1 + 1) o (by first | (simp; done) | (simp; omega)); have f := fun o => hb1.froz (w.heap.size + 1 + 1) o (by first | (simp; done) | (simp; omega))))
  exact bodyPost_ret (v := .tuple #[Z, .int .i64 17]) (by simp [results, Try.results12, go_sem, *]) rfl ⟨rfl, (by repeat (first | exact BW.refl _ | assumption | apply BW.alloc | apply BW.drewN | apply BW.drew | (refine BW.setCell ?_ (by first | omega | (simp; done) | (simp; omega)) _) | (refine BW.trans ?_ (by assumption))))⟩
set_option maxRecDepth 100000 in
set_option maxHeartbeats 1000000 in
theorem pair_nil  (t1 n1 : Int) (s1 : ByteArray) (t2 n2 : Int) (s2 : ByteArray) (w : World)  :
    Calls Try.prog 12 #[.pointer none, V t1 n1 s1, V t2 n2 s2] w fun e w' => e = .returned (.tuple #[Z, .int .i64 17]) ∧ BW w w' := by
  go_enter Try.func12, Try.ntmps12
  go_wp2_with (first | (go_at_call 19; refine (add_nil _ _ _ _ _ _ _ _ _).mono ?_; rintro e w1 ⟨rfl, hb1⟩; have hz := hb1.size; (try simp at hz); have q := fun o => hb1.cells (w.heap.size + 1 + 1) o (by first | (simp; done) | (simp; omega)); have f := fun o => hb1.froz (w.heap.size + 1 + 1) o (by first | (simp; done) | (simp; omega))))
  exact bodyPost_ret (v := .tuple #[Z, .int .i64 17]) (by simp [results, Try.results12, go_sem, *]) rfl ⟨rfl, (by repeat (first | exact BW.refl _ | assumption | apply BW.alloc | apply BW.drewN | apply BW.drew | (refine BW.setCell ?_ (by first | omega | (simp; done) | (simp; omega)) _) | (refine BW.trans ?_ (by assumption))))⟩
set_option maxRecDepth 100000 in
set_option maxHeartbeats 1000000 in
theorem cell_room (base b : Nat) (lim : Int) (n : Nat) (xs : List Value) (hn : n < lim) (hlim : lim ≤ 1048576) (t1 n1 : Int) (s1 : ByteArray) (w : World) (H : HeapIs w base b lim n xs) :
    Calls Try.prog 9 #[.pointer (some ⟨b, 0, none⟩), V t1 n1 s1] w fun e w' => e = .returned (.tuple #[V 5 n ⟨#[]⟩, .int .i64 0]) ∧ HeapIs w' base b lim (n + 1) (xs ++ thing 5 t1 n1 s1 0 0 ⟨#[]⟩ 0) ∧ Fr base b w w' := by
  have hlt := H.lt
  have hbb : base ≤ w.heap.size := by have := H.1; omega
  go_enter Try.func9, Try.ntmps9
  go_wp2_with (first | (go_at_call 19; refine (add_room base b lim n xs hn hlim _ _ _ _ _ _ _ _ _ (H.bw (by repeat (first | exact BW.refl _ | apply BW.alloc | apply BW.drewN | apply BW.drew)))).mono ?_; rintro e w1 ⟨rfl, H1, FR⟩; have q := FR.at26 (k := w.heap.size + 1) (new_at _ _ _ (by simp)) (by omega); have FR2 := (BW.fr (w := w) (b := b) (by repeat (first | exact BW.refl _ | apply BW.alloc | apply BW.drewN | apply BW.drew)) hbb).trans FR; have hT : Ty w1 (w.heap.size + 1) 26 := ⟨_, q⟩; have k0 : w1.cell? ⟨w.heap.size + 1, 0, none⟩ = some _ := (by simp only [World.cell?, q]; rfl); have k1 : w1.cell? ⟨w.heap.size + 1, 1, none⟩ = some _ := (by simp only [World.cell?, q]; rfl); have k2 : w1.cell? ⟨w.heap.size + 1, 2, none⟩ = some _ := (by simp only [World.cell?, q]; rfl); have f0 : w1.frozen? ⟨w.heap.size + 1, 0, none⟩ = false := (by simp [World.frozen?, q]); have f1 : w1.frozen? ⟨w.heap.size + 1, 1, none⟩ = false := (by simp [World.frozen?, q]); have f2 : w1.frozen? ⟨w.heap.size + 1, 2, none⟩ = false := (by simp [World.frozen?, q]); clear q FR))
  refine bodyPost_ret (v := .tuple #[V 5 n ⟨#[]⟩, .int .i64 0]) (by simp [results, Try.results9, go_sem, *]) rfl ⟨rfl, ?_, ?_⟩
  · exact HeapIs.put (by decide) (by decide) ((hT.setCell _ _ _).setCell _ _ _) (HeapIs.put (by decide) (by decide) (hT.setCell _ _ _) (HeapIs.put (by decide) (by decide) hT H1 _ _) _ _) _ _
  · exact ((FR2.setNew hbb (by omega) _ _).setNew hbb (by omega) _ _).setNew hbb (by omega) _ _
set_option maxRecDepth 100000 in
set_option maxHeartbeats 1000000 in
theorem cell_full (base b : Nat) (lim : Int) (n : Nat) (xs : List Value) (hn : lim ≤ n) (t1 n1 : Int) (s1 : ByteArray) (w : World) (H : HeapIs w base b lim n xs) :
    Calls Try.prog 9 #[.pointer (some ⟨b, 0, none⟩), V t1 n1 s1] w fun e w' => e = .returned (.tuple #[Z, .int .i64 17]) ∧ BW w w' := by
  go_enter Try.func9, Try.ntmps9
  go_wp2_with (first | (go_at_call 19; refine (add_full base b lim n xs hn _ _ _ _ _ _ _ _ _ (H.bw (by repeat (first | exact BW.refl _ | apply BW.alloc | apply BW.drewN | apply BW.drew)))).mono ?_; rintro e w1 ⟨rfl, hb1⟩; have hz := hb1.size; (try simp at hz); have q := fun o => hb1.cells (w.heap.size + 1) o (by first | (simp; done) | (simp; omega)); have f := fun o => hb1.froz (w.heap.size + 1) o (by first | (simp; done) | (simp; omega))))
  exact bodyPost_ret (v := .tuple #[Z, .int .i64 17]) (by simp [results, Try.results9, go_sem, *]) rfl ⟨rfl, (by repeat (first | exact BW.refl _ | assumption | apply BW.alloc | apply BW.drewN | apply BW.drew | (refine BW.setCell ?_ (by first | omega | (simp; done) | (simp; omega)) _) | (refine BW.trans ?_ (by assumption))))⟩
set_option maxRecDepth 100000 in
set_option maxHeartbeats 1000000 in
theorem cell_nil  (t1 n1 : Int) (s1 : ByteArray) (w : World)  :
    Calls Try.prog 9 #[.pointer none, V t1 n1 s1] w fun e w' => e = .returned (.tuple #[Z, .int .i64 17]) ∧ BW w w' := by
  go_enter Try.func9, Try.ntmps9
  go_wp2_with (first | (go_at_call 19; refine (add_nil _ _ _ _ _ _ _ _ _).mono ?_; rintro e w1 ⟨rfl, hb1⟩; have hz := hb1.size; (try simp at hz); have q := fun o => hb1.cells (w.heap.size + 1) o (by first | (simp; done) | (simp; omega)); have f := fun o => hb1.froz (w.heap.size + 1) o (by first | (simp; done) | (simp; omega))))
  exact bodyPost_ret (v := .tuple #[Z, .int .i64 17]) (by simp [results, Try.results9, go_sem, *]) rfl ⟨rfl, (by repeat (first | exact BW.refl _ | assumption | apply BW.alloc | apply BW.drewN | apply BW.drew | (refine BW.setCell ?_ (by first | omega | (simp; done) | (simp; omega)) _) | (refine BW.trans ?_ (by assumption))))⟩
set_option maxRecDepth 100000 in
set_option maxHeartbeats 1000000 in
theorem make_room (base b : Nat) (lim : Int) (n : Nat) (xs : List Value) (hn : n < lim) (hlim : lim ≤ 1048576) (tag x : Int) (ht : tag = 6 ∨ tag = 7) (w : World) (H : HeapIs w base b lim n xs) :
    Calls Try.prog 10 #[.pointer (some ⟨b, 0, none⟩), .int .u8 tag, .int .i64 x] w fun e w' => e = .returned (.tuple #[V tag n ⟨#[]⟩, .int .i64 0]) ∧ HeapIs w' base b lim (n + 1) (xs ++ thing tag 0 0 ⟨#[]⟩ 0 0 ⟨#[]⟩ x) ∧ Fr base b w w' := by
  have hlt := H.lt
  have hbb : base ≤ w.heap.size := by have := H.1; omega
  go_enter Try.func10, Try.ntmps10
  go_wp2_with (first | (go_at_call 20; refine (made_in _ ht _).mono ?_; rintro e w0 ⟨rfl, rfl⟩) | (go_at_call 19; refine (add_room base b lim n xs hn hlim _ _ _ _ _ _ _ _ _ (H.bw (by repeat (first | exact BW.refl _ | apply BW.alloc | apply BW.drewN | apply BW.drew)))).mono ?_; rintro e w1 ⟨rfl, H1, FR⟩; have q := FR.at26 (k := w.heap.size) (new_at _ _ _ (by simp)) (by omega); have FR2 := (BW.fr (w := w) (b := b) (by repeat (first | exact BW.refl _ | apply BW.alloc | apply BW.drewN | apply BW.drew)) hbb).trans FR; have hT : Ty w1 (w.heap.size) 26 := ⟨_, q⟩; have k0 : w1.cell? ⟨w.heap.size, 0, none⟩ = some _ := (by simp only [World.cell?, q]; rfl); have k1 : w1.cell? ⟨w.heap.size, 1, none⟩ = some _ := (by simp only [World.cell?, q]; rfl); have k2 : w1.cell? ⟨w.heap.size, 2, none⟩ = some _ := (by simp only [World.cell?, q]; rfl); have f0 : w1.frozen? ⟨w.heap.size, 0, none⟩ = false := (by simp [World.frozen?, q]); have f1 : w1.frozen? ⟨w.heap.size, 1, none⟩ = false := (by simp [World.frozen?, q]); have f2 : w1.frozen? ⟨w.heap.size, 2, none⟩ = false := (by simp [World.frozen?, q]); clear q FR))
  refine bodyPost_ret (v := .tuple #[V tag n ⟨#[]⟩, .int .i64 0]) (by simp [results, Try.results10, go_sem, *]) rfl ⟨rfl, ?_, ?_⟩
  · exact HeapIs.put (by decide) (by decide) ((hT.setCell _ _ _).setCell _ _ _) (HeapIs.put (by decide) (by decide) (hT.setCell _ _ _) (HeapIs.put (by decide) (by decide) hT H1 _ _) _ _) _ _
  · exact ((FR2.setNew hbb (by omega) _ _).setNew hbb (by omega) _ _).setNew hbb (by omega) _ _
set_option maxRecDepth 100000 in
set_option maxHeartbeats 1000000 in
theorem make_full (base b : Nat) (lim : Int) (n : Nat) (xs : List Value) (hn : lim ≤ n) (tag x : Int) (ht : tag = 6 ∨ tag = 7) (w : World) (H : HeapIs w base b lim n xs) :
    Calls Try.prog 10 #[.pointer (some ⟨b, 0, none⟩), .int .u8 tag, .int .i64 x] w fun e w' => e = .returned (.tuple #[Z, .int .i64 17]) ∧ BW w w' := by
  go_enter Try.func10, Try.ntmps10
  go_wp2_with (first | (go_at_call 20; refine (made_in _ ht _).mono ?_; rintro e w0 ⟨rfl, rfl⟩) | (go_at_call 19; refine (add_full base b lim n xs hn _ _ _ _ _ _ _ _ _ (H.bw (by repeat (first | exact BW.refl _ | apply BW.alloc | apply BW.drewN | apply BW.drew)))).mono ?_; rintro e w1 ⟨rfl, hb1⟩; have hz := hb1.size; (try simp at hz); have q := fun o => hb1.cells (w.heap.size) o (by first | (simp; done) | (simp; omega)); have f := fun o => hb1.froz (w.heap.size) o (by first | (simp; done) | (simp; omega))))
  exact bodyPost_ret (v := .tuple #[Z, .int .i64 17]) (by simp [results, Try.results10, go_sem, *]) rfl ⟨rfl, (by repeat (first | exact BW.refl _ | assumption | apply BW.alloc | apply BW.drewN | apply BW.drew | (refine BW.setCell ?_ (by first | omega | (simp; done) | (simp; omega)) _) | (refine BW.trans ?_ (by assumption))))⟩
set_option maxRecDepth 100000 in
set_option maxHeartbeats 1000000 in
theorem make_nil  (tag x : Int) (ht : tag = 6 ∨ tag = 7) (w : World)  :
    Calls Try.prog 10 #[.pointer none, .int .u8 tag, .int .i64 x] w fun e w' => e = .returned (.tuple #[Z, .int .i64 17]) ∧ BW w w' := by
  go_enter Try.func10, Try.ntmps10
  go_wp2_with (first | (go_at_call 20; refine (made_in _ ht _).mono ?_; rintro e w0 ⟨rfl, rfl⟩) | (go_at_call 19; refine (add_nil _ _ _ _ _ _ _ _ _).mono ?_; rintro e w1 ⟨rfl, hb1⟩; have hz := hb1.size; (try simp at hz); have q := fun o => hb1.cells (w.heap.size) o (by first | (simp; done) | (simp; omega)); have f := fun o => hb1.froz (w.heap.size) o (by first | (simp; done) | (simp; omega))))
  exact bodyPost_ret (v := .tuple #[Z, .int .i64 17]) (by simp [results, Try.results10, go_sem, *]) rfl ⟨rfl, (by repeat (first | exact BW.refl _ | assumption | apply BW.alloc | apply BW.drewN | apply BW.drew | (refine BW.setCell ?_ (by first | omega | (simp; done) | (simp; omega)) _) | (refine BW.trans ?_ (by assumption))))⟩
theorem make_arg (p : Value) (tag x : Int) (h1 : (tag == 6) = false) (h2 : (tag == 7) = false) (w : World) :
    Calls Try.prog 10 #[p, .int .u8 tag, .int .i64 x] w fun e w' => e = .returned (.tuple #[Z, .int .i64 1]) ∧ BW w w' := by
  go_enter Try.func10, Try.ntmps10
  go_wp2_with (first | (go_at_call 20; refine (made_not _ h1 h2 _).mono ?_; rintro e w0 ⟨rfl, rfl⟩))
  exact bodyPost_ret (v := .tuple #[Z, .int .i64 1]) (by simp [results, Try.results10, go_sem, *]) rfl ⟨rfl, (by repeat (first | exact BW.refl _ | assumption | apply BW.alloc | apply BW.drewN | apply BW.drew | (refine BW.setCell ?_ (by first | omega | (simp; done) | (simp; omega)) _) | (refine BW.trans ?_ (by assumption))))⟩
end Go.Proofs.Ytgiehpcmijaomaa
