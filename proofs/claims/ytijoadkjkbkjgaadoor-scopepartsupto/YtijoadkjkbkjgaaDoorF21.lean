import Derived.Test.YtijoadkjkbkjgaaDoorF20
namespace Go.Proofs.YtijoadkjkbkjgaaDoor
open Go.RowKit
set_option linter.unusedVariables false
set_option linter.unusedSimpArgs false

def doT2 {n : Nat} (t u : Tr (n + 1)) : Tr (n + 2) := (⟨10, 0, ⟨#[]⟩, [], [t, u]⟩ : Nd (Tr (n + 1)))
def funT {n : Nat} (p : ByteArray) (t : Tr (n + 1)) : Tr (n + 2) := (⟨6, 0, xs1, [p], [t]⟩ : Nd (Tr (n + 1)))
theorem doT2_sz {n : Nat} (t u : Tr (n + 1)) : sz (n + 2) (doT2 t u) = 1 + sz (n + 1) t + sz (n + 1) u := by
  show 1 + ([t, u].map (sz (n + 1))).sum = _
  simp; omega
theorem funT_sz {n : Nat} (p : ByteArray) (t : Tr (n + 1)) : sz (n + 2) (funT p t) = 1 + sz (n + 1) t := by
  show 1 + ([t].map (sz (n + 1))).sum = _
  simp
theorem doT2_n200 {n : Nat} {t u : Tr (n + 1)} (h : n200 (n + 2) (doT2 t u) = true) : n200 (n + 1) t = true ∧ n200 (n + 1) u = true := by
  have h' : (decide (([] : List ByteArray).length ≤ 200) && [t, u].all (n200 (n + 1))) = true := h
  simpa using h'
theorem funT_n200 {n : Nat} {p : ByteArray} {t : Tr (n + 1)} (h : n200 (n + 1) t = true) : n200 (n + 2) (funT p t) = true := by
  show (decide ([p].length ≤ 200) && [t].all (n200 (n + 1))) = true
  simp [h]
theorem kid_of {n : Nat} {t : Tr (n + 2)} (h : mayB (n + 2) t = true) (hk : ¬ Nd.k (K := Tr (n + 1)) t = 13) {x : Tr (n + 1)} (hx : x ∈ Nd.ks (K := Tr (n + 1)) t) : mayB (n + 1) x = true := by
  rw [mayB_eq] at h ⊢
  simp only [Bool.and_eq_true, decide_eq_true_eq] at h ⊢
  obtain ⟨⟨h1, h2⟩, h3⟩ := h
  refine ⟨⟨?_, ?_⟩, ?_⟩
  · have : ∀ l : List (Tr (n + 1)), x ∈ l → dep (n + 1) x ≤ (l.map (dep (n + 1))).foldr max 0 := by
      intro l
      induction l with
      | nil => intro h; cases h
      | cons a r ih =>
        intro h
        simp only [List.map_cons, List.foldr_cons]
        rcases List.mem_cons.1 h with e | h
        · subst e; omega
        · have := ih h; omega
    have hd : dep (n + 2) t = 1 + ((Nd.ks (K := Tr (n + 1)) t).map (dep (n + 1))).foldr max 0 := rfl
    have := this _ hx
    omega
  · have h5 : sz (n + 1) x < sz (n + 2) t := sz_kid hx
    omega
  · unfold vl at h3
    rw [Bool.and_eq_true] at h3
    have h4 := h3.2
    unfold rt at h4
    split at h4
    · cases h4
    · rw [Bool.and_eq_true, if_neg hk] at h4
      exact List.all_eq_true.1 h4.2 x hx
theorem doT2_fre {n : Nat} {t u : Tr (n + 1)} (h : mayB (n + 2) (doT2 t u) = true) : mayB (n + 1) t = true ∧ mayB (n + 1) u = true ∧ fre (n + 2) (doT2 t u) = uni (fre (n + 1) u) (fre (n + 1) t) := by
  have h1 : mayB (n + 1) t = true := kid_of h (by show ¬ (10 : Int) = 13; decide) (by show t ∈ [t, u]; simp)
  have h2 : mayB (n + 1) u = true := kid_of h (by show ¬ (10 : Int) = 13; decide) (by show u ∈ [t, u]; simp)
  refine ⟨h1, h2, ?_⟩
  unfold fre
  rw [h, h1, h2, if_pos rfl, if_pos rfl, if_pos rfl]
  show fr (n + 1) u ([] ++ [] ++ []) (fr (n + 1) t ([] ++ [] ++ []) []) = _
  exact fr_more _ _ _
/-- Neither of the two names. -/
def ot (p : ByteArray) (s : ByteArray) : Bool := decide (ct [p, xs1] s = 0)
theorem ot_no {p s : ByteArray} (h : s = xs1 ∨ s = p) : ot p s = false := by
  unfold ot
  rcases h with rfl | rfl <;> simp [ct]
theorem ot_yes {p s : ByteArray} (h1 : ¬ s = xs1) (h2 : ¬ s = p) : ot p s = true := by
  unfold ot
  simp [ct, Ne.symm h2]
  exact fun e => h1 e.symm
theorem funT_fre {n : Nat} {p : ByteArray} {t : Tr (n + 1)} (h : mayB (n + 2) (funT p t) = true) (ht : mayB (n + 1) t = true) : fre (n + 2) (funT p t) = (fre (n + 1) t).filter (ot p) := by
  unfold fre
  rw [h, ht, if_pos rfl, if_pos rfl]
  show fr (n + 1) t ([] ++ [p] ++ [xs1]) [] = _
  rw [fr_cut]
  rfl
/-- The boxes and rows of the law. -/
structure PX (w w' : World) {n : Nat} (t u : Tr (n + 1)) (na : Option Addr) (nl nc : Nat) (ka : Option Addr) (kl kc : Nat) (ma : Option Addr) (ml mc : Nat) (qa : Option Addr) (ql qc : Nat) (p : ByteArray) : Prop where
  bw : BW w w'
  b0 : w'.heap[w.heap.size]? = some (.cells #[.int .u8 (Nd.k (K := Tr n) t), .int .i64 (Nd.n (K := Tr n) t), .string (Nd.s (K := Tr n) t), .slice na nl nc, .slice ka kl kc] 25 (0, 0))
  b1 : w'.heap[w.heap.size + 1]? = some (.cells #[.int .u8 (Nd.k (K := Tr n) u), .int .i64 (Nd.n (K := Tr n) u), .string (Nd.s (K := Tr n) u), .slice ma ml mc, .slice qa ql qc] 25 (0, 0))
  r1 : w'.heap[w.heap.size + 1 + 1]? = some (.cells #[.int .u8 (Nd.k (K := Tr n) t), .int .i64 (Nd.n (K := Tr n) t), .string (Nd.s (K := Tr n) t), .slice na nl nc, .slice ka kl kc, .int .u8 (Nd.k (K := Tr n) u), .int .i64 (Nd.n (K := Tr n) u), .string (Nd.s (K := Tr n) u), .slice ma ml mc, .slice qa ql qc] 25 (0, 0))
  bd : w'.heap[w.heap.size + 1 + 1 + 1]? = some (.cells #[.int .u8 10, .int .i64 0, .string ⟨#[]⟩, .slice none 0 0, .slice (some ⟨w.heap.size + 1 + 1, 0, none⟩) 2 2] 25 (0, 0))
  pn : w'.heap[w.heap.size + 1 + 1 + 1 + 1]? = some (.cells #[.string p] 9 (0, 0))
  r2 : w'.heap[w.heap.size + 1 + 1 + 1 + 1 + 1]? = some (.cells #[.int .u8 (Nd.k (K := Tr n) t), .int .i64 (Nd.n (K := Tr n) t), .string (Nd.s (K := Tr n) t), .slice na nl nc, .slice ka kl kc] 25 (0, 0))
  bf : w'.heap[w.heap.size + 1 + 1 + 1 + 1 + 1 + 1]? = some (.cells #[.int .u8 6, .int .i64 0, .string ⟨#[120]⟩, .slice (some ⟨w.heap.size + 1 + 1 + 1 + 1, 0, none⟩) 1 1, .slice (some ⟨w.heap.size + 1 + 1 + 1 + 1 + 1, 0, none⟩) 1 1] 25 (0, 0))
theorem PX.on {w w1 w2 : World} {n : Nat} {t u : Tr (n + 1)} {na : Option Addr} {nl nc : Nat} {ka : Option Addr} {kl kc : Nat} {ma : Option Addr} {ml mc : Nat} {qa : Option Addr} {ql qc : Nat} {p : ByteArray} (h : PX w w1 t u na nl nc ka kl kc ma ml mc qa ql qc p) (k : BW w1 w2) : PX w w2 t u na nl nc ka kl kc ma ml mc qa ql qc p := by
  have F : ∀ {g : Nat} {o : Obj}, w1.heap[g]? = some o → w2.heap[g]? = some o := fun {g o} e => (k.block g (Array.getElem?_eq_some_iff.1 e).1).trans e
  exact ⟨BW.trans h.bw k, F h.b0, F h.b1, F h.r1, F h.bd, F h.pn, F h.r2, F h.bf⟩
theorem alloc_old {w : World} {g : Nat} {o q : Obj} (h : w.heap[g]? = some o) : (w.alloc q).heap[g]? = some o := ((BW.alloc (BW.refl w) q).block g (Array.getElem?_eq_some_iff.1 h).1).trans h
theorem alloc_new' {w : World} {g : Nat} {o : Obj} (h : w.heap.size = g) : (w.alloc o).heap[g]? = some (match o with | x => x) := by subst h; exact heap_alloc_new w o
theorem PX.new (w : World) {n : Nat} (t u : Tr (n + 1)) (na : Option Addr) (nl nc : Nat) (ka : Option Addr) (kl kc : Nat) (ma : Option Addr) (ml mc : Nat) (qa : Option Addr) (ql qc : Nat) (p : ByteArray) : PX w (((((((w.alloc (.cells #[.int .u8 (Nd.k (K := Tr n) t), .int .i64 (Nd.n (K := Tr n) t), .string (Nd.s (K := Tr n) t), .slice na nl nc, .slice ka kl kc] 25)).alloc (.cells #[.int .u8 (Nd.k (K := Tr n) u), .int .i64 (Nd.n (K := Tr n) u), .string (Nd.s (K := Tr n) u), .slice ma ml mc, .slice qa ql qc] 25)).alloc (.cells #[.int .u8 (Nd.k (K := Tr n) t), .int .i64 (Nd.n (K := Tr n) t), .string (Nd.s (K := Tr n) t), .slice na nl nc, .slice ka kl kc, .int .u8 (Nd.k (K := Tr n) u), .int .i64 (Nd.n (K := Tr n) u), .string (Nd.s (K := Tr n) u), .slice ma ml mc, .slice qa ql qc] 25)).alloc (.cells #[.int .u8 10, .int .i64 0, .string ⟨#[]⟩, .slice none 0 0, .slice (some ⟨w.heap.size + 1 + 1, 0, none⟩) 2 2] 25)).alloc (.cells #[.string p] 9)).alloc (.cells #[.int .u8 (Nd.k (K := Tr n) t), .int .i64 (Nd.n (K := Tr n) t), .string (Nd.s (K := Tr n) t), .slice na nl nc, .slice ka kl kc] 25)).alloc (.cells #[.int .u8 6, .int .i64 0, .string ⟨#[120]⟩, .slice (some ⟨w.heap.size + 1 + 1 + 1 + 1, 0, none⟩) 1 1, .slice (some ⟨w.heap.size + 1 + 1 + 1 + 1 + 1, 0, none⟩) 1 1] 25)) t u na nl nc ka kl kc ma ml mc qa ql qc p := by
  refine ⟨by repeat (first | exact BW.refl _ | apply BW.alloc), ?_, ?_, ?_, ?_, ?_, ?_, ?_⟩
  · exact alloc_old (alloc_old (alloc_old (alloc_old (alloc_old (alloc_old (alloc_new' rfl))))))
  · exact alloc_old (alloc_old (alloc_old (alloc_old (alloc_old (alloc_new' (by simp))))))
  · exact alloc_old (alloc_old (alloc_old (alloc_old (alloc_new' (by simp)))))
  · exact alloc_old (alloc_old (alloc_old (alloc_new' (by simp))))
  · exact alloc_old (alloc_old (alloc_new' (by simp)))
  · exact alloc_old (alloc_new' (by simp))
  · exact alloc_new' (by simp)
theorem PX.lt {w w' : World} {n : Nat} {t u : Tr (n + 1)} {na : Option Addr} {nl nc : Nat} {ka : Option Addr} {kl kc : Nat} {ma : Option Addr} {ml mc : Nat} {qa : Option Addr} {ql qc : Nat} {p : ByteArray} (h : PX w w' t u na nl nc ka kl kc ma ml mc qa ql qc p) : w.heap.size + 1 + 1 + 1 + 1 + 1 + 1 < w'.heap.size := (Array.getElem?_eq_some_iff.1 h.bf).1
theorem PX.t0 {w w' : World} {n : Nat} {t u : Tr (n + 1)} {na : Option Addr} {nl nc : Nat} {ka : Option Addr} {kl kc : Nat} {ma : Option Addr} {ml mc : Nat} {qa : Option Addr} {ql qc : Nat} {p : ByteArray} (h : PX w w' t u na nl nc ka kl kc ma ml mc qa ql qc p) : w'.cell? ⟨w.heap.size, 0, none⟩ = some (.int .u8 (Nd.k (K := Tr n) t)) := by rw [Lib.cell_of_heap h.b0]; rfl
theorem PX.t1 {w w' : World} {n : Nat} {t u : Tr (n + 1)} {na : Option Addr} {nl nc : Nat} {ka : Option Addr} {kl kc : Nat} {ma : Option Addr} {ml mc : Nat} {qa : Option Addr} {ql qc : Nat} {p : ByteArray} (h : PX w w' t u na nl nc ka kl kc ma ml mc qa ql qc p) : w'.cell? ⟨w.heap.size, 1, none⟩ = some (.int .i64 (Nd.n (K := Tr n) t)) := by rw [Lib.cell_of_heap h.b0]; rfl
theorem PX.t2 {w w' : World} {n : Nat} {t u : Tr (n + 1)} {na : Option Addr} {nl nc : Nat} {ka : Option Addr} {kl kc : Nat} {ma : Option Addr} {ml mc : Nat} {qa : Option Addr} {ql qc : Nat} {p : ByteArray} (h : PX w w' t u na nl nc ka kl kc ma ml mc qa ql qc p) : w'.cell? ⟨w.heap.size, 2, none⟩ = some (.string (Nd.s (K := Tr n) t)) := by rw [Lib.cell_of_heap h.b0]; rfl
theorem PX.t3 {w w' : World} {n : Nat} {t u : Tr (n + 1)} {na : Option Addr} {nl nc : Nat} {ka : Option Addr} {kl kc : Nat} {ma : Option Addr} {ml mc : Nat} {qa : Option Addr} {ql qc : Nat} {p : ByteArray} (h : PX w w' t u na nl nc ka kl kc ma ml mc qa ql qc p) : w'.cell? ⟨w.heap.size, 3, none⟩ = some (.slice na nl nc) := by rw [Lib.cell_of_heap h.b0]; rfl
theorem PX.t4 {w w' : World} {n : Nat} {t u : Tr (n + 1)} {na : Option Addr} {nl nc : Nat} {ka : Option Addr} {kl kc : Nat} {ma : Option Addr} {ml mc : Nat} {qa : Option Addr} {ql qc : Nat} {p : ByteArray} (h : PX w w' t u na nl nc ka kl kc ma ml mc qa ql qc p) : w'.cell? ⟨w.heap.size, 4, none⟩ = some (.slice ka kl kc) := by rw [Lib.cell_of_heap h.b0]; rfl
theorem PX.u0 {w w' : World} {n : Nat} {t u : Tr (n + 1)} {na : Option Addr} {nl nc : Nat} {ka : Option Addr} {kl kc : Nat} {ma : Option Addr} {ml mc : Nat} {qa : Option Addr} {ql qc : Nat} {p : ByteArray} (h : PX w w' t u na nl nc ka kl kc ma ml mc qa ql qc p) : w'.cell? ⟨w.heap.size + 1, 0, none⟩ = some (.int .u8 (Nd.k (K := Tr n) u)) := by rw [Lib.cell_of_heap h.b1]; rfl
theorem PX.u1 {w w' : World} {n : Nat} {t u : Tr (n + 1)} {na : Option Addr} {nl nc : Nat} {ka : Option Addr} {kl kc : Nat} {ma : Option Addr} {ml mc : Nat} {qa : Option Addr} {ql qc : Nat} {p : ByteArray} (h : PX w w' t u na nl nc ka kl kc ma ml mc qa ql qc p) : w'.cell? ⟨w.heap.size + 1, 1, none⟩ = some (.int .i64 (Nd.n (K := Tr n) u)) := by rw [Lib.cell_of_heap h.b1]; rfl
theorem PX.u2 {w w' : World} {n : Nat} {t u : Tr (n + 1)} {na : Option Addr} {nl nc : Nat} {ka : Option Addr} {kl kc : Nat} {ma : Option Addr} {ml mc : Nat} {qa : Option Addr} {ql qc : Nat} {p : ByteArray} (h : PX w w' t u na nl nc ka kl kc ma ml mc qa ql qc p) : w'.cell? ⟨w.heap.size + 1, 2, none⟩ = some (.string (Nd.s (K := Tr n) u)) := by rw [Lib.cell_of_heap h.b1]; rfl
theorem PX.u3 {w w' : World} {n : Nat} {t u : Tr (n + 1)} {na : Option Addr} {nl nc : Nat} {ka : Option Addr} {kl kc : Nat} {ma : Option Addr} {ml mc : Nat} {qa : Option Addr} {ql qc : Nat} {p : ByteArray} (h : PX w w' t u na nl nc ka kl kc ma ml mc qa ql qc p) : w'.cell? ⟨w.heap.size + 1, 3, none⟩ = some (.slice ma ml mc) := by rw [Lib.cell_of_heap h.b1]; rfl
theorem PX.u4 {w w' : World} {n : Nat} {t u : Tr (n + 1)} {na : Option Addr} {nl nc : Nat} {ka : Option Addr} {kl kc : Nat} {ma : Option Addr} {ml mc : Nat} {qa : Option Addr} {ql qc : Nat} {p : ByteArray} (h : PX w w' t u na nl nc ka kl kc ma ml mc qa ql qc p) : w'.cell? ⟨w.heap.size + 1, 4, none⟩ = some (.slice qa ql qc) := by rw [Lib.cell_of_heap h.b1]; rfl
theorem PX.d0 {w w' : World} {n : Nat} {t u : Tr (n + 1)} {na : Option Addr} {nl nc : Nat} {ka : Option Addr} {kl kc : Nat} {ma : Option Addr} {ml mc : Nat} {qa : Option Addr} {ql qc : Nat} {p : ByteArray} (h : PX w w' t u na nl nc ka kl kc ma ml mc qa ql qc p) : w'.cell? ⟨w.heap.size + 1 + 1 + 1, 0, none⟩ = some (.int .u8 10) := by rw [Lib.cell_of_heap h.bd]; rfl
theorem PX.d1 {w w' : World} {n : Nat} {t u : Tr (n + 1)} {na : Option Addr} {nl nc : Nat} {ka : Option Addr} {kl kc : Nat} {ma : Option Addr} {ml mc : Nat} {qa : Option Addr} {ql qc : Nat} {p : ByteArray} (h : PX w w' t u na nl nc ka kl kc ma ml mc qa ql qc p) : w'.cell? ⟨w.heap.size + 1 + 1 + 1, 1, none⟩ = some (.int .i64 0) := by rw [Lib.cell_of_heap h.bd]; rfl
theorem PX.d2 {w w' : World} {n : Nat} {t u : Tr (n + 1)} {na : Option Addr} {nl nc : Nat} {ka : Option Addr} {kl kc : Nat} {ma : Option Addr} {ml mc : Nat} {qa : Option Addr} {ql qc : Nat} {p : ByteArray} (h : PX w w' t u na nl nc ka kl kc ma ml mc qa ql qc p) : w'.cell? ⟨w.heap.size + 1 + 1 + 1, 2, none⟩ = some (.string ⟨#[]⟩) := by rw [Lib.cell_of_heap h.bd]; rfl
theorem PX.d3 {w w' : World} {n : Nat} {t u : Tr (n + 1)} {na : Option Addr} {nl nc : Nat} {ka : Option Addr} {kl kc : Nat} {ma : Option Addr} {ml mc : Nat} {qa : Option Addr} {ql qc : Nat} {p : ByteArray} (h : PX w w' t u na nl nc ka kl kc ma ml mc qa ql qc p) : w'.cell? ⟨w.heap.size + 1 + 1 + 1, 3, none⟩ = some (.slice none 0 0) := by rw [Lib.cell_of_heap h.bd]; rfl
theorem PX.d4 {w w' : World} {n : Nat} {t u : Tr (n + 1)} {na : Option Addr} {nl nc : Nat} {ka : Option Addr} {kl kc : Nat} {ma : Option Addr} {ml mc : Nat} {qa : Option Addr} {ql qc : Nat} {p : ByteArray} (h : PX w w' t u na nl nc ka kl kc ma ml mc qa ql qc p) : w'.cell? ⟨w.heap.size + 1 + 1 + 1, 4, none⟩ = some (.slice (some ⟨w.heap.size + 1 + 1, 0, none⟩) 2 2) := by rw [Lib.cell_of_heap h.bd]; rfl
theorem PX.f0 {w w' : World} {n : Nat} {t u : Tr (n + 1)} {na : Option Addr} {nl nc : Nat} {ka : Option Addr} {kl kc : Nat} {ma : Option Addr} {ml mc : Nat} {qa : Option Addr} {ql qc : Nat} {p : ByteArray} (h : PX w w' t u na nl nc ka kl kc ma ml mc qa ql qc p) : w'.cell? ⟨w.heap.size + 1 + 1 + 1 + 1 + 1 + 1, 0, none⟩ = some (.int .u8 6) := by rw [Lib.cell_of_heap h.bf]; rfl
theorem PX.f1 {w w' : World} {n : Nat} {t u : Tr (n + 1)} {na : Option Addr} {nl nc : Nat} {ka : Option Addr} {kl kc : Nat} {ma : Option Addr} {ml mc : Nat} {qa : Option Addr} {ql qc : Nat} {p : ByteArray} (h : PX w w' t u na nl nc ka kl kc ma ml mc qa ql qc p) : w'.cell? ⟨w.heap.size + 1 + 1 + 1 + 1 + 1 + 1, 1, none⟩ = some (.int .i64 0) := by rw [Lib.cell_of_heap h.bf]; rfl
theorem PX.f2 {w w' : World} {n : Nat} {t u : Tr (n + 1)} {na : Option Addr} {nl nc : Nat} {ka : Option Addr} {kl kc : Nat} {ma : Option Addr} {ml mc : Nat} {qa : Option Addr} {ql qc : Nat} {p : ByteArray} (h : PX w w' t u na nl nc ka kl kc ma ml mc qa ql qc p) : w'.cell? ⟨w.heap.size + 1 + 1 + 1 + 1 + 1 + 1, 2, none⟩ = some (.string ⟨#[120]⟩) := by rw [Lib.cell_of_heap h.bf]; rfl
theorem PX.f3 {w w' : World} {n : Nat} {t u : Tr (n + 1)} {na : Option Addr} {nl nc : Nat} {ka : Option Addr} {kl kc : Nat} {ma : Option Addr} {ml mc : Nat} {qa : Option Addr} {ql qc : Nat} {p : ByteArray} (h : PX w w' t u na nl nc ka kl kc ma ml mc qa ql qc p) : w'.cell? ⟨w.heap.size + 1 + 1 + 1 + 1 + 1 + 1, 3, none⟩ = some (.slice (some ⟨w.heap.size + 1 + 1 + 1 + 1, 0, none⟩) 1 1) := by rw [Lib.cell_of_heap h.bf]; rfl
theorem PX.f4 {w w' : World} {n : Nat} {t u : Tr (n + 1)} {na : Option Addr} {nl nc : Nat} {ka : Option Addr} {kl kc : Nat} {ma : Option Addr} {ml mc : Nat} {qa : Option Addr} {ql qc : Nat} {p : ByteArray} (h : PX w w' t u na nl nc ka kl kc ma ml mc qa ql qc p) : w'.cell? ⟨w.heap.size + 1 + 1 + 1 + 1 + 1 + 1, 4, none⟩ = some (.slice (some ⟨w.heap.size + 1 + 1 + 1 + 1 + 1, 0, none⟩) 1 1) := by rw [Lib.cell_of_heap h.bf]; rfl
theorem PX.nd {w w' : World} {n : Nat} {t u : Tr (n + 1)} {na : Option Addr} {nl nc : Nat} {ka : Option Addr} {kl kc : Nat} {ma : Option Addr} {ml mc : Nat} {qa : Option Addr} {ql qc : Nat} {p : ByteArray} (h : PX w w' t u na nl nc ka kl kc ma ml mc qa ql qc p) (ht : NodeAt w (n + 1) (ndv (Nd.k (K := Tr n) t) (Nd.n (K := Tr n) t) (Nd.s (K := Tr n) t) na nl nc ka kl kc) t) (hu : NodeAt w (n + 1) (ndv (Nd.k (K := Tr n) u) (Nd.n (K := Tr n) u) (Nd.s (K := Tr n) u) ma ml mc qa ql qc) u) : NodeAt w' (n + 2) (ndv 10 0 ⟨#[]⟩ none 0 0 (some ⟨w.heap.size + 1 + 1, 0, none⟩) 2 2) (doT2 t u) := by
  refine ⟨none, 0, 0, _, 2, 2, rfl, wf_small _ _ _ _ _ (by decide) (by decide) (by decide) (by decide) (by decide), Nat.le_refl _, Nat.zero_le _, Nat.le_refl _, by decide, StrsAt.nil, SeqAt.two (r1 := ⟨Nd.k (K := Tr n) t, Nd.n (K := Tr n) t, Nd.s (K := Tr n) t, na, nl, nc, ka, kl, kc⟩) (r2 := ⟨Nd.k (K := Tr n) u, Nd.n (K := Tr n) u, Nd.s (K := Tr n) u, ma, ml, mc, qa, ql, qc⟩) (Array.getElem?_eq_some_iff.1 h.r1).1 ⟨?_, ?_, ?_, ?_, ?_⟩ ⟨?_, ?_, ?_, ?_, ?_⟩ (ht.bw h.bw) (hu.bw h.bw)⟩ <;> (rw [Lib.cell_of_heap h.r1]; rfl)
theorem PX.nf {w w' : World} {n : Nat} {t u : Tr (n + 1)} {na : Option Addr} {nl nc : Nat} {ka : Option Addr} {kl kc : Nat} {ma : Option Addr} {ml mc : Nat} {qa : Option Addr} {ql qc : Nat} {p : ByteArray} (h : PX w w' t u na nl nc ka kl kc ma ml mc qa ql qc p) (hp : p.size ≤ maxLen) (ht : NodeAt w (n + 1) (ndv (Nd.k (K := Tr n) t) (Nd.n (K := Tr n) t) (Nd.s (K := Tr n) t) na nl nc ka kl kc) t) : NodeAt w' (n + 2) (ndv 6 0 ⟨#[120]⟩ (some ⟨w.heap.size + 1 + 1 + 1 + 1, 0, none⟩) 1 1 (some ⟨w.heap.size + 1 + 1 + 1 + 1 + 1, 0, none⟩) 1 1) (funT p t) := by
  refine ⟨_, 1, 1, _, 1, 1, rfl, wf_small _ _ _ _ _ (by decide) (by decide) (by decide) (by decide) (by decide), Nat.le_refl _, by decide, Nat.le_refl _, by decide, strs_new h.pn hp, ⟨rfl, by decide, .inr ⟨_, 0, rfl, (Array.getElem?_eq_some_iff.1 h.r2).1, fun i x hx => ?_⟩⟩⟩
  match i, hx with
  | 0, hx =>
    obtain rfl : t = x := by simpa [funT] using hx
    refine ⟨⟨Nd.k (K := Tr n) t, Nd.n (K := Tr n) t, Nd.s (K := Tr n) t, na, nl, nc, ka, kl, kc⟩, ⟨?_, ?_, ?_, ?_, ?_⟩, ht.bw h.bw⟩ <;> (rw [Lib.cell_of_heap h.r2]; rfl)
theorem uni_take {m : List ByteArray} {j : Nat} {x : ByteArray} (h : m[j]? = some x) (l : List ByteArray) : uni (m.take (j + 1)) l = addN [] (uni (m.take j) l) x := by
  rw [List.take_add_one, h, Option.toList_some, uni_append, uni_one]
theorem uni_len (m l : List ByteArray) : (uni m l).length ≤ l.length + m.length := by
  induction m generalizing l with
  | nil => simp [uni]
  | cons a r ih =>
    have := ih (addN [] l a)
    have := addN_len [] l a
    show (uni r (addN [] l a)).length ≤ _
    simp only [List.length_cons]
    omega
theorem uni_sm {m l : List ByteArray} (hm : ∀ x ∈ m, x.size ≤ maxLen) (hl : ∀ x ∈ l, x.size ≤ maxLen) : ∀ x ∈ uni m l, x.size ≤ maxLen := by
  intro x hx
  rcases (mem_uni m l x).1 hx with h | h
  · exact hl x h
  · exact hm x h
theorem filter_at {l : List ByteArray} {P : ByteArray → Bool} {i : Nat} {x : ByteArray} (h : l[i]? = some x) (hp : P x = true) : (l.filter P)[((l.take i).filter P).length]? = some x := by
  have e : l = l.take i ++ x :: l.drop (i + 1) := by
    rw [← drop_get h, List.take_append_drop]
  conv => lhs; rw [e]
  rw [List.filter_append, List.take_append_of_le_length (by have := (List.getElem?_eq_some_iff.1 h).1; simp; omega), List.take_take, Nat.min_self, List.getElem?_append_right (Nat.le_refl _), Nat.sub_self, List.filter_cons_of_pos hp]
  rfl
theorem filter_snoc {l : List ByteArray} {P : ByteArray → Bool} {i : Nat} {x : ByteArray} (h : l[i]? = some x) : ((l.take (i + 1)).filter P).length = ((l.take i).filter P).length + if P x = true then 1 else 0 := by
  rw [List.take_add_one, h, Option.toList_some, List.filter_append, List.length_append]
  by_cases hp : P x = true
  · rw [if_pos hp, List.filter_cons_of_pos hp]; rfl
  · rw [if_neg hp, List.filter_cons_of_neg hp]; rfl

end Go.Proofs.YtijoadkjkbkjgaaDoor
