import Derived.Test.YtijoadkjkbkjgaaDoorR6
import Derived.Test.YtijoadkjkbkjgaaDoorR7
import Derived.Test.YtijoadkjkbkjgaaDoorR8
import Derived.Test.YtijoadkjkbkjgaaDoorR9
import Derived.Test.YtijoadkjkbkjgaaDoorR10
import Derived.Test.YtijoadkjkbkjgaaDoorR10a
namespace Go.Proofs.YtijoadkjkbkjgaaDoor
open Go.RowKit
set_option linter.unusedVariables false
set_option linter.unusedSimpArgs false

theorem rr_1 {n : Nat} (ih : RefRight n) (t : Tr (n + 1)) (d : Nat) (w : World) (na : Option Addr) (nl nc : Nat) (ka : Option Addr) (kl kc : Nat) (hk : Nd.k (K := Tr n) t = ((1 : Nat) : Int)) (wf : Wf (K := Tr n) t) (a1 : nl ≤ nc) (a2 : nc ≤ maxLen) (a3 : kl ≤ kc) (a4 : kc ≤ maxLen) (s1 : StrsAt w na nl (Nd.ns (K := Tr n) t)) (s2 : SeqAt (NodeAt w n) w ka kl (Nd.ks (K := Tr n) t)) (hd : d ≤ 60) (hz : sz (n + 1) t ≤ 2000000) :
    Calls Tryd.prog 16 #[ndv 1 (Nd.n (K := Tr n) t) (Nd.s (K := Tr n) t) na nl nc ka kl kc, .int .i64 d] w fun e w' => e = .returned (.bool (decide (dep (n + 1) t + d ≤ 61) && vl (n + 1) t)) ∧ BW w w' := by
  have hzz : ∀ x ∈ Nd.ks (K := Tr n) t, sz n x ≤ 2000000 := fun x hx => by have := sz_kid hx; omega
  have L1 : (Nd.ns (K := Tr n) t).length = nl := s1.1
  have L2 : (Nd.ks (K := Tr n) t).length = kl := s2.1
  have hm1 : nl ≤ 9223372036854775807 := by unfold maxLen at a2; omega
  have hm2 : kl ≤ 9223372036854775807 := by unfold maxLen at a4; omega
  have hsz : (Nd.s (K := Tr n) t).size ≤ 9223372036854775807 := by have := wf.s; unfold maxLen at this; omega
  have ev : vl (n + 1) t = rt (n + 1) t := by
    show (!isCl (Nd.k (K := Tr n) t) && rt (n + 1) t) = rt (n + 1) t
    rw [hk]; rfl
  obtain ⟨s, hs1, hs2⟩ := su_1
  have hsu := hs2 (Nd.n (K := Tr n) t) (Nd.s (K := Tr n) t) (Nd.ns (K := Tr n) t) kl wf.n0 wf.n1 hm2 (by rw [L1]; exact hm1)
  have e : (decide (dep (n + 1) t + d ≤ 61) && vl (n + 1) t) = (su s ((1 : Nat) : Int) (Nd.n (K := Tr n) t) (Nd.s (K := Tr n) t) (Nd.ns (K := Tr n) t) kl && ((Nd.ks (K := Tr n) t).all (kok n d))) := by rw [ev, rt_plain hk hs1 (by decide) d hd, L2]
  rw [e, hsu]
  rw [L1]
  clear e hsu hs1 hs2
  have e2 : (decide (Nd.s (K := Tr n) t = ⟨#[]⟩) && true && decide (nl = 0) && decide (kl = 0) && ((Nd.ks (K := Tr n) t).all (kok n d))) = (decide (Nd.s (K := Tr n) t = ⟨#[]⟩) && (decide (kl = 0) && decide (nl = 0) && ((Nd.ks (K := Tr n) t).all (kok n d)))) := by
    generalize decide (Nd.s (K := Tr n) t = ⟨#[]⟩) = b1; generalize decide (nl = 0) = b2; generalize decide (kl = 0) = b3; generalize ((Nd.ks (K := Tr n) t).all (kok n d)) = b4
    cases b1 <;> cases b2 <;> cases b3 <;> cases b4 <;> rfl
  rw [e2]
  exact right_1 w _ _ na nl nc ka kl kc d hd hsz hm2 hm1 _ (fun w' hb => plain_of ih t na nl nc ka kl kc 0 d w' (s2.bw hb (fun _ _ hh => NodeAt.bw hb hh)) a3 a4 (by omega) hd hzz _ _ _)
theorem rr_2 {n : Nat} (ih : RefRight n) (t : Tr (n + 1)) (d : Nat) (w : World) (na : Option Addr) (nl nc : Nat) (ka : Option Addr) (kl kc : Nat) (hk : Nd.k (K := Tr n) t = ((2 : Nat) : Int)) (wf : Wf (K := Tr n) t) (a1 : nl ≤ nc) (a2 : nc ≤ maxLen) (a3 : kl ≤ kc) (a4 : kc ≤ maxLen) (s1 : StrsAt w na nl (Nd.ns (K := Tr n) t)) (s2 : SeqAt (NodeAt w n) w ka kl (Nd.ks (K := Tr n) t)) (hd : d ≤ 60) (hz : sz (n + 1) t ≤ 2000000) :
    Calls Tryd.prog 16 #[ndv 2 (Nd.n (K := Tr n) t) (Nd.s (K := Tr n) t) na nl nc ka kl kc, .int .i64 d] w fun e w' => e = .returned (.bool (decide (dep (n + 1) t + d ≤ 61) && vl (n + 1) t)) ∧ BW w w' := by
  have hzz : ∀ x ∈ Nd.ks (K := Tr n) t, sz n x ≤ 2000000 := fun x hx => by have := sz_kid hx; omega
  have L1 : (Nd.ns (K := Tr n) t).length = nl := s1.1
  have L2 : (Nd.ks (K := Tr n) t).length = kl := s2.1
  have hm1 : nl ≤ 9223372036854775807 := by unfold maxLen at a2; omega
  have hm2 : kl ≤ 9223372036854775807 := by unfold maxLen at a4; omega
  have hsz : (Nd.s (K := Tr n) t).size ≤ 9223372036854775807 := by have := wf.s; unfold maxLen at this; omega
  have ev : vl (n + 1) t = rt (n + 1) t := by
    show (!isCl (Nd.k (K := Tr n) t) && rt (n + 1) t) = rt (n + 1) t
    rw [hk]; rfl
  obtain ⟨s, hs1, hs2⟩ := su_2
  have hsu := hs2 (Nd.n (K := Tr n) t) (Nd.s (K := Tr n) t) (Nd.ns (K := Tr n) t) kl wf.n0 wf.n1 hm2 (by rw [L1]; exact hm1)
  have e : (decide (dep (n + 1) t + d ≤ 61) && vl (n + 1) t) = (su s ((2 : Nat) : Int) (Nd.n (K := Tr n) t) (Nd.s (K := Tr n) t) (Nd.ns (K := Tr n) t) kl && ((Nd.ks (K := Tr n) t).all (kok n d))) := by rw [ev, rt_plain hk hs1 (by decide) d hd, L2]
  rw [e, hsu]
  rw [L1]
  clear e hsu hs1 hs2
  have e2 : (decide (Nd.s (K := Tr n) t = ⟨#[]⟩) && decide (Nd.n (K := Tr n) t = 0 ∨ Nd.n (K := Tr n) t = 1) && decide (nl = 0) && decide (kl = 0) && ((Nd.ks (K := Tr n) t).all (kok n d))) = (decide (Nd.s (K := Tr n) t = ⟨#[]⟩) && decide (Nd.n (K := Tr n) t = 0 ∨ Nd.n (K := Tr n) t = 1) && (decide (kl = 0) && decide (nl = 0) && ((Nd.ks (K := Tr n) t).all (kok n d)))) := by
    generalize decide (Nd.s (K := Tr n) t = ⟨#[]⟩) = b0; generalize decide (nl = 0) = b1; generalize ((Nd.ks (K := Tr n) t).all (kok n d)) = b2; generalize decide (Nd.n (K := Tr n) t = 0 ∨ Nd.n (K := Tr n) t = 1) = b3; generalize decide (kl = 0) = b4
    cases b0 <;> cases b1 <;> cases b2 <;> cases b3 <;> cases b4 <;> rfl
  rw [e2]
  exact right_2 w _ _ na nl nc ka kl kc d hd hsz hm2 hm1 _ (fun w' hb => plain_of ih t na nl nc ka kl kc 0 d w' (s2.bw hb (fun _ _ hh => NodeAt.bw hb hh)) a3 a4 (by omega) hd hzz _ _ _)
theorem rr_3 {n : Nat} (ih : RefRight n) (t : Tr (n + 1)) (d : Nat) (w : World) (na : Option Addr) (nl nc : Nat) (ka : Option Addr) (kl kc : Nat) (hk : Nd.k (K := Tr n) t = ((3 : Nat) : Int)) (hn : Nd.n (K := Tr n) t = 0) (wf : Wf (K := Tr n) t) (a1 : nl ≤ nc) (a2 : nc ≤ maxLen) (a3 : kl ≤ kc) (a4 : kc ≤ maxLen) (s1 : StrsAt w na nl (Nd.ns (K := Tr n) t)) (s2 : SeqAt (NodeAt w n) w ka kl (Nd.ks (K := Tr n) t)) (hd : d ≤ 60) (hz : sz (n + 1) t ≤ 2000000) :
    Calls Tryd.prog 16 #[ndv 3 0 (Nd.s (K := Tr n) t) na nl nc ka kl kc, .int .i64 d] w fun e w' => e = .returned (.bool (decide (dep (n + 1) t + d ≤ 61) && vl (n + 1) t)) ∧ BW w w' := by
  have hzz : ∀ x ∈ Nd.ks (K := Tr n) t, sz n x ≤ 2000000 := fun x hx => by have := sz_kid hx; omega
  have L1 : (Nd.ns (K := Tr n) t).length = nl := s1.1
  have L2 : (Nd.ks (K := Tr n) t).length = kl := s2.1
  have hm1 : nl ≤ 9223372036854775807 := by unfold maxLen at a2; omega
  have hm2 : kl ≤ 9223372036854775807 := by unfold maxLen at a4; omega
  have hsz : (Nd.s (K := Tr n) t).size ≤ 9223372036854775807 := by have := wf.s; unfold maxLen at this; omega
  have ev : vl (n + 1) t = rt (n + 1) t := by
    show (!isCl (Nd.k (K := Tr n) t) && rt (n + 1) t) = rt (n + 1) t
    rw [hk]; rfl
  obtain ⟨s, hs1, hs2⟩ := su_3
  have hsu := hs2 (Nd.n (K := Tr n) t) (Nd.s (K := Tr n) t) (Nd.ns (K := Tr n) t) kl wf.n0 wf.n1 hm2 (by rw [L1]; exact hm1)
  rw [hn] at hsu
  have e : (decide (dep (n + 1) t + d ≤ 61) && vl (n + 1) t) = (su s ((3 : Nat) : Int) (Nd.n (K := Tr n) t) (Nd.s (K := Tr n) t) (Nd.ns (K := Tr n) t) kl && ((Nd.ks (K := Tr n) t).all (kok n d))) := by rw [ev, rt_plain hk hs1 (by decide) d hd, L2]
  rw [hn] at e
  rw [e, hsu]
  rw [L1]
  clear e hsu hs1 hs2
  have e2 : (decide ((Nd.s (K := Tr n) t).size ≤ 65536) && decide ((0 : Int) = 0) && decide (nl = 0) && decide (kl = 0) && ((Nd.ks (K := Tr n) t).all (kok n d))) = (decide ((Nd.s (K := Tr n) t).size ≤ 65536) && (decide (kl = 0) && decide (nl = 0) && ((Nd.ks (K := Tr n) t).all (kok n d)))) := by
    rw [show decide ((0 : Int) = 0) = true from rfl]
    generalize decide ((Nd.s (K := Tr n) t).size ≤ 65536) = b0; generalize decide (nl = 0) = b1; generalize ((Nd.ks (K := Tr n) t).all (kok n d)) = b2; generalize decide (kl = 0) = b3
    cases b0 <;> cases b1 <;> cases b2 <;> cases b3 <;> rfl
  rw [e2]
  exact right_3 w 0 _ na nl nc ka kl kc d hd hsz hm2 hm1 _ (fun w' hb => plain_of ih t na nl nc ka kl kc 0 d w' (s2.bw hb (fun _ _ hh => NodeAt.bw hb hh)) a3 a4 (by omega) hd hzz _ _ _)
theorem rr_4 {n : Nat} (ih : RefRight n) (t : Tr (n + 1)) (d : Nat) (w : World) (na : Option Addr) (nl nc : Nat) (ka : Option Addr) (kl kc : Nat) (hk : Nd.k (K := Tr n) t = ((4 : Nat) : Int)) (hn : Nd.n (K := Tr n) t = 0) (wf : Wf (K := Tr n) t) (a1 : nl ≤ nc) (a2 : nc ≤ maxLen) (a3 : kl ≤ kc) (a4 : kc ≤ maxLen) (s1 : StrsAt w na nl (Nd.ns (K := Tr n) t)) (s2 : SeqAt (NodeAt w n) w ka kl (Nd.ks (K := Tr n) t)) (hd : d ≤ 60) (hz : sz (n + 1) t ≤ 2000000) :
    Calls Tryd.prog 16 #[ndv 4 0 (Nd.s (K := Tr n) t) na nl nc ka kl kc, .int .i64 d] w fun e w' => e = .returned (.bool (decide (dep (n + 1) t + d ≤ 61) && vl (n + 1) t)) ∧ BW w w' := by
  have hzz : ∀ x ∈ Nd.ks (K := Tr n) t, sz n x ≤ 2000000 := fun x hx => by have := sz_kid hx; omega
  have L1 : (Nd.ns (K := Tr n) t).length = nl := s1.1
  have L2 : (Nd.ks (K := Tr n) t).length = kl := s2.1
  have hm1 : nl ≤ 9223372036854775807 := by unfold maxLen at a2; omega
  have hm2 : kl ≤ 9223372036854775807 := by unfold maxLen at a4; omega
  have hsz : (Nd.s (K := Tr n) t).size ≤ 9223372036854775807 := by have := wf.s; unfold maxLen at this; omega
  have ev : vl (n + 1) t = rt (n + 1) t := by
    show (!isCl (Nd.k (K := Tr n) t) && rt (n + 1) t) = rt (n + 1) t
    rw [hk]; rfl
  obtain ⟨s, hs1, hs2⟩ := su_4
  have hsu := hs2 (Nd.n (K := Tr n) t) (Nd.s (K := Tr n) t) (Nd.ns (K := Tr n) t) kl wf.n0 wf.n1 hm2 (by rw [L1]; exact hm1)
  rw [hn] at hsu
  have e : (decide (dep (n + 1) t + d ≤ 61) && vl (n + 1) t) = (su s ((4 : Nat) : Int) (Nd.n (K := Tr n) t) (Nd.s (K := Tr n) t) (Nd.ns (K := Tr n) t) kl && ((Nd.ks (K := Tr n) t).all (kok n d))) := by rw [ev, rt_plain hk hs1 (by decide) d hd, L2]
  rw [hn] at e
  rw [e, hsu]
  rw [L1]
  clear e hsu hs1 hs2
  have e2 : (decide (Nd.s (K := Tr n) t = ⟨#[]⟩) && decide ((0 : Int) = 0) && decide (nl = 0) && decide (kl = 0) && ((Nd.ks (K := Tr n) t).all (kok n d))) = (decide (Nd.s (K := Tr n) t = ⟨#[]⟩) && (decide (kl = 0) && decide (nl = 0) && ((Nd.ks (K := Tr n) t).all (kok n d)))) := by
    rw [show decide ((0 : Int) = 0) = true from rfl]
    generalize decide (Nd.s (K := Tr n) t = ⟨#[]⟩) = b0; generalize decide (nl = 0) = b1; generalize ((Nd.ks (K := Tr n) t).all (kok n d)) = b2; generalize decide (kl = 0) = b3
    cases b0 <;> cases b1 <;> cases b2 <;> cases b3 <;> rfl
  rw [e2]
  exact right_4 w 0 _ na nl nc ka kl kc d hd hsz hm2 hm1 _ (fun w' hb => plain_of ih t na nl nc ka kl kc 0 d w' (s2.bw hb (fun _ _ hh => NodeAt.bw hb hh)) a3 a4 (by omega) hd hzz _ _ _)
theorem rr_5 {n : Nat} (ih : RefRight n) (t : Tr (n + 1)) (d : Nat) (w : World) (na : Option Addr) (nl nc : Nat) (ka : Option Addr) (kl kc : Nat) (hk : Nd.k (K := Tr n) t = ((5 : Nat) : Int)) (hn : Nd.n (K := Tr n) t = 0) (wf : Wf (K := Tr n) t) (a1 : nl ≤ nc) (a2 : nc ≤ maxLen) (a3 : kl ≤ kc) (a4 : kc ≤ maxLen) (s1 : StrsAt w na nl (Nd.ns (K := Tr n) t)) (s2 : SeqAt (NodeAt w n) w ka kl (Nd.ks (K := Tr n) t)) (hd : d ≤ 60) (hz : sz (n + 1) t ≤ 2000000) :
    Calls Tryd.prog 16 #[ndv 5 0 (Nd.s (K := Tr n) t) na nl nc ka kl kc, .int .i64 d] w fun e w' => e = .returned (.bool (decide (dep (n + 1) t + d ≤ 61) && vl (n + 1) t)) ∧ BW w w' := by
  have hzz : ∀ x ∈ Nd.ks (K := Tr n) t, sz n x ≤ 2000000 := fun x hx => by have := sz_kid hx; omega
  have L1 : (Nd.ns (K := Tr n) t).length = nl := s1.1
  have L2 : (Nd.ks (K := Tr n) t).length = kl := s2.1
  have hm1 : nl ≤ 9223372036854775807 := by unfold maxLen at a2; omega
  have hm2 : kl ≤ 9223372036854775807 := by unfold maxLen at a4; omega
  have hsz : (Nd.s (K := Tr n) t).size ≤ 9223372036854775807 := by have := wf.s; unfold maxLen at this; omega
  have ev : vl (n + 1) t = rt (n + 1) t := by
    show (!isCl (Nd.k (K := Tr n) t) && rt (n + 1) t) = rt (n + 1) t
    rw [hk]; rfl
  obtain ⟨s, hs1, hs2⟩ := su_5
  have hsu := hs2 (Nd.n (K := Tr n) t) (Nd.s (K := Tr n) t) (Nd.ns (K := Tr n) t) kl wf.n0 wf.n1 hm2 (by rw [L1]; exact hm1)
  rw [hn] at hsu
  have e : (decide (dep (n + 1) t + d ≤ 61) && vl (n + 1) t) = (su s ((5 : Nat) : Int) (Nd.n (K := Tr n) t) (Nd.s (K := Tr n) t) (Nd.ns (K := Tr n) t) kl && ((Nd.ks (K := Tr n) t).all (kok n d))) := by rw [ev, rt_plain hk hs1 (by decide) d hd, L2]
  rw [hn] at e
  rw [e, hsu]
  rw [L1]
  clear e hsu hs1 hs2
  have e2 : (nmB (Nd.s (K := Tr n) t) && decide ((0 : Int) = 0) && decide (nl = 0) && decide (kl = 0) && ((Nd.ks (K := Tr n) t).all (kok n d))) = (nmB (Nd.s (K := Tr n) t) && (decide (kl = 0) && decide (nl = 0) && ((Nd.ks (K := Tr n) t).all (kok n d)))) := by
    rw [show decide ((0 : Int) = 0) = true from rfl]
    generalize nmB (Nd.s (K := Tr n) t) = b0; generalize decide (nl = 0) = b1; generalize ((Nd.ks (K := Tr n) t).all (kok n d)) = b2; generalize decide (kl = 0) = b3
    cases b0 <;> cases b1 <;> cases b2 <;> cases b3 <;> rfl
  rw [e2]
  exact right_5 w 0 _ na nl nc ka kl kc d hd hsz hm2 hm1 _ (fun w' hb => plain_of ih t na nl nc ka kl kc 0 d w' (s2.bw hb (fun _ _ hh => NodeAt.bw hb hh)) a3 a4 (by omega) hd hzz _ _ _)
theorem rr_6 {n : Nat} (ih : RefRight n) (t : Tr (n + 1)) (d : Nat) (w : World) (na : Option Addr) (nl nc : Nat) (ka : Option Addr) (kl kc : Nat) (hk : Nd.k (K := Tr n) t = ((6 : Nat) : Int)) (hn : Nd.n (K := Tr n) t = 0) (wf : Wf (K := Tr n) t) (a1 : nl ≤ nc) (a2 : nc ≤ maxLen) (a3 : kl ≤ kc) (a4 : kc ≤ maxLen) (s1 : StrsAt w na nl (Nd.ns (K := Tr n) t)) (s2 : SeqAt (NodeAt w n) w ka kl (Nd.ks (K := Tr n) t)) (hd : d ≤ 60) (hz : sz (n + 1) t ≤ 2000000) :
    Calls Tryd.prog 16 #[ndv 6 0 (Nd.s (K := Tr n) t) na nl nc ka kl kc, .int .i64 d] w fun e w' => e = .returned (.bool (decide (dep (n + 1) t + d ≤ 61) && vl (n + 1) t)) ∧ BW w w' := by
  have hzz : ∀ x ∈ Nd.ks (K := Tr n) t, sz n x ≤ 2000000 := fun x hx => by have := sz_kid hx; omega
  have L1 : (Nd.ns (K := Tr n) t).length = nl := s1.1
  have L2 : (Nd.ks (K := Tr n) t).length = kl := s2.1
  have hm1 : nl ≤ 9223372036854775807 := by unfold maxLen at a2; omega
  have hm2 : kl ≤ 9223372036854775807 := by unfold maxLen at a4; omega
  have hsz : (Nd.s (K := Tr n) t).size ≤ 9223372036854775807 := by have := wf.s; unfold maxLen at this; omega
  have ev : vl (n + 1) t = rt (n + 1) t := by
    show (!isCl (Nd.k (K := Tr n) t) && rt (n + 1) t) = rt (n + 1) t
    rw [hk]; rfl
  obtain ⟨s, hs1, hs2⟩ := su_6
  have hsu := hs2 (Nd.n (K := Tr n) t) (Nd.s (K := Tr n) t) (Nd.ns (K := Tr n) t) kl wf.n0 wf.n1 hm2 (by rw [L1]; exact hm1)
  rw [hn] at hsu
  have e : (decide (dep (n + 1) t + d ≤ 61) && vl (n + 1) t) = (su s ((6 : Nat) : Int) (Nd.n (K := Tr n) t) (Nd.s (K := Tr n) t) (Nd.ns (K := Tr n) t) kl && ((Nd.ks (K := Tr n) t).all (kok n d))) := by rw [ev, rt_plain hk hs1 (by decide) d hd, L2]
  rw [hn] at e
  rw [e, hsu]
  clear e hsu hs1 hs2
  have e2 : (nmB (Nd.s (K := Tr n) t) && decide ((0 : Int) = 0) && ((Nd.ns (K := Tr n) t).all nmB && decide (Nd.ns (K := Tr n) t).Nodup) && decide (kl = 1) && ((Nd.ks (K := Tr n) t).all (kok n d))) = (nmB (Nd.s (K := Tr n) t) && ((Nd.ns (K := Tr n) t).all nmB && decide (Nd.ns (K := Tr n) t).Nodup) && decide (kl = 1) && ((Nd.ks (K := Tr n) t).take 1).all (kok n d)) := by
    by_cases h1 : kl = 1
    · rw [List.take_of_length_le (by rw [L2]; omega)]; simp
    · simp [h1]
  rw [e2]
  refine right_6 w 0 _ na nl nc ka kl kc d hd hsz hm2 hm1 _ _ (fun w' hb => names_any na nl nc _ w' (s1.bw hb) a1 a2) (fun h1 w' hb => ?_)
  exact values_of ih t na nl nc ka kl kc 1 d w' (s2.bw hb (fun _ _ hh => NodeAt.bw hb hh)) a3 a4 h1 hd hzz _ _ _
theorem rr_7 {n : Nat} (ih : RefRight n) (t : Tr (n + 1)) (d : Nat) (w : World) (na : Option Addr) (nl nc : Nat) (ka : Option Addr) (kl kc : Nat) (hk : Nd.k (K := Tr n) t = ((7 : Nat) : Int)) (hn : Nd.n (K := Tr n) t = 0) (wf : Wf (K := Tr n) t) (a1 : nl ≤ nc) (a2 : nc ≤ maxLen) (a3 : kl ≤ kc) (a4 : kc ≤ maxLen) (s1 : StrsAt w na nl (Nd.ns (K := Tr n) t)) (s2 : SeqAt (NodeAt w n) w ka kl (Nd.ks (K := Tr n) t)) (hd : d ≤ 60) (hz : sz (n + 1) t ≤ 2000000) :
    Calls Tryd.prog 16 #[ndv 7 0 (Nd.s (K := Tr n) t) na nl nc ka kl kc, .int .i64 d] w fun e w' => e = .returned (.bool (decide (dep (n + 1) t + d ≤ 61) && vl (n + 1) t)) ∧ BW w w' := by
  have hzz : ∀ x ∈ Nd.ks (K := Tr n) t, sz n x ≤ 2000000 := fun x hx => by have := sz_kid hx; omega
  have L1 : (Nd.ns (K := Tr n) t).length = nl := s1.1
  have L2 : (Nd.ks (K := Tr n) t).length = kl := s2.1
  have hm1 : nl ≤ 9223372036854775807 := by unfold maxLen at a2; omega
  have hm2 : kl ≤ 9223372036854775807 := by unfold maxLen at a4; omega
  have hsz : (Nd.s (K := Tr n) t).size ≤ 9223372036854775807 := by have := wf.s; unfold maxLen at this; omega
  have ev : vl (n + 1) t = rt (n + 1) t := by
    show (!isCl (Nd.k (K := Tr n) t) && rt (n + 1) t) = rt (n + 1) t
    rw [hk]; rfl
  obtain ⟨s, hs1, hs2⟩ := su_7
  have hsu := hs2 (Nd.n (K := Tr n) t) (Nd.s (K := Tr n) t) (Nd.ns (K := Tr n) t) kl wf.n0 wf.n1 hm2 (by rw [L1]; exact hm1)
  rw [hn] at hsu
  have e : (decide (dep (n + 1) t + d ≤ 61) && vl (n + 1) t) = (su s ((7 : Nat) : Int) (Nd.n (K := Tr n) t) (Nd.s (K := Tr n) t) (Nd.ns (K := Tr n) t) kl && ((Nd.ks (K := Tr n) t).all (kok n d))) := by rw [ev, rt_plain hk hs1 (by decide) d hd, L2]
  rw [hn] at e
  rw [e, hsu]
  rw [L1]
  clear e hsu hs1 hs2
  have e2 : (decide (Nd.s (K := Tr n) t = ⟨#[]⟩) && decide ((0 : Int) = 0) && decide (nl = 0) && decide (0 < kl) && ((Nd.ks (K := Tr n) t).all (kok n d))) = (decide (Nd.s (K := Tr n) t = ⟨#[]⟩) && decide (0 < kl) && (decide (kl = kl) && decide (nl = 0) && ((Nd.ks (K := Tr n) t).all (kok n d)))) := by
    rw [show decide ((0 : Int) = 0) = true from rfl]
    rw [show decide (kl = kl) = true from decide_eq_true rfl]
    generalize decide (Nd.s (K := Tr n) t = ⟨#[]⟩) = b0; generalize decide (nl = 0) = b1; generalize ((Nd.ks (K := Tr n) t).all (kok n d)) = b2; generalize decide (0 < kl) = b3
    cases b0 <;> cases b1 <;> cases b2 <;> cases b3 <;> rfl
  rw [e2]
  exact right_7 w 0 _ na nl nc ka kl kc d hd hsz hm2 hm1 _ (fun w' hb => plain_of ih t na nl nc ka kl kc kl d w' (s2.bw hb (fun _ _ hh => NodeAt.bw hb hh)) a3 a4 (by omega) hd hzz _ _ _)
theorem rr_8 {n : Nat} (ih : RefRight n) (t : Tr (n + 1)) (d : Nat) (w : World) (na : Option Addr) (nl nc : Nat) (ka : Option Addr) (kl kc : Nat) (hk : Nd.k (K := Tr n) t = ((8 : Nat) : Int)) (hn : Nd.n (K := Tr n) t = 0) (wf : Wf (K := Tr n) t) (a1 : nl ≤ nc) (a2 : nc ≤ maxLen) (a3 : kl ≤ kc) (a4 : kc ≤ maxLen) (s1 : StrsAt w na nl (Nd.ns (K := Tr n) t)) (s2 : SeqAt (NodeAt w n) w ka kl (Nd.ks (K := Tr n) t)) (hd : d ≤ 60) (hz : sz (n + 1) t ≤ 2000000) :
    Calls Tryd.prog 16 #[ndv 8 0 (Nd.s (K := Tr n) t) na nl nc ka kl kc, .int .i64 d] w fun e w' => e = .returned (.bool (decide (dep (n + 1) t + d ≤ 61) && vl (n + 1) t)) ∧ BW w w' := by
  have hzz : ∀ x ∈ Nd.ks (K := Tr n) t, sz n x ≤ 2000000 := fun x hx => by have := sz_kid hx; omega
  have L1 : (Nd.ns (K := Tr n) t).length = nl := s1.1
  have L2 : (Nd.ks (K := Tr n) t).length = kl := s2.1
  have hm1 : nl ≤ 9223372036854775807 := by unfold maxLen at a2; omega
  have hm2 : kl ≤ 9223372036854775807 := by unfold maxLen at a4; omega
  have hsz : (Nd.s (K := Tr n) t).size ≤ 9223372036854775807 := by have := wf.s; unfold maxLen at this; omega
  have ev : vl (n + 1) t = rt (n + 1) t := by
    show (!isCl (Nd.k (K := Tr n) t) && rt (n + 1) t) = rt (n + 1) t
    rw [hk]; rfl
  obtain ⟨s, hs1, hs2⟩ := su_8
  have hsu := hs2 (Nd.n (K := Tr n) t) (Nd.s (K := Tr n) t) (Nd.ns (K := Tr n) t) kl wf.n0 wf.n1 hm2 (by rw [L1]; exact hm1)
  rw [hn] at hsu
  have e : (decide (dep (n + 1) t + d ≤ 61) && vl (n + 1) t) = (su s ((8 : Nat) : Int) (Nd.n (K := Tr n) t) (Nd.s (K := Tr n) t) (Nd.ns (K := Tr n) t) kl && ((Nd.ks (K := Tr n) t).all (kok n d))) := by rw [ev, rt_plain hk hs1 (by decide) d hd, L2]
  rw [hn] at e
  rw [e, hsu]
  rw [L1]
  clear e hsu hs1 hs2
  have e2 : (nmB (Nd.s (K := Tr n) t) && decide ((0 : Int) = 0) && decide (nl = 0) && decide (kl = 2) && ((Nd.ks (K := Tr n) t).all (kok n d))) = (nmB (Nd.s (K := Tr n) t) && (decide (kl = 2) && decide (nl = 0) && ((Nd.ks (K := Tr n) t).all (kok n d)))) := by
    rw [show decide ((0 : Int) = 0) = true from rfl]
    generalize nmB (Nd.s (K := Tr n) t) = b0; generalize decide (nl = 0) = b1; generalize ((Nd.ks (K := Tr n) t).all (kok n d)) = b2; generalize decide (kl = 2) = b3
    cases b0 <;> cases b1 <;> cases b2 <;> cases b3 <;> rfl
  rw [e2]
  exact right_8 w 0 _ na nl nc ka kl kc d hd hsz hm2 hm1 _ (fun w' hb => plain_of ih t na nl nc ka kl kc 2 d w' (s2.bw hb (fun _ _ hh => NodeAt.bw hb hh)) a3 a4 (by omega) hd hzz _ _ _)
theorem rr_9 {n : Nat} (ih : RefRight n) (t : Tr (n + 1)) (d : Nat) (w : World) (na : Option Addr) (nl nc : Nat) (ka : Option Addr) (kl kc : Nat) (hk : Nd.k (K := Tr n) t = ((9 : Nat) : Int)) (hn : Nd.n (K := Tr n) t = 0) (wf : Wf (K := Tr n) t) (a1 : nl ≤ nc) (a2 : nc ≤ maxLen) (a3 : kl ≤ kc) (a4 : kc ≤ maxLen) (s1 : StrsAt w na nl (Nd.ns (K := Tr n) t)) (s2 : SeqAt (NodeAt w n) w ka kl (Nd.ks (K := Tr n) t)) (hd : d ≤ 60) (hz : sz (n + 1) t ≤ 2000000) :
    Calls Tryd.prog 16 #[ndv 9 0 (Nd.s (K := Tr n) t) na nl nc ka kl kc, .int .i64 d] w fun e w' => e = .returned (.bool (decide (dep (n + 1) t + d ≤ 61) && vl (n + 1) t)) ∧ BW w w' := by
  have hzz : ∀ x ∈ Nd.ks (K := Tr n) t, sz n x ≤ 2000000 := fun x hx => by have := sz_kid hx; omega
  have L1 : (Nd.ns (K := Tr n) t).length = nl := s1.1
  have L2 : (Nd.ks (K := Tr n) t).length = kl := s2.1
  have hm1 : nl ≤ 9223372036854775807 := by unfold maxLen at a2; omega
  have hm2 : kl ≤ 9223372036854775807 := by unfold maxLen at a4; omega
  have hsz : (Nd.s (K := Tr n) t).size ≤ 9223372036854775807 := by have := wf.s; unfold maxLen at this; omega
  have ev : vl (n + 1) t = rt (n + 1) t := by
    show (!isCl (Nd.k (K := Tr n) t) && rt (n + 1) t) = rt (n + 1) t
    rw [hk]; rfl
  obtain ⟨s, hs1, hs2⟩ := su_9
  have hsu := hs2 (Nd.n (K := Tr n) t) (Nd.s (K := Tr n) t) (Nd.ns (K := Tr n) t) kl wf.n0 wf.n1 hm2 (by rw [L1]; exact hm1)
  rw [hn] at hsu
  have e : (decide (dep (n + 1) t + d ≤ 61) && vl (n + 1) t) = (su s ((9 : Nat) : Int) (Nd.n (K := Tr n) t) (Nd.s (K := Tr n) t) (Nd.ns (K := Tr n) t) kl && ((Nd.ks (K := Tr n) t).all (kok n d))) := by rw [ev, rt_plain hk hs1 (by decide) d hd, L2]
  rw [hn] at e
  rw [e, hsu]
  rw [L1]
  clear e hsu hs1 hs2
  have e2 : (decide (Nd.s (K := Tr n) t = ⟨#[]⟩) && decide ((0 : Int) = 0) && decide (nl = 0) && decide (kl = 3) && ((Nd.ks (K := Tr n) t).all (kok n d))) = (decide (Nd.s (K := Tr n) t = ⟨#[]⟩) && (decide (kl = 3) && decide (nl = 0) && ((Nd.ks (K := Tr n) t).all (kok n d)))) := by
    rw [show decide ((0 : Int) = 0) = true from rfl]
    generalize decide (Nd.s (K := Tr n) t = ⟨#[]⟩) = b0; generalize decide (nl = 0) = b1; generalize ((Nd.ks (K := Tr n) t).all (kok n d)) = b2; generalize decide (kl = 3) = b3
    cases b0 <;> cases b1 <;> cases b2 <;> cases b3 <;> rfl
  rw [e2]
  exact right_9 w 0 _ na nl nc ka kl kc d hd hsz hm2 hm1 _ (fun w' hb => plain_of ih t na nl nc ka kl kc 3 d w' (s2.bw hb (fun _ _ hh => NodeAt.bw hb hh)) a3 a4 (by omega) hd hzz _ _ _)
theorem rr_10 {n : Nat} (ih : RefRight n) (t : Tr (n + 1)) (d : Nat) (w : World) (na : Option Addr) (nl nc : Nat) (ka : Option Addr) (kl kc : Nat) (hk : Nd.k (K := Tr n) t = ((10 : Nat) : Int)) (hn : Nd.n (K := Tr n) t = 0) (wf : Wf (K := Tr n) t) (a1 : nl ≤ nc) (a2 : nc ≤ maxLen) (a3 : kl ≤ kc) (a4 : kc ≤ maxLen) (s1 : StrsAt w na nl (Nd.ns (K := Tr n) t)) (s2 : SeqAt (NodeAt w n) w ka kl (Nd.ks (K := Tr n) t)) (hd : d ≤ 60) (hz : sz (n + 1) t ≤ 2000000) :
    Calls Tryd.prog 16 #[ndv 10 0 (Nd.s (K := Tr n) t) na nl nc ka kl kc, .int .i64 d] w fun e w' => e = .returned (.bool (decide (dep (n + 1) t + d ≤ 61) && vl (n + 1) t)) ∧ BW w w' := by
  have hzz : ∀ x ∈ Nd.ks (K := Tr n) t, sz n x ≤ 2000000 := fun x hx => by have := sz_kid hx; omega
  have L1 : (Nd.ns (K := Tr n) t).length = nl := s1.1
  have L2 : (Nd.ks (K := Tr n) t).length = kl := s2.1
  have hm1 : nl ≤ 9223372036854775807 := by unfold maxLen at a2; omega
  have hm2 : kl ≤ 9223372036854775807 := by unfold maxLen at a4; omega
  have hsz : (Nd.s (K := Tr n) t).size ≤ 9223372036854775807 := by have := wf.s; unfold maxLen at this; omega
  have ev : vl (n + 1) t = rt (n + 1) t := by
    show (!isCl (Nd.k (K := Tr n) t) && rt (n + 1) t) = rt (n + 1) t
    rw [hk]; rfl
  obtain ⟨s, hs1, hs2⟩ := su_10
  have hsu := hs2 (Nd.n (K := Tr n) t) (Nd.s (K := Tr n) t) (Nd.ns (K := Tr n) t) kl wf.n0 wf.n1 hm2 (by rw [L1]; exact hm1)
  rw [hn] at hsu
  have e : (decide (dep (n + 1) t + d ≤ 61) && vl (n + 1) t) = (su s ((10 : Nat) : Int) (Nd.n (K := Tr n) t) (Nd.s (K := Tr n) t) (Nd.ns (K := Tr n) t) kl && ((Nd.ks (K := Tr n) t).all (kok n d))) := by rw [ev, rt_plain hk hs1 (by decide) d hd, L2]
  rw [hn] at e
  rw [e, hsu]
  rw [L1]
  clear e hsu hs1 hs2
  have e2 : (decide (Nd.s (K := Tr n) t = ⟨#[]⟩) && decide ((0 : Int) = 0) && decide (nl = 0) && decide (0 < kl) && ((Nd.ks (K := Tr n) t).all (kok n d))) = (decide (Nd.s (K := Tr n) t = ⟨#[]⟩) && decide (0 < kl) && (decide (kl = kl) && decide (nl = 0) && ((Nd.ks (K := Tr n) t).all (kok n d)))) := by
    rw [show decide ((0 : Int) = 0) = true from rfl]
    rw [show decide (kl = kl) = true from decide_eq_true rfl]
    generalize decide (Nd.s (K := Tr n) t = ⟨#[]⟩) = b0; generalize decide (nl = 0) = b1; generalize ((Nd.ks (K := Tr n) t).all (kok n d)) = b2; generalize decide (0 < kl) = b3
    cases b0 <;> cases b1 <;> cases b2 <;> cases b3 <;> rfl
  rw [e2]
  exact right_10 w 0 _ na nl nc ka kl kc d hd hsz hm2 hm1 _ (fun w' hb => plain_of ih t na nl nc ka kl kc kl d w' (s2.bw hb (fun _ _ hh => NodeAt.bw hb hh)) a3 a4 (by omega) hd hzz _ _ _)
theorem rr_11 {n : Nat} (ih : RefRight n) (t : Tr (n + 1)) (d : Nat) (w : World) (na : Option Addr) (nl nc : Nat) (ka : Option Addr) (kl kc : Nat) (hk : Nd.k (K := Tr n) t = ((11 : Nat) : Int)) (hn : Nd.n (K := Tr n) t = 0) (wf : Wf (K := Tr n) t) (a1 : nl ≤ nc) (a2 : nc ≤ maxLen) (a3 : kl ≤ kc) (a4 : kc ≤ maxLen) (s1 : StrsAt w na nl (Nd.ns (K := Tr n) t)) (s2 : SeqAt (NodeAt w n) w ka kl (Nd.ks (K := Tr n) t)) (hd : d ≤ 60) (hz : sz (n + 1) t ≤ 2000000) :
    Calls Tryd.prog 16 #[ndv 11 0 (Nd.s (K := Tr n) t) na nl nc ka kl kc, .int .i64 d] w fun e w' => e = .returned (.bool (decide (dep (n + 1) t + d ≤ 61) && vl (n + 1) t)) ∧ BW w w' := by
  have hzz : ∀ x ∈ Nd.ks (K := Tr n) t, sz n x ≤ 2000000 := fun x hx => by have := sz_kid hx; omega
  have L1 : (Nd.ns (K := Tr n) t).length = nl := s1.1
  have L2 : (Nd.ks (K := Tr n) t).length = kl := s2.1
  have hm1 : nl ≤ 9223372036854775807 := by unfold maxLen at a2; omega
  have hm2 : kl ≤ 9223372036854775807 := by unfold maxLen at a4; omega
  have hsz : (Nd.s (K := Tr n) t).size ≤ 9223372036854775807 := by have := wf.s; unfold maxLen at this; omega
  have ev : vl (n + 1) t = rt (n + 1) t := by
    show (!isCl (Nd.k (K := Tr n) t) && rt (n + 1) t) = rt (n + 1) t
    rw [hk]; rfl
  obtain ⟨s, hs1, hs2⟩ := su_11
  have hsu := hs2 (Nd.n (K := Tr n) t) (Nd.s (K := Tr n) t) (Nd.ns (K := Tr n) t) kl wf.n0 wf.n1 hm2 (by rw [L1]; exact hm1)
  rw [hn] at hsu
  have e : (decide (dep (n + 1) t + d ≤ 61) && vl (n + 1) t) = (su s ((11 : Nat) : Int) (Nd.n (K := Tr n) t) (Nd.s (K := Tr n) t) (Nd.ns (K := Tr n) t) kl && ((Nd.ks (K := Tr n) t).all (kok n d))) := by rw [ev, rt_plain hk hs1 (by decide) d hd, L2]
  rw [hn] at e
  rw [e, hsu]
  rw [L1]
  clear e hsu hs1 hs2
  have e2 : (decide (0 ≤ tk (Nd.s (K := Tr n) t).data.toList) && decide ((0 : Int) = 0) && decide (nl = 0) && decide ((kl : Int) = tk (Nd.s (K := Tr n) t).data.toList) && ((Nd.ks (K := Tr n) t).all (kok n d))) = (decide (0 ≤ tk (Nd.s (K := Tr n) t).data.toList) && (decide (kl = (tk (Nd.s (K := Tr n) t).data.toList).toNat) && decide (nl = 0) && ((Nd.ks (K := Tr n) t).all (kok n d)))) := by
    by_cases h0 : 0 ≤ tk (Nd.s (K := Tr n) t).data.toList
    · have e3 : decide ((kl : Int) = tk (Nd.s (K := Tr n) t).data.toList) = decide (kl = (tk (Nd.s (K := Tr n) t).data.toList).toNat) := by
        refine beq_iff ?_
        simp only [decide_eq_true_eq]
        omega
      rw [e3]
      generalize decide (0 ≤ tk (Nd.s (K := Tr n) t).data.toList) = b1; generalize decide (nl = 0) = b2; generalize decide (kl = (tk (Nd.s (K := Tr n) t).data.toList).toNat) = b3; generalize ((Nd.ks (K := Tr n) t).all (kok n d)) = b4
      cases b1 <;> cases b2 <;> cases b3 <;> cases b4 <;> rfl
    · simp [h0]
  rw [e2]
  refine right_11 w 0 _ na nl nc ka kl kc d hd hsz hm2 hm1 _ (fun h0 w' hb => ?_)
  have := plain_of ih t na nl nc ka kl kc (tk (Nd.s (K := Tr n) t).data.toList).toNat d w' (s2.bw hb (fun _ _ hh => NodeAt.bw hb hh)) a3 a4 (by omega) hd hzz 11 0 (Nd.s (K := Tr n) t)
  rw [Int.toNat_of_nonneg h0] at this
  exact this
theorem rr_12 {n : Nat} (ih : RefRight n) (t : Tr (n + 1)) (d : Nat) (w : World) (na : Option Addr) (nl nc : Nat) (ka : Option Addr) (kl kc : Nat) (hk : Nd.k (K := Tr n) t = ((12 : Nat) : Int)) (hn : Nd.n (K := Tr n) t = 0) (wf : Wf (K := Tr n) t) (a1 : nl ≤ nc) (a2 : nc ≤ maxLen) (a3 : kl ≤ kc) (a4 : kc ≤ maxLen) (s1 : StrsAt w na nl (Nd.ns (K := Tr n) t)) (s2 : SeqAt (NodeAt w n) w ka kl (Nd.ks (K := Tr n) t)) (hd : d ≤ 60) (hz : sz (n + 1) t ≤ 2000000) :
    Calls Tryd.prog 16 #[ndv 12 0 (Nd.s (K := Tr n) t) na nl nc ka kl kc, .int .i64 d] w fun e w' => e = .returned (.bool (decide (dep (n + 1) t + d ≤ 61) && vl (n + 1) t)) ∧ BW w w' := by
  have hzz : ∀ x ∈ Nd.ks (K := Tr n) t, sz n x ≤ 2000000 := fun x hx => by have := sz_kid hx; omega
  have L1 : (Nd.ns (K := Tr n) t).length = nl := s1.1
  have L2 : (Nd.ks (K := Tr n) t).length = kl := s2.1
  have hm1 : nl ≤ 9223372036854775807 := by unfold maxLen at a2; omega
  have hm2 : kl ≤ 9223372036854775807 := by unfold maxLen at a4; omega
  have hsz : (Nd.s (K := Tr n) t).size ≤ 9223372036854775807 := by have := wf.s; unfold maxLen at this; omega
  have ev : vl (n + 1) t = rt (n + 1) t := by
    show (!isCl (Nd.k (K := Tr n) t) && rt (n + 1) t) = rt (n + 1) t
    rw [hk]; rfl
  obtain ⟨s, hs1, hs2⟩ := su_12
  have hsu := hs2 (Nd.n (K := Tr n) t) (Nd.s (K := Tr n) t) (Nd.ns (K := Tr n) t) kl wf.n0 wf.n1 hm2 (by rw [L1]; exact hm1)
  rw [hn] at hsu
  have e : (decide (dep (n + 1) t + d ≤ 61) && vl (n + 1) t) = (su s ((12 : Nat) : Int) (Nd.n (K := Tr n) t) (Nd.s (K := Tr n) t) (Nd.ns (K := Tr n) t) kl && ((Nd.ks (K := Tr n) t).all (kok n d))) := by rw [ev, rt_plain hk hs1 (by decide) d hd, L2]
  rw [hn] at e
  rw [e, hsu]
  rw [L1]
  clear e hsu hs1 hs2
  have e2 : (nmB (Nd.s (K := Tr n) t) && decide ((0 : Int) = 0) && decide (nl = 0) && decide (kl = 1) && ((Nd.ks (K := Tr n) t).all (kok n d))) = (nmB (Nd.s (K := Tr n) t) && (decide (kl = 1) && decide (nl = 0) && ((Nd.ks (K := Tr n) t).all (kok n d)))) := by
    rw [show decide ((0 : Int) = 0) = true from rfl]
    generalize nmB (Nd.s (K := Tr n) t) = b0; generalize decide (nl = 0) = b1; generalize ((Nd.ks (K := Tr n) t).all (kok n d)) = b2; generalize decide (kl = 1) = b3
    cases b0 <;> cases b1 <;> cases b2 <;> cases b3 <;> rfl
  rw [e2]
  exact right_12 w 0 _ na nl nc ka kl kc d hd hsz hm2 hm1 _ (fun w' hb => plain_of ih t na nl nc ka kl kc 1 d w' (s2.bw hb (fun _ _ hh => NodeAt.bw hb hh)) a3 a4 (by omega) hd hzz _ _ _)
theorem rr_13 {n : Nat} (ih : RefRight n) (ihc : RefClause n) (t : Tr (n + 1)) (d : Nat) (w : World) (na : Option Addr) (nl nc : Nat) (ka : Option Addr) (kl kc : Nat) (hk : Nd.k (K := Tr n) t = ((13 : Nat) : Int)) (hn : Nd.n (K := Tr n) t = 0) (wf : Wf (K := Tr n) t) (a1 : nl ≤ nc) (a2 : nc ≤ maxLen) (a3 : kl ≤ kc) (a4 : kc ≤ maxLen) (s1 : StrsAt w na nl (Nd.ns (K := Tr n) t)) (s2 : SeqAt (NodeAt w n) w ka kl (Nd.ks (K := Tr n) t)) (hd : d ≤ 60) (hz : sz (n + 1) t ≤ 2000000) :
    Calls Tryd.prog 16 #[ndv 13 0 (Nd.s (K := Tr n) t) na nl nc ka kl kc, .int .i64 d] w fun e w' => e = .returned (.bool (decide (dep (n + 1) t + d ≤ 61) && vl (n + 1) t)) ∧ BW w w' := by
  have hzz : ∀ x ∈ Nd.ks (K := Tr n) t, sz n x ≤ 2000000 := fun x hx => by have := sz_kid hx; omega
  have L1 : (Nd.ns (K := Tr n) t).length = nl := s1.1
  have L2 : (Nd.ks (K := Tr n) t).length = kl := s2.1
  have hm1 : nl ≤ 9223372036854775807 := by unfold maxLen at a2; omega
  have hm2 : kl ≤ 9223372036854775807 := by unfold maxLen at a4; omega
  have hsz : (Nd.s (K := Tr n) t).size ≤ 9223372036854775807 := by have := wf.s; unfold maxLen at this; omega
  have ev : vl (n + 1) t = rt (n + 1) t := by
    show (!isCl (Nd.k (K := Tr n) t) && rt (n + 1) t) = rt (n + 1) t
    rw [hk]; rfl
  obtain ⟨s, hs1, hs2⟩ := su_13
  have hsu := hs2 (Nd.n (K := Tr n) t) (Nd.s (K := Tr n) t) (Nd.ns (K := Tr n) t) kl wf.n0 wf.n1 hm2 (by rw [L1]; exact hm1)
  rw [hn] at hsu
  have e : (decide (dep (n + 1) t + d ≤ 61) && vl (n + 1) t) = (decide (Nd.s (K := Tr n) t = ⟨#[]⟩) && decide (0 < kl) && decide (nl = 0) && ((Nd.ks (K := Tr n) t).take 1).all (kok n d) && clsD n d 16 [] ((Nd.ks (K := Tr n) t).drop 1)) := by
    rw [ev, rt_handle hk hs1 d hd, L2, clsG_16, hn]
    have hsu' : su s 13 0 (Nd.s (K := Tr n) t) (Nd.ns (K := Tr n) t) kl = _ := hsu
    rw [hsu', L1]
    unfold clsD
    generalize decide (Nd.s (K := Tr n) t = ⟨#[]⟩) = b1; generalize decide (nl = 0) = b2; generalize decide (0 < kl) = b3; generalize ((Nd.ks (K := Tr n) t).take 1).all (kok n d) = b4
    cases b1 <;> cases b2 <;> cases b3 <;> cases b4 <;> simp
  rw [e]
  have hkl : kl ≤ 2000000 := by have := ks_sz t; omega
  exact right_13 w 0 _ na nl nc ka kl kc d hd hsz hm2 hm1 _ _ (fun h1 w' hb => values_of ih t na nl nc ka kl kc 1 d w' (s2.bw hb (fun _ _ hh => NodeAt.bw hb hh)) a3 a4 h1 hd hzz _ _ _) (fun h1 w' hb => refClauses_of ihc (Nd.ks (K := Tr n) t) na nl nc ka kl kc d w' (s2.bw hb (fun _ _ hh => NodeAt.bw hb hh)) a3 hkl hd h1 hzz _ _ _)
theorem rr_14 {n : Nat} (ih : RefRight n) (t : Tr (n + 1)) (d : Nat) (w : World) (na : Option Addr) (nl nc : Nat) (ka : Option Addr) (kl kc : Nat) (hk : Nd.k (K := Tr n) t = ((14 : Nat) : Int)) (hn : Nd.n (K := Tr n) t = 0) (wf : Wf (K := Tr n) t) (a1 : nl ≤ nc) (a2 : nc ≤ maxLen) (a3 : kl ≤ kc) (a4 : kc ≤ maxLen) (s1 : StrsAt w na nl (Nd.ns (K := Tr n) t)) (s2 : SeqAt (NodeAt w n) w ka kl (Nd.ks (K := Tr n) t)) (hd : d ≤ 60) (hz : sz (n + 1) t ≤ 2000000) :
    Calls Tryd.prog 16 #[ndv 14 0 (Nd.s (K := Tr n) t) na nl nc ka kl kc, .int .i64 d] w fun e w' => e = .returned (.bool (decide (dep (n + 1) t + d ≤ 61) && vl (n + 1) t)) ∧ BW w w' := by
  have hzz : ∀ x ∈ Nd.ks (K := Tr n) t, sz n x ≤ 2000000 := fun x hx => by have := sz_kid hx; omega
  have L1 : (Nd.ns (K := Tr n) t).length = nl := s1.1
  have L2 : (Nd.ks (K := Tr n) t).length = kl := s2.1
  have hm1 : nl ≤ 9223372036854775807 := by unfold maxLen at a2; omega
  have hm2 : kl ≤ 9223372036854775807 := by unfold maxLen at a4; omega
  have hsz : (Nd.s (K := Tr n) t).size ≤ 9223372036854775807 := by have := wf.s; unfold maxLen at this; omega
  have ev : vl (n + 1) t = rt (n + 1) t := by
    show (!isCl (Nd.k (K := Tr n) t) && rt (n + 1) t) = rt (n + 1) t
    rw [hk]; rfl
  obtain ⟨s, hs1, hs2⟩ := su_14
  have hsu := hs2 (Nd.n (K := Tr n) t) (Nd.s (K := Tr n) t) (Nd.ns (K := Tr n) t) kl wf.n0 wf.n1 hm2 (by rw [L1]; exact hm1)
  rw [hn] at hsu
  have e : (decide (dep (n + 1) t + d ≤ 61) && vl (n + 1) t) = (su s ((14 : Nat) : Int) (Nd.n (K := Tr n) t) (Nd.s (K := Tr n) t) (Nd.ns (K := Tr n) t) kl && ((Nd.ks (K := Tr n) t).all (kok n d))) := by rw [ev, rt_plain hk hs1 (by decide) d hd, L2]
  rw [hn] at e
  rw [e, hsu]
  rw [L1]
  clear e hsu hs1 hs2
  have e2 : (decide (Nd.s (K := Tr n) t = ⟨#[]⟩) && decide ((0 : Int) = 0) && decide (nl = 0) && decide (kl = 2) && ((Nd.ks (K := Tr n) t).all (kok n d))) = (decide (Nd.s (K := Tr n) t = ⟨#[]⟩) && (decide (kl = 2) && decide (nl = 0) && ((Nd.ks (K := Tr n) t).all (kok n d)))) := by
    rw [show decide ((0 : Int) = 0) = true from rfl]
    generalize decide (Nd.s (K := Tr n) t = ⟨#[]⟩) = b0; generalize decide (nl = 0) = b1; generalize ((Nd.ks (K := Tr n) t).all (kok n d)) = b2; generalize decide (kl = 2) = b3
    cases b0 <;> cases b1 <;> cases b2 <;> cases b3 <;> rfl
  rw [e2]
  exact right_14 w 0 _ na nl nc ka kl kc d hd hsz hm2 hm1 _ (fun w' hb => plain_of ih t na nl nc ka kl kc 2 d w' (s2.bw hb (fun _ _ hh => NodeAt.bw hb hh)) a3 a4 (by omega) hd hzz _ _ _)
theorem rr_15 {n : Nat} (ih : RefRight n) (t : Tr (n + 1)) (d : Nat) (w : World) (na : Option Addr) (nl nc : Nat) (ka : Option Addr) (kl kc : Nat) (hk : Nd.k (K := Tr n) t = ((15 : Nat) : Int)) (hn : Nd.n (K := Tr n) t = 0) (wf : Wf (K := Tr n) t) (a1 : nl ≤ nc) (a2 : nc ≤ maxLen) (a3 : kl ≤ kc) (a4 : kc ≤ maxLen) (s1 : StrsAt w na nl (Nd.ns (K := Tr n) t)) (s2 : SeqAt (NodeAt w n) w ka kl (Nd.ks (K := Tr n) t)) (hd : d ≤ 60) (hz : sz (n + 1) t ≤ 2000000) :
    Calls Tryd.prog 16 #[ndv 15 0 (Nd.s (K := Tr n) t) na nl nc ka kl kc, .int .i64 d] w fun e w' => e = .returned (.bool (decide (dep (n + 1) t + d ≤ 61) && vl (n + 1) t)) ∧ BW w w' := by
  have hzz : ∀ x ∈ Nd.ks (K := Tr n) t, sz n x ≤ 2000000 := fun x hx => by have := sz_kid hx; omega
  have L1 : (Nd.ns (K := Tr n) t).length = nl := s1.1
  have L2 : (Nd.ks (K := Tr n) t).length = kl := s2.1
  have hm1 : nl ≤ 9223372036854775807 := by unfold maxLen at a2; omega
  have hm2 : kl ≤ 9223372036854775807 := by unfold maxLen at a4; omega
  have hsz : (Nd.s (K := Tr n) t).size ≤ 9223372036854775807 := by have := wf.s; unfold maxLen at this; omega
  have ev : vl (n + 1) t = rt (n + 1) t := by
    show (!isCl (Nd.k (K := Tr n) t) && rt (n + 1) t) = rt (n + 1) t
    rw [hk]; rfl
  obtain ⟨s, hs1, hs2⟩ := su_15
  have hsu := hs2 (Nd.n (K := Tr n) t) (Nd.s (K := Tr n) t) (Nd.ns (K := Tr n) t) kl wf.n0 wf.n1 hm2 (by rw [L1]; exact hm1)
  rw [hn] at hsu
  have e : (decide (dep (n + 1) t + d ≤ 61) && vl (n + 1) t) = (su s ((15 : Nat) : Int) (Nd.n (K := Tr n) t) (Nd.s (K := Tr n) t) (Nd.ns (K := Tr n) t) kl && ((Nd.ks (K := Tr n) t).all (kok n d))) := by rw [ev, rt_plain hk hs1 (by decide) d hd, L2]
  rw [hn] at e
  rw [e, hsu]
  rw [L1]
  clear e hsu hs1 hs2
  have e2 : (decide (Nd.s (K := Tr n) t = ⟨#[]⟩) && decide ((0 : Int) = 0) && decide (nl = 0) && decide (kl = 2) && ((Nd.ks (K := Tr n) t).all (kok n d))) = (decide (Nd.s (K := Tr n) t = ⟨#[]⟩) && (decide (kl = 2) && decide (nl = 0) && ((Nd.ks (K := Tr n) t).all (kok n d)))) := by
    rw [show decide ((0 : Int) = 0) = true from rfl]
    generalize decide (Nd.s (K := Tr n) t = ⟨#[]⟩) = b0; generalize decide (nl = 0) = b1; generalize ((Nd.ks (K := Tr n) t).all (kok n d)) = b2; generalize decide (kl = 2) = b3
    cases b0 <;> cases b1 <;> cases b2 <;> cases b3 <;> rfl
  rw [e2]
  exact right_15 w 0 _ na nl nc ka kl kc d hd hsz hm2 hm1 _ (fun w' hb => plain_of ih t na nl nc ka kl kc 2 d w' (s2.bw hb (fun _ _ hh => NodeAt.bw hb hh)) a3 a4 (by omega) hd hzz _ _ _)
theorem rr_16 {n : Nat} (ih : RefRight n) (t : Tr (n + 1)) (d : Nat) (w : World) (na : Option Addr) (nl nc : Nat) (ka : Option Addr) (kl kc : Nat) (hk : Nd.k (K := Tr n) t = ((16 : Nat) : Int)) (hn : Nd.n (K := Tr n) t = 0) (wf : Wf (K := Tr n) t) (a1 : nl ≤ nc) (a2 : nc ≤ maxLen) (a3 : kl ≤ kc) (a4 : kc ≤ maxLen) (s1 : StrsAt w na nl (Nd.ns (K := Tr n) t)) (s2 : SeqAt (NodeAt w n) w ka kl (Nd.ks (K := Tr n) t)) (hd : d ≤ 60) (hz : sz (n + 1) t ≤ 2000000) :
    Calls Tryd.prog 16 #[ndv 16 0 (Nd.s (K := Tr n) t) na nl nc ka kl kc, .int .i64 d] w fun e w' => e = .returned (.bool (decide (dep (n + 1) t + d ≤ 61) && vl (n + 1) t)) ∧ BW w w' := by
  have hzz : ∀ x ∈ Nd.ks (K := Tr n) t, sz n x ≤ 2000000 := fun x hx => by have := sz_kid hx; omega
  have L1 : (Nd.ns (K := Tr n) t).length = nl := s1.1
  have L2 : (Nd.ks (K := Tr n) t).length = kl := s2.1
  have hm1 : nl ≤ 9223372036854775807 := by unfold maxLen at a2; omega
  have hm2 : kl ≤ 9223372036854775807 := by unfold maxLen at a4; omega
  have hsz : (Nd.s (K := Tr n) t).size ≤ 9223372036854775807 := by have := wf.s; unfold maxLen at this; omega
  have ev : vl (n + 1) t = rt (n + 1) t := by
    show (!isCl (Nd.k (K := Tr n) t) && rt (n + 1) t) = rt (n + 1) t
    rw [hk]; rfl
  obtain ⟨s, hs1, hs2⟩ := su_16
  have hsu := hs2 (Nd.n (K := Tr n) t) (Nd.s (K := Tr n) t) (Nd.ns (K := Tr n) t) kl wf.n0 wf.n1 hm2 (by rw [L1]; exact hm1)
  rw [hn] at hsu
  have e : (decide (dep (n + 1) t + d ≤ 61) && vl (n + 1) t) = (su s ((16 : Nat) : Int) (Nd.n (K := Tr n) t) (Nd.s (K := Tr n) t) (Nd.ns (K := Tr n) t) kl && ((Nd.ks (K := Tr n) t).all (kok n d))) := by rw [ev, rt_plain hk hs1 (by decide) d hd, L2]
  rw [hn] at e
  rw [e, hsu]
  rw [L1]
  clear e hsu hs1 hs2
  have e2 : (decide (Nd.s (K := Tr n) t = ⟨#[]⟩) && decide ((0 : Int) = 0) && decide (nl = 0) && decide (kl = 3) && ((Nd.ks (K := Tr n) t).all (kok n d))) = (decide (Nd.s (K := Tr n) t = ⟨#[]⟩) && (decide (kl = 3) && decide (nl = 0) && ((Nd.ks (K := Tr n) t).all (kok n d)))) := by
    rw [show decide ((0 : Int) = 0) = true from rfl]
    generalize decide (Nd.s (K := Tr n) t = ⟨#[]⟩) = b0; generalize decide (nl = 0) = b1; generalize ((Nd.ks (K := Tr n) t).all (kok n d)) = b2; generalize decide (kl = 3) = b3
    cases b0 <;> cases b1 <;> cases b2 <;> cases b3 <;> rfl
  rw [e2]
  exact right_16 w 0 _ na nl nc ka kl kc d hd hsz hm2 hm1 _ (fun w' hb => plain_of ih t na nl nc ka kl kc 3 d w' (s2.bw hb (fun _ _ hh => NodeAt.bw hb hh)) a3 a4 (by omega) hd hzz _ _ _)
theorem vl_lo {n : Nat} {t : Tr (n + 1)} (h : ¬ (1 ≤ knd (n + 1) t ∧ knd (n + 1) t ≤ 16)) : vl (n + 1) t = false := by
  by_cases h16 : 16 < knd (n + 1) t
  · exact vl_hi h16
  · cases hv : vl (n + 1) t with
    | false => rfl
    | true =>
      exfalso
      simp only [vl, Bool.and_eq_true] at hv
      have := rt_shp hv.2
      omega
theorem rt_n {n : Nat} {t : Tr (n + 1)} (h0 : ¬ Nd.n (K := Tr n) t = 0) (h1 : ¬ Nd.k (K := Tr n) t = 1) (h2 : ¬ Nd.k (K := Tr n) t = 2) : rt (n + 1) t = false := by
  cases hv : rt (n + 1) t with
  | false => rfl
  | true =>
    exfalso
    obtain ⟨⟨s, hs, hsu⟩, _⟩ := rt_kids hv
    have hr := rt_shp hv
    have hr1 : 1 ≤ Nd.k (K := Tr n) t := hr.1
    have hr2 : Nd.k (K := Tr n) t ≤ 19 := hr.2
    obtain ⟨_, ⟨h3, h4⟩, _⟩ := su_all hsu
    obtain ⟨k, hk⟩ : ∃ k : Nat, Nd.k (K := Tr n) t = k := ⟨(Nd.k (K := Tr n) t).toNat, by omega⟩
    rw [hk, Int.toNat_natCast] at hs
    rcases (by omega : k = 3 ∨ k = 4 ∨ k = 5 ∨ k = 6 ∨ k = 7 ∨ k = 8 ∨ k = 9 ∨ k = 10 ∨ k = 11 ∨ k = 12 ∨ k = 13 ∨ k = 14 ∨ k = 15 ∨ k = 16 ∨ k = 17 ∨ k = 18 ∨ k = 19) with rfl | rfl | rfl | rfl | rfl | rfl | rfl | rfl | rfl | rfl | rfl | rfl | rfl | rfl | rfl | rfl | rfl <;> (cases hs; simp only at h3 h4; omega)
theorem refRight_both : ∀ n, RefRight n ∧ RefClause n := by
  intro n
  induction n with
  | zero => exact ⟨fun v t => t.elim, fun v t => t.elim⟩
  | succ n ih =>
    obtain ⟨ih, ihc⟩ := ih
    refine ⟨?_, fun v t d w h hd hz hk => refClause_of ih v t d w h hd hz hk⟩
    intro v t d w h hd hz
    obtain ⟨na, nl, nc, ka, kl, kc, rfl, wf, a1, a2, a3, a4, s1, s2⟩ := h
    by_cases h60 : d ≤ 60
    · by_cases hin : 1 ≤ Nd.k (K := Tr n) t ∧ Nd.k (K := Tr n) t ≤ 16
      · obtain ⟨k, hk⟩ : ∃ k : Nat, Nd.k (K := Tr n) t = k := ⟨(Nd.k (K := Tr n) t).toNat, by omega⟩
        by_cases hn : Nd.n (K := Tr n) t = 0 ∨ k = 1 ∨ k = 2
        · have hn' : ¬ (k = 1 ∨ k = 2) → Nd.n (K := Tr n) t = 0 := fun hh => by rcases hn with hn | hn; exact hn; exact (hh hn).elim
          rcases (by omega : k = 1 ∨ k = 2 ∨ k = 3 ∨ k = 4 ∨ k = 5 ∨ k = 6 ∨ k = 7 ∨ k = 8 ∨ k = 9 ∨ k = 10 ∨ k = 11 ∨ k = 12 ∨ k = 13 ∨ k = 14 ∨ k = 15 ∨ k = 16) with rfl | rfl | rfl | rfl | rfl | rfl | rfl | rfl | rfl | rfl | rfl | rfl | rfl | rfl | rfl | rfl
          · rw [show ndv (Nd.k (K := Tr n) t) (Nd.n (K := Tr n) t) (Nd.s (K := Tr n) t) na nl nc ka kl kc = ndv 1 (Nd.n (K := Tr n) t) (Nd.s (K := Tr n) t) na nl nc ka kl kc by rw [hk]; rfl]
            exact rr_1 ih t d w na nl nc ka kl kc hk wf a1 a2 a3 a4 s1 s2 h60 hz
          · rw [show ndv (Nd.k (K := Tr n) t) (Nd.n (K := Tr n) t) (Nd.s (K := Tr n) t) na nl nc ka kl kc = ndv 2 (Nd.n (K := Tr n) t) (Nd.s (K := Tr n) t) na nl nc ka kl kc by rw [hk]; rfl]
            exact rr_2 ih t d w na nl nc ka kl kc hk wf a1 a2 a3 a4 s1 s2 h60 hz
          · have h0 := hn' (by decide)
            rw [show ndv (Nd.k (K := Tr n) t) (Nd.n (K := Tr n) t) (Nd.s (K := Tr n) t) na nl nc ka kl kc = ndv 3 0 (Nd.s (K := Tr n) t) na nl nc ka kl kc by rw [hk, h0]; rfl]
            exact rr_3 ih t d w na nl nc ka kl kc hk h0 wf a1 a2 a3 a4 s1 s2 h60 hz
          · have h0 := hn' (by decide)
            rw [show ndv (Nd.k (K := Tr n) t) (Nd.n (K := Tr n) t) (Nd.s (K := Tr n) t) na nl nc ka kl kc = ndv 4 0 (Nd.s (K := Tr n) t) na nl nc ka kl kc by rw [hk, h0]; rfl]
            exact rr_4 ih t d w na nl nc ka kl kc hk h0 wf a1 a2 a3 a4 s1 s2 h60 hz
          · have h0 := hn' (by decide)
            rw [show ndv (Nd.k (K := Tr n) t) (Nd.n (K := Tr n) t) (Nd.s (K := Tr n) t) na nl nc ka kl kc = ndv 5 0 (Nd.s (K := Tr n) t) na nl nc ka kl kc by rw [hk, h0]; rfl]
            exact rr_5 ih t d w na nl nc ka kl kc hk h0 wf a1 a2 a3 a4 s1 s2 h60 hz
          · have h0 := hn' (by decide)
            rw [show ndv (Nd.k (K := Tr n) t) (Nd.n (K := Tr n) t) (Nd.s (K := Tr n) t) na nl nc ka kl kc = ndv 6 0 (Nd.s (K := Tr n) t) na nl nc ka kl kc by rw [hk, h0]; rfl]
            exact rr_6 ih t d w na nl nc ka kl kc hk h0 wf a1 a2 a3 a4 s1 s2 h60 hz
          · have h0 := hn' (by decide)
            rw [show ndv (Nd.k (K := Tr n) t) (Nd.n (K := Tr n) t) (Nd.s (K := Tr n) t) na nl nc ka kl kc = ndv 7 0 (Nd.s (K := Tr n) t) na nl nc ka kl kc by rw [hk, h0]; rfl]
            exact rr_7 ih t d w na nl nc ka kl kc hk h0 wf a1 a2 a3 a4 s1 s2 h60 hz
          · have h0 := hn' (by decide)
            rw [show ndv (Nd.k (K := Tr n) t) (Nd.n (K := Tr n) t) (Nd.s (K := Tr n) t) na nl nc ka kl kc = ndv 8 0 (Nd.s (K := Tr n) t) na nl nc ka kl kc by rw [hk, h0]; rfl]
            exact rr_8 ih t d w na nl nc ka kl kc hk h0 wf a1 a2 a3 a4 s1 s2 h60 hz
          · have h0 := hn' (by decide)
            rw [show ndv (Nd.k (K := Tr n) t) (Nd.n (K := Tr n) t) (Nd.s (K := Tr n) t) na nl nc ka kl kc = ndv 9 0 (Nd.s (K := Tr n) t) na nl nc ka kl kc by rw [hk, h0]; rfl]
            exact rr_9 ih t d w na nl nc ka kl kc hk h0 wf a1 a2 a3 a4 s1 s2 h60 hz
          · have h0 := hn' (by decide)
            rw [show ndv (Nd.k (K := Tr n) t) (Nd.n (K := Tr n) t) (Nd.s (K := Tr n) t) na nl nc ka kl kc = ndv 10 0 (Nd.s (K := Tr n) t) na nl nc ka kl kc by rw [hk, h0]; rfl]
            exact rr_10 ih t d w na nl nc ka kl kc hk h0 wf a1 a2 a3 a4 s1 s2 h60 hz
          · have h0 := hn' (by decide)
            rw [show ndv (Nd.k (K := Tr n) t) (Nd.n (K := Tr n) t) (Nd.s (K := Tr n) t) na nl nc ka kl kc = ndv 11 0 (Nd.s (K := Tr n) t) na nl nc ka kl kc by rw [hk, h0]; rfl]
            exact rr_11 ih t d w na nl nc ka kl kc hk h0 wf a1 a2 a3 a4 s1 s2 h60 hz
          · have h0 := hn' (by decide)
            rw [show ndv (Nd.k (K := Tr n) t) (Nd.n (K := Tr n) t) (Nd.s (K := Tr n) t) na nl nc ka kl kc = ndv 12 0 (Nd.s (K := Tr n) t) na nl nc ka kl kc by rw [hk, h0]; rfl]
            exact rr_12 ih t d w na nl nc ka kl kc hk h0 wf a1 a2 a3 a4 s1 s2 h60 hz
          · have h0 := hn' (by decide)
            rw [show ndv (Nd.k (K := Tr n) t) (Nd.n (K := Tr n) t) (Nd.s (K := Tr n) t) na nl nc ka kl kc = ndv 13 0 (Nd.s (K := Tr n) t) na nl nc ka kl kc by rw [hk, h0]; rfl]
            exact rr_13 ih ihc t d w na nl nc ka kl kc hk h0 wf a1 a2 a3 a4 s1 s2 h60 hz
          · have h0 := hn' (by decide)
            rw [show ndv (Nd.k (K := Tr n) t) (Nd.n (K := Tr n) t) (Nd.s (K := Tr n) t) na nl nc ka kl kc = ndv 14 0 (Nd.s (K := Tr n) t) na nl nc ka kl kc by rw [hk, h0]; rfl]
            exact rr_14 ih t d w na nl nc ka kl kc hk h0 wf a1 a2 a3 a4 s1 s2 h60 hz
          · have h0 := hn' (by decide)
            rw [show ndv (Nd.k (K := Tr n) t) (Nd.n (K := Tr n) t) (Nd.s (K := Tr n) t) na nl nc ka kl kc = ndv 15 0 (Nd.s (K := Tr n) t) na nl nc ka kl kc by rw [hk, h0]; rfl]
            exact rr_15 ih t d w na nl nc ka kl kc hk h0 wf a1 a2 a3 a4 s1 s2 h60 hz
          · have h0 := hn' (by decide)
            rw [show ndv (Nd.k (K := Tr n) t) (Nd.n (K := Tr n) t) (Nd.s (K := Tr n) t) na nl nc ka kl kc = ndv 16 0 (Nd.s (K := Tr n) t) na nl nc ka kl kc by rw [hk, h0]; rfl]
            exact rr_16 ih t d w na nl nc ka kl kc hk h0 wf a1 a2 a3 a4 s1 s2 h60 hz
        · have q0 : ¬ Nd.n (K := Tr n) t = 0 := fun hh => hn (.inl hh)
          have q1 : ¬ Nd.k (K := Tr n) t = 1 := fun hh => hn (.inr (.inl (by omega)))
          have q2 : ¬ Nd.k (K := Tr n) t = 2 := fun hh => hn (.inr (.inr (by omega)))
          have e : vl (n + 1) t = false := by unfold vl; rw [rt_n q0 q1 q2]; simp
          rw [e, Bool.and_false]
          exact right_n w _ _ _ na nl nc ka kl kc d h60 q1 q2 q0
      · rw [vl_lo hin, Bool.and_false]
        by_cases q0 : Nd.n (K := Tr n) t = 0
        · rw [q0]
          exact right_out w _ _ na nl nc ka kl kc d h60 hin
        · exact right_n w _ _ _ na nl nc ka kl kc d h60 (by omega) (by omega) q0
    · obtain rfl : d = 61 := by omega
      rw [deep_none t 61 (by omega), Bool.false_and]
      exact right_deep w _ _ _ na nl nc ka kl kc
theorem refRight_any (n : Nat) : RefRight n := (refRight_both n).1

end Go.Proofs.YtijoadkjkbkjgaaDoor
