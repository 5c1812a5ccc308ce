import Derived.Test.YtiokcokmpmpcfaaDoorI3
import Derived.Test.YtiokcokmpmpcfaaDoorR6
namespace Go.Proofs.YtiokcokmpmpcfaaDoor
open Go.RowKit
set_option linter.unusedVariables false
set_option linter.unusedSimpArgs false

theorem takeS {α : Type} {l : List α} {j : Nat} {x : α} (h : l[j]? = some x) : l.take (j + 1) = l.take j ++ [x] := by
  rw [List.take_add_one, h]; rfl
theorem bj_snoc (l : List ByteArray) (a : ByteArray) (h : l ≠ []) : bj (l ++ [a]) = bj l ++ 32 :: a.data.toList := by
  cases l with
  | nil => exact (h rfl).elim
  | cons c r =>
    rw [List.cons_append, bj_fl, bj_fl]
    simp [fl]
theorem bjB_app {l : List ByteArray} {j : Nat} {x : ByteArray} (h : l[j]? = some x) (h0 : ¬ j = 0) : bjB (l.take j) ++ ⟨#[32]⟩ ++ x = bjB (l.take (j + 1)) := by
  rw [takeS h]
  have hne : l.take j ≠ [] := by
    intro e
    have h1 := congrArg List.length e
    have h2 := (List.getElem?_eq_some_iff.1 h).1
    simp at h1
    rcases h1 with h1 | h1
    · exact h0 h1
    · subst h1; simp at h2
  apply ByteArray.ext
  apply Array.toList_inj.1
  unfold bjB
  rw [bj_snoc _ _ hne]
  simp [ByteArray.data_append]
theorem bjB_zero {l : List ByteArray} {x : ByteArray} (h : l[0]? = some x) : (⟨#[]⟩ : ByteArray) ++ x = bjB (l.take 1) := by
  rw [takeS h]
  apply ByteArray.ext
  apply Array.toList_inj.1
  simp [bjB, bj_one, ByteArray.data_append]
theorem bj_take_le (l : List ByteArray) (j : Nat) : (bj (l.take j)).length ≤ (bj l).length := by
  cases l with
  | nil => simp
  | cons a r =>
    cases j with
    | zero => simp [bj_nil]
    | succ j =>
      rw [List.take_succ_cons, bj_fl, bj_fl]
      have : ∀ (q : List ByteArray) (i : Nat), (fl (q.take i)).length ≤ (fl q).length := by
        intro q
        induction q with
        | nil => intro i; simp
        | cons c s ih =>
          intro i
          cases i with
          | zero => simp [fl]
          | succ i => have := ih i; simp only [List.take_succ_cons, fl, List.flatMap_cons, List.length_append] at *; omega
      have := this r j
      simp only [List.length_append]; omega
set_option maxRecDepth 100000 in
set_option maxHeartbeats 1000000 in
theorem refJoin_any (na : Option Addr) (nl nc : Nat) (ns : List ByteArray) (w : World) (hs : StrsAt w na nl ns) (hc : nl ≤ nc) (hcm : nc ≤ maxLen) (hl : (bj ns).length ≤ 140737488355328) : Calls Tryd.prog 28 #[.slice na nl nc] w fun e w' => e = .returned (.string (bjB ns)) ∧ w' = w := by
  have H : Hid (StrsAt w na nl ns) := hs
  have hm : nl ≤ 9223372036854775807 := by have := hs.2.1; unfold maxLen at this; omega
  have HL : Hid (∀ j, (bjB (ns.take j)).size ≤ 140737488355328) := fun j => by rw [bjB_size]; exact Nat.le_trans (bj_take_le ns j) hl
  have hln : Hid (ns.length = nl) := hs.1
  clear hs hcm hl
  go_enter Tryd.func28, Tryd.ntmps28
  go_wp2_with (fail)
  go_loopw [3, 7] (fun o i w' => ∃ j : Nat, j ≤ nl ∧ o = .string (bjB (ns.take j)) ∧ i = .int .i64 j ∧ w' = w) (fun _ i _ => nl - (intOf i).toNat)
  case atStart => exact ⟨0, Nat.zero_le _, rfl, rfl, rfl⟩
  case round =>
    obtain ⟨j, hj, rfl, rfl, rfl⟩ := hrel
    by_cases hlt : j < nl
    · obtain ⟨b, off, x, rfl, hbl, hx, hxs, hcl⟩ := StrsAt.get H.out hlt
      by_cases h0 : j = 0
      · subst h0
        have HQ : Hid ((⟨#[]⟩ : ByteArray) ++ x = bjB (ns.take 1)) := bjB_zero hx
        have hs1 : ∀ v, (Op.stringOp .add (⟨#[]⟩ : ByteArray) x).run Tryd.prog v = .ok (.string (bjB (ns.take 1))) v := fun v => by
          rw [run_string_add_sum (w := v) _ _ (by have e := congrArg ByteArray.size HQ.out; rw [ByteArray.size_append] at e; have := HL.out 1; show _ + _ ≤ _; omega), HQ.out]
        simp only [Nat.add_zero] at hcl
        clear hx
        have eb : bjB (ns.take 0) = ⟨#[]⟩ := rfl
        rw [eb]
        clear eb
        go_wp2_with (fail)
        go_roundw
        case rel => exact ⟨1, by omega, rfl, by go_num, by first | rfl | trivial⟩
        case measure => simp [intOf]; omega
      · have HQ : Hid (bjB (ns.take j) ++ ⟨#[32]⟩ ++ x = bjB (ns.take (j + 1))) := bjB_app hx h0
        have hsz := HL.out j
        have hs1 : ∀ v, (Op.stringOp .add (bjB (ns.take j)) (⟨#[32]⟩ : ByteArray)).run Tryd.prog v = .ok (.string (bjB (ns.take j) ++ ⟨#[32]⟩)) v := fun v => run_string_add_sum (w := v) _ _ (by show _ + 1 ≤ _; omega)
        have hs2 : ∀ v, (Op.stringOp .add (bjB (ns.take j) ++ ⟨#[32]⟩) x).run Tryd.prog v = .ok (.string (bjB (ns.take (j + 1)))) v := fun v => by
          rw [run_string_add_sum (w := v) _ _ (by have e := congrArg ByteArray.size HQ.out; rw [ByteArray.size_append] at e; have := HL.out (j + 1); omega), HQ.out]
        have e0 : decide ((0 : Int) < j) = true := decide_eq_true (by omega)
        have h0' : 0 < j := by omega
        clear hx h0 hsz
        go_wp2_with (fail)
        go_roundw
        case rel => exact ⟨j + 1, by omega, rfl, by go_num, by first | rfl | trivial⟩
        case measure => simp [intOf]; omega
    · obtain rfl : nl = j := by omega
      have HT : Hid (ns.take nl = ns) := List.take_of_length_le (by rw [hln.out]; omega)
      go_wp2_with (fail)
      go_ret
      exact ⟨by rw [HT.out]; rfl, by first | rfl | trivial⟩

end Go.Proofs.YtiokcokmpmpcfaaDoor
