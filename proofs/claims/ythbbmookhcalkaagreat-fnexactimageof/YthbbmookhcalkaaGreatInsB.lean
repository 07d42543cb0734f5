/- The contracts of chapter 1's InsOk, of the program and of the specification. -/
import Derived.Test.YthbbmookhcalkaaGreatInsA
import Derived.Test.YthbbmookhcalkaaGreatName
import Derived.Deep.QuietTactic
import Derived.BigQuiet
namespace Go.Proofs.YthbbmookhcalkaaGreat.InsB
open Go.Proofs.YthbbmookhcalkaaGreat.Base
open Go.ChangeShapes Go.WideShapes Go.ChangeAt Go.RowKit Go.Joins
open Go.Proofs.YthbbmookhcalkaaGreat.InsA
open Go.Proofs.YthbbmookhcalkaaGreat.Name (nameB specName_any)
open Go.Proofs.YthbbmookhcalkaaGreat.Name (implName_any)
set_option linter.unusedVariables false

def insOkB (o n : Int) (s : ByteArray) : Bool :=
  if o = 2 then (decide (-1000 ≤ n) && decide (n ≤ 1000)) && s.toList.isEmpty
  else if o = 3 ∨ o = 4 ∨ o = 5 then n == 0 && nameB s
  else if o = 1 ∨ o = 6 ∨ o = 7 then n == 0 && s.toList.isEmpty
  else false
def cut (n : Int) : Int := if n < -1000 then -1000 else if 1000 < n then 1000 else n
def isKindB (o : Int) : Bool := decide (1 ≤ o) && decide (o ≤ 7)

theorem cut_by {n m : Int} (h : (n < -1000 ∧ m = -1000) ∨ (1000 < n ∧ m = 1000) ∨ (-1000 ≤ n ∧ n ≤ 1000 ∧ m = n)) : m = cut n := by
  unfold cut; split <;> (try split) <;> omega

set_option maxHeartbeats 400000 in
theorem cutNumber_any (n : Int) (w : World) :
    Calls Tryz.prog 84 #[.int .i64 n] w fun e w' => e = .returned (.int .i64 (cut n)) ∧ w' = w := by
  go_enter Tryz.func84, Tryz.ntmps84
  go_wp2
  all_goals (go_ret; exact ⟨ret_int (cut_by (by omega)), rfl⟩)

set_option maxHeartbeats 400000 in
theorem hasNumber_any (o : Int) (w : World) :
    Calls Tryz.prog 83 #[.int .i64 o] w fun e w' => e = .returned (.bool (o == 2)) ∧ w' = w := by
  go_enter Tryz.func83, Tryz.ntmps83
  go_wp2
  go_ret
  exact ⟨rfl, rfl⟩

set_option maxHeartbeats 400000 in
theorem isKind_any (o : Int) (w : World) :
    Calls Tryz.prog 85 #[.int .i64 o] w fun e w' => e = .returned (.bool (isKindB o)) ∧ w' = w := by
  go_enter Tryz.func85, Tryz.ntmps85
  go_wp2
  all_goals (go_ret; exact ⟨ret_bool (by unfold isKindB; rw [Bool.eq_iff_iff]; simp; omega), rfl⟩)

set_option maxHeartbeats 400000 in
theorem specOk_any (o n : Int) (s : ByteArray) (w : World) (hs : s.size ≤ maxLen) :
    Calls Tryz.prog 73 #[.agg #[.int .i64 o, .int .i64 n, .string s]] w fun e w' => e = .returned (.bool (insOkB o n s)) ∧ Below w.heap.size w w' := by
  go_enter Tryz.func73, Tryz.ntmps73
  go_wp2_with (go_at_call 71; refine (specName_any _ _ hs).mono ?_; rintro e w1 ⟨rfl, rfl⟩)
  all_goals (go_ret; exact ⟨ret_bool (by first | (simp_all [insOkB]; done) | (simp_all [insOkB]; intros; omega)), below_alloc1 _ _⟩)

set_option maxHeartbeats 400000 in
theorem implOk_add_in (n : Int) (s : ByteArray) (w : World) (hs : s.size ≤ maxLen) (h1 : -1000 ≤ n) (h2 : n ≤ 1000) :
    Calls Tryz.prog 77 #[.agg #[.int .i64 2, .int .i64 n, .string s]] w fun e w' => e = .returned (.bool (insOkB 2 n s)) ∧ Below w.heap.size w w' := by
  have hc : cut n = n := (cut_by (by omega)).symm
  go_enter Tryz.func77, Tryz.ntmps77
  go_wp2_with (go_at_call 83; refine (hasNumber_any _ _).mono ?_; rintro e w1 ⟨rfl, rfl⟩)
  go_quiet ((go_at_call 84; exact Calls.quiet_of_same (cutNumber_any _ _)))
  go_wp2
  all_goals (go_ret; exact ⟨ret_bool (by first | (simp_all [insOkB]; done) | (simp_all [insOkB]; intros; omega)), bl_drewN (below_alloc1 _ _) _⟩)

set_option maxHeartbeats 400000 in
theorem implOk_add_out (n : Int) (s : ByteArray) (w : World) (hs : s.size ≤ maxLen) (h : n < -1000 ∨ 1000 < n) :
    Calls Tryz.prog 77 #[.agg #[.int .i64 2, .int .i64 n, .string s]] w fun e w' => e = .returned (.bool (insOkB 2 n s)) ∧ Below w.heap.size w w' := by
  have hc : (n == cut n) = false := by rw [beq_eq_false_iff_ne]; unfold cut; split <;> (try split) <;> omega
  go_enter Tryz.func77, Tryz.ntmps77
  go_wp2_with (go_at_call 83; refine (hasNumber_any _ _).mono ?_; rintro e w1 ⟨rfl, rfl⟩)
  go_quiet ((go_at_call 84; exact Calls.quiet_of_same (cutNumber_any _ _)))
  go_wp2
  all_goals (go_ret; exact ⟨ret_bool (by first | (simp_all [insOkB]; done) | (simp_all [insOkB]; intros; omega)), bl_drewN (below_alloc1 _ _) _⟩)

set_option maxHeartbeats 400000 in
theorem implOk_any (o n : Int) (s : ByteArray) (w : World) (hs : s.size ≤ maxLen) :
    Calls Tryz.prog 77 #[.agg #[.int .i64 o, .int .i64 n, .string s]] w fun e w' => e = .returned (.bool (insOkB o n s)) ∧ Below w.heap.size w w' := by
  by_cases h2 : o = 2
  · subst h2
    by_cases hn : -1000 ≤ n ∧ n ≤ 1000
    · exact implOk_add_in n s w hs hn.1 hn.2
    · exact implOk_add_out n s w hs (by omega)
  · have h2' : (o == 2) = false := by simp [h2]
    go_enter Tryz.func77, Tryz.ntmps77
    go_wp2_with (first | (go_at_call 83; refine (hasNumber_any _ _).mono ?_; rintro e w1 ⟨rfl, rfl⟩) | (go_at_call 61; refine (hasName_any _ _).mono ?_; rintro e w1 ⟨rfl, rfl⟩) | (go_at_call 85; refine (isKind_any _ _).mono ?_; rintro e w1 ⟨rfl, rfl⟩) | (go_at_call 84; refine (cutNumber_any _ _).mono ?_; rintro e w1 ⟨rfl, rfl⟩) | (go_at_call 76; refine (implName_any _ _ hs).mono ?_; rintro e w1 ⟨rfl, hb⟩))
    all_goals (go_ret; exact ⟨ret_bool (by first | (simp_all [insOkB, refsB, isKindB]; done) | (simp_all [insOkB, refsB, isKindB]; intros; omega)), by first | exact below_alloc1 _ _ | exact bl_trans (below_alloc1 _ _) hb⟩)

end Go.Proofs.YthbbmookhcalkaaGreat.InsB
