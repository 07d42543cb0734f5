/- The contracts of chapter 1's InsSum, of the program and of the specification, and the plain facts on its number. -/
import Derived.Test.YthbbmookhcalkaaDoorBase
import Derived.WalkKit
import Derived.ProofKit
import Derived.OpenShut
import Derived.Below
import Derived.Outline
namespace Go.Proofs.YthbbmookhcalkaaDoor.Sum
open Go.Proofs.YthbbmookhcalkaaDoor.Base
open Go.ChangeShapes Go.WideShapes Go.ChangeAt Go.RowKit
set_option linter.unusedVariables false

/-! ### THE PLAIN MATHEMATICS -/
def cut (n : Int) : Int := if n < -1000 then -1000 else if 1000 < n then 1000 else n

def sumI (a b : Int) : Int := cut (cut a + cut b)

theorem cut_bd (n : Int) : -1000 ≤ cut n ∧ cut n ≤ 1000 := by unfold cut; split <;> (try split) <;> omega

theorem cut_by {n m : Int} (h : (n < -1000 ∧ m = -1000) ∨ (1000 < n ∧ m = 1000) ∨ (-1000 ≤ n ∧ n ≤ 1000 ∧ m = n)) : m = cut n := by
  unfold cut; split <;> (try split) <;> omega


/-! ### THE CONTRACTS -/
set_option maxHeartbeats 400000 in
theorem cutNumber_any (n : Int) (w : World) :
    Calls Tryd.prog 79 #[.int .i64 n] w fun e w' => e = .returned (.int .i64 (cut n)) ∧ w' = w := by
  by_cases h1 : n < -1000
  · go_enter Tryd.func79, Tryd.ntmps79
    go_wp2
    go_ret
    exact ⟨ret_int (cut_by (by omega)), rfl⟩
  · by_cases h2 : 1000 < n
    · go_enter Tryd.func79, Tryd.ntmps79
      go_wp2
      go_ret
      exact ⟨ret_int (cut_by (by omega)), rfl⟩
    · go_enter Tryd.func79, Tryd.ntmps79
      go_wp2
      go_ret
      exact ⟨ret_int (cut_by (by omega)), rfl⟩




theorem sumI_comm (a b : Int) : sumI a b = sumI b a := by unfold sumI; rw [Int.add_comm]
theorem sumI_bd (a b : Int) : -1000 ≤ sumI a b ∧ sumI a b ≤ 1000 := cut_bd _
theorem cut_id {n : Int} (h : -1000 ≤ n) (h' : n ≤ 1000) : cut n = n := (cut_by (by omega)).symm
theorem sumI_zero (a : Int) : sumI a 0 = cut a := by
  have := cut_bd a
  unfold sumI
  rw [show cut 0 = 0 from rfl, Int.add_zero, cut_id this.1 this.2]
theorem sumI_in {c d : Int} (h1 : -1000 ≤ c) (h2 : c ≤ 1000) (h3 : -1000 ≤ d) (h4 : d ≤ 1000) : sumI c d = cut (c + d) := by
  unfold sumI; rw [cut_id h1 h2, cut_id h3 h4]

end Go.Proofs.YthbbmookhcalkaaDoor.Sum
