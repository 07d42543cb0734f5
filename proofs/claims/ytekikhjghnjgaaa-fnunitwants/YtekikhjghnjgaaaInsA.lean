/- The contracts of chapter 1's small functions on instructions (what they say of an Op alone), and of the laws' own helpers on one instruction. -/
import Derived.Test.YtekikhjghnjgaaaBase
import Derived.WalkKit
import Derived.ProofKit
import Derived.OpenShut
import Derived.ShutString
import Derived.ChangeOld
import Derived.Below
import Derived.Outline
import Derived.Lib.SmallJoins
namespace Go.Proofs.Ytekikhjghnjgaaa.InsA
open Go.ChangeShapes Go.WideShapes Go.ChangeAt Go.RowKit Go.Joins
open Go.Proofs.Ytekikhjghnjgaaa.Base
set_option linter.unusedVariables false

def refsB (o : Int) : Bool := o == 3 || o == 4 || o == 5
def lastB (o : Int) : Bool := o == 4 || o == 6 || o == 7
def szI (l n : Int) : Int := if l - n < 0 then -1 else l - n

theorem szI_neg {l n : Int} (h : l < n) : -1 = szI l n := by unfold szI; rw [if_pos (by omega)]
theorem szI_pos {l n : Int} (h : ¬ l < n) : l - n = szI l n := by unfold szI; rw [if_neg (by omega)]


set_option maxHeartbeats 400000 in
theorem specRefs_any (o n : Int) (s : ByteArray) (w : World) :
    Calls Try.prog 14 #[.agg #[.int .i64 o, .int .i64 n, .string s]] w fun e w' => e = .returned (.bool (refsB o)) ∧ Below w.heap.size w w' := by
  go_enter Try.func14, Try.ntmps14
  go_wp2
  all_goals (go_ret; exact ⟨ret_bool (by simp [refsB, *]), below_alloc1 _ _⟩)

set_option maxHeartbeats 400000 in
theorem specLast_any (o n : Int) (s : ByteArray) (w : World) :
    Calls Try.prog 12 #[.agg #[.int .i64 o, .int .i64 n, .string s]] w fun e w' => e = .returned (.bool (lastB o)) ∧ Below w.heap.size w w' := by
  go_enter Try.func12, Try.ntmps12
  go_wp2
  all_goals (go_ret; exact ⟨ret_bool (by simp [lastB, *]), below_alloc1 _ _⟩)

set_option maxHeartbeats 400000 in
theorem hasName_any (o : Int) (w : World) :
    Calls Try.prog 27 #[.int .i64 o] w fun e w' => e = .returned (.bool (refsB o)) ∧ w' = w := by
  go_enter Try.func27, Try.ntmps27
  go_wp2
  all_goals (go_ret; exact ⟨ret_bool (by simp [refsB, *]), rfl⟩)

set_option maxHeartbeats 400000 in
theorem isLast_any (o : Int) (w : World) :
    Calls Try.prog 26 #[.int .i64 o] w fun e w' => e = .returned (.bool (lastB o)) ∧ w' = w := by
  go_enter Try.func26, Try.ntmps26
  go_wp2
  all_goals (go_ret; exact ⟨ret_bool (by simp [lastB, *]), rfl⟩)

set_option maxHeartbeats 400000 in
theorem implRefs_any (o n : Int) (s : ByteArray) (w : World) :
    Calls Try.prog 13 #[.agg #[.int .i64 o, .int .i64 n, .string s]] w fun e w' => e = .returned (.bool (refsB o)) ∧ Below w.heap.size w w' := by
  go_enter Try.func13, Try.ntmps13
  go_wp2_with (go_at_call 27; refine (hasName_any _ _).mono ?_; rintro e w' ⟨rfl, rfl⟩)
  go_ret
  exact ⟨rfl, below_alloc1 _ _⟩

set_option maxHeartbeats 400000 in
theorem implLast_any (o n : Int) (s : ByteArray) (w : World) :
    Calls Try.prog 11 #[.agg #[.int .i64 o, .int .i64 n, .string s]] w fun e w' => e = .returned (.bool (lastB o)) ∧ Below w.heap.size w w' := by
  go_enter Try.func11, Try.ntmps11
  go_wp2_with (go_at_call 26; refine (isLast_any _ _).mono ?_; rintro e w' ⟨rfl, rfl⟩)
  go_ret
  exact ⟨rfl, below_alloc1 _ _⟩



end Go.Proofs.Ytekikhjghnjgaaa.InsA
