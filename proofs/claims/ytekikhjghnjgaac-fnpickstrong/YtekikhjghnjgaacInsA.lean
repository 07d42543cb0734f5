/- The contracts of chapter 1's small functions on instructions (what they say of an Op alone), and of the laws' own helpers on one instruction. -/
import Derived.Test.YtekikhjghnjgaacBase
import Derived.WalkKit
import Derived.ProofKit
import Derived.OpenShut
import Derived.ShutString
import Derived.ChangeOld
import Derived.Below
import Derived.Outline
import Derived.Lib.SmallJoins
namespace Go.Proofs.Ytekikhjghnjgaac.InsA
open Go.ChangeShapes Go.WideShapes Go.ChangeAt Go.RowKit Go.Joins
open Go.Proofs.Ytekikhjghnjgaac.Base
set_option linter.unusedVariables false

def refsB (o : Int) : Bool := o == 3 || o == 4 || o == 5
def lastB (o : Int) : Bool := o == 4 || o == 6 || o == 7
def szI (l n : Int) : Int := if l - n < 0 then -1 else l - n

theorem szI_neg {l n : Int} (h : l < n) : -1 = szI l n := by unfold szI; rw [if_pos (by omega)]
theorem szI_pos {l n : Int} (h : ¬ l < n) : l - n = szI l n := by unfold szI; rw [if_neg (by omega)]


set_option maxHeartbeats 400000 in
theorem specRefs_any (o n : Int) (s : ByteArray) (w : World) :
    Calls Try.prog 66 #[.agg #[.int .i64 o, .int .i64 n, .string s]] w fun e w' => e = .returned (.bool (refsB o)) ∧ Below w.heap.size w w' := by
  go_enter Try.func66, Try.ntmps66
  go_wp2
  all_goals (go_ret; exact ⟨ret_bool (by simp [refsB, *]), below_alloc1 _ _⟩)

set_option maxHeartbeats 400000 in
theorem specLast_any (o n : Int) (s : ByteArray) (w : World) :
    Calls Try.prog 57 #[.agg #[.int .i64 o, .int .i64 n, .string s]] w fun e w' => e = .returned (.bool (lastB o)) ∧ Below w.heap.size w w' := by
  go_enter Try.func57, Try.ntmps57
  go_wp2
  all_goals (go_ret; exact ⟨ret_bool (by simp [lastB, *]), below_alloc1 _ _⟩)

set_option maxHeartbeats 400000 in
theorem hasName_any (o : Int) (w : World) :
    Calls Try.prog 75 #[.int .i64 o] w fun e w' => e = .returned (.bool (refsB o)) ∧ w' = w := by
  go_enter Try.func75, Try.ntmps75
  go_wp2
  all_goals (go_ret; exact ⟨ret_bool (by simp [refsB, *]), rfl⟩)

set_option maxHeartbeats 400000 in
theorem isLast_any (o : Int) (w : World) :
    Calls Try.prog 84 #[.int .i64 o] w fun e w' => e = .returned (.bool (lastB o)) ∧ w' = w := by
  go_enter Try.func84, Try.ntmps84
  go_wp2
  all_goals (go_ret; exact ⟨ret_bool (by simp [lastB, *]), rfl⟩)

set_option maxHeartbeats 400000 in
theorem implRefs_any (o n : Int) (s : ByteArray) (w : World) :
    Calls Try.prog 62 #[.agg #[.int .i64 o, .int .i64 n, .string s]] w fun e w' => e = .returned (.bool (refsB o)) ∧ Below w.heap.size w w' := by
  go_enter Try.func62, Try.ntmps62
  go_wp2_with (go_at_call 75; refine (hasName_any _ _).mono ?_; rintro e w' ⟨rfl, rfl⟩)
  go_ret
  exact ⟨rfl, below_alloc1 _ _⟩

set_option maxHeartbeats 400000 in
theorem implLast_any (o n : Int) (s : ByteArray) (w : World) :
    Calls Try.prog 71 #[.agg #[.int .i64 o, .int .i64 n, .string s]] w fun e w' => e = .returned (.bool (lastB o)) ∧ Below w.heap.size w w' := by
  go_enter Try.func71, Try.ntmps71
  go_wp2_with (go_at_call 84; refine (isLast_any _ _).mono ?_; rintro e w' ⟨rfl, rfl⟩)
  go_ret
  exact ⟨rfl, below_alloc1 _ _⟩



end Go.Proofs.Ytekikhjghnjgaac.InsA
