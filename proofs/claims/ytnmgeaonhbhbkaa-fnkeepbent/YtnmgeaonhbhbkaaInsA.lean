/- The contracts of chapter 1's small functions on instructions (what they say of an Op alone), and of the laws' own helpers on one instruction. -/
import Derived.Test.YtnmgeaonhbhbkaaBase
import Derived.WalkKit
import Derived.ProofKit
import Derived.OpenShut
import Derived.ShutString
import Derived.ChangeOld
import Derived.Below
import Derived.Outline
import Derived.Lib.SmallJoins
namespace Go.Proofs.Ytnmgeaonhbhbkaa.InsA
open Go.ChangeShapes Go.WideShapes Go.ChangeAt Go.RowKit Go.Joins
open Go.Proofs.Ytnmgeaonhbhbkaa.Base
set_option linter.unusedVariables false

def refsB (o : Int) : Bool := o == 3 || o == 4 || o == 5
def lastB (o : Int) : Bool := o == 4 || o == 6 || o == 7
def szI (l n : Int) : Int := if l - n < 0 then -1 else l - n

theorem szI_neg {l n : Int} (h : l < n) : -1 = szI l n := by unfold szI; rw [if_pos (by omega)]
theorem szI_pos {l n : Int} (h : ¬ l < n) : l - n = szI l n := by unfold szI; rw [if_neg (by omega)]


set_option maxHeartbeats 400000 in
theorem specRefs_any (o n : Int) (s : ByteArray) (w : World) :
    Calls Try.prog 58 #[.agg #[.int .i64 o, .int .i64 n, .string s]] w fun e w' => e = .returned (.bool (refsB o)) ∧ Below w.heap.size w w' := by
  go_enter Try.func58, Try.ntmps58
  go_wp2
  all_goals (go_ret; exact ⟨ret_bool (by simp [refsB, *]), below_alloc1 _ _⟩)

set_option maxHeartbeats 400000 in
theorem specLast_any (o n : Int) (s : ByteArray) (w : World) :
    Calls Try.prog 56 #[.agg #[.int .i64 o, .int .i64 n, .string s]] w fun e w' => e = .returned (.bool (lastB o)) ∧ Below w.heap.size w w' := by
  go_enter Try.func56, Try.ntmps56
  go_wp2
  all_goals (go_ret; exact ⟨ret_bool (by simp [lastB, *]), below_alloc1 _ _⟩)

set_option maxHeartbeats 400000 in
theorem hasName_any (o : Int) (w : World) :
    Calls Try.prog 63 #[.int .i64 o] w fun e w' => e = .returned (.bool (refsB o)) ∧ w' = w := by
  go_enter Try.func63, Try.ntmps63
  go_wp2
  all_goals (go_ret; exact ⟨ret_bool (by simp [refsB, *]), rfl⟩)

set_option maxHeartbeats 400000 in
theorem isLast_any (o : Int) (w : World) :
    Calls Try.prog 76 #[.int .i64 o] w fun e w' => e = .returned (.bool (lastB o)) ∧ w' = w := by
  go_enter Try.func76, Try.ntmps76
  go_wp2
  all_goals (go_ret; exact ⟨ret_bool (by simp [lastB, *]), rfl⟩)

set_option maxHeartbeats 400000 in
theorem implRefs_any (o n : Int) (s : ByteArray) (w : World) :
    Calls Try.prog 40 #[.agg #[.int .i64 o, .int .i64 n, .string s]] w fun e w' => e = .returned (.bool (refsB o)) ∧ Below w.heap.size w w' := by
  go_enter Try.func40, Try.ntmps40
  go_wp2_with (go_at_call 63; refine (hasName_any _ _).mono ?_; rintro e w' ⟨rfl, rfl⟩)
  go_ret
  exact ⟨rfl, below_alloc1 _ _⟩

set_option maxHeartbeats 400000 in
theorem implLast_any (o n : Int) (s : ByteArray) (w : World) :
    Calls Try.prog 52 #[.agg #[.int .i64 o, .int .i64 n, .string s]] w fun e w' => e = .returned (.bool (lastB o)) ∧ Below w.heap.size w w' := by
  go_enter Try.func52, Try.ntmps52
  go_wp2_with (go_at_call 76; refine (isLast_any _ _).mono ?_; rintro e w' ⟨rfl, rfl⟩)
  go_ret
  exact ⟨rfl, below_alloc1 _ _⟩



end Go.Proofs.Ytnmgeaonhbhbkaa.InsA
