/- The contracts of chapter 1's small functions on instructions (what they say of an Op alone), and of the laws' own helpers on one instruction. -/
import Derived.Test.YthbbmookhcalkaaDoorBase
import Derived.WalkKit
import Derived.ProofKit
import Derived.OpenShut
import Derived.ShutString
import Derived.ChangeOld
import Derived.Below
import Derived.Outline
import Derived.Lib.SmallJoins
namespace Go.Proofs.YthbbmookhcalkaaDoor.InsA
open Go.ChangeShapes Go.WideShapes Go.ChangeAt Go.RowKit Go.Joins
open Go.Proofs.YthbbmookhcalkaaDoor.Base
set_option linter.unusedVariables false

def refsB (o : Int) : Bool := o == 3 || o == 4 || o == 5
def lastB (o : Int) : Bool := o == 4 || o == 6 || o == 7
def szI (l n : Int) : Int := if l - n < 0 then -1 else l - n

theorem szI_neg {l n : Int} (h : l < n) : -1 = szI l n := by unfold szI; rw [if_pos (by omega)]
theorem szI_pos {l n : Int} (h : ¬ l < n) : l - n = szI l n := by unfold szI; rw [if_neg (by omega)]


set_option maxHeartbeats 400000 in
theorem specRefs_any (o n : Int) (s : ByteArray) (w : World) :
    Calls Tryd.prog 52 #[.agg #[.int .i64 o, .int .i64 n, .string s]] w fun e w' => e = .returned (.bool (refsB o)) ∧ Below w.heap.size w w' := by
  go_enter Tryd.func52, Tryd.ntmps52
  go_wp2
  all_goals (go_ret; exact ⟨ret_bool (by simp [refsB, *]), below_alloc1 _ _⟩)

set_option maxHeartbeats 400000 in
theorem specLast_any (o n : Int) (s : ByteArray) (w : World) :
    Calls Tryd.prog 64 #[.agg #[.int .i64 o, .int .i64 n, .string s]] w fun e w' => e = .returned (.bool (lastB o)) ∧ Below w.heap.size w w' := by
  go_enter Tryd.func64, Tryd.ntmps64
  go_wp2
  all_goals (go_ret; exact ⟨ret_bool (by simp [lastB, *]), below_alloc1 _ _⟩)

set_option maxHeartbeats 400000 in
theorem hasName_any (o : Int) (w : World) :
    Calls Tryd.prog 75 #[.int .i64 o] w fun e w' => e = .returned (.bool (refsB o)) ∧ w' = w := by
  go_enter Tryd.func75, Tryd.ntmps75
  go_wp2
  all_goals (go_ret; exact ⟨ret_bool (by simp [refsB, *]), rfl⟩)

set_option maxHeartbeats 400000 in
theorem isLast_any (o : Int) (w : World) :
    Calls Tryd.prog 81 #[.int .i64 o] w fun e w' => e = .returned (.bool (lastB o)) ∧ w' = w := by
  go_enter Tryd.func81, Tryd.ntmps81
  go_wp2
  all_goals (go_ret; exact ⟨ret_bool (by simp [lastB, *]), rfl⟩)

set_option maxHeartbeats 400000 in
theorem implRefs_any (o n : Int) (s : ByteArray) (w : World) :
    Calls Tryd.prog 84 #[.agg #[.int .i64 o, .int .i64 n, .string s]] w fun e w' => e = .returned (.bool (refsB o)) ∧ Below w.heap.size w w' := by
  go_enter Tryd.func84, Tryd.ntmps84
  go_wp2_with (go_at_call 75; refine (hasName_any _ _).mono ?_; rintro e w' ⟨rfl, rfl⟩)
  go_ret
  exact ⟨rfl, below_alloc1 _ _⟩

set_option maxHeartbeats 400000 in
theorem implLast_any (o n : Int) (s : ByteArray) (w : World) :
    Calls Tryd.prog 69 #[.agg #[.int .i64 o, .int .i64 n, .string s]] w fun e w' => e = .returned (.bool (lastB o)) ∧ Below w.heap.size w w' := by
  go_enter Tryd.func69, Tryd.ntmps69
  go_wp2_with (go_at_call 81; refine (isLast_any _ _).mono ?_; rintro e w' ⟨rfl, rfl⟩)
  go_ret
  exact ⟨rfl, below_alloc1 _ _⟩

set_option maxHeartbeats 400000 in
theorem szIns_any (o n l : Int) (s : ByteArray) (w : World) (h0 : 0 ≤ l) (h1 : l ≤ 1048576) (hs : s.size ≤ maxLen) :
    Calls Tryd.prog 62 #[.agg #[.int .i64 o, .int .i64 n, .string s], .int .i64 l] w fun e w' => e = .returned (.int .i64 (szI l s.size)) ∧ Below w.heap.size w w' := by
  unfold maxLen at hs
  by_cases hlt : l < s.size
  · go_enter Tryd.func62, Tryd.ntmps62
    go_wp2
    go_ret
    exact ⟨ret_int (szI_neg hlt), below_alloc1 _ _⟩
  · go_enter Tryd.func62, Tryd.ntmps62
    go_wp2
    go_ret
    exact ⟨ret_int (szI_pos (by omega)), below_alloc1 _ _⟩

set_option maxHeartbeats 400000 in
theorem toIns_any (o n : Int) (s : ByteArray) (w : World) :
    Calls Tryd.prog 66 #[.agg #[.int .i64 o, .int .i64 n, .string s]] w fun e w' => e = .returned (.agg #[.int .i64 o, .int .i64 n, .string s]) ∧ Below w.heap.size w w' := by
  go_enter Tryd.func66, Tryd.ntmps66
  go_wp2
  exact bodyPost_ret (v := .agg #[.int .i64 o, .int .i64 n, .string s]) (by simp [results, Tryd.results66, go_sem]) rfl ⟨rfl, below_alloc3 _ _ _ _⟩

end Go.Proofs.YthbbmookhcalkaaDoor.InsA
