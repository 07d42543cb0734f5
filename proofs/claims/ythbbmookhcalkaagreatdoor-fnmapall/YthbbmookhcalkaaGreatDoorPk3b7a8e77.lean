/- Small facts that every text of this seat uses: what a callee that makes memory leaves as it was. -/
import Derived.Test.YthbbmookhcalkaaGreatDoorRows
import Derived.WalkKit
import Derived.ProofKit
import Derived.OpenShut
import Derived.ShutString
import Derived.ChangeOld
import Derived.Below
import Derived.Outline
import Derived.Lib.SmallJoins
namespace Go.Proofs.YthbbmookhcalkaaGreatDoor.Base
open Go.ChangeShapes Go.WideShapes Go.ChangeAt Go.RowKit Go.Joins
set_option linter.unusedVariables false

theorem ret_bool {a b : Bool} (h : a = b) : Ending.returned (.bool a) = .returned (.bool b) := by rw [h]
theorem ret_int {k : IntKind} {a b : Int} (h : a = b) : Ending.returned (.int k a) = .returned (.int k b) := by rw [h]
theorem bcell {W w1 : World} (hb : Below W.heap.size W w1) : (∀ b o, b < W.heap.size → w1.cell? ⟨b, o, none⟩ = W.cell? ⟨b, o, none⟩) ∧ (∀ b o, b < W.heap.size → w1.frozen? ⟨b, o, none⟩ = W.frozen? ⟨b, o, none⟩) :=
  ⟨fun b o h => hb.cell (p := ⟨b, o, none⟩) h, fun b o h => hb.frozen (p := ⟨b, o, none⟩) h⟩
theorem new_block (w : World) (o : Obj) : (w.alloc o).heap[w.heap.size]? = some o := by
  show (w.heap.push o)[w.heap.size]? = _
  simp
theorem box_below {B : Nat} {w w' : World} {o : Obj} (h : w.heap[B]? = some o) (ht : Below w.heap.size w w') : w'.heap[B]? = some o :=
  (ht.block B (Array.getElem?_eq_some_iff.1 h).1).trans h
theorem box_drew {B : Nat} {w : World} {o : Obj} (h : w.heap[B]? = some o) : w.drew.heap[B]? = some o := h
theorem box3 {w : World} {B : Nat} {v0 v1 v2 : Value} {t : TypeId} (h : w.heap[B]? = some (.cells #[v0, v1, v2] t)) :
    (w.cell? ⟨B, 0, none⟩ = some v0 ∧ w.cell? ⟨B, 1, none⟩ = some v1 ∧ w.cell? ⟨B, 2, none⟩ = some v2) ∧ (w.frozen? ⟨B, 0, none⟩ = false ∧ w.frozen? ⟨B, 1, none⟩ = false ∧ w.frozen? ⟨B, 2, none⟩ = false) :=
  ⟨⟨by rw [cell_of_block h]; rfl, by rw [cell_of_block h]; rfl, by rw [cell_of_block h]; rfl⟩, unfrozen_of_block h 0, unfrozen_of_block h 1, unfrozen_of_block h 2⟩
theorem bl_trans {w w1 w2 : World} (h : Below w.heap.size w w1) (k : Below w1.heap.size w1 w2) : Below w.heap.size w w2 := h.trans (k.mono h.size)
theorem bl_drewN {w w1 : World} (h : Below w.heap.size w w1) (n : Nat) : Below w.heap.size w (w1.drewN n) := h.trans (below_draws _ _ _)
theorem bl_alloc {w w1 : World} (h : Below w.heap.size w w1) (o : Obj) : Below w.heap.size w (w1.alloc o) := h.alloc h.size o
theorem hide {p : Prop} (h : p) : Hid p := h
theorem unhide {p : Prop} (h : Hid p) : p := h
end Go.Proofs.YthbbmookhcalkaaGreatDoor.Base
/- The contracts of chapter 1's small functions on instructions (what they say of an Op alone), and of the laws' own helpers on one instruction. -/
namespace Go.Proofs.YthbbmookhcalkaaGreatDoor.InsA
open Go.ChangeShapes Go.WideShapes Go.ChangeAt Go.RowKit Go.Joins
open Go.Proofs.YthbbmookhcalkaaGreatDoor.Base
set_option linter.unusedVariables false

def refsB (o : Int) : Bool := o == 3 || o == 4 || o == 5
def lastB (o : Int) : Bool := o == 4 || o == 6 || o == 7
def szI (l n : Int) : Int := if l - n < 0 then -1 else l - n

theorem szI_neg {l n : Int} (h : l < n) : -1 = szI l n := by unfold szI; rw [if_pos (by omega)]
theorem szI_pos {l n : Int} (h : ¬ l < n) : l - n = szI l n := by unfold szI; rw [if_neg (by omega)]


set_option maxHeartbeats 400000 in
theorem specRefs_any (o n : Int) (s : ByteArray) (w : World) :
    Calls Tryz.prog 73 #[.agg #[.int .i64 o, .int .i64 n, .string s]] w fun e w' => e = .returned (.bool (refsB o)) ∧ Below w.heap.size w w' := by
  go_enter Tryz.func73, Tryz.ntmps73
  go_wp2
  all_goals (go_ret; exact ⟨ret_bool (by simp [refsB, *]), below_alloc1 _ _⟩)

set_option maxHeartbeats 400000 in
theorem specLast_any (o n : Int) (s : ByteArray) (w : World) :
    Calls Tryz.prog 71 #[.agg #[.int .i64 o, .int .i64 n, .string s]] w fun e w' => e = .returned (.bool (lastB o)) ∧ Below w.heap.size w w' := by
  go_enter Tryz.func71, Tryz.ntmps71
  go_wp2
  all_goals (go_ret; exact ⟨ret_bool (by simp [lastB, *]), below_alloc1 _ _⟩)

set_option maxHeartbeats 400000 in
theorem hasName_any (o : Int) (w : World) :
    Calls Tryz.prog 100 #[.int .i64 o] w fun e w' => e = .returned (.bool (refsB o)) ∧ w' = w := by
  go_enter Tryz.func100, Tryz.ntmps100
  go_wp2
  all_goals (go_ret; exact ⟨ret_bool (by simp [refsB, *]), rfl⟩)

set_option maxHeartbeats 400000 in
theorem isLast_any (o : Int) (w : World) :
    Calls Tryz.prog 102 #[.int .i64 o] w fun e w' => e = .returned (.bool (lastB o)) ∧ w' = w := by
  go_enter Tryz.func102, Tryz.ntmps102
  go_wp2
  all_goals (go_ret; exact ⟨ret_bool (by simp [lastB, *]), rfl⟩)

set_option maxHeartbeats 400000 in
theorem implRefs_any (o n : Int) (s : ByteArray) (w : World) :
    Calls Tryz.prog 76 #[.agg #[.int .i64 o, .int .i64 n, .string s]] w fun e w' => e = .returned (.bool (refsB o)) ∧ Below w.heap.size w w' := by
  go_enter Tryz.func76, Tryz.ntmps76
  go_wp2_with (go_at_call 100; refine (hasName_any _ _).mono ?_; rintro e w' ⟨rfl, rfl⟩)
  go_ret
  exact ⟨rfl, below_alloc1 _ _⟩

set_option maxHeartbeats 400000 in
theorem implLast_any (o n : Int) (s : ByteArray) (w : World) :
    Calls Tryz.prog 66 #[.agg #[.int .i64 o, .int .i64 n, .string s]] w fun e w' => e = .returned (.bool (lastB o)) ∧ Below w.heap.size w w' := by
  go_enter Tryz.func66, Tryz.ntmps66
  go_wp2_with (go_at_call 102; refine (isLast_any _ _).mono ?_; rintro e w' ⟨rfl, rfl⟩)
  go_ret
  exact ⟨rfl, below_alloc1 _ _⟩

set_option maxHeartbeats 400000 in
theorem szIns_any (o n l : Int) (s : ByteArray) (w : World) (h0 : 0 ≤ l) (h1 : l ≤ 1048576) (hs : s.size ≤ maxLen) :
    Calls Tryz.prog 107 #[.agg #[.int .i64 o, .int .i64 n, .string s], .int .i64 l] w fun e w' => e = .returned (.int .i64 (szI l s.size)) ∧ Below w.heap.size w w' := by
  unfold maxLen at hs
  by_cases hlt : l < s.size
  · go_enter Tryz.func107, Tryz.ntmps107
    go_wp2
    go_ret
    exact ⟨ret_int (szI_neg hlt), below_alloc1 _ _⟩
  · go_enter Tryz.func107, Tryz.ntmps107
    go_wp2
    go_ret
    exact ⟨ret_int (szI_pos (by omega)), below_alloc1 _ _⟩

set_option maxHeartbeats 400000 in
theorem toIns_any (o n : Int) (s : ByteArray) (w : World) :
    Calls Tryz.prog 109 #[.agg #[.int .i64 o, .int .i64 n, .string s]] w fun e w' => e = .returned (.agg #[.int .i64 o, .int .i64 n, .string s]) ∧ Below w.heap.size w w' := by
  go_enter Tryz.func109, Tryz.ntmps109
  go_wp2
  exact bodyPost_ret (v := .agg #[.int .i64 o, .int .i64 n, .string s]) (by simp [results, Tryz.results109, go_sem]) rfl ⟨rfl, below_alloc3 _ _ _ _⟩

end Go.Proofs.YthbbmookhcalkaaGreatDoor.InsA
