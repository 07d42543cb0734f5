/- The contract of the program's UnitWants: the set of names told in order by slices.Sorted and maps.Keys. -/
import Derived.Test.YthbbmookhcalkaaDoorWantsL
import Derived.Test.YthbbmookhcalkaaDoorIter
namespace Go.Proofs.YthbbmookhcalkaaDoor.WantsK
open Go.ChangeShapes Go.WideShapes Go.ChangeAt Go.RowKit Go.Joins Go.Maps Go.Sort Go.Shelf
open Go.Proofs.YthbbmookhcalkaaDoor.Base Go.Proofs.YthbbmookhcalkaaDoor.InsA Go.Proofs.YthbbmookhcalkaaDoor.InsB Go.Proofs.YthbbmookhcalkaaDoor.Funs Go.Proofs.YthbbmookhcalkaaDoor.Open Go.Proofs.YthbbmookhcalkaaDoor.FunS Go.Proofs.YthbbmookhcalkaaDoor.Keep Go.Proofs.YthbbmookhcalkaaDoor.UnitS Go.Proofs.YthbbmookhcalkaaDoor.UnitM Go.Proofs.YthbbmookhcalkaaDoor.Refs Go.Proofs.YthbbmookhcalkaaDoor.Mark Go.Proofs.YthbbmookhcalkaaDoor.WantsS Go.Proofs.YthbbmookhcalkaaDoor.WantsI Go.Proofs.YthbbmookhcalkaaDoor.WantsL
set_option linter.unusedVariables false
set_option maxRecDepth 100000

set_option maxHeartbeats 2000000 in
theorem inOrder_any (b nn : Nat) (D0 : DataW Unit) (w : World) (hown : w.ownsMap Tryd.prog 9 (unitElem (H := Unit)) b nn D0) (hmax : Maps.size D0 ≤ 1000000) :
    Calls Tryd.prog 72 #[.map (some b)] w fun e w' => ∃ (v : Value) (ss : List (List UInt8)), e = .returned v ∧ ss.Perm (strKeys D0) ∧
      w'.ownsRow w.heap.size 9 1 v ss.length ((ss.mergeSort (fun x y => decide (x ≤ y))).map encStr) ∧ Below w.heap.size w w' := by
  refine (callsIn_wide (n := 6)).1 ?_
  have hfK : Fence.wide.fn 87 := trivial
  have hfS : Fence.wide.fn 86 := trivial
  have hm1 : Maps.size D0 ≤ maxLen := by unfold maxLen; omega
  have hm2 : Maps.size D0 * 16 ≤ 140737488355328 := by omega
  refine callsIn_of_wp Tryd.func72 rfl trivial ?_ rfl
  simp only [Tryd.ntmps72, List.size_toArray, List.length_cons, List.length_nil, Nat.reduceAdd, Nat.reduceSub, Array.replicate_succ, Array.replicate_zero, List.push_toArray, List.append_toArray, List.nil_append, List.cons_append]
  gi_wp2_with (first
    | (gi_at_call 87; refine (Tryd.maps_Keys_87 _ _).mono ?_; rintro e w' ⟨rfl, rfl⟩)
    | (gi_at_call 86; refine (Tryd.slices_Sorted_keys_86_87 b nn D0 _ w hown hm1 hm2).mono ?_; rintro e w' ⟨v, ss, rfl, hS, hrow, hnil, hb⟩))
  go_ret
  exact ⟨v, ss, rfl, hS, ownsRow_base_a hrow (by simp), ((Below.refl _ w).alloc (Nat.le_refl _) _).trans (hb.mono (by simp))⟩
end Go.Proofs.YthbbmookhcalkaaDoor.WantsK
