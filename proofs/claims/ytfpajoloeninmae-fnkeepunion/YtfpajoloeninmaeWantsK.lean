/- The contract of the program's UnitWants: the set of names told in order by slices.Sorted and maps.Keys. -/
import Derived.Test.YtfpajoloeninmaeWantsL
import Derived.Test.YtfpajoloeninmaeIter
namespace Go.Proofs.Ytfpajoloeninmae.WantsK
open Go.ChangeShapes Go.WideShapes Go.ChangeAt Go.RowKit Go.Joins Go.Maps Go.Sort Go.Shelf
open Go.Proofs.Ytfpajoloeninmae.Base Go.Proofs.Ytfpajoloeninmae.InsA Go.Proofs.Ytfpajoloeninmae.InsB Go.Proofs.Ytfpajoloeninmae.Funs Go.Proofs.Ytfpajoloeninmae.Open Go.Proofs.Ytfpajoloeninmae.FunS Go.Proofs.Ytfpajoloeninmae.Keep Go.Proofs.Ytfpajoloeninmae.UnitS Go.Proofs.Ytfpajoloeninmae.UnitM Go.Proofs.Ytfpajoloeninmae.Refs Go.Proofs.Ytfpajoloeninmae.Mark Go.Proofs.Ytfpajoloeninmae.WantsS Go.Proofs.Ytfpajoloeninmae.WantsI Go.Proofs.Ytfpajoloeninmae.WantsL
set_option linter.unusedVariables false
set_option maxRecDepth 100000

set_option maxHeartbeats 2000000 in
theorem inOrder_any (b nn : Nat) (D0 : DataW Unit) (w : World) (hown : w.ownsMap Try.prog 9 (unitElem (H := Unit)) b nn D0) (hmax : Maps.size D0 ≤ 1000000) :
    Calls Try.prog 55 #[.map (some b)] w fun e w' => ∃ (v : Value) (ss : List (List UInt8)), e = .returned v ∧ ss.Perm (strKeys D0) ∧
      w'.ownsRow w.heap.size 9 1 v ss.length ((ss.mergeSort (fun x y => decide (x ≤ y))).map encStr) ∧ Below w.heap.size w w' := by
  refine (callsIn_wide (n := 6)).1 ?_
  have hfK : Fence.wide.fn 82 := trivial
  have hfS : Fence.wide.fn 81 := trivial
  have hm1 : Maps.size D0 ≤ maxLen := by unfold maxLen; omega
  have hm2 : Maps.size D0 * 16 ≤ 140737488355328 := by omega
  refine callsIn_of_wp Try.func55 rfl trivial ?_ rfl
  simp only [Try.ntmps55, List.size_toArray, List.length_cons, List.length_nil, Nat.reduceAdd, Nat.reduceSub, Array.replicate_succ, Array.replicate_zero, List.push_toArray, List.append_toArray, List.nil_append, List.cons_append]
  gi_wp2_with (first
    | (gi_at_call 82; refine (Try.maps_Keys_82 _ _).mono ?_; rintro e w' ⟨rfl, rfl⟩)
    | (gi_at_call 81; refine (Try.slices_Sorted_keys_81_82 b nn D0 _ w hown hm1 hm2).mono ?_; rintro e w' ⟨v, ss, rfl, hS, hrow, hnil, hb⟩))
  go_ret
  exact ⟨v, ss, rfl, hS, ownsRow_base_a hrow (by simp), ((Below.refl _ w).alloc (Nat.le_refl _) _).trans (hb.mono (by simp))⟩
end Go.Proofs.Ytfpajoloeninmae.WantsK
