/- The contract of the program's UnitWants: the set of names told in order by slices.Sorted and maps.Keys. -/
import Derived.Test.YtdiaepjchcmelasWantsL
import Derived.Test.YtdiaepjchcmelasIter
namespace Go.Proofs.Ytdiaepjchcmelas.WantsK
open Go.ChangeShapes Go.WideShapes Go.ChangeAt Go.RowKit Go.Joins Go.Maps Go.Sort Go.Shelf
open Go.Proofs.Ytdiaepjchcmelas.Base Go.Proofs.Ytdiaepjchcmelas.InsA Go.Proofs.Ytdiaepjchcmelas.InsB Go.Proofs.Ytdiaepjchcmelas.Funs Go.Proofs.Ytdiaepjchcmelas.Open Go.Proofs.Ytdiaepjchcmelas.FunS Go.Proofs.Ytdiaepjchcmelas.Keep Go.Proofs.Ytdiaepjchcmelas.UnitS Go.Proofs.Ytdiaepjchcmelas.UnitM Go.Proofs.Ytdiaepjchcmelas.Refs Go.Proofs.Ytdiaepjchcmelas.Mark Go.Proofs.Ytdiaepjchcmelas.WantsS Go.Proofs.Ytdiaepjchcmelas.WantsI Go.Proofs.Ytdiaepjchcmelas.WantsL
set_option linter.unusedVariables false
set_option maxRecDepth 100000

set_option maxHeartbeats 2000000 in
theorem inOrder_any (b nn : Nat) (D0 : DataW Unit) (w : World) (hown : w.ownsMap Try.prog 9 (unitElem (H := Unit)) b nn D0) (hmax : Maps.size D0 ≤ 1000000) :
    Calls Try.prog 48 #[.map (some b)] w fun e w' => ∃ (v : Value) (ss : List (List UInt8)), e = .returned v ∧ ss.Perm (strKeys D0) ∧
      w'.ownsRow w.heap.size 9 1 v ss.length ((ss.mergeSort (fun x y => decide (x ≤ y))).map encStr) ∧ Below w.heap.size w w' := by
  refine (callsIn_wide (n := 6)).1 ?_
  have hfK : Fence.wide.fn 64 := trivial
  have hfS : Fence.wide.fn 63 := trivial
  have hm1 : Maps.size D0 ≤ maxLen := by unfold maxLen; omega
  have hm2 : Maps.size D0 * 16 ≤ 140737488355328 := by omega
  refine callsIn_of_wp Try.func48 rfl trivial ?_ rfl
  simp only [Try.ntmps48, List.size_toArray, List.length_cons, List.length_nil, Nat.reduceAdd, Nat.reduceSub, Array.replicate_succ, Array.replicate_zero, List.push_toArray, List.append_toArray, List.nil_append, List.cons_append]
  gi_wp2_with (first
    | (gi_at_call 64; refine (Try.maps_Keys_64 _ _).mono ?_; rintro e w' ⟨rfl, rfl⟩)
    | (gi_at_call 63; refine (Try.slices_Sorted_keys_63_64 b nn D0 _ w hown hm1 hm2).mono ?_; rintro e w' ⟨v, ss, rfl, hS, hrow, hnil, hb⟩))
  go_ret
  exact ⟨v, ss, rfl, hS, ownsRow_base_a hrow (by simp), ((Below.refl _ w).alloc (Nat.le_refl _) _).trans (hb.mono (by simp))⟩
end Go.Proofs.Ytdiaepjchcmelas.WantsK
