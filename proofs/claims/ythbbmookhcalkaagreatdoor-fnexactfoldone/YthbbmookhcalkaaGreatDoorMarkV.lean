/- Marks in the instructions of one function that the call owns: markFun, heldFun, eqFun over a value of the call's own. -/
import Derived.Test.YthbbmookhcalkaaGreatDoorKeepC
import Derived.Test.YthbbmookhcalkaaGreatDoorMark
import Derived.Deep.RegionHeld3
namespace Go.Proofs.YthbbmookhcalkaaGreatDoor.MarkV
open Go.ChangeShapes Go.WideShapes Go.ChangeAt Go.RowKit Go.Joins Go.Deep
open Go.Proofs.YthbbmookhcalkaaGreatDoor.Base Go.Proofs.YthbbmookhcalkaaGreatDoor.InsA Go.Proofs.YthbbmookhcalkaaGreatDoor.Funs Go.Proofs.YthbbmookhcalkaaGreatDoor.Open Go.Proofs.YthbbmookhcalkaaGreatDoor.Keep Go.Proofs.YthbbmookhcalkaaGreatDoor.Mark Go.Proofs.YthbbmookhcalkaaGreatDoor.Concat Go.Proofs.YthbbmookhcalkaaGreatDoor.KeepC
set_option linter.unusedVariables false
set_option maxRecDepth 100000

theorem insO_below {w w' : World} {B : Nat} {v : Value} {xs : List InsD} (h : InsO w B v xs) (hb : Below w.heap.size w w') : InsO w' B v xs := row_below h hb
theorem Stable.insO (B : Nat) (v : Value) (xs : List InsD) : Stable (fun w => InsO w B v xs) := ⟨fun w w' hb hs => insO_below hs hb, fun w hs => hs⟩
theorem insO_grown {w w' : World} {B : Nat} {v : Value} {xs : List InsD} {row : Option Nat} (h : InsO w B v xs) (hg : w.grownBy w' row) (hne : v.ownBlock = none ∨ v.ownBlock ≠ row) : InsO w' B v xs := World.ownsRow.kept h hg hne
theorem insO_nil (w : World) (B : Nat) : InsO w B (.slice none 0 0) [] := World.ownsRow_nil _ _ _ _
theorem mi_below {w w' : World} {R k z n : Nat} (h : MarkedI w R k z n) (hb : Below w.heap.size w w') : MarkedI w' R k z n := by
  obtain ⟨C, hC, h⟩ := h
  exact ⟨C, box_below hC hb, h⟩
set_option maxHeartbeats 2000000 in
theorem heldInsS_any (R n cap k z : Nat) (hk : 0 < k) (hkm : k + n * 3 ≤ 1125899906842624) (hn : n * 3 ≤ z) (w : World) (hO : MarkedI w R k z n) :
    Calls Tryz.prog 53 #[.slice (some ⟨R, 0, none⟩) n cap, .int .i64 k] w fun e w' => e = .returned (.int .i64 ((k + n * 3 : Nat) : Int)) ∧ Below w.heap.size w w' := by
  have HO := hide hO
  clear hO
  go_enter Tryz.func53, Tryz.ntmps53
  go_wp2_with fail
  go_loopw [1, 5] (fun kk i w' => ∃ j : Nat, j ≤ n ∧ i = .int .i64 j ∧ kk = .int .i64 ((k : Int) + (j : Int) * 3) ∧ Below w.heap.size w w') (fun _ i _ => n - (intOf i).toNat)
  case atStart => exact ⟨0, Nat.zero_le _, rfl, by simp, Below.refl _ _⟩
  case round =>
    obtain ⟨j, hj, rfl, rfl, hB⟩ := hrel
    by_cases hjl : j < n
    · have hjl' : (j : Int) < (n : Int) := by omega
      obtain ⟨C, hC, hz, hm⟩ := mi_below (unhide HO) hB
      obtain ⟨m0, m1, m2⟩ := hm j hjl
      have c0 : wr.cell? ⟨R, j * 3, none⟩ = some (.int .i64 ((k : Int) + (j : Int) * 3)) := by rw [cell_of_block hC]; exact m0
      have c1 : wr.cell? ⟨R, j * 3 + 1, none⟩ = some (.int .i64 ((k : Int) + (j : Int) * 3 + 1)) := by rw [cell_of_block hC]; exact m1
      have c2 : wr.cell? ⟨R, j * 3 + 2, none⟩ = some (.string (mk (k + j * 3 + 2))) := by rw [cell_of_block hC]; exact m2
      have hS0 := And.intro c0 (And.intro c1 (And.intro c2 hB))
      generalize hmk : mk (k + j * 3 + 2) = m at *
      have HST : Hid (Stable (fun w' => w'.cell? ⟨R, j * 3, none⟩ = some (.int .i64 ((k : Int) + (j : Int) * 3)) ∧ w'.cell? ⟨R, j * 3 + 1, none⟩ = some (.int .i64 ((k : Int) + (j : Int) * 3 + 1)) ∧ w'.cell? ⟨R, j * 3 + 2, none⟩ = some (.string m) ∧ Below w.heap.size w w')) := (Stable.cell _ _).and ((Stable.cell _ _).and ((Stable.cell _ _).and (Stable.below w)))
      clear hm hC m0 m1 m2
      go_wp2_with fail
      go_region_held3 (fun w' => w'.cell? ⟨R, j * 3, none⟩ = some (.int .i64 ((k : Int) + (j : Int) * 3)) ∧ w'.cell? ⟨R, j * 3 + 1, none⟩ = some (.int .i64 ((k : Int) + (j : Int) * 3 + 1)) ∧ w'.cell? ⟨R, j * 3 + 2, none⟩ = some (.string m) ∧ Below w.heap.size w w') (first | assumption | (refine (unhide HST).1 _ _ hbk ?_; assumption) | (refine (unhide HST).2 _ ?_; assumption))
        (first | (go_at_call 51; refine (markText_any (k + j * 3 + 2) (by omega) (by omega) _).mono ?_; rw [hmk]; rintro e wk1 ⟨rfl, hbk⟩))
      have hS1 : (fun w' => w'.cell? ⟨R, j * 3, none⟩ = some (.int .i64 ((k : Int) + (j : Int) * 3)) ∧ w'.cell? ⟨R, j * 3 + 1, none⟩ = some (.int .i64 ((k : Int) + (j : Int) * 3 + 1)) ∧ w'.cell? ⟨R, j * 3 + 2, none⟩ = some (.string m) ∧ Below w.heap.size w w') wk1 := by assumption
      have hB1 := hS1.2.2.2
      clear hS0 hS1
      go_wp2_with fail
      exact ⟨⟨j + 1, by omega, by go_num, by go_num, hB1⟩, by simp [intOf]; omega⟩
    · have hjl' : ¬ (j : Int) < (n : Int) := by omega
      go_wp2_with fail
      go_ret
      exact ⟨ret_int (by omega), hB⟩
/-- Instructions behind a value, all of them marked. -/
def MarkedV (w : World) (v : Value) (n : Nat) : Prop := (n = 0 ∧ v = .slice none 0 0) ∨ ∃ g cap z, v = .slice (some ⟨g, 0, none⟩) n cap ∧ n * 3 ≤ z ∧ MarkedI w g 1 z n
theorem MarkedV.below {w w' : World} {v : Value} {n : Nat} (h : MarkedV w v n) (hb : Below w.heap.size w w') : MarkedV w' v n := by
  rcases h with h | ⟨g, cap, z, h0, h1, h2⟩
  · exact .inl h
  · exact .inr ⟨g, cap, z, h0, h1, mi_below h2 hb⟩
theorem Stable.markedV (v : Value) (n : Nat) : Stable (fun w => MarkedV w v n) := ⟨fun w w' hb hs => hs.below hb, fun w hs => hs⟩
end Go.Proofs.YthbbmookhcalkaaGreatDoor.MarkV
