/- The contracts of the program's unitsOk, rowsByName, PickAt, PickTwo: names kept in a map to what goes ahead. -/
import Derived.Test.YtekikhjghnjgaatPickS
import Derived.Test.YtekikhjghnjgaatUnitM
import Derived.Deep.QuietTactic
import Derived.BigQuiet
namespace Go.Proofs.Ytekikhjghnjgaat.PickM
open Go.ChangeShapes Go.WideShapes Go.ChangeAt Go.RowKit Go.Joins Go.WideMaps Go.Maps
open Go.Proofs.Ytekikhjghnjgaat.Base Go.Proofs.Ytekikhjghnjgaat.InsA Go.Proofs.Ytekikhjghnjgaat.Funs Go.Proofs.Ytekikhjghnjgaat.Open Go.Proofs.Ytekikhjghnjgaat.FunS Go.Proofs.Ytekikhjghnjgaat.Keep Go.Proofs.Ytekikhjghnjgaat.UnitS Go.Proofs.Ytekikhjghnjgaat.UnitM Go.Proofs.Ytekikhjghnjgaat.UU Go.Proofs.Ytekikhjghnjgaat.PickD Go.Proofs.Ytekikhjghnjgaat.PickS
set_option linter.unusedVariables false
set_option maxRecDepth 100000

set_option maxHeartbeats 1000000 in
theorem implUnitsOk_any (a : Option Addr) (cap : Nat) (us : List (List FunD)) (m : Nat) (w : World) (hm9 : m ≤ 1000) (hcap : us.length ≤ cap) (hcm : cap ≤ maxLen) (hR : UnitRow w a us) :
    Calls Try.prog 32 #[.slice a us.length cap, .int .i64 (m : Int)] w fun e w' => e = .returned (.bool (unitsOkB us m)) ∧ Below w.heap.size w w' := by
  have HR := hide hR
  clear hR
  unfold maxLen at hcm
  have hlen : (us.length : Int) ≤ 9223372036854775807 := by omega
  by_cases hlong : m < us.length
  · have hlong' : (m : Int) < (us.length : Int) := by omega
    have HE := hide (units_long hlong)
    go_enter Try.func32, Try.ntmps32
    go_wp2_with fail
    go_ret
    exact ⟨ret_bool (unhide HE), Below.refl _ _⟩
  have hlong' : ¬ (m : Int) < (us.length : Int) := by omega
  go_enter Try.func32, Try.ntmps32
  go_wp2_with fail
  go_loopw [13] (fun i w' => ∃ k : Nat, k ≤ us.length ∧ i = .int .i64 k ∧ Hid (∀ i (h : i < us.length), i < k → unitOkB us[i] = true) ∧ Below w.heap.size w w') (fun i _ => us.length - (intOf i).toNat)
  case atStart => exact ⟨0, Nat.zero_le _, rfl, fun i h h0 => by omega, Below.refl _ _⟩
  case round =>
    obtain ⟨k, hk, rfl, HN, hB⟩ := hrel
    by_cases hkl : k < us.length
    · obtain ⟨b, off, rfl⟩ := (unhide HR).get (by omega)
      obtain ⟨ai, ci, c0, h4, h5, h6⟩ := ((unhide HR).below hB).at hkl
      have H6 := hide h6
      clear h6
      have hkl' : (k : Int) < (us.length : Int) := by omega
      have HB1 := hide (units_bad (m := m) hkl)
      have HX : Hid (unitOkB us[k] = true → ∀ i (h : i < us.length), i < k + 1 → unitOkB us[i] = true) := fun h1 i hi hlt => by
        by_cases e : i = k
        · subst e; exact h1
        · exact unhide HN i hi (by omega)
      generalize us[k] = f at *
      cases hok : unitOkB f
      · go_wp2_with fail
        refine (implUnitOk_any ai ci f _ h4 h5 (unhide H6)).mono ?_
        rintro e w1 ⟨rfl, hb1⟩
        rw [hok]
        go_wp2_with fail
        go_ret
        exact ⟨ret_bool (unhide HB1 hok), bl_trans hB hb1⟩
      · go_wp2_with fail
        refine (implUnitOk_any ai ci f _ h4 h5 (unhide H6)).mono ?_
        rintro e w1 ⟨rfl, hb1⟩
        rw [hok]
        go_wp2_with fail
        exact ⟨⟨k + 1, by omega, by go_num, unhide HX hok, bl_trans hB hb1⟩, by simp [intOf]; omega⟩
    · have HE := hide (units_end (m := m) (fun i h => unhide HN i h (by omega)))
      have h5 : us.length ≤ m := by omega
      go_wp2_with fail
      go_ret
      exact ⟨ret_bool (by rw [unhide HE]; exact (decide_eq_true h5).symm), hB⟩


theorem ok_five {us : List (List FunD)} {m : Nat} (h : unitsOkB us m = true) : ∀ u ∈ us, u.length ≤ 5 := fun u hu => unit_le (units_each h u hu)


end Go.Proofs.Ytekikhjghnjgaat.PickM
