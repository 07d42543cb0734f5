/- For every list of cells the exact law of ImageText answers true, and the list reads afterwards as it did. No condition. -/
import Derived.Test.YthbbmookhcalkaaDoorBase
import Derived.WalkKit
import Derived.ProofKit
import Derived.OpenShut
import Derived.ShutString
import Derived.ChangeOld
import Derived.Below
import Derived.Lib.SmallJoins
import Derived.Deep.Cut
import Derived.Deep.RegionHeld3
import Derived.LaidMore
import Derived.Stop.Joined
import Derived.Stop.LaidErr
import Derived.MakeChecks
import Derived.SevenTiedAt
import Derived.Lib.LaidTab
import Derived.Lib.ItoaNum
import Derived.Test.YthbbmookhcalkaaDoorTie
import Derived.Test.YthbbmookhcalkaaDoorCards
import Derived.Test.YthbbmookhcalkaaDoorFuns
import Derived.Test.YthbbmookhcalkaaDoorOpen
import Derived.Test.YthbbmookhcalkaaDoorKeep
import Derived.Test.YthbbmookhcalkaaDoorCellA
import Derived.Test.YthbbmookhcalkaaDoorImgD
import Derived.Test.YthbbmookhcalkaaDoorImgOk
import Derived.Test.YthbbmookhcalkaaDoorText
import Derived.Test.YthbbmookhcalkaaDoorBTxt
import Derived.Test.YthbbmookhcalkaaDoorITxt
namespace Go.Proofs.YthbbmookhcalkaaDoor.fnExactImageText
open Go.ChangeShapes Go.WideShapes Go.ChangeAt Go.RowKit Go.Joins
open Go.ChangeMaps (open_string shut_string)
open Go.Proofs.YthbbmookhcalkaaDoor.Base
open Go.Proofs.YthbbmookhcalkaaDoor.Funs
open Go.Proofs.YthbbmookhcalkaaDoor.Open
open Go.Proofs.YthbbmookhcalkaaDoor.Keep
open Go.Proofs.YthbbmookhcalkaaDoor.CellA
open Go.Proofs.YthbbmookhcalkaaDoor.ImgD
open Go.Proofs.YthbbmookhcalkaaDoor.ImgOk
open Go.Proofs.YthbbmookhcalkaaDoor.Text
open Go.Proofs.YthbbmookhcalkaaDoor.BTxt
open Go.Proofs.YthbbmookhcalkaaDoor.ITxt
set_option linter.unusedVariables false
set_option maxRecDepth 100000
theorem own : ownKnob Tryd.prog.godebug = none := by kernel_rfl
theorem laidOut : laidOutB Tryd.prog = true := by kernel_rfl

theorem ml {n : Nat} (h : n ≤ 1048576) : n ≤ maxLen := by unfold maxLen; omega
set_option maxHeartbeats 4000000 in
theorem walk (a : Option Addr) (cap : Nat) (xs : List CellD) (hl : xs.length ≤ cap) (hm : cap ≤ maxLen) (w : World) (hr : CellRow w a xs) (htab : Lib.TabIs Tryd.prog w "internal/strconv.uint64pow10" .u64 Lib.pow10Tab) :
    Calls Tryd.prog 5 #[.slice a xs.length cap] w fun e w' => e = .returned (.bool true) ∧ Below w.heap.size w w' := by
  have HR := hide hr
  have HT := hide htab
  clear hr htab
  by_cases hz : sz1 xs.length 1048576 < 0
  · go_enter Tryd.func5, Tryd.ntmps5
    go_wp2_with fail
    refine (szCellS_any a cap xs _ _ (by omega) (by omega) hl hm).mono ?_
    rintro e w1 ⟨rfl, hb1⟩
    go_wp2_with fail
    go_ret
    exact ⟨rfl, hb1⟩
  have hz0 : 0 ≤ sz1 xs.length 1048576 := by omega
  have hle := sz1_len hz0 (by omega)
  go_enter Tryd.func5, Tryd.ntmps5
  go_wp2_with fail
  refine (szCellS_any a cap xs _ _ (by omega) (by omega) hl hm).mono ?_
  rintro e w1 ⟨rfl, hb1⟩
  go_wp2_with fail
  refine (toCellS_any a cap xs _ hle hl hm ((unhide HR).below hb1)).mono ?_
  rintro e w2 ⟨rfl, hO2, hb2⟩
  have hB2 := bl_trans hb1 hb2
  have HR2 := hide (OwnCells.row hO2)
  clear hO2 hb1 hb2
  go_wp2_with fail
  refine (specImageText_any _ _ xs _ (Nat.le_refl _) (ml hle) (unhide HR2)).mono ?_
  rintro e w3 ⟨rfl, hb3⟩
  have hB3 := bl_trans hB2 hb3
  clear HR2 hb3 hB2
  go_wp2_with fail
  refine (toCellS_any a cap xs _ hle hl hm ((unhide HR).below hB3)).mono ?_
  rintro e w4 ⟨rfl, hO4, hb4⟩
  have hB4 := bl_trans hB3 hb4
  have HR4 := hide (OwnCells.row hO4)
  clear hO4 hb4 hB3
  go_wp2_with fail
  refine (implImageText_any _ _ xs _ (Nat.le_refl _) (ml hle) (unhide HR4) (hide (tab_stays Go.Proofs.YthbbmookhcalkaaDoor.Text.gPow (unhide HT) hB4 (Nat.le_refl _)))).mono ?_
  rintro e w5 ⟨rfl, hb5⟩
  have hB5 := bl_trans hB4 hb5
  have HR5 := hide ((unhide HR4).below hb5)
  clear HR4 hb5 hB4
  generalize imageTextB xs = tt at *
  go_wp2_with fail
  refine (toCellS_any a cap xs _ hle hl hm ((unhide HR).below hB5)).mono ?_
  rintro e w6 ⟨rfl, hO6, hb6⟩
  have hB6 := bl_trans hB5 hb6
  have HR6 := hide (And.intro ((unhide HR5).below hb6) (OwnCells.row hO6))
  clear hO6 hb6 hB5 HR5
  go_wp2_with fail
  refine (eqCellS_same _ _ _ _ xs _ (Nat.le_refl _) (ml hle) (unhide HR6).1 (unhide HR6).2).mono ?_
  rintro e w7 ⟨rfl, hb7⟩
  have hB7 := bl_trans hB6 hb7
  clear HR6 hb7 hB6
  go_wp2_with fail
  go_ret
  exact ⟨rfl, hB7⟩

theorem gPow : Tryd.prog.globalNamed "internal/strconv.uint64pow10" = some 0 := by kernel_rfl
theorem gPowType : (Tryd.prog.globals[0]?).map (·.type) = some 123 := by kernel_rfl
theorem powCells : Tryd.prog.cellsOf 123 = 20 := by kernel_rfl
theorem u64Cells : Tryd.prog.cellsOf 113 = 1 := by kernel_rfl
theorem powDatum : (Rows.laid_internal_strconv_uint64pow10 : DataW Unit) = Lib.tabData .u64 Lib.pow10Tab := by kernel_rfl
/-- What the listed variables give the walk: the table of the powers of ten. -/
theorem tab_of {W : World} (h : laidMetH Tryd.prog Rows.fnExactImageTextRow.laid W) : Lib.TabIs Tryd.prog W "internal/strconv.uint64pow10" .u64 Lib.pow10Tab := by
  rw [MakeChecks.laidMetH_plain _ _ _ (by kernel_rfl)] at h
  have h2 : laidMet Tryd.prog [("internal/strconv.uint64pow10", Rows.laid_internal_strconv_uint64pow10)] W := laidMet.tail (laidMet.tail h)
  rw [powDatum] at h2
  exact Lib.tabIs_of_head gPow gPowType Tryd.underlying123 Tryd.underlying113 u64Cells powCells h2
theorem door_met (os : Os) (args : Array Value) : laidMetH Tryd.prog Rows.fnExactImageTextRow.laid ((World.doorLaid Tryd.prog 400 os).forCall (fun _ _ => 0) ⟨#[], args, []⟩).memory :=
  laidMetH_of_parts3 (fuel := 8) (laidMet_of_run' 8 (by kernel_rfl) (by kernel_rfl)) (by kernel_rfl) (by kernel_rfl)

set_option maxRecDepth 100000 in
theorem lifted (os : Os) (started : os.Started) (H : Type) (enc : TypeId × Value → H) :
    ReturnsInHanded {} Tryd.checked os 5 .any (fun w args => (Rows.fnExactImageTextSpec.pre enc Tryd.prog Tryd.f5 [] false w args ∧ laidMetH Tryd.prog Rows.fnExactImageTextRow.laid w) ∧ sizedMet enc Tryd.prog Tryd.f5 (OpenSpec.ofChange Rows.fnExactImageTextSpec) false w args) (Rows.fnExactImageTextSpec.post enc Tryd.prog Tryd.f5 false true false false) := by
  refine returnsInHanded_of_change_and (C := Tryd.checked) (X := fun w _ => laidMetH Tryd.prog Rows.fnExactImageTextRow.laid w) (fun _ _ _ hh h => h.of_heap hh) own started (by kernel_rfl) Tryd.func5
    (ChangeSpec.witness_shaped (enc := enc) (C := Tryd.checked) (os := os) (X := fun w _ => laidMetH Tryd.prog Rows.fnExactImageTextRow.laid w) false (World.doorLaid Tryd.prog 400 os) #[.slice none 0 0] 8 rfl (World.shaped_of_RefB (by kernel_rfl) (by kernel_rfl)) (by kernel_rfl) (by kernel_rfl) (by kernel_rfl) (door_met os _)) ?_
  intro W base args ds gs before hval0 hW _ _ hL _
  have htab := tab_of hL
  have hval : ∀ (j : Nat) t v, Tryd.f5.params[j]? = some t → args[j]? = some v → Value.okWide Tryd.prog W .any base t v := hval0
  have hW' := hW
  obtain ⟨p, q, hA0, hV, rfl, hfz, hnd⟩ := hW
  have hA : DataW.TrodAll enc Tryd.prog W 0 (fun _ => true) true Tryd.f5.params.toList args.toList ds p := hA0
  rw [Tryd.params5] at hA hval
  obtain ⟨v0, vs0, d0, ds0, p0, q0, hargs, rfl, rfl, h0, r0⟩ := trodAll_cons hA
  obtain ⟨rfl, rfl, rfl⟩ := trodAll_nil r0
  obtain rfl : args = #[v0] := by cases args; simp_all
  obtain ⟨rfl, rfl⟩ := trodVars_none hV
  have k0 := h0
  have lt0 : ∀ x ∈ p0, x.block < W.heap.size := by obtain ⟨m, hm⟩ := k0; exact DataW.trod_lt m _ _ _ hm
  obtain ⟨a0, cap0, xs0, hv0, hl0, hm0, hr0⟩ := cells_of (hval 0 31 v0 rfl rfl) h0
  clear hA0 hval0
  subst hv0
  refine (walk a0 cap0 xs0 hl0 hm0 W hr0 htab).mono fun e W' ⟨he, bel⟩ => ?_
  subst he
  exact ⟨_, rfl, _, _, _, [], _, [], hW', trodAll_mk1 (shut_bool Tryd.underlying4 _), (trodAll_cons_mk (Below.trod laidOut (by kernel_rfl) (of_decide_eq_true (by kernel_rfl)) k0 bel lt0) trodAll_mk0), rfl, bel.frame _, fun h => by cases h⟩

theorem row_holds : Rows.FnExactImageTextSaid :=
  OpenClaim.holds_of_wide 5 Tryd.f5 rfl rfl rfl rfl rfl rfl rfl ⟨rfl, rfl, rfl, rfl, rfl⟩ rfl rfl rfl rfl rfl (by kernel_rfl) Tryd.func5 (by kernel_rfl)
    (of_decide_eq_true (by kernel_rfl)) (by unfold Func.isWrapper; first | (rw [if_pos (by decide +kernel)]; kernel_rfl) | (rw [if_neg (by decide +kernel)]; exact ⟨rfl, rfl⟩))
    (fun os started H enc _ => lifted os started H enc)

theorem proved : Rows.FnExactImageTextCardSaid :=
  Claim7.holds_tied_plain_at .later [] [.data, .data, .data] true (true, "1af9ccd41ee7990291a3520af02435ffb8bb39a87ed8e359986c99f1f6737410") false
    row_holds (fun _ h => by cases h) (by kernel_rfl) (fun _ h => by cases h) fnExactImageText_row_tie rfl ⟨rfl, rfl⟩ (by kernel_rfl) rfl
    (fun f fn hf hfn => by
      obtain rfl : f = 5 := Option.some.inj ((show Tryd.prog.funcNamed "loop.example/stepstone/laws.FnExactImageText" = some 5 by kernel_rfl).symm.trans hf) |>.symm
      obtain rfl : fn = Tryd.f5 := (Option.some.inj (Tryd.func5.symm.trans hfn)).symm
      exact ⟨by kernel_rfl, fun j t ht => by
        rw [Tryd.params5] at ht
        have hm : t ∈ [31] := by simpa using Array.mem_of_getElem? ht
        have hall : ([31].all fun u => !Tryd.prog.wantsStandIn u) = true := by kernel_rfl
        exact (show Tryd.prog.wantsStandIn t = false by simpa using List.all_eq_true.1 hall t hm)⟩)
    (by kernel_rfl)
#print axioms proved
end Go.Proofs.YthbbmookhcalkaaDoor.fnExactImageText
