/- For every list of functions the exact law of FoldAll answers true, and the list reads afterwards as it did. No condition. -/
import Derived.Test.YthbbmookhcalkaaGreatDoorBase
import Derived.WalkKit
import Derived.ProofKit
import Derived.OpenShut
import Derived.ShutString
import Derived.ChangeOld
import Derived.Below
import Derived.Lib.SmallJoins
import Derived.Deep.Cut
import Derived.Deep.RegionHeld3
import Derived.LaidMore
import Derived.Stop.Joined
import Derived.Stop.LaidErr
import Derived.MakeChecks
import Derived.SevenTiedAt
import Derived.Lib.LaidTab
import Derived.Lib.ItoaNum
import Derived.Test.YthbbmookhcalkaaGreatDoorTie
import Derived.Test.YthbbmookhcalkaaGreatDoorCards
import Derived.Test.YthbbmookhcalkaaGreatDoorFuns
import Derived.Test.YthbbmookhcalkaaGreatDoorOpen
import Derived.Test.YthbbmookhcalkaaGreatDoorFunS
import Derived.Test.YthbbmookhcalkaaGreatDoorKeep
import Derived.Test.YthbbmookhcalkaaGreatDoorUnits
import Derived.Test.YthbbmookhcalkaaGreatDoorUnitS
import Derived.Test.YthbbmookhcalkaaGreatDoorUnitM
import Derived.Test.YthbbmookhcalkaaGreatDoorRefs
import Derived.Test.YthbbmookhcalkaaGreatDoorMark
import Derived.Test.YthbbmookhcalkaaGreatDoorMarkF
import Derived.Test.YthbbmookhcalkaaGreatDoorMarkU
import Derived.Test.YthbbmookhcalkaaGreatDoorMarkO
import Derived.Test.YthbbmookhcalkaaGreatDoorConcat
import Derived.Test.YthbbmookhcalkaaGreatDoorKeepA
import Derived.Test.YthbbmookhcalkaaGreatDoorKeepC
import Derived.Test.YthbbmookhcalkaaGreatDoorKeepM
import Derived.Test.YthbbmookhcalkaaGreatDoorKeepO
import Derived.Test.YthbbmookhcalkaaGreatDoorText
import Derived.Test.YthbbmookhcalkaaGreatDoorBTxt
import Derived.Test.YthbbmookhcalkaaGreatDoorFoldP
import Derived.Test.YthbbmookhcalkaaGreatDoorFoldS
namespace Go.Proofs.YthbbmookhcalkaaGreatDoor.fnExactFoldAll
open Go.ChangeShapes Go.WideShapes Go.ChangeAt Go.RowKit Go.Joins
open Go.ChangeMaps (open_string shut_string)
open Go.Proofs.YthbbmookhcalkaaGreatDoor.Base
open Go.Proofs.YthbbmookhcalkaaGreatDoor.Funs
open Go.Proofs.YthbbmookhcalkaaGreatDoor.Open
open Go.Proofs.YthbbmookhcalkaaGreatDoor.FunS
open Go.Proofs.YthbbmookhcalkaaGreatDoor.Keep
open Go.Proofs.YthbbmookhcalkaaGreatDoor.Units
open Go.Proofs.YthbbmookhcalkaaGreatDoor.UnitS
open Go.Proofs.YthbbmookhcalkaaGreatDoor.UnitM
open Go.Proofs.YthbbmookhcalkaaGreatDoor.Refs
open Go.Proofs.YthbbmookhcalkaaGreatDoor.Mark
open Go.Proofs.YthbbmookhcalkaaGreatDoor.MarkF
open Go.Proofs.YthbbmookhcalkaaGreatDoor.MarkU
open Go.Proofs.YthbbmookhcalkaaGreatDoor.MarkO
open Go.Proofs.YthbbmookhcalkaaGreatDoor.Concat
open Go.Proofs.YthbbmookhcalkaaGreatDoor.KeepA
open Go.Proofs.YthbbmookhcalkaaGreatDoor.KeepC
open Go.Proofs.YthbbmookhcalkaaGreatDoor.KeepM
open Go.Proofs.YthbbmookhcalkaaGreatDoor.KeepO
open Go.Proofs.YthbbmookhcalkaaGreatDoor.Text
open Go.Proofs.YthbbmookhcalkaaGreatDoor.BTxt
open Go.Proofs.YthbbmookhcalkaaGreatDoor.FoldP
open Go.Proofs.YthbbmookhcalkaaGreatDoor.FoldS
set_option linter.unusedVariables false
set_option maxRecDepth 100000
theorem own : ownKnob Tryz.prog.godebug = none := by kernel_rfl
theorem laidOut : laidOutB Tryz.prog = true := by kernel_rfl

set_option maxHeartbeats 4000000 in
theorem walk (a : Option Addr) (cap : Nat) (fs : List FunD) (hl : fs.length ≤ cap) (hm : cap ≤ maxLen) (w : World) (hr : FunRow w a fs) (htab : Lib.TabIs Tryz.prog w "internal/strconv.uint64pow10" .u64 Lib.pow10Tab) :
    Calls Tryz.prog 5 #[.slice a fs.length cap] w fun e w' => e = .returned (.bool true) ∧ Below w.heap.size w w' := by
  have HR := hide hr
  have HT := hide htab
  clear hr htab
  by_cases hz : szFs fs 1048576 < 0
  · go_enter Tryz.func5, Tryz.ntmps5
    go_wp2_with fail
    refine (szFunS_any a cap fs _ _ (by omega) (by omega) hl hm (unhide HR)).mono ?_
    rintro e w1 ⟨rfl, hb1⟩
    go_wp2_with fail
    go_ret
    exact ⟨rfl, hb1⟩
  obtain ⟨hlen, hls⟩ := szFs_len (fs := fs) (l := 1048576) (by omega) (by omega)
  have HL := hide hls
  have HLS : Hid (∀ i, i < fs.length → (fs.getD i default).body.length ≤ 1048576) := fun i hi => by
    have := hls fs[i] (List.getElem_mem hi)
    simpa [List.getD, List.getElem?_eq_getElem hi] using this
  have HZ := hide (unhide HR).sizes
  obtain ⟨ho40, hob⟩ := all_few fs
  have HOB := hide hob
  clear hls hob
  go_enter Tryz.func5, Tryz.ntmps5
  go_wp2_with fail
  refine (szFunS_any a cap fs _ _ (by omega) (by omega) hl hm (unhide HR)).mono ?_
  rintro e w1 ⟨rfl, hb1⟩
  have HR1 := hide ((unhide HR).below hb1)
  go_wp2_with fail
  refine (toFunS_any a cap fs _ hlen (unhide HL) hl hm (unhide HR1)).mono ?_
  rintro e w2 ⟨rfl, hO2, hb2⟩
  have hB2 := bl_trans hb1 hb2
  have HO2 := hide (hO2.row (unhide HZ))
  clear hO2 hb1 hb2 HR1
  go_wp2_with fail
  refine (specFoldAll_any _ _ fs _ (Nat.le_refl _) (by unfold maxLen; omega) (unhide HO2)).mono ?_
  rintro e w3 ⟨v0, vs0, rfl, hU0, hV0, hb3⟩
  have HU := hide hU0
  have HV0 := hide hV0
  have hB3 := bl_trans hB2 hb3
  clear hU0 hV0 hb3 hB2 HO2
  go_wp2_with fail
  refine (toFunS_any a cap fs _ hlen (unhide HL) hl hm ((unhide HR).below hB3)).mono ?_
  rintro e w4 ⟨rfl, hO4, hb4⟩
  have hB4 := bl_trans hB3 hb4
  have hs3 := hB3.size
  have HN0 : Hid (∀ g, blockOf v0 vs0 g → g < w3.heap.size) := fun g hg => (own_lt (unhide HV0) g hg).2
  have HV0' := hide ((unhide HV0).below hb4)
  have HO4 := hide hO4
  obtain ⟨Rs, hM4⟩ := OwnFuns.mfun hO4
  have HM4 := hide hM4
  have hs4 : w3.heap.size < w4.heap.size := by obtain ⟨C, _, hC, _⟩ := hO4; exact (Array.getElem?_eq_some_iff.1 hC).1
  clear hO4 hM4 hb4 HV0 hB3
  go_wp2_with fail
  refine (implFoldAll_any _ _ fs _ (Nat.le_refl _) (by unfold maxLen; omega) ((unhide HO4).row (unhide HZ)) (hide (tab_stays Go.Proofs.YthbbmookhcalkaaGreatDoor.Text.gPow (unhide HT) hB4 (Nat.le_refl _)))).mono ?_
  rintro e w5 ⟨v1, vs1, rfl, hU1, hV1, hb5⟩
  have hvl1 : vs1.length ≤ 40 := by rw [← hU1, List.length_map] at ho40; exact ho40
  have HBL1 : Hid (∀ u ∈ vs1, u.1.body.length ≤ 1000) := fun u hu => unhide HOB u.1 (by rw [← hU1]; exact List.mem_map.2 ⟨u, hu, rfl⟩)
  have HBI1 : Hid (∀ i, i < vs1.length → bodyLen (vs1.map Prod.fst) i ≤ 1000) := fun i hi => by
    have := unhide HBL1 vs1[i] (List.getElem_mem hi)
    simpa [bodyLen, List.getD, hi] using this
  have HE1 : Hid (vs1.map Prod.fst = vs0.map Prod.fst) := hU1.trans (unhide HU).symm
  have hB5 := bl_trans hB4 hb5
  have z5 := hb5.size
  have HV1 := hide hV1
  have HV0 := hide ((unhide HV0').below hb5)
  have HO5 := hide ((unhide HO4).below hb5)
  have HM5 := hide ((unhide HM4).below hb5)
  clear hU1 hV1 HV0' HO4 HM4 hB4 hb5
  go_wp2_with fail
  refine (eqO_same v1 v0 _ (unhide HE1) (unhide HV1) (unhide HV0)).mono ?_
  rintro e w6 ⟨rfl, hb6⟩
  have hB6 := bl_trans hB5 hb6
  have z6 := Nat.le_trans z5 hb6.size
  clear z5
  have HV0' := hide ((unhide HV0).below hb6)
  have HV1' := hide ((unhide HV1).below hb6)
  have HO6 := hide ((unhide HO5).below hb6)
  have HM6 := hide ((unhide HM5).below hb6)
  clear HV0 HV1 HO5 HM5 hB5 hb6
  go_wp2_with fail
  refine (toFunS_any a cap fs _ hlen (unhide HL) hl hm ((unhide HR).below hB6)).mono ?_
  rintro e w7 ⟨rfl, hO7, hb7⟩
  have hB7 := bl_trans hB6 hb7
  have z7 := Nat.le_trans z6 hb7.size
  clear z6
  have HO7 := hide (hO7.row (unhide HZ))
  have HX7 := hide (((unhide HO6).below hb7).row (unhide HZ))
  have HV0 := hide ((unhide HV0').below hb7)
  have HV1 := hide ((unhide HV1').below hb7)
  have HM7 := hide ((unhide HM6).below hb7)
  clear hO7 HO6 HV0' HV1' HM6 hB6 hb7
  go_wp2_with fail
  refine (eqFunS_same _ _ _ _ fs _ (Nat.le_refl _) (by unfold maxLen; omega) (unhide HX7) (unhide HO7)).mono ?_
  rintro e w8 ⟨rfl, hb8⟩
  have hB8 := bl_trans hB7 hb8
  have z8 := Nat.le_trans z7 hb8.size
  clear z7
  have HV0' := hide ((unhide HV0).below hb8)
  have HV1' := hide ((unhide HV1).below hb8)
  have HM8 := hide ((unhide HM7).below hb8)
  clear HO7 HX7 HV0 HV1 HM7 hB7 hb8
  go_wp2_with fail
  refine (markFunS_any w3.heap.size w4.heap.size fs.length fs.length 1 Rs _ hs4 (by omega) (by omega) hlen (unhide HLS) _ (unhide HM8)).mono ?_
  rintro e w9 ⟨q, hq0, hq1, rfl, hb9⟩
  have hB9 := Mid.down hB8 hb9 (by omega)
  have z9 := Nat.le_trans z8 hb9.size
  have HV0 := hide (own_step (unhide HV0') (fun g hg => hb9.block g (own_lt (unhide HV0') g hg).2 (.inl (unhide HN0 g hg))))
  have HV1 := hide (own_step (unhide HV1') (fun g hg => hb9.block g (own_lt (unhide HV1') g hg).2 (.inr (own_lt (unhide HV1') g hg).1)))
  clear HV0' HV1' HM8 hB8 hb9 z8
  have hq' : ¬ ((q : Nat) : Int) < 0 := by omega
  generalize ((q : Nat) : Int) = kk at hq' ⊢
  go_wp2_with fail
  refine (eqO_same v1 v0 _ (unhide HE1) (unhide HV1) (unhide HV0)).mono ?_
  rintro e w10 ⟨rfl, hb10⟩
  have hB10 := bl_trans hB9 hb10
  have HV0' := hide ((unhide HV0).below hb10)
  have HV1' := hide ((unhide HV1).below hb10)
  have hs10 : w4.heap.size ≤ w10.heap.size := Nat.le_trans z9 hb10.size
  clear HV0 HV1 hB9 hb10 z9
  go_wp2_with fail
  refine (markO_any w4.heap.size v1 vs1 _ (by omega) (unhide HBL1) hs10 (unhide HV1')).mono ?_
  rintro e w11 ⟨rfl, hM11, hb11⟩
  have hB11 := hB10.trans (hb11.mono (by omega))
  have HV0 := hide (own_step (unhide HV0') (fun g hg => hb11.block g (by have := unhide HN0 g hg; omega)))
  have HM := hide hM11
  clear hM11 HV0' HV1' hb11 hB10
  go_wp2_with fail
  refine (heldO_any v1 vs1.length _ _ (by omega) (unhide HBI1) (unhide HM)).mono ?_
  rintro e w12 ⟨rfl, hb12⟩
  have hB12 := bl_trans hB11 hb12
  have HM' := hide ((unhide HM).below hb12)
  have HV0' := hide ((unhide HV0).below hb12)
  clear HM HV0 hb12 hB11
  have hk12 : ¬ ((1 + cntL (bodyLen (vs1.map Prod.fst)) vs1.length : Nat) : Int) < 0 := by omega
  generalize hkq : ((1 + cntL (bodyLen (vs1.map Prod.fst)) vs1.length : Nat) : Int) = kq at hk12 ⊢
  go_wp2_with fail
  refine (toFunS_any a cap fs _ hlen (unhide HL) hl hm ((unhide HR).below hB12)).mono ?_
  rintro e w13 ⟨rfl, hO13, hb13⟩
  have hB13 := bl_trans hB12 hb13
  have HO13 := hide (hO13.row (unhide HZ))
  have HM := hide ((unhide HM').below hb13)
  have HV0 := hide ((unhide HV0').below hb13)
  clear hO13 HM' HV0' hb13 hB12
  go_wp2_with fail
  refine (implFoldAll_any _ _ fs _ (Nat.le_refl _) (by unfold maxLen; omega) (unhide HO13) (hide (tab_stays Go.Proofs.YthbbmookhcalkaaGreatDoor.Text.gPow (unhide HT) hB13 (Nat.le_refl _)))).mono ?_
  rintro e w14 ⟨v2, vs2, rfl, hU2, hV2, hb14⟩
  have HE2 : Hid (vs2.map Prod.fst = vs0.map Prod.fst) := hU2.trans (unhide HU).symm
  have HV2 := hide hV2
  have hB14 := bl_trans hB13 hb14
  have HM' := hide ((unhide HM).below hb14)
  have HV0' := hide ((unhide HV0).below hb14)
  clear hU2 hV2 HM HV0 HO13 hb14 hB13
  go_wp2_with fail
  refine (eqO_same v2 v0 _ (unhide HE2) (unhide HV2) (unhide HV0')).mono ?_
  rintro e w15 ⟨rfl, hb15⟩
  have hB15 := bl_trans hB14 hb15
  have HM := hide ((unhide HM').below hb15)
  clear HM' HV0' HV2 hb15 hB14
  go_wp2_with fail
  refine (heldO_any v1 vs1.length _ _ (by omega) (unhide HBI1) (unhide HM)).mono ?_
  rintro e w16 ⟨rfl, hb16⟩
  have hB16 := bl_trans hB15 hb16
  rw [hkq]
  clear hkq HM hb16 hB15
  go_wp2_with fail
  go_ret
  exact ⟨rfl, hB16⟩

theorem gPow : Tryz.prog.globalNamed "internal/strconv.uint64pow10" = some 0 := by kernel_rfl
theorem gPowType : (Tryz.prog.globals[0]?).map (·.type) = some 197 := by kernel_rfl
theorem powCells : Tryz.prog.cellsOf 197 = 20 := by kernel_rfl
theorem u64Cells : Tryz.prog.cellsOf 181 = 1 := by kernel_rfl
theorem powDatum : (Rows.laid_internal_strconv_uint64pow10 : DataW Unit) = Lib.tabData .u64 Lib.pow10Tab := by kernel_rfl
/-- What the listed variables give the walk: the table of the powers of ten. -/
theorem tab_of {W : World} (h : laidMetH Tryz.prog Rows.fnExactFoldAllRow.laid W) : Lib.TabIs Tryz.prog W "internal/strconv.uint64pow10" .u64 Lib.pow10Tab := by
  rw [MakeChecks.laidMetH_plain _ _ _ (by kernel_rfl)] at h
  have h2 : laidMet Tryz.prog [("internal/strconv.uint64pow10", Rows.laid_internal_strconv_uint64pow10)] W := laidMet.tail (laidMet.tail h)
  rw [powDatum] at h2
  exact Lib.tabIs_of_head gPow gPowType Tryz.underlying197 Tryz.underlying181 u64Cells powCells h2
theorem door_met (os : Os) (args : Array Value) : laidMetH Tryz.prog Rows.fnExactFoldAllRow.laid ((World.doorLaid Tryz.prog 400 os).forCall (fun _ _ => 0) ⟨#[], args, []⟩).memory :=
  laidMetH_of_parts3 (fuel := 8) (laidMet_of_run' 8 (by kernel_rfl) (by kernel_rfl)) (by kernel_rfl) (by kernel_rfl)

set_option maxRecDepth 100000 in
theorem lifted (os : Os) (started : os.Started) (H : Type) (enc : TypeId × Value → H) :
    ReturnsInHanded {} Tryz.checked os 5 .any (fun w args => (Rows.fnExactFoldAllSpec.pre enc Tryz.prog Tryz.f5 [] false w args ∧ laidMetH Tryz.prog Rows.fnExactFoldAllRow.laid w) ∧ sizedMet enc Tryz.prog Tryz.f5 (OpenSpec.ofChange Rows.fnExactFoldAllSpec) false w args) (Rows.fnExactFoldAllSpec.post enc Tryz.prog Tryz.f5 false true false false) := by
  refine returnsInHanded_of_change_and (C := Tryz.checked) (X := fun w _ => laidMetH Tryz.prog Rows.fnExactFoldAllRow.laid w) (fun _ _ _ hh h => h.of_heap hh) own started (by kernel_rfl) Tryz.func5
    (ChangeSpec.witness_shaped (enc := enc) (C := Tryz.checked) (os := os) (X := fun w _ => laidMetH Tryz.prog Rows.fnExactFoldAllRow.laid w) false (World.doorLaid Tryz.prog 400 os) #[.slice none 0 0] 8 rfl (World.shaped_of_RefB (by kernel_rfl) (by kernel_rfl)) (by kernel_rfl) (by kernel_rfl) (by kernel_rfl) (door_met os _)) ?_
  intro W base args ds gs before hval0 hW _ _ hL _
  have htab := tab_of hL
  have hval : ∀ (j : Nat) t v, Tryz.f5.params[j]? = some t → args[j]? = some v → Value.okWide Tryz.prog W .any base t v := hval0
  have hW' := hW
  obtain ⟨p, q, hA0, hV, rfl, hfz, hnd⟩ := hW
  have hA : DataW.TrodAll enc Tryz.prog W 0 (fun _ => true) true Tryz.f5.params.toList args.toList ds p := hA0
  rw [Tryz.params5] at hA hval
  obtain ⟨v0, vs0, d0, ds0, p0, q0, hargs, rfl, rfl, h0, r0⟩ := trodAll_cons hA
  obtain ⟨rfl, rfl, rfl⟩ := trodAll_nil r0
  obtain rfl : args = #[v0] := by cases args; simp_all
  obtain ⟨rfl, rfl⟩ := trodVars_none hV
  have k0 := h0
  have lt0 : ∀ x ∈ p0, x.block < W.heap.size := by obtain ⟨m, hm⟩ := k0; exact DataW.trod_lt m _ _ _ hm
  obtain ⟨a0, cap0, fs0, hv0, hl0, hm0, hr0⟩ := funs_of (hval 0 39 v0 rfl rfl) h0
  clear hA0 hval0
  subst hv0
  refine (walk a0 cap0 fs0 hl0 hm0 W hr0 htab).mono fun e W' ⟨he, bel⟩ => ?_
  subst he
  exact ⟨_, rfl, _, _, _, [], _, [], hW', trodAll_mk1 (shut_bool Tryz.underlying4 _), (trodAll_cons_mk (Below.trod laidOut (by kernel_rfl) (of_decide_eq_true (by kernel_rfl)) k0 bel lt0) trodAll_mk0), rfl, bel.frame _, fun h => by cases h⟩

theorem row_holds : Rows.FnExactFoldAllSaid :=
  OpenClaim.holds_of_wide 5 Tryz.f5 rfl rfl rfl rfl rfl rfl rfl ⟨rfl, rfl, rfl, rfl, rfl⟩ rfl rfl rfl rfl rfl (by kernel_rfl) Tryz.func5 (by kernel_rfl)
    (of_decide_eq_true (by kernel_rfl)) (by unfold Func.isWrapper; first | (rw [if_pos (by decide +kernel)]; kernel_rfl) | (rw [if_neg (by decide +kernel)]; exact ⟨rfl, rfl⟩))
    (fun os started H enc _ => lifted os started H enc)

theorem proved : Rows.FnExactFoldAllCardSaid :=
  Claim7.holds_tied_plain_at .later [] [.data, .data, .data] true (true, "fc8d3014333b242f06ac6dc40fa6a60af1d16a71b965edeb077e08166d9b832b") false
    row_holds (fun _ h => by cases h) (by kernel_rfl) (fun _ h => by cases h) fnExactFoldAll_row_tie rfl ⟨rfl, rfl⟩ (by kernel_rfl) rfl
    (fun f fn hf hfn => by
      obtain rfl : f = 5 := Option.some.inj ((show Tryz.prog.funcNamed "loop.example/stepstone/laws.FnExactFoldAll" = some 5 by kernel_rfl).symm.trans hf) |>.symm
      obtain rfl : fn = Tryz.f5 := (Option.some.inj (Tryz.func5.symm.trans hfn)).symm
      exact ⟨by kernel_rfl, fun j t ht => by
        rw [Tryz.params5] at ht
        have hm : t ∈ [39] := by simpa using Array.mem_of_getElem? ht
        have hall : ([39].all fun u => !Tryz.prog.wantsStandIn u) = true := by kernel_rfl
        exact (show Tryz.prog.wantsStandIn t = false by simpa using List.all_eq_true.1 hall t hm)⟩)
    (by kernel_rfl)
#print axioms proved
end Go.Proofs.YthbbmookhcalkaaGreatDoor.fnExactFoldAll
