/- For every list of units and every text the exact law of KeepAll answers true, and both read afterwards as they did. No condition. -/
import Derived.Test.YtfpajoloeninmatBase
import Derived.WalkKit
import Derived.ProofKit
import Derived.OpenShut
import Derived.ShutString
import Derived.ChangeOld
import Derived.Below
import Derived.Lib.SmallJoins
import Derived.Test.YtfpajoloeninmatFuns
import Derived.Test.YtfpajoloeninmatOpen
import Derived.Test.YtfpajoloeninmatKeep
import Derived.Test.YtfpajoloeninmatUnits
import Derived.Test.YtfpajoloeninmatUnitS
import Derived.Test.YtfpajoloeninmatUnitM
import Derived.Test.YtfpajoloeninmatRefs
import Derived.Test.YtfpajoloeninmatMark
import Derived.Test.YtfpajoloeninmatMarkF
import Derived.Test.YtfpajoloeninmatUU
import Derived.Test.YtfpajoloeninmatMarkU
import Derived.Test.YtfpajoloeninmatMarkO
import Derived.Test.YtfpajoloeninmatPickD
import Derived.Test.YtfpajoloeninmatPickS
import Derived.Test.YtfpajoloeninmatPickM
import Derived.Test.YtfpajoloeninmatConcat
import Derived.Test.YtfpajoloeninmatKeepA
import Derived.Test.YtfpajoloeninmatKeepC
import Derived.Test.YtfpajoloeninmatKeepM
import Derived.Test.YtfpajoloeninmatKeepO
import Derived.Test.YtfpajoloeninmatKeepN
import Derived.Test.YtfpajoloeninmatKeepG
namespace Go.Proofs.Ytfpajoloeninmat.fnExactKeepAll
open Go.ChangeShapes Go.WideShapes Go.ChangeAt Go.RowKit Go.Joins
open Go.ChangeMaps (open_string shut_string)
open Go.Proofs.Ytfpajoloeninmat.Base
open Go.Proofs.Ytfpajoloeninmat.Funs
open Go.Proofs.Ytfpajoloeninmat.Open
open Go.Proofs.Ytfpajoloeninmat.Keep
open Go.Proofs.Ytfpajoloeninmat.Units
open Go.Proofs.Ytfpajoloeninmat.UnitS
open Go.Proofs.Ytfpajoloeninmat.UnitM
open Go.Proofs.Ytfpajoloeninmat.Refs
open Go.Proofs.Ytfpajoloeninmat.Mark
open Go.Proofs.Ytfpajoloeninmat.MarkF
open Go.Proofs.Ytfpajoloeninmat.UU
open Go.Proofs.Ytfpajoloeninmat.MarkU
open Go.Proofs.Ytfpajoloeninmat.MarkO
open Go.Proofs.Ytfpajoloeninmat.PickD
open Go.Proofs.Ytfpajoloeninmat.PickS
open Go.Proofs.Ytfpajoloeninmat.PickM
open Go.Proofs.Ytfpajoloeninmat.Concat
open Go.Proofs.Ytfpajoloeninmat.KeepA
open Go.Proofs.Ytfpajoloeninmat.KeepC
open Go.Proofs.Ytfpajoloeninmat.KeepM
open Go.Proofs.Ytfpajoloeninmat.KeepO
open Go.Proofs.Ytfpajoloeninmat.KeepN
open Go.Proofs.Ytfpajoloeninmat.KeepG
set_option linter.unusedVariables false
set_option maxRecDepth 100000
theorem own : ownKnob Try.prog.godebug = none := by kernel_rfl
theorem laidOut : laidOutB Try.prog = true := by kernel_rfl

set_option maxHeartbeats 8000000 in
theorem walk (a : Option Addr) (cap : Nat) (fs : List (List FunD)) (hl : fs.length ≤ cap) (hm : cap ≤ maxLen) (s : ByteArray) (hs : s.size ≤ maxLen) (w : World) (hr : UnitRow w a fs) :
    Calls Try.prog 6 #[.slice a fs.length cap, .string s] w fun e w' => e = .returned (.bool true) ∧ Below w.heap.size w w' := by
  have HR := hide hr
  clear hr
  by_cases hsl : (1048576 : Int) < s.size
  · go_enter Try.func6, Try.ntmps6
    go_wp2_with fail
    go_ret
    exact ⟨rfl, Below.refl _ _⟩
  by_cases hz : szUs fs 1048576 < 0
  · go_enter Try.func6, Try.ntmps6
    go_wp2_with fail
    refine (szFunSS_any a cap fs _ _ (by omega) (by omega) hl hm (unhide HR)).mono ?_
    rintro e w1 ⟨rfl, hb1⟩
    go_wp2_with fail
    go_ret
    exact ⟨rfl, hb1⟩
  obtain ⟨hlen, hls⟩ := szUs_len (us := fs) (l := 1048576) (by omega) (by omega)
  have HL := hide hls
  have HRM := hide (unit_room ⟨hlen, hls⟩)
  have hcn := cnt_room (us := fs) (l := 1048576) (by omega) (by omega) (by omega)
  have HZ := hide (unhide HR).sizes
  obtain ⟨ho40, hob⟩ := all_few fs s
  have HOB := hide hob
  clear hls hob
  go_enter Try.func6, Try.ntmps6
  go_wp2_with fail
  refine (szFunSS_any a cap fs _ _ (by omega) (by omega) hl hm (unhide HR)).mono ?_
  rintro e w1 ⟨rfl, hb1⟩
  have HR1 := hide ((unhide HR).below hb1)
  go_wp2_with fail
  refine (toFunSS_any a cap fs _ ⟨hlen, unhide HL⟩ hl hm (unhide HR1)).mono ?_
  rintro e w2 ⟨rfl, hO2, hb2⟩
  have hB2 := bl_trans hb1 hb2
  have HO2 := hide (hO2.row (unhide HZ))
  clear hO2 hb1 hb2 HR1
  go_wp2_with fail
  refine (specKeepAll_any _ _ fs s _ hs (Nat.le_refl _) (by unfold maxLen; omega) (unhide HO2)).mono ?_
  rintro e w3 ⟨v0, vs0, rfl, hU0, hV0, hb3⟩
  have HU := hide hU0
  have HV0 := hide hV0
  have hB3 := bl_trans hB2 hb3
  clear hU0 hV0 hb3 hB2 HO2
  go_wp2_with fail
  refine (toFunSS_any a cap fs _ ⟨hlen, unhide HL⟩ hl hm ((unhide HR).below hB3)).mono ?_
  rintro e w4 ⟨rfl, hO4, hb4⟩
  have hB4 := bl_trans hB3 hb4
  have hs3 := hB3.size
  have HN0 : Hid (∀ g, blockOf v0 vs0 g → g < w3.heap.size) := fun g hg => (own_lt (unhide HV0) g hg).2
  have HV0' := hide ((unhide HV0).below hb4)
  have HO4 := hide hO4
  obtain ⟨Rs, Es, Qs, hM4⟩ := OwnUnits.munits hO4
  have HM4 := hide hM4
  have hs4 : w3.heap.size < w4.heap.size := by obtain ⟨C, _, _, hC, _⟩ := hO4; exact (Array.getElem?_eq_some_iff.1 hC).1
  clear hO4 hM4 hb4 HV0 hB3
  go_wp2_with fail
  refine (implKeepAll_any _ _ fs s _ hs (Nat.le_refl _) (by unfold maxLen; omega) ((unhide HO4).row (unhide HZ))).mono ?_
  rintro e w5 ⟨v1, vs1, rfl, hU1, hV1, hb5⟩
  have hvl1 : vs1.length ≤ 40 := by rw [← hU1, List.length_map] at ho40; exact ho40
  have HBL1 : Hid (∀ u ∈ vs1, u.1.body.length ≤ 1000) := fun u hu => unhide HOB u.1 (by rw [← hU1]; exact List.mem_map.2 ⟨u, hu, rfl⟩)
  have HBI1 : Hid (∀ i, i < vs1.length → bodyLen (vs1.map Prod.fst) i ≤ 1000) := fun i hi => by
    have := unhide HBL1 vs1[i] (List.getElem_mem hi)
    simpa [bodyLen, List.getD, hi] using this
  have HE1 : Hid (vs1.map Prod.fst = vs0.map Prod.fst) := hU1.trans (unhide HU).symm
  have hB5 := bl_trans hB4 hb5
  have z5 := hb5.size
  have HV1 := hide hV1
  have HV0 := hide ((unhide HV0').below hb5)
  have HO5 := hide ((unhide HO4).below hb5)
  have HM5 := hide ((unhide HM4).below hb5)
  clear hU1 hV1 HV0' HO4 HM4 hB4 hb5
  go_wp2_with fail
  refine (eqO_same v1 v0 _ (unhide HE1) (unhide HV1) (unhide HV0)).mono ?_
  rintro e w6 ⟨rfl, hb6⟩
  have hB6 := bl_trans hB5 hb6
  have z6 := Nat.le_trans z5 hb6.size
  clear z5
  have HV0' := hide ((unhide HV0).below hb6)
  have HV1' := hide ((unhide HV1).below hb6)
  have HO6 := hide ((unhide HO5).below hb6)
  have HM6 := hide ((unhide HM5).below hb6)
  clear HV0 HV1 HO5 HM5 hB5 hb6
  go_wp2_with fail
  refine (toFunSS_any a cap fs _ ⟨hlen, unhide HL⟩ hl hm ((unhide HR).below hB6)).mono ?_
  rintro e w7 ⟨rfl, hO7, hb7⟩
  have hB7 := bl_trans hB6 hb7
  have z7 := Nat.le_trans z6 hb7.size
  clear z6
  have HO7 := hide (hO7.row (unhide HZ))
  have HX7 := hide (((unhide HO6).below hb7).row (unhide HZ))
  have HV0 := hide ((unhide HV0').below hb7)
  have HV1 := hide ((unhide HV1').below hb7)
  have HM7 := hide ((unhide HM6).below hb7)
  clear hO7 HO6 HV0' HV1' HM6 hB6 hb7
  go_wp2_with fail
  refine (eqFunSS_same _ _ _ _ fs _ (Nat.le_refl _) (by unfold maxLen; omega) (unhide HX7) (unhide HO7)).mono ?_
  rintro e w8 ⟨rfl, hb8⟩
  have hB8 := bl_trans hB7 hb8
  have z8 := Nat.le_trans z7 hb8.size
  clear z7
  have HV0' := hide ((unhide HV0).below hb8)
  have HV1' := hide ((unhide HV1).below hb8)
  have HM8 := hide ((unhide HM7).below hb8)
  clear HO7 HX7 HV0 HV1 HM7 hB7 hb8
  go_wp2_with fail
  refine (markFunSS_any w3.heap.size w4.heap.size fs.length fs.length 1 Rs Es _ Qs _ (by omega) hlen (unhide HRM) (by omega) _ (unhide HM8)).mono ?_
  rintro e w9 ⟨rfl, _, hb9⟩
  have hB9 := Mid.down hB8 hb9 (by omega)
  have z9 := Nat.le_trans z8 hb9.size
  have HV0 := hide (own_step (unhide HV0') (fun g hg => hb9.block g (own_lt (unhide HV0') g hg).2 (.inl (unhide HN0 g hg))))
  have HV1 := hide (own_step (unhide HV1') (fun g hg => hb9.block g (own_lt (unhide HV1') g hg).2 (.inr (own_lt (unhide HV1') g hg).1)))
  clear HV0' HV1' HM8 hB8 hb9 z8
  generalize 1 + cntU (bodyLens fs) (unitLen fs) fs.length = q at *
  have hq' : ¬ ((q : Nat) : Int) < 0 := by omega
  generalize ((q : Nat) : Int) = kk at hq' ⊢
  go_wp2_with fail
  refine (eqO_same v1 v0 _ (unhide HE1) (unhide HV1) (unhide HV0)).mono ?_
  rintro e w10 ⟨rfl, hb10⟩
  have hB10 := bl_trans hB9 hb10
  have HV0' := hide ((unhide HV0).below hb10)
  have HV1' := hide ((unhide HV1).below hb10)
  have hs10 : w4.heap.size ≤ w10.heap.size := Nat.le_trans z9 hb10.size
  clear HV0 HV1 hB9 hb10 z9
  go_wp2_with fail
  refine (markO_any w4.heap.size v1 vs1 _ (by omega) (unhide HBL1) hs10 (unhide HV1')).mono ?_
  rintro e w11 ⟨rfl, hM11, hb11⟩
  have hB11 := hB10.trans (hb11.mono (by omega))
  have HV0 := hide (own_step (unhide HV0') (fun g hg => hb11.block g (by have := unhide HN0 g hg; omega)))
  have HM := hide hM11
  clear hM11 HV0' HV1' hb11 hB10
  go_wp2_with fail
  refine (heldO_any v1 vs1.length _ _ (by omega) (unhide HBI1) (unhide HM)).mono ?_
  rintro e w12 ⟨rfl, hb12⟩
  have hB12 := bl_trans hB11 hb12
  have HM' := hide ((unhide HM).below hb12)
  have HV0' := hide ((unhide HV0).below hb12)
  clear HM HV0 hb12 hB11
  have hk12 : ¬ ((1 + cntL (bodyLen (vs1.map Prod.fst)) vs1.length : Nat) : Int) < 0 := by omega
  generalize hkq : ((1 + cntL (bodyLen (vs1.map Prod.fst)) vs1.length : Nat) : Int) = kq at hk12 ⊢
  go_wp2_with fail
  refine (toFunSS_any a cap fs _ ⟨hlen, unhide HL⟩ hl hm ((unhide HR).below hB12)).mono ?_
  rintro e w13 ⟨rfl, hO13, hb13⟩
  have hB13 := bl_trans hB12 hb13
  have HO13 := hide (hO13.row (unhide HZ))
  have HM := hide ((unhide HM').below hb13)
  have HV0 := hide ((unhide HV0').below hb13)
  clear hO13 HM' HV0' hb13 hB12
  go_wp2_with fail
  refine (implKeepAll_any _ _ fs s _ hs (Nat.le_refl _) (by unfold maxLen; omega) (unhide HO13)).mono ?_
  rintro e w14 ⟨v2, vs2, rfl, hU2, hV2, hb14⟩
  have HE2 : Hid (vs2.map Prod.fst = vs0.map Prod.fst) := hU2.trans (unhide HU).symm
  have HV2 := hide hV2
  have hB14 := bl_trans hB13 hb14
  have HM' := hide ((unhide HM).below hb14)
  have HV0' := hide ((unhide HV0).below hb14)
  clear hU2 hV2 HM HV0 HO13 hb14 hB13
  go_wp2_with fail
  refine (eqO_same v2 v0 _ (unhide HE2) (unhide HV2) (unhide HV0')).mono ?_
  rintro e w15 ⟨rfl, hb15⟩
  have hB15 := bl_trans hB14 hb15
  have HM := hide ((unhide HM').below hb15)
  clear HM' HV0' HV2 hb15 hB14
  go_wp2_with fail
  refine (heldO_any v1 vs1.length _ _ (by omega) (unhide HBI1) (unhide HM)).mono ?_
  rintro e w16 ⟨rfl, hb16⟩
  have hB16 := bl_trans hB15 hb16
  rw [hkq]
  clear hkq HM hb16 hB15
  go_wp2_with fail
  go_ret
  exact ⟨rfl, hB16⟩

set_option maxRecDepth 100000 in
theorem lifted (os : Os) (started : os.Started) (H : Type) (enc : TypeId × Value → H) :
    ReturnsInHanded {} Try.checked os 6 .any (Rows.fnExactKeepAllSpec.pre6 enc Try.prog Try.f6 Rows.fnExactKeepAllRow.domain false) (Rows.fnExactKeepAllSpec.post enc Try.prog Try.f6 false true false false) := by
  refine returnsInHanded_of_change (C := Try.checked) own started (by kernel_rfl) Try.func6
    (ChangeSpec.witness6 (enc := enc) (C := Try.checked) false ⟨#[], #[.slice none 0 0, .string ByteArray.empty], []⟩ 8 (by kernel_rfl) (by kernel_rfl) (by kernel_rfl) (by kernel_rfl)) ?_
  intro W base args ds gs before hval0 hW hcnd _
  have hval : ∀ (j : Nat) t v, Try.f6.params[j]? = some t → args[j]? = some v → Value.okWide Try.prog W .any base t v := hval0
  have hW' := hW
  obtain ⟨p, q, hA0, hV, rfl, hfz, hnd⟩ := hW
  have hA : DataW.TrodAll enc Try.prog W 0 (fun _ => true) true Try.f6.params.toList args.toList ds p := hA0
  rw [Try.params6] at hA hval
  obtain ⟨v0, vs0, d0, ds0, p0, q0, hargs, rfl, rfl, h0, r0⟩ := trodAll_cons hA
  obtain ⟨v1, vs1, d1, ds1, p1, q1, rfl, rfl, rfl, h1, r1⟩ := trodAll_cons r0
  obtain ⟨rfl, rfl, rfl⟩ := trodAll_nil r1
  obtain rfl : args = #[v0, v1] := by cases args; simp_all
  obtain ⟨rfl, rfl⟩ := trodVars_none hV
  have k0 := h0
  have lt0 : ∀ x ∈ p0, x.block < W.heap.size := by obtain ⟨m, hm⟩ := k0; exact DataW.trod_lt m _ _ _ hm
  obtain ⟨a0, cap0, us0, hv0, hl0, hm0, hr0⟩ := units_of (hval 0 22 v0 rfl rfl) h0
  have k1 := h1
  have lt1 : ∀ x ∈ p1, x.block < W.heap.size := by obtain ⟨m, hm⟩ := k1; exact DataW.trod_lt m _ _ _ hm
  obtain ⟨s1, hv1, _, _, w1⟩ := open_string Try.underlying9 (hval 1 9 v1 rfl rfl) h1
  clear hA0 hval0
  subst hv0 hv1
  refine (walk a0 cap0 us0 hl0 hm0 s1 w1 W hr0).mono fun e W' ⟨he, bel⟩ => ?_
  subst he
  exact ⟨_, rfl, _, _, _, [], _, [], hW', trodAll_mk1 (shut_bool Try.underlying4 _), (trodAll_cons_mk (Below.trod laidOut (by kernel_rfl) (of_decide_eq_true (by kernel_rfl)) k0 bel lt0) (trodAll_cons_mk (Below.trod laidOut (by kernel_rfl) (of_decide_eq_true (by kernel_rfl)) k1 bel lt1) trodAll_mk0)), rfl, bel.frame _, fun h => by cases h⟩

theorem proved : Rows.FnExactKeepAllSaid :=
  OpenClaim.holds_of_wide 6 Try.f6 rfl rfl rfl rfl rfl rfl rfl ⟨rfl, rfl, rfl, rfl, rfl⟩ rfl rfl rfl rfl rfl (by kernel_rfl) Try.func6 (by kernel_rfl)
    (of_decide_eq_true (by kernel_rfl)) (by unfold Func.isWrapper; first | (rw [if_pos (by decide +kernel)]; kernel_rfl) | (rw [if_neg (by decide +kernel)]; exact ⟨rfl, rfl⟩))
    (fun os started H enc _ => lifted os started H enc)
#print axioms proved
end Go.Proofs.Ytfpajoloeninmat.fnExactKeepAll
