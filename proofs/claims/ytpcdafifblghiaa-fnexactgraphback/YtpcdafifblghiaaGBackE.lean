/- For every list of functions the exact law of GraphBack answers true, and both read afterwards as they did. No condition. -/
import Derived.Test.YtpcdafifblghiaaBase
import Derived.WalkKit
import Derived.ProofKit
import Derived.OpenShut
import Derived.ShutString
import Derived.ChangeOld
import Derived.Below
import Derived.Lib.SmallJoins
import Derived.Test.YtpcdafifblghiaaFuns
import Derived.Test.YtpcdafifblghiaaOpen
import Derived.Test.YtpcdafifblghiaaKeep
import Derived.Test.YtpcdafifblghiaaUnits
import Derived.Test.YtpcdafifblghiaaUnitS
import Derived.Test.YtpcdafifblghiaaUnitM
import Derived.Test.YtpcdafifblghiaaRefs
import Derived.Test.YtpcdafifblghiaaMark
import Derived.Test.YtpcdafifblghiaaMarkF
import Derived.Test.YtpcdafifblghiaaWantsL
import Derived.Test.YtpcdafifblghiaaKeepA
import Derived.Test.YtpcdafifblghiaaKeepR
import Derived.Test.YtpcdafifblghiaaKeepI
import Derived.Test.YtpcdafifblghiaaGraphD
import Derived.Test.YtpcdafifblghiaaGraphS
import Derived.Test.YtpcdafifblghiaaGraphL
import Derived.Test.YtpcdafifblghiaaGraphT
import Derived.Test.YtpcdafifblghiaaGraphM
namespace Go.Proofs.Ytpcdafifblghiaa.fnExactGraphBack
open Go.ChangeShapes Go.WideShapes Go.ChangeAt Go.RowKit Go.Joins
open Go.ChangeMaps (open_string shut_string)
open Go.Proofs.Ytpcdafifblghiaa.Base
open Go.Proofs.Ytpcdafifblghiaa.Funs
open Go.Proofs.Ytpcdafifblghiaa.Open
open Go.Proofs.Ytpcdafifblghiaa.Keep
open Go.Proofs.Ytpcdafifblghiaa.Units
open Go.Proofs.Ytpcdafifblghiaa.UnitS
open Go.Proofs.Ytpcdafifblghiaa.UnitM
open Go.Proofs.Ytpcdafifblghiaa.Refs
open Go.Proofs.Ytpcdafifblghiaa.Mark
open Go.Proofs.Ytpcdafifblghiaa.MarkF
open Go.Proofs.Ytpcdafifblghiaa.WantsL
open Go.Proofs.Ytpcdafifblghiaa.KeepA
open Go.Proofs.Ytpcdafifblghiaa.KeepR
open Go.Proofs.Ytpcdafifblghiaa.KeepI
open Go.Proofs.Ytpcdafifblghiaa.GraphD
open Go.Proofs.Ytpcdafifblghiaa.GraphS
open Go.Proofs.Ytpcdafifblghiaa.GraphL
open Go.Proofs.Ytpcdafifblghiaa.GraphT
open Go.Proofs.Ytpcdafifblghiaa.GraphM
set_option linter.unusedVariables false
set_option maxRecDepth 100000
theorem own : ownKnob Try.prog.godebug = none := by kernel_rfl
theorem laidOut : laidOutB Try.prog = true := by kernel_rfl

theorem own_at {w : World} {B g : Nat} {v : Value} {ss : List ByteArray} (h : StrOwn w B v ss) (hg : v.ownBlock = some g) : B ≤ g ∧ g < w.heap.size := World.ownsRow.lt h g hg

set_option maxHeartbeats 4000000 in
theorem walk (a : Option Addr) (cap : Nat) (fs : List FunD) (hl : fs.length ≤ cap) (hm : cap ≤ maxLen) (w : World) (hr : FunRow w a fs) :
    Calls Try.prog 9 #[.slice a fs.length cap] w fun e w' => e = .returned (.bool true) ∧ Below w.heap.size w w' := by
  have HR := hide hr
  clear hr
  by_cases hz : szFs fs 1048576 < 0
  · go_enter Try.func9, Try.ntmps9
    go_wp2_with fail
    refine (szFunS_any a cap fs _ _ (by omega) (by omega) hl hm (unhide HR)).mono ?_
    rintro e w1 ⟨rfl, hb1⟩
    go_wp2_with fail
    go_ret
    exact ⟨rfl, hb1⟩
  obtain ⟨hlen, hls⟩ := szFs_len (fs := fs) (l := 1048576) (by omega) (by omega)
  have HL := hide hls
  have HLS : Hid (∀ i, i < fs.length → (fs.getD i default).body.length ≤ 1048576) := fun i hi => by
    have := hls fs[i] (List.getElem_mem hi)
    simpa [List.getD, List.getElem?_eq_getElem hi] using this
  have HZ := hide (unhide HR).sizes
  clear hls
  go_enter Try.func9, Try.ntmps9
  go_wp2_with fail
  refine (szFunS_any a cap fs _ _ (by omega) (by omega) hl hm (unhide HR)).mono ?_
  rintro e w1 ⟨rfl, hb1⟩
  have HR1 := hide ((unhide HR).below hb1)
  go_wp2_with fail
  refine (toFunS_any a cap fs _ hlen (unhide HL) hl hm (unhide HR1)).mono ?_
  rintro e w2 ⟨rfl, hO2, hb2⟩
  have hB2 := bl_trans hb1 hb2
  have HO2 := hide (hO2.row (unhide HZ))
  clear hO2 hb1 hb2 HR1
  go_wp2_with fail
  refine (specBack_any _ _ fs _ (Nat.le_refl _) (by unfold maxLen; omega) (unhide HO2)).mono ?_
  rintro e w3 ⟨v0, ss, rfl, hU0, hl50, hV0, hb3⟩
  have HU := hide hU0
  have HV0 := hide hV0
  have hB3 := bl_trans hB2 hb3
  clear hU0 hV0 hb3 hB2 HO2
  go_wp2_with fail
  refine (toFunS_any a cap fs _ hlen (unhide HL) hl hm ((unhide HR).below hB3)).mono ?_
  rintro e w4 ⟨rfl, hO4, hb4⟩
  have hB4 := bl_trans hB3 hb4
  have hs3 := hB3.size
  have HN0 : Hid (∀ g, v0.ownBlock = some g → g < w3.heap.size) := fun g hg => (own_at (unhide HV0) hg).2
  have HV0' := hide ((unhide HV0).below hb4)
  have HO4 := hide hO4
  obtain ⟨Rs, hM4⟩ := OwnFuns.mfun hO4
  have HM4 := hide hM4
  have hs4 : w3.heap.size < w4.heap.size := by obtain ⟨C, _, hC, _⟩ := hO4; exact (Array.getElem?_eq_some_iff.1 hC).1
  clear hO4 hM4 hb4 HV0 hB3
  go_wp2_with fail
  refine (implBack_any _ _ fs _ (Nat.le_refl _) (by unfold maxLen; omega) ((unhide HO4).row (unhide HZ))).mono ?_
  rintro e w5 ⟨v1, ss', rfl, hU1, _, hV1, hb5⟩
  obtain rfl := gn_one (unhide HU) hU1
  have hB5 := bl_trans hB4 hb5
  have z5 := hb5.size
  have HV1 := hide hV1
  have HV0 := hide ((unhide HV0').below hb5)
  have HO5 := hide ((unhide HO4).below hb5)
  have HM5 := hide ((unhide HM4).below hb5)
  clear hU1 hV1 HV0' HO4 HM4 hB4 hb5
  go_wp2_with fail
  refine (eqStringS_same v1 v0 ss _ (unhide HV1).at (unhide HV0).at).mono ?_
  rintro e w6 ⟨rfl, hb6⟩
  have hB6 := bl_trans hB5 hb6
  have z6 := Nat.le_trans z5 hb6.size
  clear z5
  have HV0' := hide ((unhide HV0).below hb6)
  have HV1' := hide ((unhide HV1).below hb6)
  have HO6 := hide ((unhide HO5).below hb6)
  have HM6 := hide ((unhide HM5).below hb6)
  clear HV0 HV1 HO5 HM5 hB5 hb6
  go_wp2_with fail
  refine (toFunS_any a cap fs _ hlen (unhide HL) hl hm ((unhide HR).below hB6)).mono ?_
  rintro e w7 ⟨rfl, hO7, hb7⟩
  have hB7 := bl_trans hB6 hb7
  have z7 := Nat.le_trans z6 hb7.size
  clear z6
  have HO7 := hide (hO7.row (unhide HZ))
  have HX7 := hide (((unhide HO6).below hb7).row (unhide HZ))
  have HV0 := hide ((unhide HV0').below hb7)
  have HV1 := hide ((unhide HV1').below hb7)
  have HM7 := hide ((unhide HM6).below hb7)
  clear hO7 HO6 HV0' HV1' HM6 hB6 hb7
  go_wp2_with fail
  refine (eqFunS_same _ _ _ _ fs _ (Nat.le_refl _) (by unfold maxLen; omega) (unhide HX7) (unhide HO7)).mono ?_
  rintro e w8 ⟨rfl, hb8⟩
  have hB8 := bl_trans hB7 hb8
  have z8 := Nat.le_trans z7 hb8.size
  clear z7
  have HV0' := hide ((unhide HV0).below hb8)
  have HV1' := hide ((unhide HV1).below hb8)
  have HM8 := hide ((unhide HM7).below hb8)
  clear HO7 HX7 HV0 HV1 HM7 hB7 hb8
  go_wp2_with fail
  refine (markFunS_any w3.heap.size w4.heap.size fs.length fs.length 1 Rs _ hs4 (by omega) (by omega) hlen (unhide HLS) _ (unhide HM8)).mono ?_
  rintro e w9 ⟨q, hq0, hq1, rfl, hb9⟩
  have hB9 := Mid.down hB8 hb9 (by omega)
  have z9 := Nat.le_trans z8 hb9.size
  clear z8
  have HV0 := hide (hb9.strOwn (unhide HV0') (fun g hg => .inl (unhide HN0 g hg)))
  have HV1 := hide (hb9.strOwn (unhide HV1') (fun g hg => .inr (own_at (unhide HV1') hg).1))
  clear HV0' HV1' HM8 hB8 hb9
  have hq' : ¬ ((q : Nat) : Int) < 0 := by omega
  generalize ((q : Nat) : Int) = kk at hq' ⊢
  go_wp2_with fail
  refine (eqStringS_same v1 v0 ss _ (unhide HV1).at (unhide HV0).at).mono ?_
  rintro e w10 ⟨rfl, hb10⟩
  have hB10 := bl_trans hB9 hb10
  have HV0' := hide ((unhide HV0).below hb10)
  have HV1' := hide ((unhide HV1).below hb10)
  have hs10 : w4.heap.size ≤ w10.heap.size := Nat.le_trans z9 hb10.size
  clear HV0 HV1 hB9 hb10 z9
  go_wp2_with fail
  refine (markStringS_any w4.heap.size v1 ss 1 (by omega) (by omega) _ hs10 (unhide HV1')).mono ?_
  rintro e w11 ⟨rfl, g, hBg, hg, hM11, hb11⟩
  have hB11 := But.down hB10 hb11 (by omega)
  have HV0 := hide (hb11.strOwn (unhide HV0') (fun e => by have := unhide HN0 g e; omega))
  have HM := hide hM11
  clear hM11 HV0' HV1' hb11 hB10 hg
  go_wp2_with fail
  refine (heldStringS_any v1 1 ss.length (by omega) (by omega) _ (unhide HM).at).mono ?_
  rintro e w12 ⟨rfl, hb12⟩
  have hB12 := bl_trans hB11 hb12
  have HM' := hide ((unhide HM).below hb12)
  have HV0' := hide ((unhide HV0).below hb12)
  clear HM HV0 hb12 hB11
  have hk12 : ¬ ((1 + ss.length : Nat) : Int) < 0 := by omega
  generalize hkq : ((1 + ss.length : Nat) : Int) = kq at hk12 ⊢
  go_wp2_with fail
  refine (toFunS_any a cap fs _ hlen (unhide HL) hl hm ((unhide HR).below hB12)).mono ?_
  rintro e w13 ⟨rfl, hO13, hb13⟩
  have hB13 := bl_trans hB12 hb13
  have HO13 := hide (hO13.row (unhide HZ))
  have HM := hide ((unhide HM').below hb13)
  have HV0 := hide ((unhide HV0').below hb13)
  clear hO13 HM' HV0' hb13 hB12
  go_wp2_with fail
  refine (implBack_any _ _ fs _ (Nat.le_refl _) (by unfold maxLen; omega) (unhide HO13)).mono ?_
  rintro e w14 ⟨v2, ss2, rfl, hU2, _, hV2, hb14⟩
  obtain rfl := gn_one (unhide HU) hU2
  have HV2 := hide hV2
  have hB14 := bl_trans hB13 hb14
  have HM' := hide ((unhide HM).below hb14)
  have HV0' := hide ((unhide HV0).below hb14)
  clear hU2 hV2 HM HV0 HO13 hb14 hB13
  go_wp2_with fail
  refine (eqStringS_same v2 v0 ss _ (unhide HV2).at (unhide HV0').at).mono ?_
  rintro e w15 ⟨rfl, hb15⟩
  have hB15 := bl_trans hB14 hb15
  have HM := hide ((unhide HM').below hb15)
  clear HM' HV0' HV2 hb15 hB14
  go_wp2_with fail
  refine (heldStringS_any v1 1 ss.length (by omega) (by omega) _ (unhide HM).at).mono ?_
  rintro e w16 ⟨rfl, hb16⟩
  have hB16 := bl_trans hB15 hb16
  rw [hkq]
  clear hkq HM hb16 hB15
  go_wp2_with fail
  go_ret
  exact ⟨rfl, hB16⟩

set_option maxRecDepth 100000 in
theorem lifted (os : Os) (started : os.Started) (H : Type) (enc : TypeId × Value → H) :
    ReturnsInHanded {} Try.checked os 9 .any (Rows.fnExactGraphBackSpec.pre6 enc Try.prog Try.f9 Rows.fnExactGraphBackRow.domain false) (Rows.fnExactGraphBackSpec.post enc Try.prog Try.f9 false true false false) := by
  refine returnsInHanded_of_change (C := Try.checked) own started (by kernel_rfl) Try.func9
    (ChangeSpec.witness6 (enc := enc) (C := Try.checked) false ⟨#[], #[.slice none 0 0], []⟩ 8 (by kernel_rfl) (by kernel_rfl) (by kernel_rfl) (by kernel_rfl)) ?_
  intro W base args ds gs before hval0 hW hcnd _
  have hval : ∀ (j : Nat) t v, Try.f9.params[j]? = some t → args[j]? = some v → Value.okWide Try.prog W .any base t v := hval0
  have hW' := hW
  obtain ⟨p, q, hA0, hV, rfl, hfz, hnd⟩ := hW
  have hA : DataW.TrodAll enc Try.prog W 0 (fun _ => true) true Try.f9.params.toList args.toList ds p := hA0
  rw [Try.params9] at hA hval
  obtain ⟨v0, vs0, d0, ds0, p0, q0, hargs, rfl, rfl, h0, r0⟩ := trodAll_cons hA
  obtain ⟨rfl, rfl, rfl⟩ := trodAll_nil r0
  obtain rfl : args = #[v0] := by cases args; simp_all
  obtain ⟨rfl, rfl⟩ := trodVars_none hV
  have k0 := h0
  have lt0 : ∀ x ∈ p0, x.block < W.heap.size := by obtain ⟨m, hm⟩ := k0; exact DataW.trod_lt m _ _ _ hm
  obtain ⟨a0, cap0, fs0, hv0, hl0, hm0, hr0⟩ := funs_of (hval 0 41 v0 rfl rfl) h0
  clear hA0 hval0
  subst hv0
  refine (walk a0 cap0 fs0 hl0 hm0 W hr0).mono fun e W' ⟨he, bel⟩ => ?_
  subst he
  exact ⟨_, rfl, _, _, _, [], _, [], hW', trodAll_mk1 (shut_bool Try.underlying4 _), (trodAll_cons_mk (Below.trod laidOut (by kernel_rfl) (of_decide_eq_true (by kernel_rfl)) k0 bel lt0) trodAll_mk0), rfl, bel.frame _, fun h => by cases h⟩

theorem proved : Rows.FnExactGraphBackSaid :=
  OpenClaim.holds_of_wide 9 Try.f9 rfl rfl rfl rfl rfl rfl rfl ⟨rfl, rfl, rfl, rfl, rfl⟩ rfl rfl rfl rfl rfl (by kernel_rfl) Try.func9 (by kernel_rfl)
    (of_decide_eq_true (by kernel_rfl)) (by unfold Func.isWrapper; first | (rw [if_pos (by decide +kernel)]; kernel_rfl) | (rw [if_neg (by decide +kernel)]; exact ⟨rfl, rfl⟩))
    (fun os started H enc _ => lifted os started H enc)
#print axioms proved
end Go.Proofs.Ytpcdafifblghiaa.fnExactGraphBack
