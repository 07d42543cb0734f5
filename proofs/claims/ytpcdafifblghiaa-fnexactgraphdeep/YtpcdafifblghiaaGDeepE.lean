/- For every list of functions the exact law of GraphDeep answers true, and both read afterwards as they did. No condition. -/
import Derived.Test.YtpcdafifblghiaaBase
import Derived.WalkKit
import Derived.ProofKit
import Derived.OpenShut
import Derived.ShutString
import Derived.ChangeOld
import Derived.Below
import Derived.Lib.SmallJoins
import Derived.Test.YtpcdafifblghiaaFuns
import Derived.Test.YtpcdafifblghiaaOpen
import Derived.Test.YtpcdafifblghiaaKeep
import Derived.Test.YtpcdafifblghiaaUnits
import Derived.Test.YtpcdafifblghiaaUnitS
import Derived.Test.YtpcdafifblghiaaUnitM
import Derived.Test.YtpcdafifblghiaaRefs
import Derived.Test.YtpcdafifblghiaaMark
import Derived.Test.YtpcdafifblghiaaMarkF
import Derived.Test.YtpcdafifblghiaaWantsL
import Derived.Test.YtpcdafifblghiaaKeepA
import Derived.Test.YtpcdafifblghiaaKeepR
import Derived.Test.YtpcdafifblghiaaKeepI
import Derived.Test.YtpcdafifblghiaaGraphD
import Derived.Test.YtpcdafifblghiaaGraphS
import Derived.Test.YtpcdafifblghiaaGraphL
import Derived.Test.YtpcdafifblghiaaGraphN
import Derived.Test.YtpcdafifblghiaaGraphO
namespace Go.Proofs.Ytpcdafifblghiaa.fnExactGraphDeep
open Go.ChangeShapes Go.WideShapes Go.ChangeAt Go.RowKit Go.Joins
open Go.ChangeMaps (open_string shut_string)
open Go.Proofs.Ytpcdafifblghiaa.Base
open Go.Proofs.Ytpcdafifblghiaa.Funs
open Go.Proofs.Ytpcdafifblghiaa.Open
open Go.Proofs.Ytpcdafifblghiaa.Keep
open Go.Proofs.Ytpcdafifblghiaa.Units
open Go.Proofs.Ytpcdafifblghiaa.UnitS
open Go.Proofs.Ytpcdafifblghiaa.UnitM
open Go.Proofs.Ytpcdafifblghiaa.Refs
open Go.Proofs.Ytpcdafifblghiaa.Mark
open Go.Proofs.Ytpcdafifblghiaa.MarkF
open Go.Proofs.Ytpcdafifblghiaa.WantsL
open Go.Proofs.Ytpcdafifblghiaa.KeepA
open Go.Proofs.Ytpcdafifblghiaa.KeepR
open Go.Proofs.Ytpcdafifblghiaa.KeepI
open Go.Proofs.Ytpcdafifblghiaa.GraphD
open Go.Proofs.Ytpcdafifblghiaa.GraphS
open Go.Proofs.Ytpcdafifblghiaa.GraphL
open Go.Proofs.Ytpcdafifblghiaa.GraphN
open Go.Proofs.Ytpcdafifblghiaa.GraphO
set_option linter.unusedVariables false
set_option maxRecDepth 100000
theorem own : ownKnob Try.prog.godebug = none := by kernel_rfl
theorem laidOut : laidOutB Try.prog = true := by kernel_rfl

theorem own_at {w : World} {B g : Nat} {v : Value} {ss : List ByteArray} (h : StrOwn w B v ss) (hg : v.ownBlock = some g) : B ≤ g ∧ g < w.heap.size := World.ownsRow.lt h g hg

set_option maxHeartbeats 4000000 in
theorem walk (a : Option Addr) (cap : Nat) (fs : List FunD) (hl : fs.length ≤ cap) (hm : cap ≤ maxLen) (w : World) (hr : FunRow w a fs) :
    Calls Try.prog 10 #[.slice a fs.length cap] w fun e w' => e = .returned (.bool true) ∧ Below w.heap.size w w' := by
  have HR := hide hr
  clear hr
  by_cases hz : szFs fs 1048576 < 0
  · go_enter Try.func10, Try.ntmps10
    go_wp2_with fail
    refine (szFunS_any a cap fs _ _ (by omega) (by omega) hl hm (unhide HR)).mono ?_
    rintro e w1 ⟨rfl, hb1⟩
    go_wp2_with fail
    go_ret
    exact ⟨rfl, hb1⟩
  obtain ⟨hlen, hls⟩ := szFs_len (fs := fs) (l := 1048576) (by omega) (by omega)
  have HL := hide hls
  have HLS : Hid (∀ i, i < fs.length → (fs.getD i default).body.length ≤ 1048576) := fun i hi => by
    have := hls fs[i] (List.getElem_mem hi)
    simpa [List.getD, List.getElem?_eq_getElem hi] using this
  have HZ := hide (unhide HR).sizes
  clear hls
  go_enter Try.func10, Try.ntmps10
  go_wp2_with fail
  refine (szFunS_any a cap fs _ _ (by omega) (by omega) hl hm (unhide HR)).mono ?_
  rintro e w1 ⟨rfl, hb1⟩
  have HR1 := hide ((unhide HR).below hb1)
  go_wp2_with fail
  refine (toFunS_any a cap fs _ hlen (unhide HL) hl hm (unhide HR1)).mono ?_
  rintro e w2 ⟨rfl, hO2, hb2⟩
  have hB2 := bl_trans hb1 hb2
  have HO2 := hide (hO2.row (unhide HZ))
  clear hO2 hb1 hb2 HR1
  go_wp2_with fail
  refine (specDeep_any _ _ fs _ (Nat.le_refl _) (by unfold maxLen; omega) (unhide HO2)).mono ?_
  rintro e w3 ⟨r0, rfl, hU0, hb3⟩
  have HU := hide hU0
  have hB3 := bl_trans hB2 hb3
  clear hU0 hb3 hB2 HO2
  go_wp2_with fail
  refine (toFunS_any a cap fs _ hlen (unhide HL) hl hm ((unhide HR).below hB3)).mono ?_
  rintro e w4 ⟨rfl, hO4, hb4⟩
  have hB4 := bl_trans hB3 hb4
  have HO4 := hide hO4
  clear hO4 hb4 hB3
  go_wp2_with fail
  refine (implDeep_any _ _ fs _ (Nat.le_refl _) (by unfold maxLen; omega) ((unhide HO4).row (unhide HZ))).mono ?_
  rintro e w5 ⟨r1, rfl, hU1, hb5⟩
  obtain rfl := deepR_one (unhide HU) hU1
  have hB5 := bl_trans hB4 hb5
  have HO5 := hide ((unhide HO4).below hb5)
  clear hU1 HO4 hB4 hb5
  go_wp2_with fail
  refine (toFunS_any a cap fs _ hlen (unhide HL) hl hm ((unhide HR).below hB5)).mono ?_
  rintro e w7 ⟨rfl, hO7, hb7⟩
  have hB7 := bl_trans hB5 hb7
  have HO7 := hide (hO7.row (unhide HZ))
  have HX7 := hide (((unhide HO5).below hb7).row (unhide HZ))
  clear hO7 HO5 hB5 hb7
  go_wp2_with fail
  refine (eqFunS_same _ _ _ _ fs _ (Nat.le_refl _) (by unfold maxLen; omega) (unhide HX7) (unhide HO7)).mono ?_
  rintro e w8 ⟨rfl, hb8⟩
  have hB8 := bl_trans hB7 hb8
  go_wp2_with fail
  go_ret
  exact ⟨rfl, hB8⟩

set_option maxRecDepth 100000 in
theorem lifted (os : Os) (started : os.Started) (H : Type) (enc : TypeId × Value → H) :
    ReturnsInHanded {} Try.checked os 10 .any (Rows.fnExactGraphDeepSpec.pre6 enc Try.prog Try.f10 Rows.fnExactGraphDeepRow.domain false) (Rows.fnExactGraphDeepSpec.post enc Try.prog Try.f10 false true false false) := by
  refine returnsInHanded_of_change (C := Try.checked) own started (by kernel_rfl) Try.func10
    (ChangeSpec.witness6 (enc := enc) (C := Try.checked) false ⟨#[], #[.slice none 0 0], []⟩ 8 (by kernel_rfl) (by kernel_rfl) (by kernel_rfl) (by kernel_rfl)) ?_
  intro W base args ds gs before hval0 hW hcnd _
  have hval : ∀ (j : Nat) t v, Try.f10.params[j]? = some t → args[j]? = some v → Value.okWide Try.prog W .any base t v := hval0
  have hW' := hW
  obtain ⟨p, q, hA0, hV, rfl, hfz, hnd⟩ := hW
  have hA : DataW.TrodAll enc Try.prog W 0 (fun _ => true) true Try.f10.params.toList args.toList ds p := hA0
  rw [Try.params10] at hA hval
  obtain ⟨v0, vs0, d0, ds0, p0, q0, hargs, rfl, rfl, h0, r0⟩ := trodAll_cons hA
  obtain ⟨rfl, rfl, rfl⟩ := trodAll_nil r0
  obtain rfl : args = #[v0] := by cases args; simp_all
  obtain ⟨rfl, rfl⟩ := trodVars_none hV
  have k0 := h0
  have lt0 : ∀ x ∈ p0, x.block < W.heap.size := by obtain ⟨m, hm⟩ := k0; exact DataW.trod_lt m _ _ _ hm
  obtain ⟨a0, cap0, fs0, hv0, hl0, hm0, hr0⟩ := funs_of (hval 0 41 v0 rfl rfl) h0
  clear hA0 hval0
  subst hv0
  refine (walk a0 cap0 fs0 hl0 hm0 W hr0).mono fun e W' ⟨he, bel⟩ => ?_
  subst he
  exact ⟨_, rfl, _, _, _, [], _, [], hW', trodAll_mk1 (shut_bool Try.underlying4 _), (trodAll_cons_mk (Below.trod laidOut (by kernel_rfl) (of_decide_eq_true (by kernel_rfl)) k0 bel lt0) trodAll_mk0), rfl, bel.frame _, fun h => by cases h⟩

theorem proved : Rows.FnExactGraphDeepSaid :=
  OpenClaim.holds_of_wide 10 Try.f10 rfl rfl rfl rfl rfl rfl rfl ⟨rfl, rfl, rfl, rfl, rfl⟩ rfl rfl rfl rfl rfl (by kernel_rfl) Try.func10 (by kernel_rfl)
    (of_decide_eq_true (by kernel_rfl)) (by unfold Func.isWrapper; first | (rw [if_pos (by decide +kernel)]; kernel_rfl) | (rw [if_neg (by decide +kernel)]; exact ⟨rfl, rfl⟩))
    (fun os started H enc _ => lifted os started H enc)
#print axioms proved
end Go.Proofs.Ytpcdafifblghiaa.fnExactGraphDeep
