/- For every list of units and every text the exact law of PickAt answers true, and both read afterwards as they did. No condition. -/
import Derived.Test.YtekikhjghnjgaasBase
import Derived.WalkKit
import Derived.ProofKit
import Derived.OpenShut
import Derived.ShutString
import Derived.ChangeOld
import Derived.Below
import Derived.Lib.SmallJoins
import Derived.Test.YtekikhjghnjgaasFuns
import Derived.Test.YtekikhjghnjgaasOpen
import Derived.Test.YtekikhjghnjgaasKeep
import Derived.Test.YtekikhjghnjgaasUnits
import Derived.Test.YtekikhjghnjgaasUnitS
import Derived.Test.YtekikhjghnjgaasUnitM
import Derived.Test.YtekikhjghnjgaasUU
import Derived.Test.YtekikhjghnjgaasPickD
import Derived.Test.YtekikhjghnjgaasPickS
import Derived.Test.YtekikhjghnjgaasPickM
namespace Go.Proofs.Ytekikhjghnjgaas.fnExactPickAt
open Go.ChangeShapes Go.WideShapes Go.ChangeAt Go.RowKit Go.Joins
open Go.ChangeMaps (open_string shut_string)
open Go.Proofs.Ytekikhjghnjgaas.Base
open Go.Proofs.Ytekikhjghnjgaas.Funs
open Go.Proofs.Ytekikhjghnjgaas.Open
open Go.Proofs.Ytekikhjghnjgaas.Keep
open Go.Proofs.Ytekikhjghnjgaas.Units
open Go.Proofs.Ytekikhjghnjgaas.UnitS
open Go.Proofs.Ytekikhjghnjgaas.UnitM
open Go.Proofs.Ytekikhjghnjgaas.UU
open Go.Proofs.Ytekikhjghnjgaas.PickD
open Go.Proofs.Ytekikhjghnjgaas.PickS
open Go.Proofs.Ytekikhjghnjgaas.PickM
set_option linter.unusedVariables false
set_option maxRecDepth 100000
theorem own : ownKnob Try.prog.godebug = none := by kernel_rfl
theorem laidOut : laidOutB Try.prog = true := by kernel_rfl

set_option maxHeartbeats 1000000 in
theorem walk (a : Option Addr) (cap : Nat) (fs : List (List FunD)) (hl : fs.length ≤ cap) (hm : cap ≤ maxLen) (s : ByteArray) (hs : s.size ≤ maxLen) (w : World) (hr : UnitRow w a fs) :
    Calls Try.prog 5 #[.slice a fs.length cap, .string s] w fun e w' => e = .returned (.bool true) ∧ Below w.heap.size w w' := by
  have HR := hide hr
  clear hr
  by_cases hsl : (1048576 : Int) < s.size
  · go_enter Try.func5, Try.ntmps5
    go_wp2_with fail
    go_ret
    exact ⟨rfl, Below.refl _ _⟩
  by_cases hz : szUs fs 1048576 < 0
  · go_enter Try.func5, Try.ntmps5
    go_wp2_with fail
    refine (szFunSS_any a cap fs _ _ (by omega) (by omega) hl hm (unhide HR)).mono ?_
    rintro e w1 ⟨rfl, hb1⟩
    go_wp2_with fail
    go_ret
    exact ⟨rfl, hb1⟩
  obtain ⟨hlen, hls⟩ := szUs_len (us := fs) (l := 1048576) (by omega) (by omega)
  have HL := hide hls
  have HZ := hide (unhide HR).sizes
  clear hls
  go_enter Try.func5, Try.ntmps5
  go_wp2_with fail
  refine (szFunSS_any a cap fs _ _ (by omega) (by omega) hl hm (unhide HR)).mono ?_
  rintro e w1 ⟨rfl, hb1⟩
  have HR1 := hide ((unhide HR).below hb1)
  go_wp2_with fail
  refine (toFunSS_any a cap fs _ ⟨hlen, unhide HL⟩ hl hm (unhide HR1)).mono ?_
  rintro e w2 ⟨rfl, hO2, hb2⟩
  have hB2 := bl_trans hb1 hb2
  have HO2 := hide (hO2.row (unhide HZ))
  clear hO2
  go_wp2_with fail
  refine (specPickAt_any _ _ fs s _ hs (Nat.le_refl _) (by unfold maxLen; omega) (unhide HO2)).mono ?_
  rintro e w3 ⟨rfl, hb3⟩
  unfold tup3
  have hB3 := bl_trans hB2 hb3
  go_wp2_with fail
  refine (toFunSS_any a cap fs _ ⟨hlen, unhide HL⟩ hl hm ((unhide HR).below hB3)).mono ?_
  rintro e w4 ⟨rfl, hO4, hb4⟩
  have hB4 := bl_trans hB3 hb4
  have HO4 := hide (hO4.row (unhide HZ))
  clear hO4
  go_wp2_with fail
  refine (implPickAt_any _ _ fs s _ hs (Nat.le_refl _) (by unfold maxLen; omega) (unhide HO4)).mono ?_
  rintro e w5 ⟨rfl, hb5⟩
  unfold tup3
  have hB5 := bl_trans hB4 hb5
  go_wp2_with fail
  refine (toFunSS_any a cap fs _ ⟨hlen, unhide HL⟩ hl hm ((unhide HR).below hB5)).mono ?_
  rintro e w6 ⟨rfl, hO6, hb6⟩
  have hB6 := bl_trans hB5 hb6
  have HO6 := hide (hO6.row (unhide HZ))
  clear hO6
  go_wp2_with fail
  refine (eqFunSS_same _ _ _ _ fs _ (Nat.le_refl _) (by unfold maxLen; omega) (((unhide HO4).below hb5).below hb6) (unhide HO6)).mono ?_
  rintro e w7 ⟨rfl, hb7⟩
  have hB7 := bl_trans hB6 hb7
  go_wp2_with fail
  go_ret
  exact ⟨rfl, hB7⟩

set_option maxRecDepth 100000 in
theorem lifted (os : Os) (started : os.Started) (H : Type) (enc : TypeId × Value → H) :
    ReturnsInHanded {} Try.checked os 5 .any (Rows.fnExactPickAtSpec.pre6 enc Try.prog Try.f5 Rows.fnExactPickAtRow.domain false) (Rows.fnExactPickAtSpec.post enc Try.prog Try.f5 false true false false) := by
  refine returnsInHanded_of_change (C := Try.checked) own started (by kernel_rfl) Try.func5
    (ChangeSpec.witness6 (enc := enc) (C := Try.checked) false ⟨#[], #[.slice none 0 0, .string ByteArray.empty], []⟩ 8 (by kernel_rfl) (by kernel_rfl) (by kernel_rfl) (by kernel_rfl)) ?_
  intro W base args ds gs before hval0 hW hcnd _
  have hval : ∀ (j : Nat) t v, Try.f5.params[j]? = some t → args[j]? = some v → Value.okWide Try.prog W .any base t v := hval0
  have hW' := hW
  obtain ⟨p, q, hA0, hV, rfl, hfz, hnd⟩ := hW
  have hA : DataW.TrodAll enc Try.prog W 0 (fun _ => true) true Try.f5.params.toList args.toList ds p := hA0
  rw [Try.params5] at hA hval
  obtain ⟨v0, vs0, d0, ds0, p0, q0, hargs, rfl, rfl, h0, r0⟩ := trodAll_cons hA
  obtain ⟨v1, vs1, d1, ds1, p1, q1, rfl, rfl, rfl, h1, r1⟩ := trodAll_cons r0
  obtain ⟨rfl, rfl, rfl⟩ := trodAll_nil r1
  obtain rfl : args = #[v0, v1] := by cases args; simp_all
  obtain ⟨rfl, rfl⟩ := trodVars_none hV
  have k0 := h0
  have lt0 : ∀ x ∈ p0, x.block < W.heap.size := by obtain ⟨m, hm⟩ := k0; exact DataW.trod_lt m _ _ _ hm
  obtain ⟨a0, cap0, us0, hv0, hl0, hm0, hr0⟩ := units_of (hval 0 35 v0 rfl rfl) h0
  have k1 := h1
  have lt1 : ∀ x ∈ p1, x.block < W.heap.size := by obtain ⟨m, hm⟩ := k1; exact DataW.trod_lt m _ _ _ hm
  obtain ⟨s1, hv1, _, _, w1⟩ := open_string Try.underlying9 (hval 1 9 v1 rfl rfl) h1
  clear hA0 hval0
  subst hv0 hv1
  refine (walk a0 cap0 us0 hl0 hm0 s1 w1 W hr0).mono fun e W' ⟨he, bel⟩ => ?_
  subst he
  exact ⟨_, rfl, _, _, _, [], _, [], hW', trodAll_mk1 (shut_bool Try.underlying4 _), (trodAll_cons_mk (Below.trod laidOut (by kernel_rfl) (of_decide_eq_true (by kernel_rfl)) k0 bel lt0) (trodAll_cons_mk (Below.trod laidOut (by kernel_rfl) (of_decide_eq_true (by kernel_rfl)) k1 bel lt1) trodAll_mk0)), rfl, bel.frame _, fun h => by cases h⟩

theorem proved : Rows.FnExactPickAtSaid :=
  OpenClaim.holds_of_wide 5 Try.f5 rfl rfl rfl rfl rfl rfl rfl ⟨rfl, rfl, rfl, rfl, rfl⟩ rfl rfl rfl rfl rfl (by kernel_rfl) Try.func5 (by kernel_rfl)
    (of_decide_eq_true (by kernel_rfl)) (by unfold Func.isWrapper; first | (rw [if_pos (by decide +kernel)]; kernel_rfl) | (rw [if_neg (by decide +kernel)]; exact ⟨rfl, rfl⟩))
    (fun os started H enc _ => lifted os started H enc)
#print axioms proved
end Go.Proofs.Ytekikhjghnjgaas.fnExactPickAt
