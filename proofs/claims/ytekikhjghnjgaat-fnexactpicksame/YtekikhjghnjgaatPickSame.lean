/- For every two lists of units the exact law of PickSame answers true, and both read afterwards as they did. No condition. -/
import Derived.Test.YtekikhjghnjgaatBase
import Derived.WalkKit
import Derived.ProofKit
import Derived.OpenShut
import Derived.ShutString
import Derived.ChangeOld
import Derived.Below
import Derived.Lib.SmallJoins
import Derived.Test.YtekikhjghnjgaatFuns
import Derived.Test.YtekikhjghnjgaatOpen
import Derived.Test.YtekikhjghnjgaatKeep
import Derived.Test.YtekikhjghnjgaatUnits
import Derived.Test.YtekikhjghnjgaatSame
import Derived.Test.YtekikhjghnjgaatUSame
import Derived.Test.YtekikhjghnjgaatUU
import Derived.Test.YtekikhjghnjgaatPSame
namespace Go.Proofs.Ytekikhjghnjgaat.fnExactPickSame
open Go.ChangeShapes Go.WideShapes Go.ChangeAt Go.RowKit Go.Joins
open Go.ChangeMaps (open_string shut_string)
open Go.Proofs.Ytekikhjghnjgaat.Base
open Go.Proofs.Ytekikhjghnjgaat.Funs
open Go.Proofs.Ytekikhjghnjgaat.Open
open Go.Proofs.Ytekikhjghnjgaat.Keep
open Go.Proofs.Ytekikhjghnjgaat.Units
open Go.Proofs.Ytekikhjghnjgaat.Same
open Go.Proofs.Ytekikhjghnjgaat.USame
open Go.Proofs.Ytekikhjghnjgaat.UU
open Go.Proofs.Ytekikhjghnjgaat.PSame
set_option linter.unusedVariables false
set_option maxRecDepth 100000
theorem own : ownKnob Try.prog.godebug = none := by kernel_rfl
theorem laidOut : laidOutB Try.prog = true := by kernel_rfl

set_option maxHeartbeats 2000000 in
theorem walk (a : Option Addr) (cap : Nat) (fs : List (List FunD)) (hl : fs.length ≤ cap) (hm : cap ≤ maxLen) (a' : Option Addr) (cap' : Nat) (gs : List (List FunD)) (hl' : gs.length ≤ cap') (hm' : cap' ≤ maxLen) (w : World) (hr : UnitRow w a fs) (hr' : UnitRow w a' gs) :
    Calls Try.prog 4 #[.slice a fs.length cap, .slice a' gs.length cap'] w fun e w' => e = .returned (.bool true) ∧ Below w.heap.size w w' := by
  have HR := hide hr
  have HQ := hide hr'
  clear hr hr'
  by_cases hz : szUs fs 1048576 < 0
  · go_enter Try.func4, Try.ntmps4
    go_wp2_with fail
    refine (szFunSS_any a cap fs _ _ (by omega) (by omega) hl hm (unhide HR)).mono ?_
    rintro e w1 ⟨rfl, hb1⟩
    go_wp2_with fail
    go_ret
    exact ⟨rfl, hb1⟩
  obtain ⟨hlen, hls⟩ := szUs_len (us := fs) (l := 1048576) (by omega) (by omega)
  have hz1 : szUs fs 1048576 ≤ 1048576 := szUs_bd fs (by omega) (by omega)
  have HL := hide hls
  have HZ := hide (unhide HR).sizes
  have HZ' := hide (unhide HQ).sizes
  clear hls
  go_enter Try.func4, Try.ntmps4
  go_wp2_with fail
  refine (szFunSS_any a cap fs _ _ (by omega) (by omega) hl hm (unhide HR)).mono ?_
  rintro e w1 ⟨rfl, hb1⟩
  generalize szUs fs 1048576 = z at *
  by_cases hy : szUs gs z < 0
  · go_wp2_with fail
    refine (szFunSS_any a' cap' gs _ _ (by omega) (by omega) hl' hm' ((unhide HQ).below hb1)).mono ?_
    rintro e w2 ⟨rfl, hb2⟩
    have hB2 := bl_trans hb1 hb2
    go_wp2_with fail
    go_ret
    exact ⟨rfl, hB2⟩
  obtain ⟨hlen', hls'⟩ := szUs_len (us := gs) (l := z) (by omega) (by omega)
  have HL' := hide hls'
  clear hls'
  go_wp2_with fail
  refine (szFunSS_any a' cap' gs _ _ (by omega) (by omega) hl' hm' ((unhide HQ).below hb1)).mono ?_
  rintro e w2 ⟨rfl, hb2⟩
  have hB2 := bl_trans hb1 hb2
  generalize szUs gs z = z2 at *
  clear hb1 hb2
  go_wp2_with fail
  refine (toFunSS_any a cap fs _ ⟨hlen, unhide HL⟩ hl hm ((unhide HR).below hB2)).mono ?_
  rintro e w3 ⟨rfl, hO3, hb3⟩
  have hB3 := bl_trans hB2 hb3
  have HO3 := hide (hO3.row (unhide HZ))
  clear hO3
  go_wp2_with fail
  refine (toFunSS_any a' cap' gs _ ⟨hlen', unhide HL'⟩ hl' hm' ((unhide HQ).below hB3)).mono ?_
  rintro e w4 ⟨rfl, hO4, hb4⟩
  have hB4 := bl_trans hB3 hb4
  have HO4 := hide (hO4.row (unhide HZ'))
  clear hO4
  go_wp2_with fail
  refine (specPSame_any _ _ _ _ fs gs _ (Nat.le_refl _) (by unfold maxLen; omega) (Nat.le_refl _) (by unfold maxLen; omega) ((unhide HO3).below hb4) (unhide HO4)).mono ?_
  rintro e w5 ⟨rfl, hb5⟩
  have hB5 := bl_trans hB4 hb5
  clear HO3 HO4 hb3 hb4 hb5
  go_wp2_with fail
  refine (toFunSS_any a cap fs _ ⟨hlen, unhide HL⟩ hl hm ((unhide HR).below hB5)).mono ?_
  rintro e w6 ⟨rfl, hO6, hb6⟩
  have hB6 := bl_trans hB5 hb6
  have HO6 := hide (hO6.row (unhide HZ))
  clear hO6
  go_wp2_with fail
  refine (toFunSS_any a' cap' gs _ ⟨hlen', unhide HL'⟩ hl' hm' ((unhide HQ).below hB6)).mono ?_
  rintro e w7 ⟨rfl, hO7, hb7⟩
  have hB7 := bl_trans hB6 hb7
  have HO7 := hide (hO7.row (unhide HZ'))
  clear hO7
  have HO6' := hide ((unhide HO6).below hb7)
  clear HO6 hb6 hb7
  go_wp2_with fail
  refine (implPSame_any _ _ _ _ fs gs _ (Nat.le_refl _) (by unfold maxLen; omega) (Nat.le_refl _) (by unfold maxLen; omega) (unhide HO6') (unhide HO7)).mono ?_
  rintro e w8 ⟨rfl, hb8⟩
  have hB8 := bl_trans hB7 hb8
  have HO6 := hide ((unhide HO6').below hb8)
  have HO7' := hide ((unhide HO7).below hb8)
  clear HO6' HO7 hb8
  go_wp2_with fail
  refine (toFunSS_any a cap fs _ ⟨hlen, unhide HL⟩ hl hm ((unhide HR).below hB8)).mono ?_
  rintro e w9 ⟨rfl, hO9, hb9⟩
  have hB9 := bl_trans hB8 hb9
  have HO9 := hide (hO9.row (unhide HZ))
  clear hO9
  go_wp2_with fail
  refine (eqFunSS_same _ _ _ _ fs _ (Nat.le_refl _) (by unfold maxLen; omega) ((unhide HO6).below hb9) (unhide HO9)).mono ?_
  rintro e w10 ⟨rfl, hb10⟩
  have hB10 := bl_trans hB9 hb10
  have HO7 := hide (((unhide HO7').below hb9).below hb10)
  clear HO6 HO7' HO9 hb9 hb10
  go_wp2_with fail
  refine (toFunSS_any a' cap' gs _ ⟨hlen', unhide HL'⟩ hl' hm' ((unhide HQ).below hB10)).mono ?_
  rintro e w11 ⟨rfl, hO11, hb11⟩
  have hB11 := bl_trans hB10 hb11
  have HO11 := hide (hO11.row (unhide HZ'))
  clear hO11
  go_wp2_with fail
  refine (eqFunSS_same _ _ _ _ gs _ (Nat.le_refl _) (by unfold maxLen; omega) ((unhide HO7).below hb11) (unhide HO11)).mono ?_
  rintro e w12 ⟨rfl, hb12⟩
  have hB12 := bl_trans hB11 hb12
  go_wp2_with fail
  go_ret
  exact ⟨rfl, hB12⟩

set_option maxRecDepth 100000 in
theorem lifted (os : Os) (started : os.Started) (H : Type) (enc : TypeId × Value → H) :
    ReturnsInHanded {} Try.checked os 4 .any (Rows.fnExactPickSameSpec.pre6 enc Try.prog Try.f4 Rows.fnExactPickSameRow.domain false) (Rows.fnExactPickSameSpec.post enc Try.prog Try.f4 false true false false) := by
  refine returnsInHanded_of_change (C := Try.checked) own started (by kernel_rfl) Try.func4
    (ChangeSpec.witness6 (enc := enc) (C := Try.checked) false ⟨#[], #[.slice none 0 0, .slice none 0 0], []⟩ 8 (by kernel_rfl) (by kernel_rfl) (by kernel_rfl) (by kernel_rfl)) ?_
  intro W base args ds gs before hval0 hW hcnd _
  have hval : ∀ (j : Nat) t v, Try.f4.params[j]? = some t → args[j]? = some v → Value.okWide Try.prog W .any base t v := hval0
  have hW' := hW
  obtain ⟨p, q, hA0, hV, rfl, hfz, hnd⟩ := hW
  have hA : DataW.TrodAll enc Try.prog W 0 (fun _ => true) true Try.f4.params.toList args.toList ds p := hA0
  rw [Try.params4] at hA hval
  obtain ⟨v0, vs0, d0, ds0, p0, q0, hargs, rfl, rfl, h0, r0⟩ := trodAll_cons hA
  obtain ⟨v1, vs1, d1, ds1, p1, q1, rfl, rfl, rfl, h1, r1⟩ := trodAll_cons r0
  obtain ⟨rfl, rfl, rfl⟩ := trodAll_nil r1
  obtain rfl : args = #[v0, v1] := by cases args; simp_all
  obtain ⟨rfl, rfl⟩ := trodVars_none hV
  have k0 := h0
  have lt0 : ∀ x ∈ p0, x.block < W.heap.size := by obtain ⟨m, hm⟩ := k0; exact DataW.trod_lt m _ _ _ hm
  obtain ⟨a0, cap0, us0, hv0, hl0, hm0, hr0⟩ := units_of (hval 0 22 v0 rfl rfl) h0
  have k1 := h1
  have lt1 : ∀ x ∈ p1, x.block < W.heap.size := by obtain ⟨m, hm⟩ := k1; exact DataW.trod_lt m _ _ _ hm
  obtain ⟨a1, cap1, us1, hv1, hl1, hm1, hr1⟩ := units_of (hval 1 22 v1 rfl rfl) h1
  clear hA0 hval0
  subst hv0 hv1
  refine (walk a0 cap0 us0 hl0 hm0 a1 cap1 us1 hl1 hm1 W hr0 hr1).mono fun e W' ⟨he, bel⟩ => ?_
  subst he
  exact ⟨_, rfl, _, _, _, [], _, [], hW', trodAll_mk1 (shut_bool Try.underlying4 _), (trodAll_cons_mk (Below.trod laidOut (by kernel_rfl) (of_decide_eq_true (by kernel_rfl)) k0 bel lt0) (trodAll_cons_mk (Below.trod laidOut (by kernel_rfl) (of_decide_eq_true (by kernel_rfl)) k1 bel lt1) trodAll_mk0)), rfl, bel.frame _, fun h => by cases h⟩

theorem proved : Rows.FnExactPickSameSaid :=
  OpenClaim.holds_of_wide 4 Try.f4 rfl rfl rfl rfl rfl rfl rfl ⟨rfl, rfl, rfl, rfl, rfl⟩ rfl rfl rfl rfl rfl (by kernel_rfl) Try.func4 (by kernel_rfl)
    (of_decide_eq_true (by kernel_rfl)) (by unfold Func.isWrapper; first | (rw [if_pos (by decide +kernel)]; kernel_rfl) | (rw [if_neg (by decide +kernel)]; exact ⟨rfl, rfl⟩))
    (fun os started H enc _ => lifted os started H enc)
#print axioms proved
end Go.Proofs.Ytekikhjghnjgaat.fnExactPickSame
