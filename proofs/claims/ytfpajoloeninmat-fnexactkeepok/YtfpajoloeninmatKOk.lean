/- For every list of functions the exact law of KeepOk answers true, and the list reads afterwards as it did. No condition. -/
import Derived.Test.YtfpajoloeninmatBase
import Derived.WalkKit
import Derived.ProofKit
import Derived.OpenShut
import Derived.ShutString
import Derived.ChangeOld
import Derived.Below
import Derived.Lib.SmallJoins
import Derived.Test.YtfpajoloeninmatFuns
import Derived.Test.YtfpajoloeninmatOpen
import Derived.Test.YtfpajoloeninmatUnits
import Derived.Test.YtfpajoloeninmatKeepD
import Derived.Test.YtfpajoloeninmatKeepA
namespace Go.Proofs.Ytfpajoloeninmat.fnExactKeepOk
open Go.ChangeShapes Go.WideShapes Go.ChangeAt Go.RowKit Go.Joins
open Go.ChangeMaps (open_string shut_string)
open Go.Proofs.Ytfpajoloeninmat.Base
open Go.Proofs.Ytfpajoloeninmat.Funs
open Go.Proofs.Ytfpajoloeninmat.Open
open Go.Proofs.Ytfpajoloeninmat.Units
open Go.Proofs.Ytfpajoloeninmat.KeepD
open Go.Proofs.Ytfpajoloeninmat.KeepA
set_option linter.unusedVariables false
set_option maxRecDepth 100000
theorem own : ownKnob Try.prog.godebug = none := by kernel_rfl
theorem laidOut : laidOutB Try.prog = true := by kernel_rfl

set_option maxHeartbeats 1000000 in
theorem walk (a : Option Addr) (cap : Nat) (fs : List FunD) (hl : fs.length ≤ cap) (hm : cap ≤ maxLen) (w : World) (hr : FunRow w a fs) :
    Calls Try.prog 5 #[.slice a fs.length cap] w fun e w' => e = .returned (.bool true) ∧ Below w.heap.size w w' := by
  have HR := hide hr
  clear hr
  by_cases hz : szFs fs 1048576 < 0
  · go_enter Try.func5, Try.ntmps5
    go_wp2_with fail
    refine (szFunS_any a cap fs _ _ (by omega) (by omega) hl hm (unhide HR)).mono ?_
    rintro e w1 ⟨rfl, hb1⟩
    go_wp2_with fail
    go_ret
    exact ⟨rfl, hb1⟩
  obtain ⟨hlen, hls⟩ := szFs_len (fs := fs) (l := 1048576) (by omega) (by omega)
  have HL := hide hls
  have HZ := hide (unhide HR).sizes
  clear hls
  go_enter Try.func5, Try.ntmps5
  go_wp2_with fail
  refine (szFunS_any a cap fs _ _ (by omega) (by omega) hl hm (unhide HR)).mono ?_
  rintro e w1 ⟨rfl, hb1⟩
  have HR1 := hide ((unhide HR).below hb1)
  go_wp2_with fail
  refine (toFunS_any a cap fs _ hlen (unhide HL) hl hm (unhide HR1)).mono ?_
  rintro e w2 ⟨rfl, hO2, hb2⟩
  have hB2 := bl_trans hb1 hb2
  have HO2 := hide (hO2.row (unhide HZ))
  clear hO2
  go_wp2_with fail
  refine (specKeepOk_any _ _ fs _ (Nat.le_refl _) (by unfold maxLen; omega) (unhide HO2)).mono ?_
  rintro e w3 ⟨rfl, hb3⟩
  have hB3 := bl_trans hB2 hb3
  go_wp2_with fail
  refine (toFunS_any a cap fs _ hlen (unhide HL) hl hm ((unhide HR).below hB3)).mono ?_
  rintro e w4 ⟨rfl, hO4, hb4⟩
  have hB4 := bl_trans hB3 hb4
  have HO4 := hide (hO4.row (unhide HZ))
  clear hO4
  go_wp2_with fail
  refine (implKeepOk_any _ _ fs _ (Nat.le_refl _) (by unfold maxLen; omega) (unhide HO4)).mono ?_
  rintro e w5 ⟨rfl, hb5⟩
  have hB5 := bl_trans hB4 hb5
  go_wp2_with fail
  refine (toFunS_any a cap fs _ hlen (unhide HL) hl hm ((unhide HR).below hB5)).mono ?_
  rintro e w6 ⟨rfl, hO6, hb6⟩
  have hB6 := bl_trans hB5 hb6
  have HO6 := hide (hO6.row (unhide HZ))
  clear hO6
  go_wp2_with fail
  refine (eqFunS_same _ _ _ _ fs _ (Nat.le_refl _) (by unfold maxLen; omega) (((unhide HO4).below hb5).below hb6) (unhide HO6)).mono ?_
  rintro e w7 ⟨rfl, hb7⟩
  have hB7 := bl_trans hB6 hb7
  go_wp2_with fail
  go_ret
  exact ⟨rfl, hB7⟩

set_option maxRecDepth 100000 in
theorem lifted (os : Os) (started : os.Started) (H : Type) (enc : TypeId × Value → H) :
    ReturnsInHanded {} Try.checked os 5 .any (Rows.fnExactKeepOkSpec.pre6 enc Try.prog Try.f5 Rows.fnExactKeepOkRow.domain false) (Rows.fnExactKeepOkSpec.post enc Try.prog Try.f5 false true false false) := by
  refine returnsInHanded_of_change (C := Try.checked) own started (by kernel_rfl) Try.func5
    (ChangeSpec.witness6 (enc := enc) (C := Try.checked) false ⟨#[], #[.slice none 0 0], []⟩ 8 (by kernel_rfl) (by kernel_rfl) (by kernel_rfl) (by kernel_rfl)) ?_
  intro W base args ds gs before hval0 hW hcnd _
  have hval : ∀ (j : Nat) t v, Try.f5.params[j]? = some t → args[j]? = some v → Value.okWide Try.prog W .any base t v := hval0
  have hW' := hW
  obtain ⟨p, q, hA0, hV, rfl, hfz, hnd⟩ := hW
  have hA : DataW.TrodAll enc Try.prog W 0 (fun _ => true) true Try.f5.params.toList args.toList ds p := hA0
  rw [Try.params5] at hA hval
  obtain ⟨v0, vs0, d0, ds0, p0, q0, hargs, rfl, rfl, h0, r0⟩ := trodAll_cons hA
  obtain ⟨rfl, rfl, rfl⟩ := trodAll_nil r0
  obtain rfl : args = #[v0] := by cases args; simp_all
  obtain ⟨rfl, rfl⟩ := trodVars_none hV
  have k0 := h0
  have lt0 : ∀ x ∈ p0, x.block < W.heap.size := by obtain ⟨m, hm⟩ := k0; exact DataW.trod_lt m _ _ _ hm
  obtain ⟨a0, cap0, fs0, hv0, hl0, hm0, hr0⟩ := funs_of (hval 0 34 v0 rfl rfl) h0
  clear hA0 hval0
  subst hv0
  refine (walk a0 cap0 fs0 hl0 hm0 W hr0).mono fun e W' ⟨he, bel⟩ => ?_
  subst he
  exact ⟨_, rfl, _, _, _, [], _, [], hW', trodAll_mk1 (shut_bool Try.underlying4 _), (trodAll_cons_mk (Below.trod laidOut (by kernel_rfl) (of_decide_eq_true (by kernel_rfl)) k0 bel lt0) trodAll_mk0), rfl, bel.frame _, fun h => by cases h⟩

theorem proved : Rows.FnExactKeepOkSaid :=
  OpenClaim.holds_of_wide 5 Try.f5 rfl rfl rfl rfl rfl rfl rfl ⟨rfl, rfl, rfl, rfl, rfl⟩ rfl rfl rfl rfl rfl (by kernel_rfl) Try.func5 (by kernel_rfl)
    (of_decide_eq_true (by kernel_rfl)) (by unfold Func.isWrapper; first | (rw [if_pos (by decide +kernel)]; kernel_rfl) | (rw [if_neg (by decide +kernel)]; exact ⟨rfl, rfl⟩))
    (fun os started H enc _ => lifted os started H enc)
#print axioms proved
end Go.Proofs.Ytfpajoloeninmat.fnExactKeepOk
