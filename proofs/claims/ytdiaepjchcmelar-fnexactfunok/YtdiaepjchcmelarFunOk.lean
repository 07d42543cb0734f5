/- For every function the exact law of FunOk answers true, and the function reads afterwards as it did. No condition. -/
import Derived.Test.YtdiaepjchcmelarBase
import Derived.WalkKit
import Derived.ProofKit
import Derived.OpenShut
import Derived.ShutString
import Derived.ChangeOld
import Derived.Below
import Derived.Lib.SmallJoins
import Derived.Test.YtdiaepjchcmelarFuns
import Derived.Test.YtdiaepjchcmelarOpen
import Derived.Test.YtdiaepjchcmelarFunS
namespace Go.Proofs.Ytdiaepjchcmelar.fnExactFunOk
open Go.ChangeShapes Go.WideShapes Go.ChangeAt Go.RowKit Go.Joins
open Go.ChangeMaps (open_string shut_string)
open Go.Proofs.Ytdiaepjchcmelar.Base
open Go.Proofs.Ytdiaepjchcmelar.Funs
open Go.Proofs.Ytdiaepjchcmelar.Open
open Go.Proofs.Ytdiaepjchcmelar.FunS
set_option linter.unusedVariables false
theorem own : ownKnob Try.prog.godebug = none := by kernel_rfl
theorem laidOut : laidOutB Try.prog = true := by kernel_rfl

set_option maxHeartbeats 1000000 in
theorem walk (nm : ByteArray) (wk : Bool) (a : Option Addr) (cap : Nat) (xs : List InsD) (hnm : nm.size ≤ maxLen) (hl : xs.length ≤ cap) (hm : cap ≤ maxLen) (w : World) (hr : InsRow w a xs) :
    Calls Try.prog 4 #[.agg #[.string nm, .bool wk, .slice a xs.length cap]] w fun e w' => e = .returned (.bool true) ∧ Below w.heap.size w w' := by
  have HR := hide (hr.below (below_alloc1 w (.cells #[.string nm, .bool wk, .slice a xs.length cap] 26)))
  have HX := hide (new_block w (.cells #[.string nm, .bool wk, .slice a xs.length cap] 26))
  clear hr
  by_cases hz : szF nm xs 1048576 < 0
  · go_enter Try.func4, Try.ntmps4
    go_wp2_with (go_at_call 11; refine (szFun_any _ _ _ _ _ _ _ (by omega) (by omega) hnm hl hm (unhide HR)).mono ?_; rintro e w1 ⟨rfl, hb1⟩)
    go_ret
    exact ⟨rfl, bl_trans (below_alloc1 _ _) hb1⟩
  · have hlen : xs.length ≤ 1048576 := szF_len (nm := nm) (by omega)
    go_enter Try.func4, Try.ntmps4
    go_wp2_with fail
    refine (szFun_any _ _ _ _ _ _ _ (by omega) (by omega) hnm hl hm (unhide HR)).mono ?_
    rintro e w1 ⟨rfl, hb1⟩
    have hB1 := bl_trans (below_alloc1 _ _) hb1
    have HR1 := hide ((unhide HR).below hb1)
    have HX1 := hide (box_below (unhide HX) hb1)
    clear HR HX hb1
    obtain ⟨⟨d0, d1, d2⟩, _⟩ := box3 (unhide HX1)
    go_wp2_with fail
    refine (toFun_any nm wk a cap xs _ hlen hl hm (unhide HR1)).mono ?_
    rintro e w2 ⟨R2, hR2, rfl, hO2, hb2⟩
    have hB2 := bl_trans hB1 hb2
    have HR2 := hide ((unhide HR1).below hb2)
    have HX2 := hide (box_below (unhide HX1) hb2)
    have HO2 := hide (hO2.row (unhide HR1).sizes)
    clear HR1 HX1 hb2 d0 d1 d2 hB1 hO2
    go_wp2_with fail
    refine (specFunOk_any nm wk _ _ xs _ hnm (Nat.le_refl _) (by unfold maxLen; omega) (unhide HO2)).mono ?_
    rintro e w3 ⟨rfl, hb3⟩
    have hB3 := bl_trans hB2 hb3
    have HR3 := hide ((unhide HR2).below hb3)
    have HX3 := hide (box_below (unhide HX2) hb3)
    clear HR2 HX2 hb3 hB2 HO2
    obtain ⟨⟨d0, d1, d2⟩, _⟩ := box3 (unhide HX3)
    go_wp2_with fail
    refine (toFun_any nm wk a cap xs _ hlen hl hm (unhide HR3)).mono ?_
    rintro e w4 ⟨R4, hR4, rfl, hO4, hb4⟩
    have hB4 := bl_alloc (bl_trans hB3 hb4) (.cells #[.string nm, .bool wk, .slice (some ⟨R4, 0, none⟩) xs.length xs.length] 31)
    have HR4 := hide (((unhide HR3).below hb4).below (below_alloc1 _ (.cells #[.string nm, .bool wk, .slice (some ⟨R4, 0, none⟩) xs.length xs.length] 31)))
    have HX4 := hide (box_below (box_below (unhide HX3) hb4) (below_alloc1 _ (.cells #[.string nm, .bool wk, .slice (some ⟨R4, 0, none⟩) xs.length xs.length] 31)))
    have HO4 := hide ((hO4.row (unhide HR3).sizes).below (below_alloc1 _ (.cells #[.string nm, .bool wk, .slice (some ⟨R4, 0, none⟩) xs.length xs.length] 31)))
    have HY4 := hide (new_block w4 (.cells #[.string nm, .bool wk, .slice (some ⟨R4, 0, none⟩) xs.length xs.length] 31))
    clear HR3 HX3 hb4 d0 d1 d2 hB3 hO4
    go_wp2_with fail
    refine (implFunOk_any nm wk _ _ xs _ hnm (Nat.le_refl _) (by unfold maxLen; omega) (unhide HO4)).mono ?_
    rintro e w5 ⟨rfl, hb5⟩
    obtain ⟨c, _⟩ := box3 (box_below (unhide HX4) hb5)
    obtain ⟨d, _⟩ := box3 (box_below (unhide HY4) hb5)
    have hS0 := And.intro c (And.intro d (And.intro ((unhide HR4).below hb5) (And.intro ((unhide HO4).below hb5) (bl_trans hB4 hb5))))
    have HS := hide (unhide HR4).sizes
    clear HR4 HX4 HO4 HY4 hb5 hB4 c d
    go_wp2_with fail
    go_region_held3 (fun w' => (w'.cell? ⟨w.heap.size, 0, none⟩ = some (.string nm) ∧ w'.cell? ⟨w.heap.size, 1, none⟩ = some (.bool wk) ∧ w'.cell? ⟨w.heap.size, 2, none⟩ = some (.slice a xs.length cap)) ∧ (w'.cell? ⟨w4.heap.size, 0, none⟩ = some (.string nm) ∧ w'.cell? ⟨w4.heap.size, 1, none⟩ = some (.bool wk) ∧ w'.cell? ⟨w4.heap.size, 2, none⟩ = some (.slice (some ⟨R4, 0, none⟩) xs.length xs.length)) ∧ InsRow w' a xs ∧ InsRow w' (some ⟨R4, 0, none⟩) xs ∧ Below w.heap.size w w') (first | assumption | (refine keep8 ?_ hbk; assumption) | (refine keep8_drew ?_; assumption))
      (first | (go_at_call 13; refine (toFun_any nm wk a cap xs _ hlen hl hm (by apply row8a; assumption)).mono ?_; rintro e wk1 ⟨R6, hR6, rfl, hO6, hbk⟩; replace hO6 := hO6.row (unhide HS)) | (go_at_call 15; (refine (eqFun_same nm wk _ _ _ _ xs _ (Nat.le_refl _) (by unfold maxLen; omega) (by apply row8b; assumption) (by exact hO6)).mono ?_); rintro e wk1 ⟨rfl, hbk⟩))
    have hB6 : Below w.heap.size w wk1 := by apply bel8; assumption
    go_wp2_with fail
    go_ret
    exact ⟨rfl, hB6⟩

set_option maxRecDepth 100000 in
theorem lifted (os : Os) (started : os.Started) (H : Type) (enc : TypeId × Value → H) :
    ReturnsInHanded {} Try.checked os 4 .any (Rows.fnExactFunOkSpec.pre6 enc Try.prog Try.f4 Rows.fnExactFunOkRow.domain false) (Rows.fnExactFunOkSpec.post enc Try.prog Try.f4 false true false false) := by
  refine returnsInHanded_of_change (C := Try.checked) own started (by kernel_rfl) Try.func4
    (ChangeSpec.witness6 (enc := enc) (C := Try.checked) false ⟨#[], #[.agg #[.string ByteArray.empty, .bool false, .slice none 0 0]], []⟩ 8 (by kernel_rfl) (by kernel_rfl) (by kernel_rfl) (by kernel_rfl)) ?_
  intro W base args ds gs before hval0 hW hcnd _
  have hval : ∀ (j : Nat) t v, Try.f4.params[j]? = some t → args[j]? = some v → Value.okWide Try.prog W .any base t v := hval0
  have hW' := hW
  obtain ⟨p, q, hA0, hV, rfl, hfz, hnd⟩ := hW
  have hA : DataW.TrodAll enc Try.prog W 0 (fun _ => true) true Try.f4.params.toList args.toList ds p := hA0
  rw [Try.params4] at hA hval
  obtain ⟨v0, vs0, d0, ds0, p0, q0, hargs, rfl, rfl, h0, r0⟩ := trodAll_cons hA
  obtain ⟨rfl, rfl, rfl⟩ := trodAll_nil r0
  obtain rfl : args = #[v0] := by cases args; simp_all
  obtain ⟨rfl, rfl⟩ := trodVars_none hV
  have k0 := h0
  have lt0 : ∀ x ∈ p0, x.block < W.heap.size := by obtain ⟨m, hm⟩ := k0; exact DataW.trod_lt m _ _ _ hm
  obtain ⟨nm0, wk0, a0, cap0, xs0, hv0, hnm0, hl0, hm0, hr0⟩ := fun_of (hval 0 26 v0 rfl rfl) h0
  clear hA0 hval0
  subst hv0
  refine (walk nm0 wk0 a0 cap0 xs0 hnm0 hl0 hm0 W hr0).mono fun e W' ⟨he, bel⟩ => ?_
  subst he
  exact ⟨_, rfl, _, _, _, [], _, [], hW', trodAll_mk1 (shut_bool Try.underlying4 _), (trodAll_cons_mk (Below.trod laidOut (by kernel_rfl) (of_decide_eq_true (by kernel_rfl)) k0 bel lt0) trodAll_mk0), rfl, bel.frame _, fun h => by cases h⟩

theorem proved : Rows.FnExactFunOkSaid :=
  OpenClaim.holds_of_wide 4 Try.f4 rfl rfl rfl rfl rfl rfl rfl ⟨rfl, rfl, rfl, rfl, rfl⟩ rfl rfl rfl rfl rfl (by kernel_rfl) Try.func4 (by kernel_rfl)
    (of_decide_eq_true (by kernel_rfl)) (by unfold Func.isWrapper; first | (rw [if_pos (by decide +kernel)]; kernel_rfl) | (rw [if_neg (by decide +kernel)]; exact ⟨rfl, rfl⟩))
    (fun os started H enc _ => lifted os started H enc)
#print axioms proved
end Go.Proofs.Ytdiaepjchcmelar.fnExactFunOk
