/- For every list of cells and every reach the exact law of ImageOk answers true, and both read afterwards as they did. No condition. -/
import Derived.Test.YtefmmnckhldnnaaBase
import Derived.WalkKit
import Derived.ProofKit
import Derived.OpenShut
import Derived.ShutString
import Derived.ChangeOld
import Derived.Below
import Derived.Lib.SmallJoins
import Derived.Deep.RegionHeld3
import Derived.BigQuiet
import Derived.Deep.QuietTactic
import Derived.Test.YtefmmnckhldnnaaFuns
import Derived.Test.YtefmmnckhldnnaaOpen
import Derived.Test.YtefmmnckhldnnaaKeep
import Derived.Test.YtefmmnckhldnnaaLayN
import Derived.Test.YtefmmnckhldnnaaCellA
import Derived.Test.YtefmmnckhldnnaaImgD
import Derived.Test.YtefmmnckhldnnaaImgOk
namespace Go.Proofs.Ytefmmnckhldnnaa.fnExactImageOk
open Go.ChangeShapes Go.WideShapes Go.ChangeAt Go.RowKit Go.Joins
open Go.ChangeMaps (open_string shut_string)
open Go.Proofs.Ytefmmnckhldnnaa.Base
open Go.Proofs.Ytefmmnckhldnnaa.Funs
open Go.Proofs.Ytefmmnckhldnnaa.Open
open Go.Proofs.Ytefmmnckhldnnaa.Keep
open Go.Proofs.Ytefmmnckhldnnaa.LayN
open Go.Proofs.Ytefmmnckhldnnaa.CellA
open Go.Proofs.Ytefmmnckhldnnaa.ImgD
open Go.Proofs.Ytefmmnckhldnnaa.ImgOk
set_option linter.unusedVariables false
set_option maxRecDepth 100000
theorem own : ownKnob Try.prog.godebug = none := by kernel_rfl
theorem laidOut : laidOutB Try.prog = true := by kernel_rfl

theorem ml {n : Nat} (h : n ≤ 1048576) : n ≤ maxLen := by unfold maxLen; omega
set_option maxHeartbeats 8000000 in
theorem walk (a : Option Addr) (cap : Nat) (xs : List CellD) (hl : xs.length ≤ cap) (hm : cap ≤ maxLen) (r : Int) (wr : (Lit.int .i64 r).wf = true) (w : World) (hr : CellRow w a xs) :
    Calls Try.prog 8 #[.slice a xs.length cap, .int .i64 r] w fun e w' => e = .returned (.bool true) ∧ Below w.heap.size w w' := by
  have HST : Hid (Stable (fun w' => CellRow w' a xs ∧ Below w.heap.size w w')) := (Stable.crow a xs).and (Stable.below w)
  have HS0 : Hid ((fun w' => CellRow w' a xs ∧ Below w.heap.size w w') w) := ⟨hr, Below.refl _ _⟩
  clear hr
  by_cases hz : sz1 xs.length 1048576 < 0
  · go_enter Try.func8, Try.ntmps8
    go_wp2_with fail
    refine (szCellS_any a cap xs _ _ (by omega) (by omega) hl hm).mono ?_
    rintro e w1 ⟨rfl, hb1⟩
    go_wp2_with fail
    go_ret
    exact ⟨rfl, hb1⟩
  have hle := sz1_len (show 0 ≤ sz1 xs.length 1048576 by omega) (by omega)
  go_enter Try.func8, Try.ntmps8
  go_wp2_with fail
  refine (szCellS_any a cap xs _ _ (by omega) (by omega) hl hm).mono ?_
  rintro e w1 ⟨rfl, hb1⟩
  have HS1 := hide ((unhide HST).1 _ _ hb1 (unhide HS0))
  clear hb1 HS0
  generalize sz1 xs.length 1048576 = z at *
  go_wp2_with fail
  refine (toCellS_any a cap xs _ hle hl hm (unhide HS1).1).mono ?_
  rintro e w2 ⟨rfl, hO, hb⟩
  have HS2 := hide ((unhide HST).1 _ _ hb (unhide HS1))
  have HR2 := hide (OwnCells.row hO)
  clear hb HS1 hO
  generalize w1.heap.size = R2 at *
  go_wp2_with fail
  refine (specImageOk_any _ _ xs r _ (Nat.le_refl _) (ml hle) (unhide HR2)).mono ?_
  rintro e w3 ⟨rfl, hb⟩
  have HS3 := hide ((unhide HST).1 _ _ hb (unhide HS2))
  clear hb HS2 HR2
  go_wp2_with fail
  refine (toCellS_any a cap xs _ hle hl hm (unhide HS3).1).mono ?_
  rintro e w4 ⟨rfl, hO, hb⟩
  have HS4 := hide ((unhide HST).1 _ _ hb (unhide HS3))
  have HR4 := hide (OwnCells.row hO)
  clear hb HS3 hO
  generalize w3.heap.size = R4 at *
  go_wp2_with fail
  refine (implImageOk_any _ _ xs r _ (Nat.le_refl _) (ml hle) (unhide HR4)).mono ?_
  rintro e w5 ⟨rfl, hb⟩
  have HS5 := hide ((unhide HST).1 _ _ hb (unhide HS4))
  have HR5 := hide ((unhide HR4).below hb)
  clear hb HS4 HR4
  go_wp2_with fail
  refine (toCellS_any a cap xs _ hle hl hm (unhide HS5).1).mono ?_
  rintro e w6 ⟨rfl, hO, hb⟩
  have HS6 := hide ((unhide HST).1 _ _ hb (unhide HS5))
  have HR6 := hide (And.intro ((unhide HR5).below hb) (OwnCells.row hO))
  clear hb HS5 hO HR5
  go_wp2_with fail
  refine (eqCellS_same _ _ _ _ xs _ (Nat.le_refl _) (ml hle) (unhide HR6).1 (unhide HR6).2).mono ?_
  rintro e w7 ⟨rfl, hb⟩
  have hB := ((unhide HST).1 _ _ hb (unhide HS6)).2
  clear hb HS6 HR6
  go_wp2_with fail
  go_ret
  exact ⟨rfl, hB⟩

set_option maxRecDepth 100000 in
theorem lifted (os : Os) (started : os.Started) (H : Type) (enc : TypeId × Value → H) :
    ReturnsInHanded {} Try.checked os 8 .any (Rows.fnExactImageOkSpec.pre6 enc Try.prog Try.f8 Rows.fnExactImageOkRow.domain false) (Rows.fnExactImageOkSpec.post enc Try.prog Try.f8 false true false false) := by
  refine returnsInHanded_of_change (C := Try.checked) own started (by kernel_rfl) Try.func8
    (ChangeSpec.witness6 (enc := enc) (C := Try.checked) false ⟨#[], #[.slice none 0 0, .int .i64 0], []⟩ 8 (by kernel_rfl) (by kernel_rfl) (by kernel_rfl) (by kernel_rfl)) ?_
  intro W base args ds gs before hval0 hW hcnd _
  have hval : ∀ (j : Nat) t v, Try.f8.params[j]? = some t → args[j]? = some v → Value.okWide Try.prog W .any base t v := hval0
  have hW' := hW
  obtain ⟨p, q, hA0, hV, rfl, hfz, hnd⟩ := hW
  have hA : DataW.TrodAll enc Try.prog W 0 (fun _ => true) true Try.f8.params.toList args.toList ds p := hA0
  rw [Try.params8] at hA hval
  obtain ⟨v0, vs0, d0, ds0, p0, q0, hargs, rfl, rfl, h0, r0⟩ := trodAll_cons hA
  obtain ⟨v1, vs1, d1, ds1, p1, q1, rfl, rfl, rfl, h1, r1⟩ := trodAll_cons r0
  obtain ⟨rfl, rfl, rfl⟩ := trodAll_nil r1
  obtain rfl : args = #[v0, v1] := by cases args; simp_all
  obtain ⟨rfl, rfl⟩ := trodVars_none hV
  have k0 := h0
  have lt0 : ∀ x ∈ p0, x.block < W.heap.size := by obtain ⟨m, hm⟩ := k0; exact DataW.trod_lt m _ _ _ hm
  obtain ⟨a0, cap0, xs0, hv0, hl0, hm0, hr0⟩ := cells_of (hval 0 68 v0 rfl rfl) h0
  have k1 := h1
  have lt1 : ∀ x ∈ p1, x.block < W.heap.size := by obtain ⟨m, hm⟩ := k1; exact DataW.trod_lt m _ _ _ hm
  obtain ⟨a1, hv1, _, _, w1⟩ := open_int Try.underlying3 (hval 1 3 v1 rfl rfl) h1
  clear hA0 hval0
  subst hv0 hv1
  refine (walk a0 cap0 xs0 hl0 hm0 a1 w1 W hr0).mono fun e W' ⟨he, bel⟩ => ?_
  subst he
  exact ⟨_, rfl, _, _, _, [], _, [], hW', trodAll_mk1 (shut_bool Try.underlying4 _), (trodAll_cons_mk (Below.trod laidOut (by kernel_rfl) (of_decide_eq_true (by kernel_rfl)) k0 bel lt0) (trodAll_cons_mk (Below.trod laidOut (by kernel_rfl) (of_decide_eq_true (by kernel_rfl)) k1 bel lt1) trodAll_mk0)), rfl, bel.frame _, fun h => by cases h⟩

theorem proved : Rows.FnExactImageOkSaid :=
  OpenClaim.holds_of_wide 8 Try.f8 rfl rfl rfl rfl rfl rfl rfl ⟨rfl, rfl, rfl, rfl, rfl⟩ rfl rfl rfl rfl rfl (by kernel_rfl) Try.func8 (by kernel_rfl)
    (of_decide_eq_true (by kernel_rfl)) (by unfold Func.isWrapper; first | (rw [if_pos (by decide +kernel)]; kernel_rfl) | (rw [if_neg (by decide +kernel)]; exact ⟨rfl, rfl⟩))
    (fun os started H enc _ => lifted os started H enc)
#print axioms proved
end Go.Proofs.Ytefmmnckhldnnaa.fnExactImageOk
