/- For every two lists of cells the exact law of ImageSame answers true, and both read afterwards as they did. No condition. -/
import Derived.Test.YtefmmnckhldnnaaBase
import Derived.WalkKit
import Derived.ProofKit
import Derived.OpenShut
import Derived.ShutString
import Derived.ChangeOld
import Derived.Below
import Derived.Lib.SmallJoins
import Derived.Deep.RegionHeld3
import Derived.BigQuiet
import Derived.Deep.QuietTactic
import Derived.Test.YtefmmnckhldnnaaFuns
import Derived.Test.YtefmmnckhldnnaaOpen
import Derived.Test.YtefmmnckhldnnaaKeep
import Derived.Test.YtefmmnckhldnnaaLayN
import Derived.Test.YtefmmnckhldnnaaCellA
import Derived.Test.YtefmmnckhldnnaaCellB
namespace Go.Proofs.Ytefmmnckhldnnaa.fnExactImageSame
open Go.ChangeShapes Go.WideShapes Go.ChangeAt Go.RowKit Go.Joins
open Go.ChangeMaps (open_string shut_string)
open Go.Proofs.Ytefmmnckhldnnaa.Base
open Go.Proofs.Ytefmmnckhldnnaa.Funs
open Go.Proofs.Ytefmmnckhldnnaa.Open
open Go.Proofs.Ytefmmnckhldnnaa.Keep
open Go.Proofs.Ytefmmnckhldnnaa.LayN
open Go.Proofs.Ytefmmnckhldnnaa.CellA
open Go.Proofs.Ytefmmnckhldnnaa.CellB
set_option linter.unusedVariables false
set_option maxRecDepth 100000
theorem own : ownKnob Try.prog.godebug = none := by kernel_rfl
theorem laidOut : laidOutB Try.prog = true := by kernel_rfl

theorem ml {n : Nat} (h : n ≤ 1048576) : n ≤ maxLen := by unfold maxLen; omega
theorem q0 {a r : Prop} (h : a ∧ r) : a := h.1
theorem q1 {a b r : Prop} (h : a ∧ b ∧ r) : b := h.2.1
theorem q2 {a b c r : Prop} (h : a ∧ b ∧ c ∧ r) : c := h.2.2.1
theorem q3 {a b c d r : Prop} (h : a ∧ b ∧ c ∧ d ∧ r) : d := h.2.2.2.1
set_option maxHeartbeats 8000000 in
theorem walk (a : Option Addr) (cap : Nat) (xs : List CellD) (hl : xs.length ≤ cap) (hm : cap ≤ maxLen) (a' : Option Addr) (cap' : Nat) (ys : List CellD) (hl' : ys.length ≤ cap') (hm' : cap' ≤ maxLen) (w : World) (hr : CellRow w a xs) (hr' : CellRow w a' ys) :
    Calls Try.prog 9 #[.slice a xs.length cap, .slice a' ys.length cap'] w fun e w' => e = .returned (.bool true) ∧ Below w.heap.size w w' := by
  have HST : Hid (Stable (fun w' => CellRow w' a xs ∧ CellRow w' a' ys ∧ Below w.heap.size w w')) := ((Stable.crow a xs).and ((Stable.crow a' ys).and (Stable.below w)))
  have HS0 : Hid ((fun w' => CellRow w' a xs ∧ CellRow w' a' ys ∧ Below w.heap.size w w') w) := ⟨hr, hr', Below.refl _ _⟩
  clear hr hr'
  by_cases hz : sz1 xs.length 1048576 < 0
  · go_enter Try.func9, Try.ntmps9
    go_wp2_with fail
    refine (szCellS_any a cap xs _ _ (by omega) (by omega) hl hm).mono ?_
    rintro e w1 ⟨rfl, hb1⟩
    go_wp2_with fail
    go_ret
    exact ⟨rfl, hb1⟩
  have hz0 : 0 ≤ sz1 xs.length 1048576 := by omega
  have hz1 : sz1 xs.length 1048576 ≤ 1048576 := sz1_bd _ (by omega)
  have hle := sz1_len hz0 (by omega)
  go_enter Try.func9, Try.ntmps9
  go_wp2_with fail
  refine (szCellS_any a cap xs _ _ (by omega) (by omega) hl hm).mono ?_
  rintro e w1 ⟨rfl, hb1⟩
  have HS1 := hide ((unhide HST).1 _ _ hb1 (unhide HS0))
  clear hb1 HS0
  generalize sz1 xs.length 1048576 = z at *
  by_cases hy : sz1 ys.length z < 0
  · go_wp2_with fail
    refine (szCellS_any a' cap' ys _ _ (by omega) (by omega) hl' hm').mono ?_
    rintro e w2 ⟨rfl, hb2⟩
    have hB2 := bl_trans (unhide HS1).2.2 hb2
    go_wp2_with fail
    go_ret
    exact ⟨rfl, hB2⟩
  have hle' := sz1_len (n := ys.length) (l := z) (by omega) hz1
  go_wp2_with fail
  refine (szCellS_any a' cap' ys _ _ (by omega) (by omega) hl' hm').mono ?_
  rintro e w2 ⟨rfl, hb2⟩
  have HS2 := hide ((unhide HST).1 _ _ hb2 (unhide HS1))
  clear hb2 HS1
  generalize sz1 ys.length z = z2 at *
  go_wp2_with fail
  refine (toCellS_any a cap xs _ hle hl hm (unhide HS2).1).mono ?_
  rintro e wa ⟨rfl, hOa, hba⟩
  have HSa := hide ((unhide HST).1 _ _ hba (unhide HS2))
  have HRa := hide (OwnCells.row hOa)
  clear HS2 hba hOa
  generalize w2.heap.size = Ra at *
  go_wp2_with fail
  refine (toCellS_any a' cap' ys _ hle' hl' hm' (unhide HSa).2.1).mono ?_
  rintro e wb ⟨rfl, hOb, hbb⟩
  have HSb := hide ((unhide HST).1 _ _ hbb (unhide HSa))
  have HRb := hide (And.intro ((unhide HRa).below hbb) (OwnCells.row hOb))
  clear HSa HRa hbb hOb
  generalize wa.heap.size = Rb at *
  go_wp2_with fail
  refine (specISame_any _ _ _ _ xs ys _ (Nat.le_refl _) (ml hle) (Nat.le_refl _) (ml hle') (unhide HRb).1 (unhide HRb).2).mono ?_
  rintro e wk1 ⟨rfl, hbk⟩
  have HS3 := hide ((unhide HST).1 _ _ hbk (unhide HSb))
  clear hbk HSb HRb
  go_wp2_with fail
  refine (toCellS_any a cap xs _ hle hl hm (unhide HS3).1).mono ?_
  rintro e w4 ⟨rfl, hO4, hb4⟩
  have HS4 := hide ((unhide HST).1 _ _ hb4 (unhide HS3))
  have HR4 := hide (OwnCells.row hO4)
  clear HS3 hb4 hO4
  generalize wk1.heap.size = R4 at *
  go_wp2_with fail
  refine (toCellS_any a' cap' ys _ hle' hl' hm' (unhide HS4).2.1).mono ?_
  rintro e w5 ⟨rfl, hO5, hb5⟩
  have HST2 : Hid (Stable (fun w' => CellRow w' a xs ∧ CellRow w' a' ys ∧ CellRow w' (some ⟨R4, 0, none⟩) xs ∧ CellRow w' (some ⟨w4.heap.size, 0, none⟩) ys ∧ Below w.heap.size w w')) := ((Stable.crow a xs).and ((Stable.crow a' ys).and ((Stable.crow (some ⟨R4, 0, none⟩) xs).and ((Stable.crow (some ⟨w4.heap.size, 0, none⟩) ys).and (Stable.below w)))))
  have HS5 : Hid ((fun w' => CellRow w' a xs ∧ CellRow w' a' ys ∧ CellRow w' (some ⟨R4, 0, none⟩) xs ∧ CellRow w' (some ⟨w4.heap.size, 0, none⟩) ys ∧ Below w.heap.size w w') w5) := by
    have h := (unhide HST).1 _ _ hb5 (unhide HS4)
    exact ⟨h.1, h.2.1, (unhide HR4).below hb5, OwnCells.row hO5, h.2.2⟩
  clear HS4 HR4 hb5 hO5
  generalize w4.heap.size = R5 at *
  go_wp2_with fail
  refine (implISame_any _ _ _ _ xs ys _ (Nat.le_refl _) (ml hle) (Nat.le_refl _) (ml hle') (unhide HS5).2.2.1 (unhide HS5).2.2.2.1).mono ?_
  rintro e w6 ⟨rfl, hb6⟩
  have HS6 := hide ((unhide HST2).1 _ _ hb6 (unhide HS5))
  clear HS5 hb6
  go_wp2_with fail
  refine (toCellS_any a cap xs _ hle hl hm (unhide HS6).1).mono ?_
  rintro e w20 ⟨rfl, hO, hb⟩
  have HT := hide ((unhide HST2).1 _ _ hb (unhide HS6))
  have HO := hide (OwnCells.row hO)
  clear hb hO HS6
  go_wp2_with fail
  refine (eqCellS_same _ _ _ _ xs _ (Nat.le_refl _) (ml hle) (unhide HT).2.2.1 (unhide HO)).mono ?_
  rintro e w21 ⟨rfl, hb⟩
  have HS7 := hide ((unhide HST2).1 _ _ hb (unhide HT))
  clear hb HT HO
  go_wp2_with fail
  refine (toCellS_any a' cap' ys _ hle' hl' hm' (unhide HS7).2.1).mono ?_
  rintro e w30 ⟨rfl, hO, hb⟩
  have HT := hide ((unhide HST2).1 _ _ hb (unhide HS7))
  have HO := hide (OwnCells.row hO)
  clear hb hO HS7
  go_wp2_with fail
  refine (eqCellS_same _ _ _ _ ys _ (Nat.le_refl _) (ml hle') (unhide HT).2.2.2.1 (unhide HO)).mono ?_
  rintro e w31 ⟨rfl, hb⟩
  have HS8 := hide ((unhide HST2).1 _ _ hb (unhide HT))
  clear hb HT HO
  have hB8 := (unhide HS8).2.2.2.2
  clear HS8
  go_wp2_with fail
  go_ret
  exact ⟨rfl, hB8⟩

set_option maxRecDepth 100000 in
theorem lifted (os : Os) (started : os.Started) (H : Type) (enc : TypeId × Value → H) :
    ReturnsInHanded {} Try.checked os 9 .any (Rows.fnExactImageSameSpec.pre6 enc Try.prog Try.f9 Rows.fnExactImageSameRow.domain false) (Rows.fnExactImageSameSpec.post enc Try.prog Try.f9 false true false false) := by
  refine returnsInHanded_of_change (C := Try.checked) own started (by kernel_rfl) Try.func9
    (ChangeSpec.witness6 (enc := enc) (C := Try.checked) false ⟨#[], #[.slice none 0 0, .slice none 0 0], []⟩ 8 (by kernel_rfl) (by kernel_rfl) (by kernel_rfl) (by kernel_rfl)) ?_
  intro W base args ds gs before hval0 hW hcnd _
  have hval : ∀ (j : Nat) t v, Try.f9.params[j]? = some t → args[j]? = some v → Value.okWide Try.prog W .any base t v := hval0
  have hW' := hW
  obtain ⟨p, q, hA0, hV, rfl, hfz, hnd⟩ := hW
  have hA : DataW.TrodAll enc Try.prog W 0 (fun _ => true) true Try.f9.params.toList args.toList ds p := hA0
  rw [Try.params9] at hA hval
  obtain ⟨v0, vs0, d0, ds0, p0, q0, hargs, rfl, rfl, h0, r0⟩ := trodAll_cons hA
  obtain ⟨v1, vs1, d1, ds1, p1, q1, rfl, rfl, rfl, h1, r1⟩ := trodAll_cons r0
  obtain ⟨rfl, rfl, rfl⟩ := trodAll_nil r1
  obtain rfl : args = #[v0, v1] := by cases args; simp_all
  obtain ⟨rfl, rfl⟩ := trodVars_none hV
  have k0 := h0
  have lt0 : ∀ x ∈ p0, x.block < W.heap.size := by obtain ⟨m, hm⟩ := k0; exact DataW.trod_lt m _ _ _ hm
  obtain ⟨a0, cap0, xs0, hv0, hl0, hm0, hr0⟩ := cells_of (hval 0 68 v0 rfl rfl) h0
  have k1 := h1
  have lt1 : ∀ x ∈ p1, x.block < W.heap.size := by obtain ⟨m, hm⟩ := k1; exact DataW.trod_lt m _ _ _ hm
  obtain ⟨a1, cap1, xs1, hv1, hl1, hm1, hr1⟩ := cells_of (hval 1 68 v1 rfl rfl) h1
  clear hA0 hval0
  subst hv0 hv1
  refine (walk a0 cap0 xs0 hl0 hm0 a1 cap1 xs1 hl1 hm1 W hr0 hr1).mono fun e W' ⟨he, bel⟩ => ?_
  subst he
  exact ⟨_, rfl, _, _, _, [], _, [], hW', trodAll_mk1 (shut_bool Try.underlying4 _), (trodAll_cons_mk (Below.trod laidOut (by kernel_rfl) (of_decide_eq_true (by kernel_rfl)) k0 bel lt0) (trodAll_cons_mk (Below.trod laidOut (by kernel_rfl) (of_decide_eq_true (by kernel_rfl)) k1 bel lt1) trodAll_mk0)), rfl, bel.frame _, fun h => by cases h⟩

theorem proved : Rows.FnExactImageSameSaid :=
  OpenClaim.holds_of_wide 9 Try.f9 rfl rfl rfl rfl rfl rfl rfl ⟨rfl, rfl, rfl, rfl, rfl⟩ rfl rfl rfl rfl rfl (by kernel_rfl) Try.func9 (by kernel_rfl)
    (of_decide_eq_true (by kernel_rfl)) (by unfold Func.isWrapper; first | (rw [if_pos (by decide +kernel)]; kernel_rfl) | (rw [if_neg (by decide +kernel)]; exact ⟨rfl, rfl⟩))
    (fun os started H enc _ => lifted os started H enc)
#print axioms proved
end Go.Proofs.Ytefmmnckhldnnaa.fnExactImageSame
