/- For every list of cells and every machine of an image the exact law of CpuOk answers true, and both read afterwards as they did. No condition. -/
import Derived.Test.YtefmmnckhldnnaaBase
import Derived.WalkKit
import Derived.ProofKit
import Derived.OpenShut
import Derived.ShutString
import Derived.ChangeOld
import Derived.Below
import Derived.Lib.SmallJoins
import Derived.Deep.RegionHeld3
import Derived.BigQuiet
import Derived.Deep.QuietTactic
import Derived.Test.YtefmmnckhldnnaaFuns
import Derived.Test.YtefmmnckhldnnaaOpen
import Derived.Test.YtefmmnckhldnnaaKeep
import Derived.Test.YtefmmnckhldnnaaLayN
import Derived.Test.YtefmmnckhldnnaaCellA
import Derived.Test.YtefmmnckhldnnaaImgD
import Derived.Test.YtefmmnckhldnnaaImgOk
import Derived.Test.YtefmmnckhldnnaaRestOk
import Derived.Test.YtefmmnckhldnnaaCOkS
import Derived.Test.YtefmmnckhldnnaaCOkI
namespace Go.Proofs.Ytefmmnckhldnnaa.fnExactCpuOk
open Go.ChangeShapes Go.WideShapes Go.ChangeAt Go.RowKit Go.Joins
open Go.ChangeMaps (open_string shut_string)
open Go.Proofs.Ytefmmnckhldnnaa.Base
open Go.Proofs.Ytefmmnckhldnnaa.Funs
open Go.Proofs.Ytefmmnckhldnnaa.Open
open Go.Proofs.Ytefmmnckhldnnaa.Keep
open Go.Proofs.Ytefmmnckhldnnaa.LayN
open Go.Proofs.Ytefmmnckhldnnaa.CellA
open Go.Proofs.Ytefmmnckhldnnaa.ImgD
open Go.Proofs.Ytefmmnckhldnnaa.ImgOk
open Go.Proofs.Ytefmmnckhldnnaa.RestOk
open Go.Proofs.Ytefmmnckhldnnaa.COkS
open Go.Proofs.Ytefmmnckhldnnaa.COkI
set_option linter.unusedVariables false
set_option maxRecDepth 100000
theorem own : ownKnob Try.prog.godebug = none := by kernel_rfl
theorem laidOut : laidOutB Try.prog = true := by kernel_rfl

theorem q15 {x y a b c d e a' b' c' d' e' g : Prop} (h : x ∧ y ∧ a ∧ b ∧ c ∧ d ∧ e ∧ a' ∧ b' ∧ c' ∧ d' ∧ e' ∧ g) : g := h.2.2.2.2.2.2.2.2.2.2.2.2
theorem q01 {x y g : Prop} (h : x ∧ y ∧ g) : x ∧ y := ⟨h.1, h.2.1⟩
theorem q7 {a b c d e g : Prop} (h : a ∧ b ∧ c ∧ d ∧ e ∧ g) : g := h.2.2.2.2.2
theorem q13 {a b c d e a' b' c' d' e' g : Prop} (h : a ∧ b ∧ c ∧ d ∧ e ∧ a' ∧ b' ∧ c' ∧ d' ∧ e' ∧ g) : g := h.2.2.2.2.2.2.2.2.2.2
set_option maxHeartbeats 8000000 in
theorem walk (a : Option Addr) (cap : Nat) (fs : List CellD) (hl : fs.length ≤ cap) (hm : cap ≤ maxLen) (p c d : Int) (sa oa : Option Addr) (sc oc : Nat) (st : List Int) (os : List Int) (h1 : st.length ≤ sc) (h2 : sc ≤ maxLen) (h3 : os.length ≤ oc) (h4 : oc ≤ maxLen) (w : World) (hr : CellRow w a fs) (hs : NumRow w sa st) (ho : NumRow w oa os) :
    Calls Try.prog 10 #[.slice a fs.length cap, .agg #[.int .i64 p, .int .i64 c, .slice sa st.length sc, .slice oa os.length oc, .int .i64 d]] w fun e w' => e = .returned (.bool true) ∧ Below w.heap.size w w' := by
  have HST : Hid (Stable (fun w' => w'.cell? ⟨w.heap.size, 0, none⟩ = some (.int .i64 p) ∧ w'.cell? ⟨w.heap.size, 1, none⟩ = some (.int .i64 c) ∧ w'.cell? ⟨w.heap.size, 2, none⟩ = some (.slice sa st.length sc) ∧ w'.cell? ⟨w.heap.size, 3, none⟩ = some (.slice oa os.length oc) ∧ w'.cell? ⟨w.heap.size, 4, none⟩ = some (.int .i64 d) ∧ Below w.heap.size w w')) := (Stable.cell _ _).and ((Stable.cell _ _).and ((Stable.cell _ _).and ((Stable.cell _ _).and ((Stable.cell _ _).and (Stable.below w)))))
  have HS0 : Hid ((fun w' => w'.cell? ⟨w.heap.size, 0, none⟩ = some (.int .i64 p) ∧ w'.cell? ⟨w.heap.size, 1, none⟩ = some (.int .i64 c) ∧ w'.cell? ⟨w.heap.size, 2, none⟩ = some (.slice sa st.length sc) ∧ w'.cell? ⟨w.heap.size, 3, none⟩ = some (.slice oa os.length oc) ∧ w'.cell? ⟨w.heap.size, 4, none⟩ = some (.int .i64 d) ∧ Below w.heap.size w w') (w.alloc (.cells #[.int .i64 p, .int .i64 c, .slice sa st.length sc, .slice oa os.length oc, .int .i64 d] 75))) := by
    have n := (box5 (new_block w (.cells #[.int .i64 p, .int .i64 c, .slice sa st.length sc, .slice oa os.length oc, .int .i64 d] 75))).1
    exact ⟨n.1, n.2.1, n.2.2.1, n.2.2.2.1, n.2.2.2.2, below_alloc1 _ _⟩
  have HR := hide hr
  have HM := hide hs
  have HN := hide ho
  clear hr hs ho
  by_cases hz : sz1 fs.length 1048576 < 0
  · go_enter Try.func10, Try.ntmps10
    go_wp2_with fail
    refine (szCellS_any a cap fs _ _ (by omega) (by omega) hl hm).mono ?_
    rintro e w1 ⟨rfl, hb1⟩
    have hB1 := bl_trans (q7 (unhide HS0)) hb1
    clear HS0 hb1
    go_wp2_with fail
    go_ret
    exact ⟨rfl, hB1⟩
  have hlen := sz1_len (n := fs.length) (l := 1048576) (by omega) (by omega)
  have hz1 : sz1 fs.length 1048576 ≤ 1048576 := sz1_bd _ (by omega)
  go_enter Try.func10, Try.ntmps10
  go_wp2_with fail
  refine (szCellS_any a cap fs _ _ (by omega) (by omega) hl hm).mono ?_
  rintro e w1 ⟨rfl, hb1⟩
  have hS1 := (unhide HST).1 _ _ hb1 (unhide HS0)
  clear hb1 HS0
  have HS1 := hide hS1
  obtain ⟨c0, c1, c2, c3, c4, hB1⟩ := hS1
  generalize sz1 fs.length 1048576 = z at *
  by_cases hy : szM st.length os.length z < 0
  · go_wp2_with fail
    refine (szCpu_any _ _ _ _ _ _ _ st os _ _ (by omega) (by omega) h1 h2 h3 h4).mono ?_
    rintro e w2 ⟨rfl, hb2⟩
    have hB2 := bl_trans hB1 hb2
    clear c0 c1 c2 c3 c4 hb2
    go_wp2_with fail
    go_ret
    exact ⟨rfl, hB2⟩
  obtain ⟨hle, hlo⟩ := szM_len (n := st.length) (m := os.length) (l := z) (by omega) hz1
  go_wp2_with fail
  refine (szCpu_any _ _ _ _ _ _ _ st os _ _ (by omega) (by omega) h1 h2 h3 h4).mono ?_
  rintro e w2 ⟨rfl, hb2⟩
  have hS2 := (unhide HST).1 _ _ hb2 (unhide HS1)
  clear hb2 HS1 c0 c1 c2 c3 c4 hB1
  generalize szM st.length os.length z = z2 at *
  go_wp2_with fail
  go_region_held3 (fun w' => w'.cell? ⟨w.heap.size, 0, none⟩ = some (.int .i64 p) ∧ w'.cell? ⟨w.heap.size, 1, none⟩ = some (.int .i64 c) ∧ w'.cell? ⟨w.heap.size, 2, none⟩ = some (.slice sa st.length sc) ∧ w'.cell? ⟨w.heap.size, 3, none⟩ = some (.slice oa os.length oc) ∧ w'.cell? ⟨w.heap.size, 4, none⟩ = some (.int .i64 d) ∧ Below w.heap.size w w') (first | assumption | (refine (unhide HST).1 _ _ hbk ?_; assumption) | (refine (unhide HST).2 _ ?_; assumption))
    (first
      | (go_at_call 38; refine (toCellS_any a cap fs _ hlen hl hm ((unhide HR).below (q7 (by assumption)))).mono ?_; rintro e wk1 ⟨rfl, hOk, hbk⟩; have hF1 := OwnCells.row hOk; clear hOk)
      | (go_at_call 44; refine (toCpu_any p c d sa oa sc oc st os _ hle hlo h1 h2 h3 h4 ((unhide HM).below (q7 (by assumption))) ((unhide HN).below (q7 (by assumption)))).mono ?_; rintro e wk1 ⟨Rk, Sk, hRk, hSk, hEk, rfl, hOk, hQk, hbk⟩; clear hRk hSk hEk; have hO1 := OwnNums.row hOk; have hQ1 := OwnNums.row hQk; try replace hF1 := CellRow.below (by exact hF1) hbk; clear hOk hQk)
      | (go_at_call 43; refine (specCpuOk_any _ _ fs p c d _ _ _ _ st os _ (Nat.le_refl _) (by unfold maxLen; omega) (by exact hF1) (Nat.le_refl _) (by unfold maxLen; omega) (Nat.le_refl _) (by unfold maxLen; omega) (by exact hO1) (by exact hQ1)).mono ?_; rintro e wk1 ⟨rfl, hbk⟩))
  have hS3 : (fun w' => w'.cell? ⟨w.heap.size, 0, none⟩ = some (.int .i64 p) ∧ w'.cell? ⟨w.heap.size, 1, none⟩ = some (.int .i64 c) ∧ w'.cell? ⟨w.heap.size, 2, none⟩ = some (.slice sa st.length sc) ∧ w'.cell? ⟨w.heap.size, 3, none⟩ = some (.slice oa os.length oc) ∧ w'.cell? ⟨w.heap.size, 4, none⟩ = some (.int .i64 d) ∧ Below w.heap.size w w') wk1 := by assumption
  clear hS2
  try clear hF1
  try clear hO1
  try clear hQ1
  have HS3 := hide hS3
  obtain ⟨c0, c1, c2, c3, c4, hB3⟩ := hS3
  go_wp2_with fail
  refine (toCellS_any a cap fs _ hlen hl hm ((unhide HR).below hB3)).mono ?_
  rintro e w4 ⟨rfl, hO4, hb4⟩
  have HO4 := hide (hO4.row)
  have hS4 := (unhide HST).1 _ _ hb4 (unhide HS3)
  have HS4 := hide hS4
  clear hO4 hb4 HS3 c0 c1 c2 c3 c4 hB3
  obtain ⟨c0, c1, c2, c3, c4, hB4⟩ := hS4
  go_wp2_with fail
  refine (toCpu_any p c d sa oa sc oc st os _ hle hlo h1 h2 h3 h4 ((unhide HM).below hB4) ((unhide HN).below hB4)).mono ?_
  rintro e w5 ⟨R5, S5, hR5, hS5, hE5, rfl, hO5, hQ5, hb5⟩
  clear hR5 hS5 hE5
  have HST2 : Hid (Stable (fun w' => w'.cell? ⟨w.heap.size, 0, none⟩ = some (.int .i64 p) ∧ w'.cell? ⟨w.heap.size, 1, none⟩ = some (.int .i64 c) ∧ w'.cell? ⟨w.heap.size, 2, none⟩ = some (.slice sa st.length sc) ∧ w'.cell? ⟨w.heap.size, 3, none⟩ = some (.slice oa os.length oc) ∧ w'.cell? ⟨w.heap.size, 4, none⟩ = some (.int .i64 d) ∧ w'.cell? ⟨w5.heap.size, 0, none⟩ = some (.int .i64 p) ∧ w'.cell? ⟨w5.heap.size, 1, none⟩ = some (.int .i64 c) ∧ w'.cell? ⟨w5.heap.size, 2, none⟩ = some (.slice (some ⟨R5, 0, none⟩) st.length st.length) ∧ w'.cell? ⟨w5.heap.size, 3, none⟩ = some (.slice (some ⟨S5, 0, none⟩) os.length os.length) ∧ w'.cell? ⟨w5.heap.size, 4, none⟩ = some (.int .i64 d) ∧ Below w.heap.size w w')) := (Stable.cell _ _).and ((Stable.cell _ _).and ((Stable.cell _ _).and ((Stable.cell _ _).and ((Stable.cell _ _).and ((Stable.cell _ _).and ((Stable.cell _ _).and ((Stable.cell _ _).and ((Stable.cell _ _).and ((Stable.cell _ _).and (Stable.below w))))))))))
  have HS5 : Hid ((fun w' => w'.cell? ⟨w.heap.size, 0, none⟩ = some (.int .i64 p) ∧ w'.cell? ⟨w.heap.size, 1, none⟩ = some (.int .i64 c) ∧ w'.cell? ⟨w.heap.size, 2, none⟩ = some (.slice sa st.length sc) ∧ w'.cell? ⟨w.heap.size, 3, none⟩ = some (.slice oa os.length oc) ∧ w'.cell? ⟨w.heap.size, 4, none⟩ = some (.int .i64 d) ∧ w'.cell? ⟨w5.heap.size, 0, none⟩ = some (.int .i64 p) ∧ w'.cell? ⟨w5.heap.size, 1, none⟩ = some (.int .i64 c) ∧ w'.cell? ⟨w5.heap.size, 2, none⟩ = some (.slice (some ⟨R5, 0, none⟩) st.length st.length) ∧ w'.cell? ⟨w5.heap.size, 3, none⟩ = some (.slice (some ⟨S5, 0, none⟩) os.length os.length) ∧ w'.cell? ⟨w5.heap.size, 4, none⟩ = some (.int .i64 d) ∧ Below w.heap.size w w') (w5.alloc (.cells #[.int .i64 p, .int .i64 c, .slice (some ⟨R5, 0, none⟩) st.length st.length, .slice (some ⟨S5, 0, none⟩) os.length os.length, .int .i64 d] 78))) := by
    have h := (unhide HST).alloc ((unhide HST).1 _ _ hb5 (unhide HS4)) (.cells #[.int .i64 p, .int .i64 c, .slice (some ⟨R5, 0, none⟩) st.length st.length, .slice (some ⟨S5, 0, none⟩) os.length os.length, .int .i64 d] 78)
    have x := (box5 (new_block w5 (.cells #[.int .i64 p, .int .i64 c, .slice (some ⟨R5, 0, none⟩) st.length st.length, .slice (some ⟨S5, 0, none⟩) os.length os.length, .int .i64 d] 78))).1
    exact ⟨h.1, h.2.1, h.2.2.1, h.2.2.2.1, h.2.2.2.2.1, x.1, x.2.1, x.2.2.1, x.2.2.2.1, x.2.2.2.2, h.2.2.2.2.2⟩
  have HQ5 := hide (And.intro (((unhide HO4).below hb5).below (below_alloc1 _ (.cells #[.int .i64 p, .int .i64 c, .slice (some ⟨R5, 0, none⟩) st.length st.length, .slice (some ⟨S5, 0, none⟩) os.length os.length, .int .i64 d] 78))) (And.intro (hO5.row.below (below_alloc1 _ (.cells #[.int .i64 p, .int .i64 c, .slice (some ⟨R5, 0, none⟩) st.length st.length, .slice (some ⟨S5, 0, none⟩) os.length os.length, .int .i64 d] 78))) (hQ5.row.below (below_alloc1 _ (.cells #[.int .i64 p, .int .i64 c, .slice (some ⟨R5, 0, none⟩) st.length st.length, .slice (some ⟨S5, 0, none⟩) os.length os.length, .int .i64 d] 78)))))
  clear HS4 HO4 c0 c1 c2 c3 c4 hB4 hb5 hO5 hQ5
  have hS5 := unhide HS5
  obtain ⟨c0, c1, c2, c3, c4, e0, e1, e2, e3, e4, hB5⟩ := hS5
  go_wp2_with fail
  refine (implCpuOk_any _ _ fs p c d _ _ _ _ st os _ (Nat.le_refl _) (by unfold maxLen; omega) (unhide HQ5).1 (Nat.le_refl _) (by unfold maxLen; omega) (Nat.le_refl _) (by unfold maxLen; omega) (unhide HQ5).2.1 (unhide HQ5).2.2).mono ?_
  rintro e w6 ⟨rfl, hb6⟩
  have HS6 := hide ((unhide HST2).1 _ _ hb6 (unhide HS5))
  have HQ6 := hide (And.intro ((unhide HQ5).1.below hb6) (And.intro ((unhide HQ5).2.1.below hb6) ((unhide HQ5).2.2.below hb6)))
  clear HS5 HQ5 c0 c1 c2 c3 c4 e0 e1 e2 e3 e4 hB5 hb6
  generalize cpuOkB fs p c d st os = bb
  go_wp2_with fail
  refine (toCellS_any a cap fs _ hlen hl hm ((unhide HR).below (q13 (unhide HS6)))).mono ?_
  rintro e w7 ⟨rfl, hO7, hb7⟩
  have HO7 := hide (hO7.row)
  have HS7 := hide ((unhide HST2).1 _ _ hb7 (unhide HS6))
  have HQ7 := hide (And.intro ((unhide HQ6).1.below hb7) (And.intro ((unhide HQ6).2.1.below hb7) ((unhide HQ6).2.2.below hb7)))
  clear hO7 hb7 HS6 HQ6
  go_wp2_with fail
  refine (eqCellS_same _ _ _ _ fs _ (Nat.le_refl _) (by unfold maxLen; omega) (unhide HQ7).1 (unhide HO7)).mono ?_
  rintro e w8 ⟨rfl, hb8⟩
  have hS8 := (unhide HST2).1 _ _ hb8 (unhide HS7)
  have HQ8 := hide (And.intro ((unhide HQ7).2.1.below hb8) ((unhide HQ7).2.2.below hb8))
  clear HS7 HQ7 HO7 hb8
  go_wp2_with fail
  have HST3 : Hid (Stable (fun w' => NumRow w' (some ⟨R5, 0, none⟩) st ∧ NumRow w' (some ⟨S5, 0, none⟩) os ∧ w'.cell? ⟨w.heap.size, 0, none⟩ = some (.int .i64 p) ∧ w'.cell? ⟨w.heap.size, 1, none⟩ = some (.int .i64 c) ∧ w'.cell? ⟨w.heap.size, 2, none⟩ = some (.slice sa st.length sc) ∧ w'.cell? ⟨w.heap.size, 3, none⟩ = some (.slice oa os.length oc) ∧ w'.cell? ⟨w.heap.size, 4, none⟩ = some (.int .i64 d) ∧ w'.cell? ⟨w5.heap.size, 0, none⟩ = some (.int .i64 p) ∧ w'.cell? ⟨w5.heap.size, 1, none⟩ = some (.int .i64 c) ∧ w'.cell? ⟨w5.heap.size, 2, none⟩ = some (.slice (some ⟨R5, 0, none⟩) st.length st.length) ∧ w'.cell? ⟨w5.heap.size, 3, none⟩ = some (.slice (some ⟨S5, 0, none⟩) os.length os.length) ∧ w'.cell? ⟨w5.heap.size, 4, none⟩ = some (.int .i64 d) ∧ Below w.heap.size w w')) := (Stable.nrow _ _).and ((Stable.nrow _ _).and ((Stable.cell _ _).and ((Stable.cell _ _).and ((Stable.cell _ _).and ((Stable.cell _ _).and ((Stable.cell _ _).and ((Stable.cell _ _).and ((Stable.cell _ _).and ((Stable.cell _ _).and ((Stable.cell _ _).and ((Stable.cell _ _).and (Stable.below w))))))))))))
  have hS9 : (fun w' => NumRow w' (some ⟨R5, 0, none⟩) st ∧ NumRow w' (some ⟨S5, 0, none⟩) os ∧ w'.cell? ⟨w.heap.size, 0, none⟩ = some (.int .i64 p) ∧ w'.cell? ⟨w.heap.size, 1, none⟩ = some (.int .i64 c) ∧ w'.cell? ⟨w.heap.size, 2, none⟩ = some (.slice sa st.length sc) ∧ w'.cell? ⟨w.heap.size, 3, none⟩ = some (.slice oa os.length oc) ∧ w'.cell? ⟨w.heap.size, 4, none⟩ = some (.int .i64 d) ∧ w'.cell? ⟨w5.heap.size, 0, none⟩ = some (.int .i64 p) ∧ w'.cell? ⟨w5.heap.size, 1, none⟩ = some (.int .i64 c) ∧ w'.cell? ⟨w5.heap.size, 2, none⟩ = some (.slice (some ⟨R5, 0, none⟩) st.length st.length) ∧ w'.cell? ⟨w5.heap.size, 3, none⟩ = some (.slice (some ⟨S5, 0, none⟩) os.length os.length) ∧ w'.cell? ⟨w5.heap.size, 4, none⟩ = some (.int .i64 d) ∧ Below w.heap.size w w') w8 := ⟨(unhide HQ8).1, (unhide HQ8).2, hS8⟩
  clear hS8 HQ8
  go_region_held3 (fun w' => NumRow w' (some ⟨R5, 0, none⟩) st ∧ NumRow w' (some ⟨S5, 0, none⟩) os ∧ w'.cell? ⟨w.heap.size, 0, none⟩ = some (.int .i64 p) ∧ w'.cell? ⟨w.heap.size, 1, none⟩ = some (.int .i64 c) ∧ w'.cell? ⟨w.heap.size, 2, none⟩ = some (.slice sa st.length sc) ∧ w'.cell? ⟨w.heap.size, 3, none⟩ = some (.slice oa os.length oc) ∧ w'.cell? ⟨w.heap.size, 4, none⟩ = some (.int .i64 d) ∧ w'.cell? ⟨w5.heap.size, 0, none⟩ = some (.int .i64 p) ∧ w'.cell? ⟨w5.heap.size, 1, none⟩ = some (.int .i64 c) ∧ w'.cell? ⟨w5.heap.size, 2, none⟩ = some (.slice (some ⟨R5, 0, none⟩) st.length st.length) ∧ w'.cell? ⟨w5.heap.size, 3, none⟩ = some (.slice (some ⟨S5, 0, none⟩) os.length os.length) ∧ w'.cell? ⟨w5.heap.size, 4, none⟩ = some (.int .i64 d) ∧ Below w.heap.size w w') (first | assumption | (refine (unhide HST3).1 _ _ hbk ?_; assumption) | (refine (unhide HST3).2 _ ?_; assumption))
    (first
      | (go_at_call 44; refine (toCpu_any p c d sa oa sc oc st os _ hle hlo h1 h2 h3 h4 ((unhide HM).below (by exact q15 (by assumption))) ((unhide HN).below (by exact q15 (by assumption)))).mono ?_; rintro e wk1 ⟨Rk, Sk, hRk, hSk, hEk, rfl, hOk, hQk, hbk⟩; clear hRk hSk hEk; have hO := OwnNums.row hOk; have hQ := OwnNums.row hQk; clear hOk hQk)
      | (go_at_call 46; refine (eqCpu_same p c d _ _ _ _ _ _ _ _ st os _ (Nat.le_refl _) (by unfold maxLen; omega) (Nat.le_refl _) (by unfold maxLen; omega) (by exact (q01 (by assumption)).1) (by exact (q01 (by assumption)).2) (by exact hO) (by exact hQ)).mono ?_; rintro e wk1 ⟨rfl, hbk⟩))
  have hS10 : (fun w' => NumRow w' (some ⟨R5, 0, none⟩) st ∧ NumRow w' (some ⟨S5, 0, none⟩) os ∧ w'.cell? ⟨w.heap.size, 0, none⟩ = some (.int .i64 p) ∧ w'.cell? ⟨w.heap.size, 1, none⟩ = some (.int .i64 c) ∧ w'.cell? ⟨w.heap.size, 2, none⟩ = some (.slice sa st.length sc) ∧ w'.cell? ⟨w.heap.size, 3, none⟩ = some (.slice oa os.length oc) ∧ w'.cell? ⟨w.heap.size, 4, none⟩ = some (.int .i64 d) ∧ w'.cell? ⟨w5.heap.size, 0, none⟩ = some (.int .i64 p) ∧ w'.cell? ⟨w5.heap.size, 1, none⟩ = some (.int .i64 c) ∧ w'.cell? ⟨w5.heap.size, 2, none⟩ = some (.slice (some ⟨R5, 0, none⟩) st.length st.length) ∧ w'.cell? ⟨w5.heap.size, 3, none⟩ = some (.slice (some ⟨S5, 0, none⟩) os.length os.length) ∧ w'.cell? ⟨w5.heap.size, 4, none⟩ = some (.int .i64 d) ∧ Below w.heap.size w w') wk1 := by assumption
  have hB10 := q15 hS10
  clear hS9 hS10 hO hQ
  go_wp2_with fail
  go_ret
  exact ⟨rfl, hB10⟩

set_option maxRecDepth 100000 in
theorem lifted (os : Os) (started : os.Started) (H : Type) (enc : TypeId × Value → H) :
    ReturnsInHanded {} Try.checked os 10 .any (Rows.fnExactCpuOkSpec.pre6 enc Try.prog Try.f10 Rows.fnExactCpuOkRow.domain false) (Rows.fnExactCpuOkSpec.post enc Try.prog Try.f10 false true false false) := by
  refine returnsInHanded_of_change (C := Try.checked) own started (by kernel_rfl) Try.func10
    (ChangeSpec.witness6 (enc := enc) (C := Try.checked) false ⟨#[], #[.slice none 0 0, .agg #[.int .i64 0, .int .i64 0, .slice none 0 0, .slice none 0 0, .int .i64 0]], []⟩ 8 (by kernel_rfl) (by kernel_rfl) (by kernel_rfl) (by kernel_rfl)) ?_
  intro W base args ds gs before hval0 hW hcnd _
  have hval : ∀ (j : Nat) t v, Try.f10.params[j]? = some t → args[j]? = some v → Value.okWide Try.prog W .any base t v := hval0
  have hW' := hW
  obtain ⟨p, q, hA0, hV, rfl, hfz, hnd⟩ := hW
  have hA : DataW.TrodAll enc Try.prog W 0 (fun _ => true) true Try.f10.params.toList args.toList ds p := hA0
  rw [Try.params10] at hA hval
  obtain ⟨v0, vs0, d0, ds0, p0, q0, hargs, rfl, rfl, h0, r0⟩ := trodAll_cons hA
  obtain ⟨v1, vs1, d1, ds1, p1, q1, rfl, rfl, rfl, h1, r1⟩ := trodAll_cons r0
  obtain ⟨rfl, rfl, rfl⟩ := trodAll_nil r1
  obtain rfl : args = #[v0, v1] := by cases args; simp_all
  obtain ⟨rfl, rfl⟩ := trodVars_none hV
  have k0 := h0
  have lt0 : ∀ x ∈ p0, x.block < W.heap.size := by obtain ⟨m, hm⟩ := k0; exact DataW.trod_lt m _ _ _ hm
  obtain ⟨a0, cap0, xs0, hv0, hl0, hm0, hr0⟩ := cells_of (hval 0 68 v0 rfl rfl) h0
  have k1 := h1
  have lt1 : ∀ x ∈ p1, x.block < W.heap.size := by obtain ⟨m, hm⟩ := k1; exact DataW.trod_lt m _ _ _ hm
  obtain ⟨p1_, c1_, e1_, sa1, oa1, sc1, oc1, st1, os1, hv1, hl1, hm1, hn1, hk1, hs1, ho1⟩ := cpu_of (hval 1 75 v1 rfl rfl) h1
  clear hA0 hval0
  subst hv0 hv1
  refine (walk a0 cap0 xs0 hl0 hm0 p1_ c1_ e1_ sa1 oa1 sc1 oc1 st1 os1 hl1 hm1 hn1 hk1 W hr0 hs1 ho1).mono fun e W' ⟨he, bel⟩ => ?_
  subst he
  exact ⟨_, rfl, _, _, _, [], _, [], hW', trodAll_mk1 (shut_bool Try.underlying4 _), (trodAll_cons_mk (Below.trod laidOut (by kernel_rfl) (of_decide_eq_true (by kernel_rfl)) k0 bel lt0) (trodAll_cons_mk (Below.trod laidOut (by kernel_rfl) (of_decide_eq_true (by kernel_rfl)) k1 bel lt1) trodAll_mk0)), rfl, bel.frame _, fun h => by cases h⟩

theorem proved : Rows.FnExactCpuOkSaid :=
  OpenClaim.holds_of_wide 10 Try.f10 rfl rfl rfl rfl rfl rfl rfl ⟨rfl, rfl, rfl, rfl, rfl⟩ rfl rfl rfl rfl rfl (by kernel_rfl) Try.func10 (by kernel_rfl)
    (of_decide_eq_true (by kernel_rfl)) (by unfold Func.isWrapper; first | (rw [if_pos (by decide +kernel)]; kernel_rfl) | (rw [if_neg (by decide +kernel)]; exact ⟨rfl, rfl⟩))
    (fun os started H enc _ => lifted os started H enc)
#print axioms proved
end Go.Proofs.Ytefmmnckhldnnaa.fnExactCpuOk
