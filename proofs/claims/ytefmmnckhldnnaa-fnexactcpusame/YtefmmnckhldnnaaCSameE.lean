/- For every two machines of an image the exact law of CpuSame answers true, and both read afterwards as they did. No condition. -/
import Derived.Test.YtefmmnckhldnnaaBase
import Derived.WalkKit
import Derived.ProofKit
import Derived.OpenShut
import Derived.ShutString
import Derived.ChangeOld
import Derived.Below
import Derived.Lib.SmallJoins
import Derived.Deep.RegionHeld3
import Derived.BigQuiet
import Derived.Deep.QuietTactic
import Derived.Test.YtefmmnckhldnnaaFuns
import Derived.Test.YtefmmnckhldnnaaOpen
import Derived.Test.YtefmmnckhldnnaaKeep
import Derived.Test.YtefmmnckhldnnaaLayN
import Derived.Test.YtefmmnckhldnnaaCellA
import Derived.Test.YtefmmnckhldnnaaCellB
namespace Go.Proofs.Ytefmmnckhldnnaa.fnExactCpuSame
open Go.ChangeShapes Go.WideShapes Go.ChangeAt Go.RowKit Go.Joins
open Go.ChangeMaps (open_string shut_string)
open Go.Proofs.Ytefmmnckhldnnaa.Base
open Go.Proofs.Ytefmmnckhldnnaa.Funs
open Go.Proofs.Ytefmmnckhldnnaa.Open
open Go.Proofs.Ytefmmnckhldnnaa.Keep
open Go.Proofs.Ytefmmnckhldnnaa.LayN
open Go.Proofs.Ytefmmnckhldnnaa.CellA
open Go.Proofs.Ytefmmnckhldnnaa.CellB
set_option linter.unusedVariables false
set_option maxRecDepth 100000
theorem own : ownKnob Try.prog.godebug = none := by kernel_rfl
theorem laidOut : laidOutB Try.prog = true := by kernel_rfl

theorem q0 {a b c d r : Prop} (h : a ∧ b ∧ c ∧ d ∧ r) : a ∧ b := ⟨h.1, h.2.1⟩
theorem q1 {a b c d r : Prop} (h : a ∧ b ∧ c ∧ d ∧ r) : c ∧ d := ⟨h.2.2.1, h.2.2.2.1⟩
theorem q2 {a b c d a' b' c' d' r : Prop} (h : a ∧ b ∧ c ∧ d ∧ a' ∧ b' ∧ c' ∧ d' ∧ r) : a' ∧ b' := ⟨h.2.2.2.2.1, h.2.2.2.2.2.1⟩
theorem q3 {a b c d a' b' c' d' r : Prop} (h : a ∧ b ∧ c ∧ d ∧ a' ∧ b' ∧ c' ∧ d' ∧ r) : c' ∧ d' := ⟨h.2.2.2.2.2.2.1, h.2.2.2.2.2.2.2.1⟩
set_option maxHeartbeats 8000000 in
theorem walk (p c d : Int) (sa oa : Option Addr) (sc oc : Nat) (st : List Int) (os : List Int) (h1 : st.length ≤ sc) (h2 : sc ≤ maxLen) (h3 : os.length ≤ oc) (h4 : oc ≤ maxLen) (p' c' d' : Int) (sa' oa' : Option Addr) (sc' oc' : Nat) (st' : List Int) (os' : List Int) (h1' : st'.length ≤ sc') (h2' : sc' ≤ maxLen) (h3' : os'.length ≤ oc') (h4' : oc' ≤ maxLen) (w : World) (hs : NumRow w sa st) (ho : NumRow w oa os) (hs' : NumRow w sa' st') (ho' : NumRow w oa' os') :
    Calls Try.prog 11 #[.agg #[.int .i64 p, .int .i64 c, .slice sa st.length sc, .slice oa os.length oc, .int .i64 d], .agg #[.int .i64 p', .int .i64 c', .slice sa' st'.length sc', .slice oa' os'.length oc', .int .i64 d']] w fun e w' => e = .returned (.bool true) ∧ Below w.heap.size w w' := by
  have HST : Hid (Stable (fun w' => NumRow w' sa st ∧ NumRow w' oa os ∧ NumRow w' sa' st' ∧ NumRow w' oa' os' ∧ w'.cell? ⟨w.heap.size, 0, none⟩ = some (.int .i64 p) ∧ w'.cell? ⟨w.heap.size, 1, none⟩ = some (.int .i64 c) ∧ w'.cell? ⟨w.heap.size, 2, none⟩ = some (.slice sa st.length sc) ∧ w'.cell? ⟨w.heap.size, 3, none⟩ = some (.slice oa os.length oc) ∧ w'.cell? ⟨w.heap.size, 4, none⟩ = some (.int .i64 d) ∧ w'.cell? ⟨(w.heap.size + 1), 0, none⟩ = some (.int .i64 p') ∧ w'.cell? ⟨(w.heap.size + 1), 1, none⟩ = some (.int .i64 c') ∧ w'.cell? ⟨(w.heap.size + 1), 2, none⟩ = some (.slice sa' st'.length sc') ∧ w'.cell? ⟨(w.heap.size + 1), 3, none⟩ = some (.slice oa' os'.length oc') ∧ w'.cell? ⟨(w.heap.size + 1), 4, none⟩ = some (.int .i64 d') ∧ Below w.heap.size w w')) := ((Stable.nrow sa st).and ((Stable.nrow oa os).and ((Stable.nrow sa' st').and ((Stable.nrow oa' os').and ((Stable.cell ⟨w.heap.size, 0, none⟩ (.int .i64 p)).and ((Stable.cell ⟨w.heap.size, 1, none⟩ (.int .i64 c)).and ((Stable.cell ⟨w.heap.size, 2, none⟩ (.slice sa st.length sc)).and ((Stable.cell ⟨w.heap.size, 3, none⟩ (.slice oa os.length oc)).and ((Stable.cell ⟨w.heap.size, 4, none⟩ (.int .i64 d)).and ((Stable.cell ⟨(w.heap.size + 1), 0, none⟩ (.int .i64 p')).and ((Stable.cell ⟨(w.heap.size + 1), 1, none⟩ (.int .i64 c')).and ((Stable.cell ⟨(w.heap.size + 1), 2, none⟩ (.slice sa' st'.length sc')).and ((Stable.cell ⟨(w.heap.size + 1), 3, none⟩ (.slice oa' os'.length oc')).and ((Stable.cell ⟨(w.heap.size + 1), 4, none⟩ (.int .i64 d')).and (Stable.below w)))))))))))))))
  have HS0 : Hid ((fun w' => NumRow w' sa st ∧ NumRow w' oa os ∧ NumRow w' sa' st' ∧ NumRow w' oa' os' ∧ w'.cell? ⟨w.heap.size, 0, none⟩ = some (.int .i64 p) ∧ w'.cell? ⟨w.heap.size, 1, none⟩ = some (.int .i64 c) ∧ w'.cell? ⟨w.heap.size, 2, none⟩ = some (.slice sa st.length sc) ∧ w'.cell? ⟨w.heap.size, 3, none⟩ = some (.slice oa os.length oc) ∧ w'.cell? ⟨w.heap.size, 4, none⟩ = some (.int .i64 d) ∧ w'.cell? ⟨(w.heap.size + 1), 0, none⟩ = some (.int .i64 p') ∧ w'.cell? ⟨(w.heap.size + 1), 1, none⟩ = some (.int .i64 c') ∧ w'.cell? ⟨(w.heap.size + 1), 2, none⟩ = some (.slice sa' st'.length sc') ∧ w'.cell? ⟨(w.heap.size + 1), 3, none⟩ = some (.slice oa' os'.length oc') ∧ w'.cell? ⟨(w.heap.size + 1), 4, none⟩ = some (.int .i64 d') ∧ Below w.heap.size w w') ((w.alloc (.cells #[.int .i64 p, .int .i64 c, .slice sa st.length sc, .slice oa os.length oc, .int .i64 d] 75)).alloc (.cells #[.int .i64 p', .int .i64 c', .slice sa' st'.length sc', .slice oa' os'.length oc', .int .i64 d'] 75))) := by
    have n1 := (box5 (box_below (new_block w (.cells #[.int .i64 p, .int .i64 c, .slice sa st.length sc, .slice oa os.length oc, .int .i64 d] 75)) (below_alloc1 _ (.cells #[.int .i64 p', .int .i64 c', .slice sa' st'.length sc', .slice oa' os'.length oc', .int .i64 d'] 75)))).1
    have n2 := (box5 (new_block (w.alloc (.cells #[.int .i64 p, .int .i64 c, .slice sa st.length sc, .slice oa os.length oc, .int .i64 d] 75)) (.cells #[.int .i64 p', .int .i64 c', .slice sa' st'.length sc', .slice oa' os'.length oc', .int .i64 d'] 75))).1
    simp only [World.size_alloc] at n2
    exact ⟨hs.below (below_alloc2 _ _ _), ho.below (below_alloc2 _ _ _), hs'.below (below_alloc2 _ _ _), ho'.below (below_alloc2 _ _ _), n1.1, n1.2.1, n1.2.2.1, n1.2.2.2.1, n1.2.2.2.2, n2.1, n2.2.1, n2.2.2.1, n2.2.2.2.1, n2.2.2.2.2, below_alloc2 _ _ _⟩
  clear hs ho hs' ho'
  by_cases hz : szM st.length os.length 1048576 < 0
  · go_enter Try.func11, Try.ntmps11
    go_wp2_with fail
    refine (szCpu_any _ _ _ _ _ _ _ st os _ _ (by omega) (by omega) h1 h2 h3 h4).mono ?_
    rintro e w1 ⟨rfl, hb1⟩
    go_wp2_with fail
    go_ret
    exact ⟨rfl, bl_trans (below_alloc2 _ _ _) hb1⟩
  have hz0 : 0 ≤ szM st.length os.length 1048576 := by omega
  have hz1 : szM st.length os.length 1048576 ≤ 1048576 := szM_bd _ _ (by omega)
  obtain ⟨hle, hlo⟩ := szM_len hz0 (by omega)
  go_enter Try.func11, Try.ntmps11
  go_wp2_with fail
  refine (szCpu_any _ _ _ _ _ _ _ st os _ _ (by omega) (by omega) h1 h2 h3 h4).mono ?_
  rintro e w1 ⟨rfl, hb1⟩
  have hS1 := (unhide HST).1 _ _ hb1 (unhide HS0)
  clear hb1 HS0
  have HS1 := hide hS1
  obtain ⟨_, _, _, _, c0, c1, c2, c3, c4, d0, d1, d2, d3, d4, _⟩ := hS1
  generalize szM st.length os.length 1048576 = z at *
  by_cases hy : szM st'.length os'.length z < 0
  · go_wp2_with fail
    refine (szCpu_any _ _ _ _ _ _ _ st' os' _ _ (by omega) (by omega) h1' h2' h3' h4').mono ?_
    rintro e w2 ⟨rfl, hb2⟩
    have hB2 := bl_trans (unhide HS1).2.2.2.2.2.2.2.2.2.2.2.2.2.2 hb2
    clear c0 c1 c2 c3 c4 d0 d1 d2 d3 d4
    go_wp2_with fail
    go_ret
    exact ⟨rfl, hB2⟩
  obtain ⟨hle', hlo'⟩ := szM_len (n := st'.length) (m := os'.length) (l := z) (by omega) hz1
  go_wp2_with fail
  refine (szCpu_any _ _ _ _ _ _ _ st' os' _ _ (by omega) (by omega) h1' h2' h3' h4').mono ?_
  rintro e w2 ⟨rfl, hb2⟩
  have hS2 := (unhide HST).1 _ _ hb2 (unhide HS1)
  clear hb2 HS1 c0 c1 c2 c3 c4 d0 d1 d2 d3 d4
  generalize szM st'.length os'.length z = z2 at *
  go_wp2_with fail
  go_region_held3 (fun w' => NumRow w' sa st ∧ NumRow w' oa os ∧ NumRow w' sa' st' ∧ NumRow w' oa' os' ∧ w'.cell? ⟨w.heap.size, 0, none⟩ = some (.int .i64 p) ∧ w'.cell? ⟨w.heap.size, 1, none⟩ = some (.int .i64 c) ∧ w'.cell? ⟨w.heap.size, 2, none⟩ = some (.slice sa st.length sc) ∧ w'.cell? ⟨w.heap.size, 3, none⟩ = some (.slice oa os.length oc) ∧ w'.cell? ⟨w.heap.size, 4, none⟩ = some (.int .i64 d) ∧ w'.cell? ⟨(w.heap.size + 1), 0, none⟩ = some (.int .i64 p') ∧ w'.cell? ⟨(w.heap.size + 1), 1, none⟩ = some (.int .i64 c') ∧ w'.cell? ⟨(w.heap.size + 1), 2, none⟩ = some (.slice sa' st'.length sc') ∧ w'.cell? ⟨(w.heap.size + 1), 3, none⟩ = some (.slice oa' os'.length oc') ∧ w'.cell? ⟨(w.heap.size + 1), 4, none⟩ = some (.int .i64 d') ∧ Below w.heap.size w w') (first | assumption | (refine (unhide HST).1 _ _ hbk ?_; assumption) | (refine (unhide HST).2 _ ?_; assumption))
    (first | (go_at_call 44; refine (toCpu_any _ _ _ _ _ _ _ _ _ _ (by first | exact hle | exact hle') (by first | exact hlo | exact hlo') (by first | exact h1 | exact h1') (by first | exact h2 | exact h2') (by first | exact h3 | exact h3') (by first | exact h4 | exact h4') (by first | exact (q0 (by assumption)).1 | exact (q1 (by assumption)).1) (by first | exact (q0 (by assumption)).2 | exact (q1 (by assumption)).2)).mono ?_; rintro e wk1 ⟨Rk, Sk, hRk, hSk, hEk, rfl, hOk, hQk, hbk⟩; clear hRk hSk hEk; first | (have hO1 := OwnNums.row (l := st) hOk; have hQ1 := OwnNums.row (l := os) hQk; try replace hO2 := NumRow.below (l := st') (by exact hO2) hbk; try replace hQ2 := NumRow.below (l := os') (by exact hQ2) hbk) | (have hO2 := OwnNums.row (l := st') hOk; have hQ2 := OwnNums.row (l := os') hQk; try replace hO1 := NumRow.below (l := st) (by exact hO1) hbk; try replace hQ1 := NumRow.below (l := os) (by exact hQ1) hbk); clear hOk hQk) | (go_at_call 47; refine (specCSame_any _ _ _ _ _ _ _ _ _ _ _ _ _ _ st st' os os' _ (Nat.le_refl _) (by unfold maxLen; omega) (Nat.le_refl _) (by unfold maxLen; omega) (Nat.le_refl _) (by unfold maxLen; omega) (Nat.le_refl _) (by unfold maxLen; omega) (by exact hO1) (by exact hQ1) (by exact hO2) (by exact hQ2)).mono ?_; rintro e wk1 ⟨rfl, hbk⟩))
  have hS3 : (fun w' => NumRow w' sa st ∧ NumRow w' oa os ∧ NumRow w' sa' st' ∧ NumRow w' oa' os' ∧ w'.cell? ⟨w.heap.size, 0, none⟩ = some (.int .i64 p) ∧ w'.cell? ⟨w.heap.size, 1, none⟩ = some (.int .i64 c) ∧ w'.cell? ⟨w.heap.size, 2, none⟩ = some (.slice sa st.length sc) ∧ w'.cell? ⟨w.heap.size, 3, none⟩ = some (.slice oa os.length oc) ∧ w'.cell? ⟨w.heap.size, 4, none⟩ = some (.int .i64 d) ∧ w'.cell? ⟨(w.heap.size + 1), 0, none⟩ = some (.int .i64 p') ∧ w'.cell? ⟨(w.heap.size + 1), 1, none⟩ = some (.int .i64 c') ∧ w'.cell? ⟨(w.heap.size + 1), 2, none⟩ = some (.slice sa' st'.length sc') ∧ w'.cell? ⟨(w.heap.size + 1), 3, none⟩ = some (.slice oa' os'.length oc') ∧ w'.cell? ⟨(w.heap.size + 1), 4, none⟩ = some (.int .i64 d') ∧ Below w.heap.size w w') wk1 := by assumption
  clear hS2
  try clear hO1 hO2 hQ1 hQ2
  have HS3 := hide hS3
  obtain ⟨_, _, _, _, c0, c1, c2, c3, c4, d0, d1, d2, d3, d4, _⟩ := hS3
  go_wp2_with fail
  refine (toCpu_any p c d sa oa sc oc st os _ hle hlo h1 h2 h3 h4 (unhide HS3).1 (unhide HS3).2.1).mono ?_
  rintro e w4 ⟨R4, S4, hR4, hS4, hE4, rfl, hO4, hQ4, hb4⟩
  clear hR4 hS4 hE4
  have hS4 := (unhide HST).alloc ((unhide HST).1 _ _ hb4 (unhide HS3)) (.cells #[.int .i64 p, .int .i64 c, .slice (some ⟨R4, 0, none⟩) st.length st.length, .slice (some ⟨S4, 0, none⟩) os.length os.length, .int .i64 d] 78)
  have HR4 := hide (And.intro (hO4.row.below (below_alloc1 _ (.cells #[.int .i64 p, .int .i64 c, .slice (some ⟨R4, 0, none⟩) st.length st.length, .slice (some ⟨S4, 0, none⟩) os.length os.length, .int .i64 d] 78))) (hQ4.row.below (below_alloc1 _ (.cells #[.int .i64 p, .int .i64 c, .slice (some ⟨R4, 0, none⟩) st.length st.length, .slice (some ⟨S4, 0, none⟩) os.length os.length, .int .i64 d] 78))))
  have HX4 := hide (new_block w4 (.cells #[.int .i64 p, .int .i64 c, .slice (some ⟨R4, 0, none⟩) st.length st.length, .slice (some ⟨S4, 0, none⟩) os.length os.length, .int .i64 d] 78))
  have HS4 := hide hS4
  clear HS3 c0 c1 c2 c3 c4 d0 d1 d2 d3 d4 hb4 hO4 hQ4
  obtain ⟨_, _, _, _, c0, c1, c2, c3, c4, d0, d1, d2, d3, d4, _⟩ := hS4
  go_wp2_with fail
  refine (toCpu_any p' c' d' sa' oa' sc' oc' st' os' _ hle' hlo' h1' h2' h3' h4' (unhide HS4).2.2.1 (unhide HS4).2.2.2.1).mono ?_
  rintro e w5 ⟨R5, S5, hR5, hS5, hE5, rfl, hO5, hQ5, hb5⟩
  clear hR5 hS5 hE5
  have HST2 : Hid (Stable (fun w' => NumRow w' sa st ∧ NumRow w' oa os ∧ NumRow w' sa' st' ∧ NumRow w' oa' os' ∧ NumRow w' (some ⟨R4, 0, none⟩) st ∧ NumRow w' (some ⟨S4, 0, none⟩) os ∧ NumRow w' (some ⟨R5, 0, none⟩) st' ∧ NumRow w' (some ⟨S5, 0, none⟩) os' ∧ w'.cell? ⟨w.heap.size, 0, none⟩ = some (.int .i64 p) ∧ w'.cell? ⟨w.heap.size, 1, none⟩ = some (.int .i64 c) ∧ w'.cell? ⟨w.heap.size, 2, none⟩ = some (.slice sa st.length sc) ∧ w'.cell? ⟨w.heap.size, 3, none⟩ = some (.slice oa os.length oc) ∧ w'.cell? ⟨w.heap.size, 4, none⟩ = some (.int .i64 d) ∧ w'.cell? ⟨(w.heap.size + 1), 0, none⟩ = some (.int .i64 p') ∧ w'.cell? ⟨(w.heap.size + 1), 1, none⟩ = some (.int .i64 c') ∧ w'.cell? ⟨(w.heap.size + 1), 2, none⟩ = some (.slice sa' st'.length sc') ∧ w'.cell? ⟨(w.heap.size + 1), 3, none⟩ = some (.slice oa' os'.length oc') ∧ w'.cell? ⟨(w.heap.size + 1), 4, none⟩ = some (.int .i64 d') ∧ w'.cell? ⟨w4.heap.size, 0, none⟩ = some (.int .i64 p) ∧ w'.cell? ⟨w4.heap.size, 1, none⟩ = some (.int .i64 c) ∧ w'.cell? ⟨w4.heap.size, 2, none⟩ = some (.slice (some ⟨R4, 0, none⟩) st.length st.length) ∧ w'.cell? ⟨w4.heap.size, 3, none⟩ = some (.slice (some ⟨S4, 0, none⟩) os.length os.length) ∧ w'.cell? ⟨w4.heap.size, 4, none⟩ = some (.int .i64 d) ∧ w'.cell? ⟨w5.heap.size, 0, none⟩ = some (.int .i64 p') ∧ w'.cell? ⟨w5.heap.size, 1, none⟩ = some (.int .i64 c') ∧ w'.cell? ⟨w5.heap.size, 2, none⟩ = some (.slice (some ⟨R5, 0, none⟩) st'.length st'.length) ∧ w'.cell? ⟨w5.heap.size, 3, none⟩ = some (.slice (some ⟨S5, 0, none⟩) os'.length os'.length) ∧ w'.cell? ⟨w5.heap.size, 4, none⟩ = some (.int .i64 d') ∧ Below w.heap.size w w')) := ((Stable.nrow sa st).and ((Stable.nrow oa os).and ((Stable.nrow sa' st').and ((Stable.nrow oa' os').and ((Stable.nrow (some ⟨R4, 0, none⟩) st).and ((Stable.nrow (some ⟨S4, 0, none⟩) os).and ((Stable.nrow (some ⟨R5, 0, none⟩) st').and ((Stable.nrow (some ⟨S5, 0, none⟩) os').and ((Stable.cell ⟨w.heap.size, 0, none⟩ (.int .i64 p)).and ((Stable.cell ⟨w.heap.size, 1, none⟩ (.int .i64 c)).and ((Stable.cell ⟨w.heap.size, 2, none⟩ (.slice sa st.length sc)).and ((Stable.cell ⟨w.heap.size, 3, none⟩ (.slice oa os.length oc)).and ((Stable.cell ⟨w.heap.size, 4, none⟩ (.int .i64 d)).and ((Stable.cell ⟨(w.heap.size + 1), 0, none⟩ (.int .i64 p')).and ((Stable.cell ⟨(w.heap.size + 1), 1, none⟩ (.int .i64 c')).and ((Stable.cell ⟨(w.heap.size + 1), 2, none⟩ (.slice sa' st'.length sc')).and ((Stable.cell ⟨(w.heap.size + 1), 3, none⟩ (.slice oa' os'.length oc')).and ((Stable.cell ⟨(w.heap.size + 1), 4, none⟩ (.int .i64 d')).and ((Stable.cell ⟨w4.heap.size, 0, none⟩ (.int .i64 p)).and ((Stable.cell ⟨w4.heap.size, 1, none⟩ (.int .i64 c)).and ((Stable.cell ⟨w4.heap.size, 2, none⟩ (.slice (some ⟨R4, 0, none⟩) st.length st.length)).and ((Stable.cell ⟨w4.heap.size, 3, none⟩ (.slice (some ⟨S4, 0, none⟩) os.length os.length)).and ((Stable.cell ⟨w4.heap.size, 4, none⟩ (.int .i64 d)).and ((Stable.cell ⟨w5.heap.size, 0, none⟩ (.int .i64 p')).and ((Stable.cell ⟨w5.heap.size, 1, none⟩ (.int .i64 c')).and ((Stable.cell ⟨w5.heap.size, 2, none⟩ (.slice (some ⟨R5, 0, none⟩) st'.length st'.length)).and ((Stable.cell ⟨w5.heap.size, 3, none⟩ (.slice (some ⟨S5, 0, none⟩) os'.length os'.length)).and ((Stable.cell ⟨w5.heap.size, 4, none⟩ (.int .i64 d')).and (Stable.below w)))))))))))))))))))))))))))))
  have HS5 : Hid ((fun w' => NumRow w' sa st ∧ NumRow w' oa os ∧ NumRow w' sa' st' ∧ NumRow w' oa' os' ∧ NumRow w' (some ⟨R4, 0, none⟩) st ∧ NumRow w' (some ⟨S4, 0, none⟩) os ∧ NumRow w' (some ⟨R5, 0, none⟩) st' ∧ NumRow w' (some ⟨S5, 0, none⟩) os' ∧ w'.cell? ⟨w.heap.size, 0, none⟩ = some (.int .i64 p) ∧ w'.cell? ⟨w.heap.size, 1, none⟩ = some (.int .i64 c) ∧ w'.cell? ⟨w.heap.size, 2, none⟩ = some (.slice sa st.length sc) ∧ w'.cell? ⟨w.heap.size, 3, none⟩ = some (.slice oa os.length oc) ∧ w'.cell? ⟨w.heap.size, 4, none⟩ = some (.int .i64 d) ∧ w'.cell? ⟨(w.heap.size + 1), 0, none⟩ = some (.int .i64 p') ∧ w'.cell? ⟨(w.heap.size + 1), 1, none⟩ = some (.int .i64 c') ∧ w'.cell? ⟨(w.heap.size + 1), 2, none⟩ = some (.slice sa' st'.length sc') ∧ w'.cell? ⟨(w.heap.size + 1), 3, none⟩ = some (.slice oa' os'.length oc') ∧ w'.cell? ⟨(w.heap.size + 1), 4, none⟩ = some (.int .i64 d') ∧ w'.cell? ⟨w4.heap.size, 0, none⟩ = some (.int .i64 p) ∧ w'.cell? ⟨w4.heap.size, 1, none⟩ = some (.int .i64 c) ∧ w'.cell? ⟨w4.heap.size, 2, none⟩ = some (.slice (some ⟨R4, 0, none⟩) st.length st.length) ∧ w'.cell? ⟨w4.heap.size, 3, none⟩ = some (.slice (some ⟨S4, 0, none⟩) os.length os.length) ∧ w'.cell? ⟨w4.heap.size, 4, none⟩ = some (.int .i64 d) ∧ w'.cell? ⟨w5.heap.size, 0, none⟩ = some (.int .i64 p') ∧ w'.cell? ⟨w5.heap.size, 1, none⟩ = some (.int .i64 c') ∧ w'.cell? ⟨w5.heap.size, 2, none⟩ = some (.slice (some ⟨R5, 0, none⟩) st'.length st'.length) ∧ w'.cell? ⟨w5.heap.size, 3, none⟩ = some (.slice (some ⟨S5, 0, none⟩) os'.length os'.length) ∧ w'.cell? ⟨w5.heap.size, 4, none⟩ = some (.int .i64 d') ∧ Below w.heap.size w w') (w5.alloc (.cells #[.int .i64 p', .int .i64 c', .slice (some ⟨R5, 0, none⟩) st'.length st'.length, .slice (some ⟨S5, 0, none⟩) os'.length os'.length, .int .i64 d'] 78))) := by
    have h := (unhide HST).alloc ((unhide HST).1 _ _ hb5 (unhide HS4)) (.cells #[.int .i64 p', .int .i64 c', .slice (some ⟨R5, 0, none⟩) st'.length st'.length, .slice (some ⟨S5, 0, none⟩) os'.length os'.length, .int .i64 d'] 78)
    have x := (box5 (box_below (box_below (unhide HX4) hb5) (below_alloc1 _ (.cells #[.int .i64 p', .int .i64 c', .slice (some ⟨R5, 0, none⟩) st'.length st'.length, .slice (some ⟨S5, 0, none⟩) os'.length os'.length, .int .i64 d'] 78)))).1
    have y := (box5 (new_block w5 (.cells #[.int .i64 p', .int .i64 c', .slice (some ⟨R5, 0, none⟩) st'.length st'.length, .slice (some ⟨S5, 0, none⟩) os'.length os'.length, .int .i64 d'] 78))).1
    exact ⟨h.1, h.2.1, h.2.2.1, h.2.2.2.1, ((unhide HR4).1.below hb5).below (below_alloc1 _ _), ((unhide HR4).2.below hb5).below (below_alloc1 _ _), hO5.row.below (below_alloc1 _ _), hQ5.row.below (below_alloc1 _ _), h.2.2.2.2.1, h.2.2.2.2.2.1, h.2.2.2.2.2.2.1, h.2.2.2.2.2.2.2.1, h.2.2.2.2.2.2.2.2.1, h.2.2.2.2.2.2.2.2.2.1, h.2.2.2.2.2.2.2.2.2.2.1, h.2.2.2.2.2.2.2.2.2.2.2.1, h.2.2.2.2.2.2.2.2.2.2.2.2.1, h.2.2.2.2.2.2.2.2.2.2.2.2.2.1, x.1, x.2.1, x.2.2.1, x.2.2.2.1, x.2.2.2.2, y.1, y.2.1, y.2.2.1, y.2.2.2.1, y.2.2.2.2, h.2.2.2.2.2.2.2.2.2.2.2.2.2.2⟩
  clear HS4 HR4 HX4 c0 c1 c2 c3 c4 d0 d1 d2 d3 d4 hb5 hO5 hQ5
  have hS5 := unhide HS5
  obtain ⟨_, _, _, _, _, _, _, _, c0, c1, c2, c3, c4, d0, d1, d2, d3, d4, x0, x1, x2, x3, x4, y0, y1, y2, y3, y4, _⟩ := hS5
  go_wp2_with fail
  refine (implCSame_any p c d p' c' d' _ _ _ _ _ _ _ _ st st' os os' _ (Nat.le_refl _) (by unfold maxLen; omega) (Nat.le_refl _) (by unfold maxLen; omega) (Nat.le_refl _) (by unfold maxLen; omega) (Nat.le_refl _) (by unfold maxLen; omega) (q2 (unhide HS5)).1 (q2 (unhide HS5)).2 (q3 (unhide HS5)).1 (q3 (unhide HS5)).2).mono ?_
  rintro e w6 ⟨rfl, hb6⟩
  have hS6 := (unhide HST2).1 _ _ hb6 (unhide HS5)
  clear HS5 c0 c1 c2 c3 c4 d0 d1 d2 d3 d4 x0 x1 x2 x3 x4 y0 y1 y2 y3 y4 hb6
  go_wp2_with fail
  go_region_held3 (fun w' => NumRow w' sa st ∧ NumRow w' oa os ∧ NumRow w' sa' st' ∧ NumRow w' oa' os' ∧ NumRow w' (some ⟨R4, 0, none⟩) st ∧ NumRow w' (some ⟨S4, 0, none⟩) os ∧ NumRow w' (some ⟨R5, 0, none⟩) st' ∧ NumRow w' (some ⟨S5, 0, none⟩) os' ∧ w'.cell? ⟨w.heap.size, 0, none⟩ = some (.int .i64 p) ∧ w'.cell? ⟨w.heap.size, 1, none⟩ = some (.int .i64 c) ∧ w'.cell? ⟨w.heap.size, 2, none⟩ = some (.slice sa st.length sc) ∧ w'.cell? ⟨w.heap.size, 3, none⟩ = some (.slice oa os.length oc) ∧ w'.cell? ⟨w.heap.size, 4, none⟩ = some (.int .i64 d) ∧ w'.cell? ⟨(w.heap.size + 1), 0, none⟩ = some (.int .i64 p') ∧ w'.cell? ⟨(w.heap.size + 1), 1, none⟩ = some (.int .i64 c') ∧ w'.cell? ⟨(w.heap.size + 1), 2, none⟩ = some (.slice sa' st'.length sc') ∧ w'.cell? ⟨(w.heap.size + 1), 3, none⟩ = some (.slice oa' os'.length oc') ∧ w'.cell? ⟨(w.heap.size + 1), 4, none⟩ = some (.int .i64 d') ∧ w'.cell? ⟨w4.heap.size, 0, none⟩ = some (.int .i64 p) ∧ w'.cell? ⟨w4.heap.size, 1, none⟩ = some (.int .i64 c) ∧ w'.cell? ⟨w4.heap.size, 2, none⟩ = some (.slice (some ⟨R4, 0, none⟩) st.length st.length) ∧ w'.cell? ⟨w4.heap.size, 3, none⟩ = some (.slice (some ⟨S4, 0, none⟩) os.length os.length) ∧ w'.cell? ⟨w4.heap.size, 4, none⟩ = some (.int .i64 d) ∧ w'.cell? ⟨w5.heap.size, 0, none⟩ = some (.int .i64 p') ∧ w'.cell? ⟨w5.heap.size, 1, none⟩ = some (.int .i64 c') ∧ w'.cell? ⟨w5.heap.size, 2, none⟩ = some (.slice (some ⟨R5, 0, none⟩) st'.length st'.length) ∧ w'.cell? ⟨w5.heap.size, 3, none⟩ = some (.slice (some ⟨S5, 0, none⟩) os'.length os'.length) ∧ w'.cell? ⟨w5.heap.size, 4, none⟩ = some (.int .i64 d') ∧ Below w.heap.size w w') (first | assumption | (refine (unhide HST2).1 _ _ hbk ?_; assumption) | (refine (unhide HST2).2 _ ?_; assumption))
    (first | (go_at_call 44; refine (toCpu_any p c d sa oa sc oc st os _ hle hlo h1 h2 h3 h4 (by exact (q0 (by assumption)).1) (by exact (q0 (by assumption)).2)).mono ?_; rintro e wk1 ⟨Rk, Sk, hRk, hSk, hEk, rfl, hOk, hQk, hbk⟩; clear hRk hSk hEk; have hO := OwnNums.row hOk; have hQ := OwnNums.row hQk; clear hOk hQk) | (go_at_call 46; refine (eqCpu_same p c d _ _ _ _ _ _ _ _ st os _ (Nat.le_refl _) (by unfold maxLen; omega) (Nat.le_refl _) (by unfold maxLen; omega) (by exact (q2 (by assumption)).1) (by exact (q2 (by assumption)).2) (by exact hO) (by exact hQ)).mono ?_; rintro e wk1 ⟨rfl, hbk⟩))
  have hS7 : (fun w' => NumRow w' sa st ∧ NumRow w' oa os ∧ NumRow w' sa' st' ∧ NumRow w' oa' os' ∧ NumRow w' (some ⟨R4, 0, none⟩) st ∧ NumRow w' (some ⟨S4, 0, none⟩) os ∧ NumRow w' (some ⟨R5, 0, none⟩) st' ∧ NumRow w' (some ⟨S5, 0, none⟩) os' ∧ w'.cell? ⟨w.heap.size, 0, none⟩ = some (.int .i64 p) ∧ w'.cell? ⟨w.heap.size, 1, none⟩ = some (.int .i64 c) ∧ w'.cell? ⟨w.heap.size, 2, none⟩ = some (.slice sa st.length sc) ∧ w'.cell? ⟨w.heap.size, 3, none⟩ = some (.slice oa os.length oc) ∧ w'.cell? ⟨w.heap.size, 4, none⟩ = some (.int .i64 d) ∧ w'.cell? ⟨(w.heap.size + 1), 0, none⟩ = some (.int .i64 p') ∧ w'.cell? ⟨(w.heap.size + 1), 1, none⟩ = some (.int .i64 c') ∧ w'.cell? ⟨(w.heap.size + 1), 2, none⟩ = some (.slice sa' st'.length sc') ∧ w'.cell? ⟨(w.heap.size + 1), 3, none⟩ = some (.slice oa' os'.length oc') ∧ w'.cell? ⟨(w.heap.size + 1), 4, none⟩ = some (.int .i64 d') ∧ w'.cell? ⟨w4.heap.size, 0, none⟩ = some (.int .i64 p) ∧ w'.cell? ⟨w4.heap.size, 1, none⟩ = some (.int .i64 c) ∧ w'.cell? ⟨w4.heap.size, 2, none⟩ = some (.slice (some ⟨R4, 0, none⟩) st.length st.length) ∧ w'.cell? ⟨w4.heap.size, 3, none⟩ = some (.slice (some ⟨S4, 0, none⟩) os.length os.length) ∧ w'.cell? ⟨w4.heap.size, 4, none⟩ = some (.int .i64 d) ∧ w'.cell? ⟨w5.heap.size, 0, none⟩ = some (.int .i64 p') ∧ w'.cell? ⟨w5.heap.size, 1, none⟩ = some (.int .i64 c') ∧ w'.cell? ⟨w5.heap.size, 2, none⟩ = some (.slice (some ⟨R5, 0, none⟩) st'.length st'.length) ∧ w'.cell? ⟨w5.heap.size, 3, none⟩ = some (.slice (some ⟨S5, 0, none⟩) os'.length os'.length) ∧ w'.cell? ⟨w5.heap.size, 4, none⟩ = some (.int .i64 d') ∧ Below w.heap.size w w') wk1 := by assumption
  clear hS6 hO hQ
  go_wp2_with fail
  go_region_held3 (fun w' => NumRow w' sa st ∧ NumRow w' oa os ∧ NumRow w' sa' st' ∧ NumRow w' oa' os' ∧ NumRow w' (some ⟨R4, 0, none⟩) st ∧ NumRow w' (some ⟨S4, 0, none⟩) os ∧ NumRow w' (some ⟨R5, 0, none⟩) st' ∧ NumRow w' (some ⟨S5, 0, none⟩) os' ∧ w'.cell? ⟨w.heap.size, 0, none⟩ = some (.int .i64 p) ∧ w'.cell? ⟨w.heap.size, 1, none⟩ = some (.int .i64 c) ∧ w'.cell? ⟨w.heap.size, 2, none⟩ = some (.slice sa st.length sc) ∧ w'.cell? ⟨w.heap.size, 3, none⟩ = some (.slice oa os.length oc) ∧ w'.cell? ⟨w.heap.size, 4, none⟩ = some (.int .i64 d) ∧ w'.cell? ⟨(w.heap.size + 1), 0, none⟩ = some (.int .i64 p') ∧ w'.cell? ⟨(w.heap.size + 1), 1, none⟩ = some (.int .i64 c') ∧ w'.cell? ⟨(w.heap.size + 1), 2, none⟩ = some (.slice sa' st'.length sc') ∧ w'.cell? ⟨(w.heap.size + 1), 3, none⟩ = some (.slice oa' os'.length oc') ∧ w'.cell? ⟨(w.heap.size + 1), 4, none⟩ = some (.int .i64 d') ∧ w'.cell? ⟨w4.heap.size, 0, none⟩ = some (.int .i64 p) ∧ w'.cell? ⟨w4.heap.size, 1, none⟩ = some (.int .i64 c) ∧ w'.cell? ⟨w4.heap.size, 2, none⟩ = some (.slice (some ⟨R4, 0, none⟩) st.length st.length) ∧ w'.cell? ⟨w4.heap.size, 3, none⟩ = some (.slice (some ⟨S4, 0, none⟩) os.length os.length) ∧ w'.cell? ⟨w4.heap.size, 4, none⟩ = some (.int .i64 d) ∧ w'.cell? ⟨w5.heap.size, 0, none⟩ = some (.int .i64 p') ∧ w'.cell? ⟨w5.heap.size, 1, none⟩ = some (.int .i64 c') ∧ w'.cell? ⟨w5.heap.size, 2, none⟩ = some (.slice (some ⟨R5, 0, none⟩) st'.length st'.length) ∧ w'.cell? ⟨w5.heap.size, 3, none⟩ = some (.slice (some ⟨S5, 0, none⟩) os'.length os'.length) ∧ w'.cell? ⟨w5.heap.size, 4, none⟩ = some (.int .i64 d') ∧ Below w.heap.size w w') (first | assumption | (refine (unhide HST2).1 _ _ hbk ?_; assumption) | (refine (unhide HST2).2 _ ?_; assumption))
    (first | (go_at_call 44; refine (toCpu_any p' c' d' sa' oa' sc' oc' st' os' _ hle' hlo' h1' h2' h3' h4' (by exact (q1 (by assumption)).1) (by exact (q1 (by assumption)).2)).mono ?_; rintro e wk1 ⟨Rk, Sk, hRk, hSk, hEk, rfl, hOk, hQk, hbk⟩; clear hRk hSk hEk; have hO := OwnNums.row hOk; have hQ := OwnNums.row hQk; clear hOk hQk) | (go_at_call 46; refine (eqCpu_same p' c' d' _ _ _ _ _ _ _ _ st' os' _ (Nat.le_refl _) (by unfold maxLen; omega) (Nat.le_refl _) (by unfold maxLen; omega) (by exact (q3 (by assumption)).1) (by exact (q3 (by assumption)).2) (by exact hO) (by exact hQ)).mono ?_; rintro e wk1 ⟨rfl, hbk⟩))
  have hS8 : (fun w' => NumRow w' sa st ∧ NumRow w' oa os ∧ NumRow w' sa' st' ∧ NumRow w' oa' os' ∧ NumRow w' (some ⟨R4, 0, none⟩) st ∧ NumRow w' (some ⟨S4, 0, none⟩) os ∧ NumRow w' (some ⟨R5, 0, none⟩) st' ∧ NumRow w' (some ⟨S5, 0, none⟩) os' ∧ w'.cell? ⟨w.heap.size, 0, none⟩ = some (.int .i64 p) ∧ w'.cell? ⟨w.heap.size, 1, none⟩ = some (.int .i64 c) ∧ w'.cell? ⟨w.heap.size, 2, none⟩ = some (.slice sa st.length sc) ∧ w'.cell? ⟨w.heap.size, 3, none⟩ = some (.slice oa os.length oc) ∧ w'.cell? ⟨w.heap.size, 4, none⟩ = some (.int .i64 d) ∧ w'.cell? ⟨(w.heap.size + 1), 0, none⟩ = some (.int .i64 p') ∧ w'.cell? ⟨(w.heap.size + 1), 1, none⟩ = some (.int .i64 c') ∧ w'.cell? ⟨(w.heap.size + 1), 2, none⟩ = some (.slice sa' st'.length sc') ∧ w'.cell? ⟨(w.heap.size + 1), 3, none⟩ = some (.slice oa' os'.length oc') ∧ w'.cell? ⟨(w.heap.size + 1), 4, none⟩ = some (.int .i64 d') ∧ w'.cell? ⟨w4.heap.size, 0, none⟩ = some (.int .i64 p) ∧ w'.cell? ⟨w4.heap.size, 1, none⟩ = some (.int .i64 c) ∧ w'.cell? ⟨w4.heap.size, 2, none⟩ = some (.slice (some ⟨R4, 0, none⟩) st.length st.length) ∧ w'.cell? ⟨w4.heap.size, 3, none⟩ = some (.slice (some ⟨S4, 0, none⟩) os.length os.length) ∧ w'.cell? ⟨w4.heap.size, 4, none⟩ = some (.int .i64 d) ∧ w'.cell? ⟨w5.heap.size, 0, none⟩ = some (.int .i64 p') ∧ w'.cell? ⟨w5.heap.size, 1, none⟩ = some (.int .i64 c') ∧ w'.cell? ⟨w5.heap.size, 2, none⟩ = some (.slice (some ⟨R5, 0, none⟩) st'.length st'.length) ∧ w'.cell? ⟨w5.heap.size, 3, none⟩ = some (.slice (some ⟨S5, 0, none⟩) os'.length os'.length) ∧ w'.cell? ⟨w5.heap.size, 4, none⟩ = some (.int .i64 d') ∧ Below w.heap.size w w') wk1 := by assumption
  have hB8 := hS8.2.2.2.2.2.2.2.2.2.2.2.2.2.2.2.2.2.2.2.2.2.2.2.2.2.2.2.2
  clear hS7 hS8
  go_wp2_with fail
  go_ret
  exact ⟨rfl, hB8⟩

set_option maxRecDepth 100000 in
theorem lifted (os : Os) (started : os.Started) (H : Type) (enc : TypeId × Value → H) :
    ReturnsInHanded {} Try.checked os 11 .any (Rows.fnExactCpuSameSpec.pre6 enc Try.prog Try.f11 Rows.fnExactCpuSameRow.domain false) (Rows.fnExactCpuSameSpec.post enc Try.prog Try.f11 false true false false) := by
  refine returnsInHanded_of_change (C := Try.checked) own started (by kernel_rfl) Try.func11
    (ChangeSpec.witness6 (enc := enc) (C := Try.checked) false ⟨#[], #[.agg #[.int .i64 0, .int .i64 0, .slice none 0 0, .slice none 0 0, .int .i64 0], .agg #[.int .i64 0, .int .i64 0, .slice none 0 0, .slice none 0 0, .int .i64 0]], []⟩ 8 (by kernel_rfl) (by kernel_rfl) (by kernel_rfl) (by kernel_rfl)) ?_
  intro W base args ds gs before hval0 hW hcnd _
  have hval : ∀ (j : Nat) t v, Try.f11.params[j]? = some t → args[j]? = some v → Value.okWide Try.prog W .any base t v := hval0
  have hW' := hW
  obtain ⟨p, q, hA0, hV, rfl, hfz, hnd⟩ := hW
  have hA : DataW.TrodAll enc Try.prog W 0 (fun _ => true) true Try.f11.params.toList args.toList ds p := hA0
  rw [Try.params11] at hA hval
  obtain ⟨v0, vs0, d0, ds0, p0, q0, hargs, rfl, rfl, h0, r0⟩ := trodAll_cons hA
  obtain ⟨v1, vs1, d1, ds1, p1, q1, rfl, rfl, rfl, h1, r1⟩ := trodAll_cons r0
  obtain ⟨rfl, rfl, rfl⟩ := trodAll_nil r1
  obtain rfl : args = #[v0, v1] := by cases args; simp_all
  obtain ⟨rfl, rfl⟩ := trodVars_none hV
  have k0 := h0
  have lt0 : ∀ x ∈ p0, x.block < W.heap.size := by obtain ⟨m, hm⟩ := k0; exact DataW.trod_lt m _ _ _ hm
  obtain ⟨p0_, c0_, e0_, sa0, oa0, sc0, oc0, st0, os0, hv0, hl0, hm0, hn0, hk0, hs0, ho0⟩ := cpu_of (hval 0 75 v0 rfl rfl) h0
  have k1 := h1
  have lt1 : ∀ x ∈ p1, x.block < W.heap.size := by obtain ⟨m, hm⟩ := k1; exact DataW.trod_lt m _ _ _ hm
  obtain ⟨p1_, c1_, e1_, sa1, oa1, sc1, oc1, st1, os1, hv1, hl1, hm1, hn1, hk1, hs1, ho1⟩ := cpu_of (hval 1 75 v1 rfl rfl) h1
  clear hA0 hval0
  subst hv0 hv1
  refine (walk p0_ c0_ e0_ sa0 oa0 sc0 oc0 st0 os0 hl0 hm0 hn0 hk0 p1_ c1_ e1_ sa1 oa1 sc1 oc1 st1 os1 hl1 hm1 hn1 hk1 W hs0 ho0 hs1 ho1).mono fun e W' ⟨he, bel⟩ => ?_
  subst he
  exact ⟨_, rfl, _, _, _, [], _, [], hW', trodAll_mk1 (shut_bool Try.underlying4 _), (trodAll_cons_mk (Below.trod laidOut (by kernel_rfl) (of_decide_eq_true (by kernel_rfl)) k0 bel lt0) (trodAll_cons_mk (Below.trod laidOut (by kernel_rfl) (of_decide_eq_true (by kernel_rfl)) k1 bel lt1) trodAll_mk0)), rfl, bel.frame _, fun h => by cases h⟩

theorem proved : Rows.FnExactCpuSameSaid :=
  OpenClaim.holds_of_wide 11 Try.f11 rfl rfl rfl rfl rfl rfl rfl ⟨rfl, rfl, rfl, rfl, rfl⟩ rfl rfl rfl rfl rfl (by kernel_rfl) Try.func11 (by kernel_rfl)
    (of_decide_eq_true (by kernel_rfl)) (by unfold Func.isWrapper; first | (rw [if_pos (by decide +kernel)]; kernel_rfl) | (rw [if_neg (by decide +kernel)]; exact ⟨rfl, rfl⟩))
    (fun os started H enc _ => lifted os started H enc)
#print axioms proved
end Go.Proofs.Ytefmmnckhldnnaa.fnExactCpuSame
