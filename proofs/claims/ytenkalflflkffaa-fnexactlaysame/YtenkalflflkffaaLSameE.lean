/- For every two layings the exact law of LaySame answers true, and both read afterwards as they did. No condition. -/
import Derived.Test.YtenkalflflkffaaBase
import Derived.WalkKit
import Derived.ProofKit
import Derived.OpenShut
import Derived.ShutString
import Derived.ChangeOld
import Derived.Below
import Derived.Lib.SmallJoins
import Derived.Deep.RegionHeld3
import Derived.Test.YtenkalflflkffaaFuns
import Derived.Test.YtenkalflflkffaaOpen
import Derived.Test.YtenkalflflkffaaKeep
import Derived.Test.YtenkalflflkffaaRefs
import Derived.Test.YtenkalflflkffaaLayN
import Derived.Test.YtenkalflflkffaaLayA
import Derived.Test.YtenkalflflkffaaLayB
namespace Go.Proofs.Ytenkalflflkffaa.fnExactLaySame
open Go.ChangeShapes Go.WideShapes Go.ChangeAt Go.RowKit Go.Joins
open Go.ChangeMaps (open_string shut_string)
open Go.Proofs.Ytenkalflflkffaa.Base
open Go.Proofs.Ytenkalflflkffaa.Funs
open Go.Proofs.Ytenkalflflkffaa.Open
open Go.Proofs.Ytenkalflflkffaa.Keep
open Go.Proofs.Ytenkalflflkffaa.Refs
open Go.Proofs.Ytenkalflflkffaa.LayN
open Go.Proofs.Ytenkalflflkffaa.LayA
open Go.Proofs.Ytenkalflflkffaa.LayB
set_option linter.unusedVariables false
set_option maxRecDepth 100000
theorem own : ownKnob Try.prog.godebug = none := by kernel_rfl
theorem laidOut : laidOutB Try.prog = true := by kernel_rfl

theorem q0 {a b r : Prop} (h : a ∧ b ∧ r) : a ∧ b := ⟨h.1, h.2.1⟩
theorem q1 {a b c d r : Prop} (h : a ∧ b ∧ c ∧ d ∧ r) : c ∧ d := ⟨h.2.2.1, h.2.2.2.1⟩
theorem p0 {a r : Prop} (h : a ∧ r) : a := h.1
theorem p1 {a b c r : Prop} (h : a ∧ b ∧ c ∧ r) : b ∧ c := ⟨h.2.1, h.2.2.1⟩
theorem p3 {a b c d r : Prop} (h : a ∧ b ∧ c ∧ d ∧ r) : d := h.2.2.2.1
theorem p4 {a b c d e f r : Prop} (h : a ∧ b ∧ c ∧ d ∧ e ∧ f ∧ r) : e ∧ f := ⟨h.2.2.2.2.1, h.2.2.2.2.2.1⟩
theorem ml {n : Nat} (h : n ≤ 1048576) : n ≤ maxLen := by unfold maxLen; omega
theorem q2 {a b c d a' b' c' d' r : Prop} (h : a ∧ b ∧ c ∧ d ∧ a' ∧ b' ∧ c' ∧ d' ∧ r) : a' ∧ b' := ⟨h.2.2.2.2.1, h.2.2.2.2.2.1⟩
theorem q3 {a b c d a' b' c' d' r : Prop} (h : a ∧ b ∧ c ∧ d ∧ a' ∧ b' ∧ c' ∧ d' ∧ r) : c' ∧ d' := ⟨h.2.2.2.2.2.2.1, h.2.2.2.2.2.2.2.1⟩
set_option maxHeartbeats 16000000 in
theorem walk (na sa : Option Addr) (nc sc : Nat) (ns : List Int) (st : List (List ByteArray)) (h1 : ns.length ≤ nc) (h2 : nc ≤ maxLen) (h3 : st.length ≤ sc) (h4 : sc ≤ maxLen) (na' sa' : Option Addr) (nc' sc' : Nat) (ns' : List Int) (st' : List (List ByteArray)) (h1' : ns'.length ≤ nc') (h2' : nc' ≤ maxLen) (h3' : st'.length ≤ sc') (h4' : sc' ≤ maxLen) (w : World) (hs : NumRow w na ns) (ho : TextsRow w sa st) (hs' : NumRow w na' ns') (ho' : TextsRow w sa' st') :
    Calls Try.prog 7 #[.agg #[.slice na ns.length nc, .slice sa st.length sc], .agg #[.slice na' ns'.length nc', .slice sa' st'.length sc']] w fun e w' => e = .returned (.bool true) ∧ Below w.heap.size w w' := by
  have HST : Hid (Stable (fun w' => NumRow w' na ns ∧ TextsRow w' sa st ∧ NumRow w' na' ns' ∧ TextsRow w' sa' st' ∧ w'.cell? ⟨w.heap.size, 0, none⟩ = some (.slice na ns.length nc) ∧ w'.cell? ⟨w.heap.size, 1, none⟩ = some (.slice sa st.length sc) ∧ w'.cell? ⟨(w.heap.size + 1), 0, none⟩ = some (.slice na' ns'.length nc') ∧ w'.cell? ⟨(w.heap.size + 1), 1, none⟩ = some (.slice sa' st'.length sc') ∧ Below w.heap.size w w')) := ((Stable.nrow na ns).and ((Stable.tsrow sa st).and ((Stable.nrow na' ns').and ((Stable.tsrow sa' st').and ((Stable.cell ⟨w.heap.size, 0, none⟩ (.slice na ns.length nc)).and ((Stable.cell ⟨w.heap.size, 1, none⟩ (.slice sa st.length sc)).and ((Stable.cell ⟨(w.heap.size + 1), 0, none⟩ (.slice na' ns'.length nc')).and ((Stable.cell ⟨(w.heap.size + 1), 1, none⟩ (.slice sa' st'.length sc')).and (Stable.below w)))))))))
  have HS0 : Hid ((fun w' => NumRow w' na ns ∧ TextsRow w' sa st ∧ NumRow w' na' ns' ∧ TextsRow w' sa' st' ∧ w'.cell? ⟨w.heap.size, 0, none⟩ = some (.slice na ns.length nc) ∧ w'.cell? ⟨w.heap.size, 1, none⟩ = some (.slice sa st.length sc) ∧ w'.cell? ⟨(w.heap.size + 1), 0, none⟩ = some (.slice na' ns'.length nc') ∧ w'.cell? ⟨(w.heap.size + 1), 1, none⟩ = some (.slice sa' st'.length sc') ∧ Below w.heap.size w w') ((w.alloc (.cells #[.slice na ns.length nc, .slice sa st.length sc] 45)).alloc (.cells #[.slice na' ns'.length nc', .slice sa' st'.length sc'] 45))) := by
    have n1 := (box2 (box_below (new_block w (.cells #[.slice na ns.length nc, .slice sa st.length sc] 45)) (below_alloc1 _ (.cells #[.slice na' ns'.length nc', .slice sa' st'.length sc'] 45)))).1
    have n2 := (box2 (new_block (w.alloc (.cells #[.slice na ns.length nc, .slice sa st.length sc] 45)) (.cells #[.slice na' ns'.length nc', .slice sa' st'.length sc'] 45))).1
    simp only [World.size_alloc] at n2
    exact ⟨hs.below (below_alloc2 _ _ _), ho.below (below_alloc2 _ _ _), hs'.below (below_alloc2 _ _ _), ho'.below (below_alloc2 _ _ _), n1.1, n1.2, n2.1, n2.2, below_alloc2 _ _ _⟩
  clear hs ho hs' ho'
  by_cases hz : szLayI ns.length st 1048576 < 0
  · go_enter Try.func7, Try.ntmps7
    go_wp2_with fail
    refine (szLay_any na sa nc sc ns.length st _ _ (by omega) (by omega) h1 h2 h3 h4 (q0 (unhide HS0)).2).mono ?_
    rintro e w2 ⟨rfl, hb2⟩
    have hB2 := bl_trans (unhide HS0).2.2.2.2.2.2.2.2 hb2
    go_wp2_with fail
    go_ret
    exact ⟨rfl, hB2⟩
  have hz0 : 0 ≤ szLayI ns.length st 1048576 := by omega
  have hz1 : szLayI ns.length st 1048576 ≤ 1048576 := szLay_bd (by omega)
  obtain ⟨hnl, hft⟩ := szLay_few (by omega) hz0
  have HFT := hide hft
  have hstl := hft.1
  clear hft hz
  go_enter Try.func7, Try.ntmps7
  go_wp2_with fail
  refine (szLay_any na sa nc sc ns.length st _ _ (by omega) (by omega) h1 h2 h3 h4 (q0 (unhide HS0)).2).mono ?_
  rintro e w1 ⟨rfl, hb1⟩
  have hS1 := (unhide HST).1 _ _ hb1 (unhide HS0)
  clear hb1 HS0
  have HS1 := hide hS1
  obtain ⟨_, _, _, _, c0, c1, d0, d1, _⟩ := hS1
  generalize szLayI ns.length st 1048576 = z at *
  by_cases hy : szLayI ns'.length st' z < 0
  · go_wp2_with fail
    refine (szLay_any na' sa' nc' sc' ns'.length st' z _ hz0 hz1 h1' h2' h3' h4' (q1 (unhide HS1)).2).mono ?_
    rintro e w2 ⟨rfl, hb2⟩
    have hB2 := bl_trans (unhide HS1).2.2.2.2.2.2.2.2 hb2
    clear c0 c1 d0 d1
    go_wp2_with fail
    go_ret
    exact ⟨rfl, hB2⟩
  obtain ⟨hnl', hft'⟩ := szLay_few hz1 (show 0 ≤ szLayI ns'.length st' z by omega)
  have HFT' := hide hft'
  have hstl' := hft'.1
  clear hft'
  go_wp2_with fail
  refine (szLay_any na' sa' nc' sc' ns'.length st' z _ hz0 hz1 h1' h2' h3' h4' (q1 (unhide HS1)).2).mono ?_
  rintro e w2 ⟨rfl, hb2⟩
  have hS2 := (unhide HST).1 _ _ hb2 (unhide HS1)
  have HTZ : Hid (FitT st) := (q0 hS2).2.sizes
  have HTZ' : Hid (FitT st') := (q1 hS2).2.sizes
  clear hb2 HS1 c0 c1 d0 d1
  generalize szLayI ns'.length st' z = z2 at *
  go_wp2_with fail
  go_region_held3 (fun w' => NumRow w' na ns ∧ TextsRow w' sa st ∧ NumRow w' na' ns' ∧ TextsRow w' sa' st' ∧ w'.cell? ⟨w.heap.size, 0, none⟩ = some (.slice na ns.length nc) ∧ w'.cell? ⟨w.heap.size, 1, none⟩ = some (.slice sa st.length sc) ∧ w'.cell? ⟨(w.heap.size + 1), 0, none⟩ = some (.slice na' ns'.length nc') ∧ w'.cell? ⟨(w.heap.size + 1), 1, none⟩ = some (.slice sa' st'.length sc') ∧ Below w.heap.size w w') (first | assumption | (refine (unhide HST).1 _ _ hbk ?_; assumption) | (refine (unhide HST).2 _ ?_; assumption))
    (first | (go_at_call 27; refine (toLay_any _ _ _ _ _ _ _ (by first | exact hnl | exact hnl') (by first | exact unhide HFT | exact unhide HFT') (by first | exact h1 | exact h1') (by first | exact h2 | exact h2') (by first | exact h3 | exact h3') (by first | exact h4 | exact h4') (by first | exact (q0 (by assumption)).1 | exact (q1 (by assumption)).1) (by first | exact (q0 (by assumption)).2 | exact (q1 (by assumption)).2)).mono ?_; rintro e wk1 ⟨Rk, Sk, hRk, hSk, hEk, rfl, hOk, hQk, hbk⟩; clear hRk hSk hEk; first | (have hO1 := OwnNums.row (l := ns) hOk; have hQ1 := OwnTexts.row (st := st) hQk (unhide HTZ); try replace hO2 := NumRow.below (l := ns') (by exact hO2) hbk; try replace hQ2 := TextsRow.below (st := st') (by exact hQ2) hbk) | (have hO2 := OwnNums.row (l := ns') hOk; have hQ2 := OwnTexts.row (st := st') hQk (unhide HTZ'); try replace hO1 := NumRow.below (l := ns) (by exact hO1) hbk; try replace hQ1 := TextsRow.below (st := st) (by exact hQ1) hbk)) | (go_at_call 30; refine (specLSame_any _ _ _ _ _ _ _ _ ns ns' st st' _ (Nat.le_refl _) (ml hnl) (Nat.le_refl _) (ml hstl) (Nat.le_refl _) (ml hnl') (Nat.le_refl _) (ml hstl') (by exact hO1) (by exact hQ1) (by exact hO2) (by exact hQ2)).mono ?_; rintro e wk1 ⟨rfl, hbk⟩))
  have hS3 : (fun w' => NumRow w' na ns ∧ TextsRow w' sa st ∧ NumRow w' na' ns' ∧ TextsRow w' sa' st' ∧ w'.cell? ⟨w.heap.size, 0, none⟩ = some (.slice na ns.length nc) ∧ w'.cell? ⟨w.heap.size, 1, none⟩ = some (.slice sa st.length sc) ∧ w'.cell? ⟨(w.heap.size + 1), 0, none⟩ = some (.slice na' ns'.length nc') ∧ w'.cell? ⟨(w.heap.size + 1), 1, none⟩ = some (.slice sa' st'.length sc') ∧ Below w.heap.size w w') wk1 := by assumption
  clear hS2
  try clear hO1 hO2 hQ1 hQ2
  have HS3 := hide hS3
  obtain ⟨_, _, _, _, c0, c1, d0, d1, _⟩ := hS3
  go_wp2_with fail
  refine (toLay_any na sa nc sc ns st _ hnl (unhide HFT) h1 h2 h3 h4 (q0 (unhide HS3)).1 (q0 (unhide HS3)).2).mono ?_
  rintro e w5 ⟨R5, S5, hR5, hS5, hE5, rfl, hO5, hQ5, hb5⟩
  clear hR5 hS5 hE5
  have hS5 := (unhide HST).alloc ((unhide HST).1 _ _ hb5 (unhide HS3)) (.cells #[.slice (some ⟨R5, 0, none⟩) ns.length ns.length, .slice (some ⟨S5, 0, none⟩) st.length st.length] 27)
  have HR5 := hide (And.intro (hO5.row.below (below_alloc1 _ (.cells #[.slice (some ⟨R5, 0, none⟩) ns.length ns.length, .slice (some ⟨S5, 0, none⟩) st.length st.length] 27))) ((hQ5.row (unhide HTZ)).below (below_alloc1 _ (.cells #[.slice (some ⟨R5, 0, none⟩) ns.length ns.length, .slice (some ⟨S5, 0, none⟩) st.length st.length] 27))))
  have HX5 := hide (new_block w5 (.cells #[.slice (some ⟨R5, 0, none⟩) ns.length ns.length, .slice (some ⟨S5, 0, none⟩) st.length st.length] 27))
  have HS5 := hide hS5
  clear HS3 c0 c1 d0 d1 hb5 hO5 hQ5
  obtain ⟨_, _, _, _, c0, c1, d0, d1, _⟩ := hS5
  go_wp2_with fail
  refine (toLay_any na' sa' nc' sc' ns' st' _ hnl' (unhide HFT') h1' h2' h3' h4' (q1 (unhide HS5)).1 (q1 (unhide HS5)).2).mono ?_
  rintro e w6 ⟨R6, S6, hR6, hS6, hE6, rfl, hO6, hQ6, hb6⟩
  clear hR6 hS6 hE6
  have HST2 : Hid (Stable (fun w' => NumRow w' na ns ∧ TextsRow w' sa st ∧ NumRow w' na' ns' ∧ TextsRow w' sa' st' ∧ NumRow w' (some ⟨R5, 0, none⟩) ns ∧ TextsRow w' (some ⟨S5, 0, none⟩) st ∧ NumRow w' (some ⟨R6, 0, none⟩) ns' ∧ TextsRow w' (some ⟨S6, 0, none⟩) st' ∧ w'.cell? ⟨w.heap.size, 0, none⟩ = some (.slice na ns.length nc) ∧ w'.cell? ⟨w.heap.size, 1, none⟩ = some (.slice sa st.length sc) ∧ w'.cell? ⟨(w.heap.size + 1), 0, none⟩ = some (.slice na' ns'.length nc') ∧ w'.cell? ⟨(w.heap.size + 1), 1, none⟩ = some (.slice sa' st'.length sc') ∧ w'.cell? ⟨w5.heap.size, 0, none⟩ = some (.slice (some ⟨R5, 0, none⟩) ns.length ns.length) ∧ w'.cell? ⟨w5.heap.size, 1, none⟩ = some (.slice (some ⟨S5, 0, none⟩) st.length st.length) ∧ w'.cell? ⟨w6.heap.size, 0, none⟩ = some (.slice (some ⟨R6, 0, none⟩) ns'.length ns'.length) ∧ w'.cell? ⟨w6.heap.size, 1, none⟩ = some (.slice (some ⟨S6, 0, none⟩) st'.length st'.length) ∧ Below w.heap.size w w')) := ((Stable.nrow na ns).and ((Stable.tsrow sa st).and ((Stable.nrow na' ns').and ((Stable.tsrow sa' st').and ((Stable.nrow (some ⟨R5, 0, none⟩) ns).and ((Stable.tsrow (some ⟨S5, 0, none⟩) st).and ((Stable.nrow (some ⟨R6, 0, none⟩) ns').and ((Stable.tsrow (some ⟨S6, 0, none⟩) st').and ((Stable.cell ⟨w.heap.size, 0, none⟩ (.slice na ns.length nc)).and ((Stable.cell ⟨w.heap.size, 1, none⟩ (.slice sa st.length sc)).and ((Stable.cell ⟨(w.heap.size + 1), 0, none⟩ (.slice na' ns'.length nc')).and ((Stable.cell ⟨(w.heap.size + 1), 1, none⟩ (.slice sa' st'.length sc')).and ((Stable.cell ⟨w5.heap.size, 0, none⟩ (.slice (some ⟨R5, 0, none⟩) ns.length ns.length)).and ((Stable.cell ⟨w5.heap.size, 1, none⟩ (.slice (some ⟨S5, 0, none⟩) st.length st.length)).and ((Stable.cell ⟨w6.heap.size, 0, none⟩ (.slice (some ⟨R6, 0, none⟩) ns'.length ns'.length)).and ((Stable.cell ⟨w6.heap.size, 1, none⟩ (.slice (some ⟨S6, 0, none⟩) st'.length st'.length)).and (Stable.below w)))))))))))))))))
  have HS6 : Hid ((fun w' => NumRow w' na ns ∧ TextsRow w' sa st ∧ NumRow w' na' ns' ∧ TextsRow w' sa' st' ∧ NumRow w' (some ⟨R5, 0, none⟩) ns ∧ TextsRow w' (some ⟨S5, 0, none⟩) st ∧ NumRow w' (some ⟨R6, 0, none⟩) ns' ∧ TextsRow w' (some ⟨S6, 0, none⟩) st' ∧ w'.cell? ⟨w.heap.size, 0, none⟩ = some (.slice na ns.length nc) ∧ w'.cell? ⟨w.heap.size, 1, none⟩ = some (.slice sa st.length sc) ∧ w'.cell? ⟨(w.heap.size + 1), 0, none⟩ = some (.slice na' ns'.length nc') ∧ w'.cell? ⟨(w.heap.size + 1), 1, none⟩ = some (.slice sa' st'.length sc') ∧ w'.cell? ⟨w5.heap.size, 0, none⟩ = some (.slice (some ⟨R5, 0, none⟩) ns.length ns.length) ∧ w'.cell? ⟨w5.heap.size, 1, none⟩ = some (.slice (some ⟨S5, 0, none⟩) st.length st.length) ∧ w'.cell? ⟨w6.heap.size, 0, none⟩ = some (.slice (some ⟨R6, 0, none⟩) ns'.length ns'.length) ∧ w'.cell? ⟨w6.heap.size, 1, none⟩ = some (.slice (some ⟨S6, 0, none⟩) st'.length st'.length) ∧ Below w.heap.size w w') (w6.alloc (.cells #[.slice (some ⟨R6, 0, none⟩) ns'.length ns'.length, .slice (some ⟨S6, 0, none⟩) st'.length st'.length] 27))) := by
    have h := (unhide HST).alloc ((unhide HST).1 _ _ hb6 (unhide HS5)) (.cells #[.slice (some ⟨R6, 0, none⟩) ns'.length ns'.length, .slice (some ⟨S6, 0, none⟩) st'.length st'.length] 27)
    have x := (box2 (box_below (box_below (unhide HX5) hb6) (below_alloc1 _ (.cells #[.slice (some ⟨R6, 0, none⟩) ns'.length ns'.length, .slice (some ⟨S6, 0, none⟩) st'.length st'.length] 27)))).1
    have y := (box2 (new_block w6 (.cells #[.slice (some ⟨R6, 0, none⟩) ns'.length ns'.length, .slice (some ⟨S6, 0, none⟩) st'.length st'.length] 27))).1
    exact ⟨h.1, h.2.1, h.2.2.1, h.2.2.2.1, ((unhide HR5).1.below hb6).below (below_alloc1 _ _), ((unhide HR5).2.below hb6).below (below_alloc1 _ _), hO6.row.below (below_alloc1 _ _), (hQ6.row (unhide HTZ')).below (below_alloc1 _ _), h.2.2.2.2.1, h.2.2.2.2.2.1, h.2.2.2.2.2.2.1, h.2.2.2.2.2.2.2.1, x.1, x.2, y.1, y.2, h.2.2.2.2.2.2.2.2⟩
  clear HS5 HR5 HX5 c0 c1 d0 d1 hb6 hO6 hQ6
  have hS6 := unhide HS6
  obtain ⟨_, _, _, _, _, _, _, _, c0, c1, d0, d1, x0, x1, y0, y1, _⟩ := hS6
  go_wp2_with fail
  refine (implLSame_any _ _ _ _ _ _ _ _ ns ns' st st' _ (Nat.le_refl _) (ml hnl) (Nat.le_refl _) (ml hstl) (Nat.le_refl _) (ml hnl') (Nat.le_refl _) (ml hstl') (q2 (unhide HS6)).1 (q2 (unhide HS6)).2 (q3 (unhide HS6)).1 (q3 (unhide HS6)).2).mono ?_
  rintro e w7 ⟨rfl, hb7⟩
  have hS7 := (unhide HST2).1 _ _ hb7 (unhide HS6)
  clear HS6 c0 c1 d0 d1 x0 x1 y0 y1 hb7
  go_wp2_with fail
  go_region_held3 (fun w' => NumRow w' na ns ∧ TextsRow w' sa st ∧ NumRow w' na' ns' ∧ TextsRow w' sa' st' ∧ NumRow w' (some ⟨R5, 0, none⟩) ns ∧ TextsRow w' (some ⟨S5, 0, none⟩) st ∧ NumRow w' (some ⟨R6, 0, none⟩) ns' ∧ TextsRow w' (some ⟨S6, 0, none⟩) st' ∧ w'.cell? ⟨w.heap.size, 0, none⟩ = some (.slice na ns.length nc) ∧ w'.cell? ⟨w.heap.size, 1, none⟩ = some (.slice sa st.length sc) ∧ w'.cell? ⟨(w.heap.size + 1), 0, none⟩ = some (.slice na' ns'.length nc') ∧ w'.cell? ⟨(w.heap.size + 1), 1, none⟩ = some (.slice sa' st'.length sc') ∧ w'.cell? ⟨w5.heap.size, 0, none⟩ = some (.slice (some ⟨R5, 0, none⟩) ns.length ns.length) ∧ w'.cell? ⟨w5.heap.size, 1, none⟩ = some (.slice (some ⟨S5, 0, none⟩) st.length st.length) ∧ w'.cell? ⟨w6.heap.size, 0, none⟩ = some (.slice (some ⟨R6, 0, none⟩) ns'.length ns'.length) ∧ w'.cell? ⟨w6.heap.size, 1, none⟩ = some (.slice (some ⟨S6, 0, none⟩) st'.length st'.length) ∧ Below w.heap.size w w') (first | assumption | (refine (unhide HST2).1 _ _ hbk ?_; assumption) | (refine (unhide HST2).2 _ ?_; assumption))
    (first | (go_at_call 27; refine (toLay_any na sa nc sc ns st _ hnl (unhide HFT) h1 h2 h3 h4 (q0 (by assumption)).1 (q0 (by assumption)).2).mono ?_; rintro e wk1 ⟨Rk, Sk, hRk, hSk, hEk, rfl, hOk, hQk, hbk⟩; clear hRk hSk hEk; have hO := OwnNums.row hOk; have hQ := OwnTexts.row hQk (unhide HTZ); clear hOk hQk) | (go_at_call 29; refine (eqLay_same _ _ _ _ _ _ _ _ ns st _ (Nat.le_refl _) (ml hnl) (Nat.le_refl _) (ml hstl) (q2 (by assumption)).1 (q2 (by assumption)).2 (by exact hO) (by exact hQ)).mono ?_; rintro e wk1 ⟨rfl, hbk⟩))
  have hS8 : (fun w' => NumRow w' na ns ∧ TextsRow w' sa st ∧ NumRow w' na' ns' ∧ TextsRow w' sa' st' ∧ NumRow w' (some ⟨R5, 0, none⟩) ns ∧ TextsRow w' (some ⟨S5, 0, none⟩) st ∧ NumRow w' (some ⟨R6, 0, none⟩) ns' ∧ TextsRow w' (some ⟨S6, 0, none⟩) st' ∧ w'.cell? ⟨w.heap.size, 0, none⟩ = some (.slice na ns.length nc) ∧ w'.cell? ⟨w.heap.size, 1, none⟩ = some (.slice sa st.length sc) ∧ w'.cell? ⟨(w.heap.size + 1), 0, none⟩ = some (.slice na' ns'.length nc') ∧ w'.cell? ⟨(w.heap.size + 1), 1, none⟩ = some (.slice sa' st'.length sc') ∧ w'.cell? ⟨w5.heap.size, 0, none⟩ = some (.slice (some ⟨R5, 0, none⟩) ns.length ns.length) ∧ w'.cell? ⟨w5.heap.size, 1, none⟩ = some (.slice (some ⟨S5, 0, none⟩) st.length st.length) ∧ w'.cell? ⟨w6.heap.size, 0, none⟩ = some (.slice (some ⟨R6, 0, none⟩) ns'.length ns'.length) ∧ w'.cell? ⟨w6.heap.size, 1, none⟩ = some (.slice (some ⟨S6, 0, none⟩) st'.length st'.length) ∧ Below w.heap.size w w') wk1 := by assumption
  clear hS7 hO hQ
  go_wp2_with fail
  go_region_held3 (fun w' => NumRow w' na ns ∧ TextsRow w' sa st ∧ NumRow w' na' ns' ∧ TextsRow w' sa' st' ∧ NumRow w' (some ⟨R5, 0, none⟩) ns ∧ TextsRow w' (some ⟨S5, 0, none⟩) st ∧ NumRow w' (some ⟨R6, 0, none⟩) ns' ∧ TextsRow w' (some ⟨S6, 0, none⟩) st' ∧ w'.cell? ⟨w.heap.size, 0, none⟩ = some (.slice na ns.length nc) ∧ w'.cell? ⟨w.heap.size, 1, none⟩ = some (.slice sa st.length sc) ∧ w'.cell? ⟨(w.heap.size + 1), 0, none⟩ = some (.slice na' ns'.length nc') ∧ w'.cell? ⟨(w.heap.size + 1), 1, none⟩ = some (.slice sa' st'.length sc') ∧ w'.cell? ⟨w5.heap.size, 0, none⟩ = some (.slice (some ⟨R5, 0, none⟩) ns.length ns.length) ∧ w'.cell? ⟨w5.heap.size, 1, none⟩ = some (.slice (some ⟨S5, 0, none⟩) st.length st.length) ∧ w'.cell? ⟨w6.heap.size, 0, none⟩ = some (.slice (some ⟨R6, 0, none⟩) ns'.length ns'.length) ∧ w'.cell? ⟨w6.heap.size, 1, none⟩ = some (.slice (some ⟨S6, 0, none⟩) st'.length st'.length) ∧ Below w.heap.size w w') (first | assumption | (refine (unhide HST2).1 _ _ hbk ?_; assumption) | (refine (unhide HST2).2 _ ?_; assumption))
    (first | (go_at_call 27; refine (toLay_any na' sa' nc' sc' ns' st' _ hnl' (unhide HFT') h1' h2' h3' h4' (q1 (by assumption)).1 (q1 (by assumption)).2).mono ?_; rintro e wk1 ⟨Rk, Sk, hRk, hSk, hEk, rfl, hOk, hQk, hbk⟩; clear hRk hSk hEk; have hO := OwnNums.row hOk; have hQ := OwnTexts.row hQk (unhide HTZ'); clear hOk hQk) | (go_at_call 29; refine (eqLay_same _ _ _ _ _ _ _ _ ns' st' _ (Nat.le_refl _) (ml hnl') (Nat.le_refl _) (ml hstl') (q3 (by assumption)).1 (q3 (by assumption)).2 (by exact hO) (by exact hQ)).mono ?_; rintro e wk1 ⟨rfl, hbk⟩))
  have hS9 : (fun w' => NumRow w' na ns ∧ TextsRow w' sa st ∧ NumRow w' na' ns' ∧ TextsRow w' sa' st' ∧ NumRow w' (some ⟨R5, 0, none⟩) ns ∧ TextsRow w' (some ⟨S5, 0, none⟩) st ∧ NumRow w' (some ⟨R6, 0, none⟩) ns' ∧ TextsRow w' (some ⟨S6, 0, none⟩) st' ∧ w'.cell? ⟨w.heap.size, 0, none⟩ = some (.slice na ns.length nc) ∧ w'.cell? ⟨w.heap.size, 1, none⟩ = some (.slice sa st.length sc) ∧ w'.cell? ⟨(w.heap.size + 1), 0, none⟩ = some (.slice na' ns'.length nc') ∧ w'.cell? ⟨(w.heap.size + 1), 1, none⟩ = some (.slice sa' st'.length sc') ∧ w'.cell? ⟨w5.heap.size, 0, none⟩ = some (.slice (some ⟨R5, 0, none⟩) ns.length ns.length) ∧ w'.cell? ⟨w5.heap.size, 1, none⟩ = some (.slice (some ⟨S5, 0, none⟩) st.length st.length) ∧ w'.cell? ⟨w6.heap.size, 0, none⟩ = some (.slice (some ⟨R6, 0, none⟩) ns'.length ns'.length) ∧ w'.cell? ⟨w6.heap.size, 1, none⟩ = some (.slice (some ⟨S6, 0, none⟩) st'.length st'.length) ∧ Below w.heap.size w w') wk1 := by assumption
  have hB9 := hS9.2.2.2.2.2.2.2.2.2.2.2.2.2.2.2.2
  clear hS8 hS9
  go_wp2_with fail
  go_ret
  exact ⟨rfl, hB9⟩

set_option maxRecDepth 100000 in
theorem lifted (os : Os) (started : os.Started) (H : Type) (enc : TypeId × Value → H) :
    ReturnsInHanded {} Try.checked os 7 .any (Rows.fnExactLaySameSpec.pre6 enc Try.prog Try.f7 Rows.fnExactLaySameRow.domain false) (Rows.fnExactLaySameSpec.post enc Try.prog Try.f7 false true false false) := by
  refine returnsInHanded_of_change (C := Try.checked) own started (by kernel_rfl) Try.func7
    (ChangeSpec.witness6 (enc := enc) (C := Try.checked) false ⟨#[], #[.agg #[.slice none 0 0, .slice none 0 0], .agg #[.slice none 0 0, .slice none 0 0]], []⟩ 8 (by kernel_rfl) (by kernel_rfl) (by kernel_rfl) (by kernel_rfl)) ?_
  intro W base args ds gs before hval0 hW hcnd _
  have hval : ∀ (j : Nat) t v, Try.f7.params[j]? = some t → args[j]? = some v → Value.okWide Try.prog W .any base t v := hval0
  have hW' := hW
  obtain ⟨p, q, hA0, hV, rfl, hfz, hnd⟩ := hW
  have hA : DataW.TrodAll enc Try.prog W 0 (fun _ => true) true Try.f7.params.toList args.toList ds p := hA0
  rw [Try.params7] at hA hval
  obtain ⟨v0, vs0, d0, ds0, p0, q0, hargs, rfl, rfl, h0, r0⟩ := trodAll_cons hA
  obtain ⟨v1, vs1, d1, ds1, p1, q1, rfl, rfl, rfl, h1, r1⟩ := trodAll_cons r0
  obtain ⟨rfl, rfl, rfl⟩ := trodAll_nil r1
  obtain rfl : args = #[v0, v1] := by cases args; simp_all
  obtain ⟨rfl, rfl⟩ := trodVars_none hV
  have k0 := h0
  have lt0 : ∀ x ∈ p0, x.block < W.heap.size := by obtain ⟨m, hm⟩ := k0; exact DataW.trod_lt m _ _ _ hm
  obtain ⟨na0, sa0, nc0, sc0, ns0, st0, hv0, hl0, hm0, hn0, hk0, hs0, ho0⟩ := lay_of (hval 0 45 v0 rfl rfl) h0
  have k1 := h1
  have lt1 : ∀ x ∈ p1, x.block < W.heap.size := by obtain ⟨m, hm⟩ := k1; exact DataW.trod_lt m _ _ _ hm
  obtain ⟨na1, sa1, nc1, sc1, ns1, st1, hv1, hl1, hm1, hn1, hk1, hs1, ho1⟩ := lay_of (hval 1 45 v1 rfl rfl) h1
  clear hA0 hval0
  subst hv0 hv1
  refine (walk na0 sa0 nc0 sc0 ns0 st0 hl0 hm0 hn0 hk0 na1 sa1 nc1 sc1 ns1 st1 hl1 hm1 hn1 hk1 W hs0 ho0 hs1 ho1).mono fun e W' ⟨he, bel⟩ => ?_
  subst he
  exact ⟨_, rfl, _, _, _, [], _, [], hW', trodAll_mk1 (shut_bool Try.underlying4 _), (trodAll_cons_mk (Below.trod laidOut (by kernel_rfl) (of_decide_eq_true (by kernel_rfl)) k0 bel lt0) (trodAll_cons_mk (Below.trod laidOut (by kernel_rfl) (of_decide_eq_true (by kernel_rfl)) k1 bel lt1) trodAll_mk0)), rfl, bel.frame _, fun h => by cases h⟩

theorem proved : Rows.FnExactLaySameSaid :=
  OpenClaim.holds_of_wide 7 Try.f7 rfl rfl rfl rfl rfl rfl rfl ⟨rfl, rfl, rfl, rfl, rfl⟩ rfl rfl rfl rfl rfl (by kernel_rfl) Try.func7 (by kernel_rfl)
    (of_decide_eq_true (by kernel_rfl)) (by unfold Func.isWrapper; first | (rw [if_pos (by decide +kernel)]; kernel_rfl) | (rw [if_neg (by decide +kernel)]; exact ⟨rfl, rfl⟩))
    (fun os started H enc _ => lifted os started H enc)
#print axioms proved
end Go.Proofs.Ytenkalflflkffaa.fnExactLaySame
