/- For every two functions the exact law of FunSame answers true, and both read afterwards as they did. No condition. -/
import Derived.Test.YtdiaepjchcmelarBase
import Derived.WalkKit
import Derived.ProofKit
import Derived.OpenShut
import Derived.ShutString
import Derived.ChangeOld
import Derived.Below
import Derived.Lib.SmallJoins
import Derived.Test.YtdiaepjchcmelarFuns
import Derived.Test.YtdiaepjchcmelarOpen
import Derived.Test.YtdiaepjchcmelarKeep
import Derived.Test.YtdiaepjchcmelarSame
namespace Go.Proofs.Ytdiaepjchcmelar.fnExactFunSame
open Go.ChangeShapes Go.WideShapes Go.ChangeAt Go.RowKit Go.Joins
open Go.ChangeMaps (open_string shut_string)
open Go.Proofs.Ytdiaepjchcmelar.Base
open Go.Proofs.Ytdiaepjchcmelar.Funs
open Go.Proofs.Ytdiaepjchcmelar.Open
open Go.Proofs.Ytdiaepjchcmelar.Keep
open Go.Proofs.Ytdiaepjchcmelar.Same
set_option linter.unusedVariables false
theorem own : ownKnob Try.prog.godebug = none := by kernel_rfl
theorem laidOut : laidOutB Try.prog = true := by kernel_rfl

set_option maxHeartbeats 4000000 in
theorem walk (nm : ByteArray) (wk : Bool) (a : Option Addr) (cap : Nat) (xs : List InsD) (hnm : nm.size ≤ maxLen) (hl : xs.length ≤ cap) (hm : cap ≤ maxLen) (nm' : ByteArray) (wk' : Bool) (a' : Option Addr) (cap' : Nat) (ys : List InsD) (hnm' : nm'.size ≤ maxLen) (hl' : ys.length ≤ cap') (hm' : cap' ≤ maxLen) (w : World) (hr : InsRow w a xs) (hr' : InsRow w a' ys) :
    Calls Try.prog 5 #[.agg #[.string nm, .bool wk, .slice a xs.length cap], .agg #[.string nm', .bool wk', .slice a' ys.length cap']] w fun e w' => e = .returned (.bool true) ∧ Below w.heap.size w w' := by
  have HST : Hid (Stable (fun w' => InsRow w' a xs ∧ InsRow w' a' ys ∧ w'.cell? ⟨w.heap.size, 0, none⟩ = some (.string nm) ∧ w'.cell? ⟨w.heap.size, 1, none⟩ = some (.bool wk) ∧ w'.cell? ⟨w.heap.size, 2, none⟩ = some (.slice a xs.length cap) ∧ w'.cell? ⟨(w.heap.size + 1), 0, none⟩ = some (.string nm') ∧ w'.cell? ⟨(w.heap.size + 1), 1, none⟩ = some (.bool wk') ∧ w'.cell? ⟨(w.heap.size + 1), 2, none⟩ = some (.slice a' ys.length cap') ∧ Below w.heap.size w w')) := (Stable.row a xs).and ((Stable.row a' ys).and ((Stable.cell ⟨w.heap.size, 0, none⟩ (.string nm)).and ((Stable.cell ⟨w.heap.size, 1, none⟩ (.bool wk)).and ((Stable.cell ⟨w.heap.size, 2, none⟩ (.slice a xs.length cap)).and ((Stable.cell ⟨(w.heap.size + 1), 0, none⟩ (.string nm')).and ((Stable.cell ⟨(w.heap.size + 1), 1, none⟩ (.bool wk')).and ((Stable.cell ⟨(w.heap.size + 1), 2, none⟩ (.slice a' ys.length cap')).and (Stable.below w))))))))
  have HS0 : Hid ((fun w' => InsRow w' a xs ∧ InsRow w' a' ys ∧ w'.cell? ⟨w.heap.size, 0, none⟩ = some (.string nm) ∧ w'.cell? ⟨w.heap.size, 1, none⟩ = some (.bool wk) ∧ w'.cell? ⟨w.heap.size, 2, none⟩ = some (.slice a xs.length cap) ∧ w'.cell? ⟨(w.heap.size + 1), 0, none⟩ = some (.string nm') ∧ w'.cell? ⟨(w.heap.size + 1), 1, none⟩ = some (.bool wk') ∧ w'.cell? ⟨(w.heap.size + 1), 2, none⟩ = some (.slice a' ys.length cap') ∧ Below w.heap.size w w') ((w.alloc (.cells #[.string nm, .bool wk, .slice a xs.length cap] 26)).alloc (.cells #[.string nm', .bool wk', .slice a' ys.length cap'] 26))) := by
    have n1 := box3 (box_below (new_block w (.cells #[.string nm, .bool wk, .slice a xs.length cap] 26)) (below_alloc1 _ (.cells #[.string nm', .bool wk', .slice a' ys.length cap'] 26)))
    have n2 := box3 (new_block (w.alloc (.cells #[.string nm, .bool wk, .slice a xs.length cap] 26)) (.cells #[.string nm', .bool wk', .slice a' ys.length cap'] 26))
    simp only [World.size_alloc] at n2
    exact ⟨hr.below (below_alloc2 _ _ _), hr'.below (below_alloc2 _ _ _), n1.1.1, n1.1.2.1, n1.1.2.2, n2.1.1, n2.1.2.1, n2.1.2.2, below_alloc2 _ _ _⟩
  have HZ := hide (And.intro hr.sizes hr'.sizes)
  clear hr hr'
  by_cases hz : szF nm xs 1048576 < 0
  · go_enter Try.func5, Try.ntmps5
    go_wp2_with fail
    refine (szFun_any _ _ _ _ _ _ _ (by omega) (by omega) hnm hl hm (unhide HS0).1).mono ?_
    rintro e w1 ⟨rfl, hb1⟩
    go_wp2_with fail
    go_ret
    exact ⟨rfl, bl_trans (below_alloc2 _ _ _) hb1⟩
  have hz0 : 0 ≤ szF nm xs 1048576 := by omega
  have hz1 : szF nm xs 1048576 ≤ 1048576 := szF_bd nm xs (by omega) (by omega)
  have hlen : xs.length ≤ 1048576 := szF_len (nm := nm) hz0
  go_enter Try.func5, Try.ntmps5
  go_wp2_with fail
  refine (szFun_any _ _ _ _ _ _ _ (by omega) (by omega) hnm hl hm (unhide HS0).1).mono ?_
  rintro e w1 ⟨rfl, hb1⟩
  have hS1 := (unhide HST).1 _ _ hb1 (unhide HS0)
  clear hb1 HS0
  have HS1 := hide hS1
  obtain ⟨_, _, c0, c1, c2, d0, d1, d2, _⟩ := hS1
  generalize szF nm xs 1048576 = z at *
  by_cases hy : szF nm' ys z < 0
  · go_wp2_with fail
    refine (szFun_any _ _ _ _ _ _ _ (by omega) (by omega) hnm' hl' hm' (unhide HS1).2.1).mono ?_
    rintro e w2 ⟨rfl, hb2⟩
    have hB2 := bl_trans (unhide HS1).2.2.2.2.2.2.2.2 hb2
    clear c0 c1 c2 d0 d1 d2
    go_wp2_with fail
    go_ret
    exact ⟨rfl, hB2⟩
  have hlen' : ys.length ≤ 1048576 := szF_len' (nm := nm') (l := z) hz1 (by omega)
  go_wp2_with fail
  refine (szFun_any _ _ _ _ _ _ _ (by omega) (by omega) hnm' hl' hm' (unhide HS1).2.1).mono ?_
  rintro e w2 ⟨rfl, hb2⟩
  have hS2 := (unhide HST).1 _ _ hb2 (unhide HS1)
  clear hb2 HS1 c0 c1 c2 d0 d1 d2
  generalize szF nm' ys z = z2 at *
  go_wp2_with fail
  go_region_held3 (fun w' => InsRow w' a xs ∧ InsRow w' a' ys ∧ w'.cell? ⟨w.heap.size, 0, none⟩ = some (.string nm) ∧ w'.cell? ⟨w.heap.size, 1, none⟩ = some (.bool wk) ∧ w'.cell? ⟨w.heap.size, 2, none⟩ = some (.slice a xs.length cap) ∧ w'.cell? ⟨(w.heap.size + 1), 0, none⟩ = some (.string nm') ∧ w'.cell? ⟨(w.heap.size + 1), 1, none⟩ = some (.bool wk') ∧ w'.cell? ⟨(w.heap.size + 1), 2, none⟩ = some (.slice a' ys.length cap') ∧ Below w.heap.size w w') (first | assumption | (refine (unhide HST).1 _ _ hbk ?_; assumption) | (refine (unhide HST).2 _ ?_; assumption))
    (first | (go_at_call 13; refine (toFun_any _ _ _ _ _ _ (by first | exact hlen | exact hlen') (by first | exact hl | exact hl') (by first | exact hm | exact hm') (by first | (apply s0; assumption) | (apply s1; assumption))).mono ?_; rintro e wk1 ⟨Rk, hRk, rfl, hOk, hbk⟩; first | (have hO1 := hOk.row (xs := xs) (unhide HZ).1; try replace hO2 := InsRow.below (l := ys) (by exact hO2) hbk) | (have hO2 := hOk.row (xs := ys) (unhide HZ).2; try replace hO1 := InsRow.below (l := xs) (by exact hO1) hbk)) | (go_at_call 16; refine (specSame_any _ _ _ _ _ _ _ _ xs ys _ (Nat.le_refl _) (by unfold maxLen; omega) (Nat.le_refl _) (by unfold maxLen; omega) (by exact hO1) (by exact hO2)).mono ?_; rintro e wk1 ⟨rfl, hbk⟩))
  have hS3 : (fun w' => InsRow w' a xs ∧ InsRow w' a' ys ∧ w'.cell? ⟨w.heap.size, 0, none⟩ = some (.string nm) ∧ w'.cell? ⟨w.heap.size, 1, none⟩ = some (.bool wk) ∧ w'.cell? ⟨w.heap.size, 2, none⟩ = some (.slice a xs.length cap) ∧ w'.cell? ⟨(w.heap.size + 1), 0, none⟩ = some (.string nm') ∧ w'.cell? ⟨(w.heap.size + 1), 1, none⟩ = some (.bool wk') ∧ w'.cell? ⟨(w.heap.size + 1), 2, none⟩ = some (.slice a' ys.length cap') ∧ Below w.heap.size w w') wk1 := by assumption
  clear hS2
  try clear hO1 hO2
  have HS3 := hide hS3
  obtain ⟨_, _, c0, c1, c2, d0, d1, d2, _⟩ := hS3
  go_wp2_with fail
  refine (toFun_any nm wk a cap xs _ hlen hl hm (unhide HS3).1).mono ?_
  rintro e w4 ⟨R4, hR4, rfl, hO4, hb4⟩
  have hS4 := (unhide HST).alloc ((unhide HST).1 _ _ hb4 (unhide HS3)) (.cells #[.string nm, .bool wk, .slice (some ⟨R4, 0, none⟩) xs.length xs.length] 31)
  have HR4 := hide ((hO4.row (unhide HZ).1).below (below_alloc1 _ (.cells #[.string nm, .bool wk, .slice (some ⟨R4, 0, none⟩) xs.length xs.length] 31)))
  have HX4 := hide (new_block w4 (.cells #[.string nm, .bool wk, .slice (some ⟨R4, 0, none⟩) xs.length xs.length] 31))
  have HS4 := hide hS4
  clear HS3 c0 c1 c2 d0 d1 d2 hb4 hO4
  obtain ⟨_, _, c0, c1, c2, d0, d1, d2, _⟩ := hS4
  go_wp2_with fail
  refine (toFun_any nm' wk' a' cap' ys _ hlen' hl' hm' (unhide HS4).2.1).mono ?_
  rintro e w5 ⟨R5, hR5, rfl, hO5, hb5⟩
  have HST2 : Hid (Stable (fun w' => InsRow w' a xs ∧ InsRow w' a' ys ∧ InsRow w' (some ⟨R4, 0, none⟩) xs ∧ InsRow w' (some ⟨R5, 0, none⟩) ys ∧ w'.cell? ⟨w.heap.size, 0, none⟩ = some (.string nm) ∧ w'.cell? ⟨w.heap.size, 1, none⟩ = some (.bool wk) ∧ w'.cell? ⟨w.heap.size, 2, none⟩ = some (.slice a xs.length cap) ∧ w'.cell? ⟨(w.heap.size + 1), 0, none⟩ = some (.string nm') ∧ w'.cell? ⟨(w.heap.size + 1), 1, none⟩ = some (.bool wk') ∧ w'.cell? ⟨(w.heap.size + 1), 2, none⟩ = some (.slice a' ys.length cap') ∧ w'.cell? ⟨w4.heap.size, 0, none⟩ = some (.string nm) ∧ w'.cell? ⟨w4.heap.size, 1, none⟩ = some (.bool wk) ∧ w'.cell? ⟨w4.heap.size, 2, none⟩ = some (.slice (some ⟨R4, 0, none⟩) xs.length xs.length) ∧ w'.cell? ⟨w5.heap.size, 0, none⟩ = some (.string nm') ∧ w'.cell? ⟨w5.heap.size, 1, none⟩ = some (.bool wk') ∧ w'.cell? ⟨w5.heap.size, 2, none⟩ = some (.slice (some ⟨R5, 0, none⟩) ys.length ys.length) ∧ Below w.heap.size w w')) := (Stable.row a xs).and ((Stable.row a' ys).and ((Stable.row (some ⟨R4, 0, none⟩) xs).and ((Stable.row (some ⟨R5, 0, none⟩) ys).and ((Stable.cell ⟨w.heap.size, 0, none⟩ (.string nm)).and ((Stable.cell ⟨w.heap.size, 1, none⟩ (.bool wk)).and ((Stable.cell ⟨w.heap.size, 2, none⟩ (.slice a xs.length cap)).and ((Stable.cell ⟨(w.heap.size + 1), 0, none⟩ (.string nm')).and ((Stable.cell ⟨(w.heap.size + 1), 1, none⟩ (.bool wk')).and ((Stable.cell ⟨(w.heap.size + 1), 2, none⟩ (.slice a' ys.length cap')).and ((Stable.cell ⟨w4.heap.size, 0, none⟩ (.string nm)).and ((Stable.cell ⟨w4.heap.size, 1, none⟩ (.bool wk)).and ((Stable.cell ⟨w4.heap.size, 2, none⟩ (.slice (some ⟨R4, 0, none⟩) xs.length xs.length)).and ((Stable.cell ⟨w5.heap.size, 0, none⟩ (.string nm')).and ((Stable.cell ⟨w5.heap.size, 1, none⟩ (.bool wk')).and ((Stable.cell ⟨w5.heap.size, 2, none⟩ (.slice (some ⟨R5, 0, none⟩) ys.length ys.length)).and (Stable.below w))))))))))))))))
  have HS5 : Hid ((fun w' => InsRow w' a xs ∧ InsRow w' a' ys ∧ InsRow w' (some ⟨R4, 0, none⟩) xs ∧ InsRow w' (some ⟨R5, 0, none⟩) ys ∧ w'.cell? ⟨w.heap.size, 0, none⟩ = some (.string nm) ∧ w'.cell? ⟨w.heap.size, 1, none⟩ = some (.bool wk) ∧ w'.cell? ⟨w.heap.size, 2, none⟩ = some (.slice a xs.length cap) ∧ w'.cell? ⟨(w.heap.size + 1), 0, none⟩ = some (.string nm') ∧ w'.cell? ⟨(w.heap.size + 1), 1, none⟩ = some (.bool wk') ∧ w'.cell? ⟨(w.heap.size + 1), 2, none⟩ = some (.slice a' ys.length cap') ∧ w'.cell? ⟨w4.heap.size, 0, none⟩ = some (.string nm) ∧ w'.cell? ⟨w4.heap.size, 1, none⟩ = some (.bool wk) ∧ w'.cell? ⟨w4.heap.size, 2, none⟩ = some (.slice (some ⟨R4, 0, none⟩) xs.length xs.length) ∧ w'.cell? ⟨w5.heap.size, 0, none⟩ = some (.string nm') ∧ w'.cell? ⟨w5.heap.size, 1, none⟩ = some (.bool wk') ∧ w'.cell? ⟨w5.heap.size, 2, none⟩ = some (.slice (some ⟨R5, 0, none⟩) ys.length ys.length) ∧ Below w.heap.size w w') (w5.alloc (.cells #[.string nm', .bool wk', .slice (some ⟨R5, 0, none⟩) ys.length ys.length] 31))) := by
    have h := (unhide HST).alloc ((unhide HST).1 _ _ hb5 (unhide HS4)) (.cells #[.string nm', .bool wk', .slice (some ⟨R5, 0, none⟩) ys.length ys.length] 31)
    have x := box3 (box_below (box_below (unhide HX4) hb5) (below_alloc1 _ (.cells #[.string nm', .bool wk', .slice (some ⟨R5, 0, none⟩) ys.length ys.length] 31)))
    have y := box3 (new_block w5 (.cells #[.string nm', .bool wk', .slice (some ⟨R5, 0, none⟩) ys.length ys.length] 31))
    exact ⟨h.1, h.2.1, ((unhide HR4).below hb5).below (below_alloc1 _ _), (hO5.row (unhide HZ).2).below (below_alloc1 _ _), h.2.2.1, h.2.2.2.1, h.2.2.2.2.1, h.2.2.2.2.2.1, h.2.2.2.2.2.2.1, h.2.2.2.2.2.2.2.1, x.1.1, x.1.2.1, x.1.2.2, y.1.1, y.1.2.1, y.1.2.2, h.2.2.2.2.2.2.2.2⟩
  clear HS4 HR4 HX4 c0 c1 c2 d0 d1 d2 hb5 hO5
  have hS5 := unhide HS5
  obtain ⟨_, _, _, _, c0, c1, c2, d0, d1, d2, x0, x1, x2, y0, y1, y2, _⟩ := hS5
  go_wp2_with fail
  refine (implSame_any nm nm' wk wk' _ _ _ _ xs ys _ (Nat.le_refl _) (by unfold maxLen; omega) (Nat.le_refl _) (by unfold maxLen; omega) (unhide HS5).2.2.1 (unhide HS5).2.2.2.1).mono ?_
  rintro e w6 ⟨rfl, hb6⟩
  have hS6 := (unhide HST2).1 _ _ hb6 (unhide HS5)
  clear HS5 c0 c1 c2 d0 d1 d2 x0 x1 x2 y0 y1 y2 hb6
  go_wp2_with fail
  go_region_held3 (fun w' => InsRow w' a xs ∧ InsRow w' a' ys ∧ InsRow w' (some ⟨R4, 0, none⟩) xs ∧ InsRow w' (some ⟨R5, 0, none⟩) ys ∧ w'.cell? ⟨w.heap.size, 0, none⟩ = some (.string nm) ∧ w'.cell? ⟨w.heap.size, 1, none⟩ = some (.bool wk) ∧ w'.cell? ⟨w.heap.size, 2, none⟩ = some (.slice a xs.length cap) ∧ w'.cell? ⟨(w.heap.size + 1), 0, none⟩ = some (.string nm') ∧ w'.cell? ⟨(w.heap.size + 1), 1, none⟩ = some (.bool wk') ∧ w'.cell? ⟨(w.heap.size + 1), 2, none⟩ = some (.slice a' ys.length cap') ∧ w'.cell? ⟨w4.heap.size, 0, none⟩ = some (.string nm) ∧ w'.cell? ⟨w4.heap.size, 1, none⟩ = some (.bool wk) ∧ w'.cell? ⟨w4.heap.size, 2, none⟩ = some (.slice (some ⟨R4, 0, none⟩) xs.length xs.length) ∧ w'.cell? ⟨w5.heap.size, 0, none⟩ = some (.string nm') ∧ w'.cell? ⟨w5.heap.size, 1, none⟩ = some (.bool wk') ∧ w'.cell? ⟨w5.heap.size, 2, none⟩ = some (.slice (some ⟨R5, 0, none⟩) ys.length ys.length) ∧ Below w.heap.size w w') (first | assumption | (refine (unhide HST2).1 _ _ hbk ?_; assumption) | (refine (unhide HST2).2 _ ?_; assumption))
    (first | (go_at_call 13; refine (toFun_any nm wk a cap xs _ hlen hl hm (by apply s0; assumption)).mono ?_; rintro e wk1 ⟨Rk, hRk, rfl, hOk, hbk⟩; have hO := hOk.row (xs := xs) (unhide HZ).1) | (go_at_call 15; refine (eqFun_same nm wk _ _ _ _ xs _ (Nat.le_refl _) (by unfold maxLen; omega) (by apply s2; assumption) (by exact hO)).mono ?_; rintro e wk1 ⟨rfl, hbk⟩))
  have hS7 : (fun w' => InsRow w' a xs ∧ InsRow w' a' ys ∧ InsRow w' (some ⟨R4, 0, none⟩) xs ∧ InsRow w' (some ⟨R5, 0, none⟩) ys ∧ w'.cell? ⟨w.heap.size, 0, none⟩ = some (.string nm) ∧ w'.cell? ⟨w.heap.size, 1, none⟩ = some (.bool wk) ∧ w'.cell? ⟨w.heap.size, 2, none⟩ = some (.slice a xs.length cap) ∧ w'.cell? ⟨(w.heap.size + 1), 0, none⟩ = some (.string nm') ∧ w'.cell? ⟨(w.heap.size + 1), 1, none⟩ = some (.bool wk') ∧ w'.cell? ⟨(w.heap.size + 1), 2, none⟩ = some (.slice a' ys.length cap') ∧ w'.cell? ⟨w4.heap.size, 0, none⟩ = some (.string nm) ∧ w'.cell? ⟨w4.heap.size, 1, none⟩ = some (.bool wk) ∧ w'.cell? ⟨w4.heap.size, 2, none⟩ = some (.slice (some ⟨R4, 0, none⟩) xs.length xs.length) ∧ w'.cell? ⟨w5.heap.size, 0, none⟩ = some (.string nm') ∧ w'.cell? ⟨w5.heap.size, 1, none⟩ = some (.bool wk') ∧ w'.cell? ⟨w5.heap.size, 2, none⟩ = some (.slice (some ⟨R5, 0, none⟩) ys.length ys.length) ∧ Below w.heap.size w w') wk1 := by assumption
  clear hS6 hO
  go_wp2_with fail
  go_region_held3 (fun w' => InsRow w' a xs ∧ InsRow w' a' ys ∧ InsRow w' (some ⟨R4, 0, none⟩) xs ∧ InsRow w' (some ⟨R5, 0, none⟩) ys ∧ w'.cell? ⟨w.heap.size, 0, none⟩ = some (.string nm) ∧ w'.cell? ⟨w.heap.size, 1, none⟩ = some (.bool wk) ∧ w'.cell? ⟨w.heap.size, 2, none⟩ = some (.slice a xs.length cap) ∧ w'.cell? ⟨(w.heap.size + 1), 0, none⟩ = some (.string nm') ∧ w'.cell? ⟨(w.heap.size + 1), 1, none⟩ = some (.bool wk') ∧ w'.cell? ⟨(w.heap.size + 1), 2, none⟩ = some (.slice a' ys.length cap') ∧ w'.cell? ⟨w4.heap.size, 0, none⟩ = some (.string nm) ∧ w'.cell? ⟨w4.heap.size, 1, none⟩ = some (.bool wk) ∧ w'.cell? ⟨w4.heap.size, 2, none⟩ = some (.slice (some ⟨R4, 0, none⟩) xs.length xs.length) ∧ w'.cell? ⟨w5.heap.size, 0, none⟩ = some (.string nm') ∧ w'.cell? ⟨w5.heap.size, 1, none⟩ = some (.bool wk') ∧ w'.cell? ⟨w5.heap.size, 2, none⟩ = some (.slice (some ⟨R5, 0, none⟩) ys.length ys.length) ∧ Below w.heap.size w w') (first | assumption | (refine (unhide HST2).1 _ _ hbk ?_; assumption) | (refine (unhide HST2).2 _ ?_; assumption))
    (first | (go_at_call 13; refine (toFun_any nm' wk' a' cap' ys _ hlen' hl' hm' (by apply s1; assumption)).mono ?_; rintro e wk1 ⟨Rk, hRk, rfl, hOk, hbk⟩; have hO := hOk.row (xs := ys) (unhide HZ).2) | (go_at_call 15; refine (eqFun_same nm' wk' _ _ _ _ ys _ (Nat.le_refl _) (by unfold maxLen; omega) (by apply s3; assumption) (by exact hO)).mono ?_; rintro e wk1 ⟨rfl, hbk⟩))
  have hS8 : (fun w' => InsRow w' a xs ∧ InsRow w' a' ys ∧ InsRow w' (some ⟨R4, 0, none⟩) xs ∧ InsRow w' (some ⟨R5, 0, none⟩) ys ∧ w'.cell? ⟨w.heap.size, 0, none⟩ = some (.string nm) ∧ w'.cell? ⟨w.heap.size, 1, none⟩ = some (.bool wk) ∧ w'.cell? ⟨w.heap.size, 2, none⟩ = some (.slice a xs.length cap) ∧ w'.cell? ⟨(w.heap.size + 1), 0, none⟩ = some (.string nm') ∧ w'.cell? ⟨(w.heap.size + 1), 1, none⟩ = some (.bool wk') ∧ w'.cell? ⟨(w.heap.size + 1), 2, none⟩ = some (.slice a' ys.length cap') ∧ w'.cell? ⟨w4.heap.size, 0, none⟩ = some (.string nm) ∧ w'.cell? ⟨w4.heap.size, 1, none⟩ = some (.bool wk) ∧ w'.cell? ⟨w4.heap.size, 2, none⟩ = some (.slice (some ⟨R4, 0, none⟩) xs.length xs.length) ∧ w'.cell? ⟨w5.heap.size, 0, none⟩ = some (.string nm') ∧ w'.cell? ⟨w5.heap.size, 1, none⟩ = some (.bool wk') ∧ w'.cell? ⟨w5.heap.size, 2, none⟩ = some (.slice (some ⟨R5, 0, none⟩) ys.length ys.length) ∧ Below w.heap.size w w') wk1 := by assumption
  have hB8 := hS8.2.2.2.2.2.2.2.2.2.2.2.2.2.2.2.2
  clear hS7 hS8
  go_wp2_with fail
  go_ret
  exact ⟨rfl, hB8⟩

set_option maxRecDepth 100000 in
theorem lifted (os : Os) (started : os.Started) (H : Type) (enc : TypeId × Value → H) :
    ReturnsInHanded {} Try.checked os 5 .any (Rows.fnExactFunSameSpec.pre6 enc Try.prog Try.f5 Rows.fnExactFunSameRow.domain false) (Rows.fnExactFunSameSpec.post enc Try.prog Try.f5 false true false false) := by
  refine returnsInHanded_of_change (C := Try.checked) own started (by kernel_rfl) Try.func5
    (ChangeSpec.witness6 (enc := enc) (C := Try.checked) false ⟨#[], #[.agg #[.string ByteArray.empty, .bool false, .slice none 0 0], .agg #[.string ByteArray.empty, .bool false, .slice none 0 0]], []⟩ 8 (by kernel_rfl) (by kernel_rfl) (by kernel_rfl) (by kernel_rfl)) ?_
  intro W base args ds gs before hval0 hW hcnd _
  have hval : ∀ (j : Nat) t v, Try.f5.params[j]? = some t → args[j]? = some v → Value.okWide Try.prog W .any base t v := hval0
  have hW' := hW
  obtain ⟨p, q, hA0, hV, rfl, hfz, hnd⟩ := hW
  have hA : DataW.TrodAll enc Try.prog W 0 (fun _ => true) true Try.f5.params.toList args.toList ds p := hA0
  rw [Try.params5] at hA hval
  obtain ⟨v0, vs0, d0, ds0, p0, q0, hargs, rfl, rfl, h0, r0⟩ := trodAll_cons hA
  obtain ⟨v1, vs1, d1, ds1, p1, q1, rfl, rfl, rfl, h1, r1⟩ := trodAll_cons r0
  obtain ⟨rfl, rfl, rfl⟩ := trodAll_nil r1
  obtain rfl : args = #[v0, v1] := by cases args; simp_all
  obtain ⟨rfl, rfl⟩ := trodVars_none hV
  have k0 := h0
  have lt0 : ∀ x ∈ p0, x.block < W.heap.size := by obtain ⟨m, hm⟩ := k0; exact DataW.trod_lt m _ _ _ hm
  obtain ⟨nm0, wk0, a0, cap0, xs0, hv0, hnm0, hl0, hm0, hr0⟩ := fun_of (hval 0 26 v0 rfl rfl) h0
  have k1 := h1
  have lt1 : ∀ x ∈ p1, x.block < W.heap.size := by obtain ⟨m, hm⟩ := k1; exact DataW.trod_lt m _ _ _ hm
  obtain ⟨nm1, wk1, a1, cap1, xs1, hv1, hnm1, hl1, hm1, hr1⟩ := fun_of (hval 1 26 v1 rfl rfl) h1
  clear hA0 hval0
  subst hv0 hv1
  refine (walk nm0 wk0 a0 cap0 xs0 hnm0 hl0 hm0 nm1 wk1 a1 cap1 xs1 hnm1 hl1 hm1 W hr0 hr1).mono fun e W' ⟨he, bel⟩ => ?_
  subst he
  exact ⟨_, rfl, _, _, _, [], _, [], hW', trodAll_mk1 (shut_bool Try.underlying4 _), (trodAll_cons_mk (Below.trod laidOut (by kernel_rfl) (of_decide_eq_true (by kernel_rfl)) k0 bel lt0) (trodAll_cons_mk (Below.trod laidOut (by kernel_rfl) (of_decide_eq_true (by kernel_rfl)) k1 bel lt1) trodAll_mk0)), rfl, bel.frame _, fun h => by cases h⟩

theorem proved : Rows.FnExactFunSameSaid :=
  OpenClaim.holds_of_wide 5 Try.f5 rfl rfl rfl rfl rfl rfl rfl ⟨rfl, rfl, rfl, rfl, rfl⟩ rfl rfl rfl rfl rfl (by kernel_rfl) Try.func5 (by kernel_rfl)
    (of_decide_eq_true (by kernel_rfl)) (by unfold Func.isWrapper; first | (rw [if_pos (by decide +kernel)]; kernel_rfl) | (rw [if_neg (by decide +kernel)]; exact ⟨rfl, rfl⟩))
    (fun os started H enc _ => lifted os started H enc)
#print axioms proved
end Go.Proofs.Ytdiaepjchcmelar.fnExactFunSame
