/- For every function and two names the exact law of FoldName answers true, and the function reads afterwards as it did. No condition. -/
import Derived.Test.YthbbmookhcalkaaBase
import Derived.WalkKit
import Derived.ProofKit
import Derived.OpenShut
import Derived.ShutString
import Derived.ChangeOld
import Derived.Below
import Derived.Lib.SmallJoins
import Derived.Deep.Cut
import Derived.Deep.RegionHeld3
import Derived.Test.YthbbmookhcalkaaFuns
import Derived.Test.YthbbmookhcalkaaOpen
import Derived.Test.YthbbmookhcalkaaKeep
import Derived.Test.YthbbmookhcalkaaMark
import Derived.Test.YthbbmookhcalkaaKeepC
import Derived.Test.YthbbmookhcalkaaMarkV
import Derived.Test.YthbbmookhcalkaaFunS
import Derived.Test.YthbbmookhcalkaaFoldR
import Derived.Test.YthbbmookhcalkaaFoldN
namespace Go.Proofs.Ythbbmookhcalkaa.fnExactFoldName
open Go.ChangeShapes Go.WideShapes Go.ChangeAt Go.RowKit Go.Joins
open Go.ChangeMaps (open_string shut_string)
open Go.Proofs.Ythbbmookhcalkaa.Base
open Go.Proofs.Ythbbmookhcalkaa.Funs
open Go.Proofs.Ythbbmookhcalkaa.Open
open Go.Proofs.Ythbbmookhcalkaa.Keep
open Go.Proofs.Ythbbmookhcalkaa.Mark
open Go.Proofs.Ythbbmookhcalkaa.KeepC
open Go.Proofs.Ythbbmookhcalkaa.MarkV
open Go.Proofs.Ythbbmookhcalkaa.FunS
open Go.Proofs.Ythbbmookhcalkaa.FoldR
open Go.Proofs.Ythbbmookhcalkaa.FoldN
set_option linter.unusedVariables false
set_option maxRecDepth 100000
theorem own : ownKnob Try.prog.godebug = none := by kernel_rfl
theorem laidOut : laidOutB Try.prog = true := by kernel_rfl

set_option maxHeartbeats 8000000 in
theorem walk (nm : ByteArray) (wk : Bool) (a : Option Addr) (cap : Nat) (xs : List InsD) (hnm : nm.size ≤ maxLen) (hl : xs.length ≤ cap) (hm : cap ≤ maxLen) (s : ByteArray) (hs : s.size ≤ maxLen) (t : ByteArray) (ht : t.size ≤ maxLen) (w : World) (hr : InsRow w a xs) :
    Calls Try.prog 3 #[.agg #[.string nm, .bool wk, .slice a xs.length cap], .string s, .string t] w fun e w' => e = .returned (.bool true) ∧ Below w.heap.size w w' := by
  have HR0 := hide hr
  have HZ := hide hr.sizes
  have hB0 := below_alloc1 w (.cells #[.string nm, .bool wk, .slice a xs.length cap] 24)
  have HX0 := hide (new_block w (.cells #[.string nm, .bool wk, .slice a xs.length cap] 24))
  obtain ⟨n1, k1, ys, hg, hyl, hys⟩ : ∃ n1 k1 ys, foldF s t ⟨nm, wk, xs⟩ = ⟨n1, k1, ys⟩ ∧ ys.length ≤ 1000 ∧ ∀ y ∈ ys, y.s.size ≤ maxLen := by
    unfold foldF
    split
    · rename_i hok
      refine ⟨nm, wk, renB s t xs, rfl, ?_, fun y hy => ?_⟩
      · rw [renB_len]
        simp only [Bool.and_eq_true] at hok
        have h := hok.1
        unfold funOkB at h
        simp only [Bool.and_eq_true, decide_eq_true_iff] at h
        omega
      · unfold renB at hy
        obtain ⟨x, hx, rfl⟩ := List.mem_map.1 hy
        exact renI_size (hr.sizes x hx) ht
    · exact ⟨⟨#[]⟩, false, [], rfl, Nat.zero_le _, fun y hy => by cases hy⟩
  have HG := hide hg
  have HYS := hide hys
  clear hr hg hys
  by_cases hs2 : (1048576 : Int) < s.size
  · go_enter Try.func3, Try.ntmps3
    go_wp2_with fail
    go_ret
    exact ⟨rfl, hB0⟩
  by_cases ht2 : (1048576 : Int) < t.size
  · go_enter Try.func3, Try.ntmps3
    go_wp2_with fail
    go_ret
    exact ⟨rfl, hB0⟩
  by_cases hz : szF nm xs 1048576 < 0
  · go_enter Try.func3, Try.ntmps3
    go_wp2_with fail
    refine (szFun_any _ _ _ _ _ _ _ (by omega) (by omega) hnm hl hm ((unhide HR0).below hB0)).mono ?_
    rintro e w1 ⟨rfl, hb1⟩
    go_wp2_with fail
    go_ret
    exact ⟨rfl, bl_trans hB0 hb1⟩
  have hlen : xs.length ≤ 1048576 := szF_len (nm := nm) (by omega)
  have hlm : xs.length ≤ maxLen := by unfold maxLen; omega
  go_enter Try.func3, Try.ntmps3
  go_wp2_with fail
  refine (szFun_any _ _ _ _ _ _ _ (by omega) (by omega) hnm hl hm ((unhide HR0).below hB0)).mono ?_
  rintro e w1 ⟨rfl, hb1⟩
  have hB := bl_trans hB0 hb1
  have HX := hide (box_below (unhide HX0) hb1)
  clear hB0 HX0 hb1
  obtain ⟨⟨d0, d1, d2⟩, _⟩ := box3 (unhide HX)
  go_wp2_with fail
  refine (toFun_any nm wk a cap xs _ hlen hl hm ((unhide HR0).below hB)).mono ?_
  rintro e w2 ⟨R2, hR2, rfl, hO2, hb2⟩
  replace HX := hide (box_below (unhide HX) hb2)
  replace hB := bl_trans hB hb2
  have HO2 := hide (hO2.row (unhide HZ))
  have hs2' := hB.size
  clear hO2 hb2 d0 d1 d2
  go_wp2_with fail
  refine (specFoldName_any nm wk _ _ xs s t _ hnm ht (Nat.le_refl _) hlm (unhide HO2)).mono ?_
  rw [unhide HG]
  rintro e w3 ⟨v0, rfl, hV0, hb3⟩
  dsimp only at hV0 ⊢
  replace HX := hide (box_below (unhide HX) hb3)
  replace hB := bl_trans hB hb3
  have hs3 := hB.size
  have HV0 := hide hV0
  have HN0 : Hid (∀ g, v0.ownBlock = some g → g < w3.heap.size) := fun g e => (World.ownsRow.lt hV0 g e).2
  clear hV0 hb3 HO2 hs2'
  obtain ⟨a0, c0, ev0⟩ := insO_form (unhide HV0)
  subst ev0
  have HX0 := hide (new_block w3 (.cells #[.string n1, .bool k1, .slice a0 ys.length c0] 28))
  have hbx := below_alloc1 w3 (.cells #[.string n1, .bool k1, .slice a0 ys.length c0] 28)
  replace HX := hide (box_below (unhide HX) hbx)
  replace HV0 := hide (insO_below (unhide HV0) hbx)
  replace hB := bl_trans hB hbx
  clear hbx
  obtain ⟨⟨d0, d1, d2⟩, _⟩ := box3 (unhide HX)
  go_wp2_with fail
  refine (toFun_any nm wk a cap xs _ hlen hl hm ((unhide HR0).below hB)).mono ?_
  rintro e w4 ⟨R4, hR4, rfl, hO4, hb4⟩
  simp only [World.size_alloc] at hR4
  replace HX := hide (box_below (unhide HX) hb4)
  replace HV0 := hide (insO_below (unhide HV0) hb4)
  replace HX0 := hide (box_below (unhide HX0) hb4)
  replace hB := bl_trans hB hb4
  have hR4w : R4 < w4.heap.size := by obtain ⟨C, hC, _⟩ := hO4; exact (Array.getElem?_eq_some_iff.1 hC).1
  have hs4 : w3.heap.size + 1 ≤ w4.heap.size := by have := hb4.size; rw [World.size_alloc] at this; exact this
  have HO4 := hide hO4
  clear hO4 hb4 d0 d1 d2
  have HX4 := hide (new_block w4 (.cells #[.string nm, .bool wk, .slice (some ⟨R4, 0, none⟩) xs.length xs.length] 28))
  have hbx := below_alloc1 w4 (.cells #[.string nm, .bool wk, .slice (some ⟨R4, 0, none⟩) xs.length xs.length] 28)
  replace HX := hide (box_below (unhide HX) hbx)
  replace HV0 := hide (insO_below (unhide HV0) hbx)
  replace HX0 := hide (box_below (unhide HX0) hbx)
  replace HO4 := hide ((unhide HO4).below hbx)
  replace hB := bl_trans hB hbx
  clear hbx
  obtain ⟨⟨y0, y1, y2⟩, _⟩ := box3 (unhide HX4)
  go_wp2_with fail
  refine (implFoldName_any nm wk _ _ xs s t _ hnm ht (Nat.le_refl _) hlm ((unhide HO4).row (unhide HZ))).mono ?_
  rw [unhide HG]
  rintro e w5 ⟨v1, rfl, hV1, hb5⟩
  dsimp only at hV1 ⊢
  simp only [World.size_alloc] at hV1
  replace HX := hide (box_below (unhide HX) hb5)
  replace HV0 := hide (insO_below (unhide HV0) hb5)
  replace HX0 := hide (box_below (unhide HX0) hb5)
  replace HO4 := hide ((unhide HO4).below hb5)
  replace HX4 := hide (box_below (unhide HX4) hb5)
  replace hB := bl_trans hB hb5
  have hs5 : w4.heap.size + 1 ≤ w5.heap.size := by have := hb5.size; rw [World.size_alloc] at this; exact this
  have HN1 : Hid (∀ g, v1.ownBlock = some g → w4.heap.size + 1 ≤ g ∧ g < w5.heap.size) := fun g e => World.ownsRow.lt hV1 g e
  have HV1 := hide hV1
  clear hV1 hb5 y0 y1 y2
  obtain ⟨a1, c1, ev1⟩ := insO_form (unhide HV1)
  subst ev1
  have HX5 := hide (new_block w5 (.cells #[.string n1, .bool k1, .slice a1 ys.length c1] 28))
  have hbx := below_alloc1 w5 (.cells #[.string n1, .bool k1, .slice a1 ys.length c1] 28)
  replace HX := hide (box_below (unhide HX) hbx)
  replace HV0 := hide (insO_below (unhide HV0) hbx)
  replace HX0 := hide (box_below (unhide HX0) hbx)
  replace HO4 := hide ((unhide HO4).below hbx)
  replace HX4 := hide (box_below (unhide HX4) hbx)
  replace HV1 := hide (insO_below (unhide HV1) hbx)
  replace hB := bl_trans hB hbx
  clear hbx
  obtain ⟨⟨z0, z1, z2⟩, _⟩ := box3 (unhide HX5)
  obtain ⟨⟨y0, y1, y2⟩, _⟩ := box3 (unhide HX0)
  go_wp2_with fail
  refine (eqV_same n1 k1 _ _ ys _ (unhide HYS) (unhide HV1) (unhide HV0)).mono ?_
  rintro e w6 ⟨rfl, hb6⟩
  replace HX := hide (box_below (unhide HX) hb6)
  replace HV0 := hide (insO_below (unhide HV0) hb6)
  replace HX0 := hide (box_below (unhide HX0) hb6)
  replace HO4 := hide ((unhide HO4).below hb6)
  replace HX4 := hide (box_below (unhide HX4) hb6)
  replace HV1 := hide (insO_below (unhide HV1) hb6)
  replace HX5 := hide (box_below (unhide HX5) hb6)
  replace hB := bl_trans hB hb6
  clear hb6 z0 z1 z2 y0 y1 y2
  have HST : Hid (Stable (fun w' => w'.cell? ⟨w.heap.size, 0, none⟩ = some (.string nm) ∧ w'.cell? ⟨w.heap.size, 1, none⟩ = some (.bool wk) ∧ w'.cell? ⟨w.heap.size, 2, none⟩ = some (.slice a xs.length cap) ∧ w'.cell? ⟨w4.heap.size, 0, none⟩ = some (.string nm) ∧ w'.cell? ⟨w4.heap.size, 1, none⟩ = some (.bool wk) ∧ w'.cell? ⟨w4.heap.size, 2, none⟩ = some (.slice (some ⟨R4, 0, none⟩) xs.length xs.length) ∧ InsRow w' a xs ∧ InsRow w' (some ⟨R4, 0, none⟩) xs ∧ OwnIns w' R4 xs xs.length ∧ InsO w' w2.heap.size (.slice a0 ys.length c0) ys ∧ InsO w' (w4.heap.size + 1) (.slice a1 ys.length c1) ys ∧ w'.heap[w.heap.size]? = some (.cells #[.string nm, .bool wk, .slice a xs.length cap] 24) ∧ w'.heap[w3.heap.size]? = some (.cells #[.string n1, .bool k1, .slice a0 ys.length c0] 28) ∧ w'.heap[w4.heap.size]? = some (.cells #[.string nm, .bool wk, .slice (some ⟨R4, 0, none⟩) xs.length xs.length] 28) ∧ w'.heap[w5.heap.size]? = some (.cells #[.string n1, .bool k1, .slice a1 ys.length c1] 28) ∧ Below w.heap.size w w')) := ((Stable.cell _ _).and ((Stable.cell _ _).and ((Stable.cell _ _).and ((Stable.cell _ _).and ((Stable.cell _ _).and ((Stable.cell _ _).and ((Stable.row _ _).and ((Stable.row _ _).and ((Stable.own _ _ _).and ((Stable.insO _ _ _).and ((Stable.insO _ _ _).and ((Stable.box _ _).and ((Stable.box _ _).and ((Stable.box _ _).and ((Stable.box _ _).and (Stable.below w))))))))))))))))
  have HS : Hid ((fun w' => w'.cell? ⟨w.heap.size, 0, none⟩ = some (.string nm) ∧ w'.cell? ⟨w.heap.size, 1, none⟩ = some (.bool wk) ∧ w'.cell? ⟨w.heap.size, 2, none⟩ = some (.slice a xs.length cap) ∧ w'.cell? ⟨w4.heap.size, 0, none⟩ = some (.string nm) ∧ w'.cell? ⟨w4.heap.size, 1, none⟩ = some (.bool wk) ∧ w'.cell? ⟨w4.heap.size, 2, none⟩ = some (.slice (some ⟨R4, 0, none⟩) xs.length xs.length) ∧ InsRow w' a xs ∧ InsRow w' (some ⟨R4, 0, none⟩) xs ∧ OwnIns w' R4 xs xs.length ∧ InsO w' w2.heap.size (.slice a0 ys.length c0) ys ∧ InsO w' (w4.heap.size + 1) (.slice a1 ys.length c1) ys ∧ w'.heap[w.heap.size]? = some (.cells #[.string nm, .bool wk, .slice a xs.length cap] 24) ∧ w'.heap[w3.heap.size]? = some (.cells #[.string n1, .bool k1, .slice a0 ys.length c0] 28) ∧ w'.heap[w4.heap.size]? = some (.cells #[.string nm, .bool wk, .slice (some ⟨R4, 0, none⟩) xs.length xs.length] 28) ∧ w'.heap[w5.heap.size]? = some (.cells #[.string n1, .bool k1, .slice a1 ys.length c1] 28) ∧ Below w.heap.size w w') w6) := by
    have x := (box3 (unhide HX)).1
    have y := (box3 (unhide HX4)).1
    exact ⟨x.1, x.2.1, x.2.2, y.1, y.2.1, y.2.2, (unhide HR0).below hB, (unhide HO4).row (unhide HZ), unhide HO4, unhide HV0, unhide HV1, unhide HX, unhide HX0, unhide HX4, unhide HX5, hB⟩
  have HEQ : Hid (∀ (w' : World) R, InsRow w' (some ⟨R, 0, none⟩) xs → InsRow w' (some ⟨R4, 0, none⟩) xs → Calls Try.prog 10 #[.agg #[.string nm, .bool wk, .slice (some ⟨R4, 0, none⟩) xs.length xs.length], .agg #[.string nm, .bool wk, .slice (some ⟨R, 0, none⟩) xs.length xs.length]] w' fun e w'' => e = .returned (.bool true) ∧ Below w'.heap.size w' w'') := fun w' R h1 h2 => eqFun_same nm wk _ _ _ _ xs w' (Nat.le_refl _) hlm h2 h1
  have HTF : Hid (∀ (w' : World), InsRow w' a xs → Calls Try.prog 8 #[.agg #[.string nm, .bool wk, .slice a xs.length cap]] w' fun e w'' => ∃ R, e = .returned (.agg #[.string nm, .bool wk, .slice (some ⟨R, 0, none⟩) xs.length xs.length]) ∧ InsRow w'' (some ⟨R, 0, none⟩) xs ∧ Below w'.heap.size w' w'') := fun w' h => (toFun_any nm wk a cap xs w' hlen hl hm h).mono fun e w'' ⟨R, _, h1, h2, h3⟩ => ⟨R, h1, h2.row (unhide HZ), h3⟩
  clear HX HX0 HX4 HX5 HV0 HV1 HO4 hB
  go_upto_region 14 with fail
  go_region_held3 (fun w' => w'.cell? ⟨w.heap.size, 0, none⟩ = some (.string nm) ∧ w'.cell? ⟨w.heap.size, 1, none⟩ = some (.bool wk) ∧ w'.cell? ⟨w.heap.size, 2, none⟩ = some (.slice a xs.length cap) ∧ w'.cell? ⟨w4.heap.size, 0, none⟩ = some (.string nm) ∧ w'.cell? ⟨w4.heap.size, 1, none⟩ = some (.bool wk) ∧ w'.cell? ⟨w4.heap.size, 2, none⟩ = some (.slice (some ⟨R4, 0, none⟩) xs.length xs.length) ∧ InsRow w' a xs ∧ InsRow w' (some ⟨R4, 0, none⟩) xs ∧ OwnIns w' R4 xs xs.length ∧ InsO w' w2.heap.size (.slice a0 ys.length c0) ys ∧ InsO w' (w4.heap.size + 1) (.slice a1 ys.length c1) ys ∧ w'.heap[w.heap.size]? = some (.cells #[.string nm, .bool wk, .slice a xs.length cap] 24) ∧ w'.heap[w3.heap.size]? = some (.cells #[.string n1, .bool k1, .slice a0 ys.length c0] 28) ∧ w'.heap[w4.heap.size]? = some (.cells #[.string nm, .bool wk, .slice (some ⟨R4, 0, none⟩) xs.length xs.length] 28) ∧ w'.heap[w5.heap.size]? = some (.cells #[.string n1, .bool k1, .slice a1 ys.length c1] 28) ∧ Below w.heap.size w w') (first | assumption | (refine (unhide HST).1 _ _ hbk ?_; assumption) | (refine (unhide HST).2 _ ?_; assumption))
    (first | (go_at_call 8; refine (unhide HTF _ (by apply s6; assumption)).mono ?_; rintro e w9 ⟨Rk, rfl, hO, hbk⟩) | (go_at_call 10; refine (unhide HEQ _ _ (by exact hO) (by apply s7; assumption)).mono ?_; rintro e w9 ⟨rfl, hbk⟩))
  have hS7 : (fun w' => w'.cell? ⟨w.heap.size, 0, none⟩ = some (.string nm) ∧ w'.cell? ⟨w.heap.size, 1, none⟩ = some (.bool wk) ∧ w'.cell? ⟨w.heap.size, 2, none⟩ = some (.slice a xs.length cap) ∧ w'.cell? ⟨w4.heap.size, 0, none⟩ = some (.string nm) ∧ w'.cell? ⟨w4.heap.size, 1, none⟩ = some (.bool wk) ∧ w'.cell? ⟨w4.heap.size, 2, none⟩ = some (.slice (some ⟨R4, 0, none⟩) xs.length xs.length) ∧ InsRow w' a xs ∧ InsRow w' (some ⟨R4, 0, none⟩) xs ∧ OwnIns w' R4 xs xs.length ∧ InsO w' w2.heap.size (.slice a0 ys.length c0) ys ∧ InsO w' (w4.heap.size + 1) (.slice a1 ys.length c1) ys ∧ w'.heap[w.heap.size]? = some (.cells #[.string nm, .bool wk, .slice a xs.length cap] 24) ∧ w'.heap[w3.heap.size]? = some (.cells #[.string n1, .bool k1, .slice a0 ys.length c0] 28) ∧ w'.heap[w4.heap.size]? = some (.cells #[.string nm, .bool wk, .slice (some ⟨R4, 0, none⟩) xs.length xs.length] 28) ∧ w'.heap[w5.heap.size]? = some (.cells #[.string n1, .bool k1, .slice a1 ys.length c1] 28) ∧ Below w.heap.size w w') w9 := by assumption
  obtain ⟨_, _, _, _, _, _, _, _, hO4, hV0, hV1, hX, hX0, hX4, hX5, hB⟩ := hS7
  have HO4 := hide hO4
  have HV0 := hide hV0
  have HV1 := hide hV1
  have HX := hide hX
  have HX0 := hide hX0
  have HX4 := hide hX4
  have HX5 := hide hX5
  have hs7 : w5.heap.size < w9.heap.size := (Array.getElem?_eq_some_iff.1 hX5).1
  clear hO4 hV0 hV1 hX hX0 hX4 hX5 HST HEQ HTF
  obtain ⟨⟨y0, y1, y2⟩, _⟩ := box3 (unhide HX4)
  go_wp2_with fail
  refine (markFun_any nm wk R4 xs.length xs.length 1 (xs.length * 3) (by omega) (by omega) (Nat.le_refl _) _ (OwnIns.marked (unhide HO4))).mono ?_
  rintro e w10 ⟨rfl, _, hb10⟩
  replace HV0 := hide (insO_grown (unhide HV0) hb10 (by cases e : (Value.slice a0 ys.length c0).ownBlock with | none => exact .inl rfl | some g => exact .inr (fun e' => by have := unhide HN0 g e; rw [Option.some.injEq] at e'; omega)))
  replace HV1 := hide (insO_grown (unhide HV1) hb10 (by cases e : (Value.slice a1 ys.length c1).ownBlock with | none => exact .inl rfl | some g => exact .inr (fun e' => by have := (unhide HN1 g e).1; rw [Option.some.injEq] at e'; omega)))
  have hs1 := hB.size
  replace HX := hide (hb10.box (unhide HX) (by omega))
  replace HX0 := hide (hb10.box (unhide HX0) (by omega))
  replace HX5 := hide (hb10.box (unhide HX5) (by omega))
  replace hB := But.down hB hb10 (by omega)
  have hs10 := Nat.lt_of_lt_of_le hs7 hb10.size
  clear HX4 HO4 hb10 y0 y1 y2
  have hk8 : ¬ ((1 + xs.length * 3 : Nat) : Int) < 0 := by omega
  generalize ((1 + xs.length * 3 : Nat) : Int) = kk at hk8 ⊢
  obtain ⟨⟨z0, z1, z2⟩, _⟩ := box3 (unhide HX5)
  obtain ⟨⟨y0, y1, y2⟩, _⟩ := box3 (unhide HX0)
  go_wp2_with fail
  refine (eqV_same n1 k1 _ _ ys _ (unhide HYS) (unhide HV1) (unhide HV0)).mono ?_
  rintro e w11 ⟨rfl, hb11⟩
  replace hs10 := Nat.lt_of_lt_of_le hs10 hb11.size
  replace HX := hide (box_below (unhide HX) hb11)
  replace HV0 := hide (insO_below (unhide HV0) hb11)
  replace HX0 := hide (box_below (unhide HX0) hb11)
  replace HV1 := hide (insO_below (unhide HV1) hb11)
  replace HX5 := hide (box_below (unhide HX5) hb11)
  replace hB := bl_trans hB hb11
  clear hb11 z0 z1 z2 y0 y1 y2
  obtain ⟨⟨z0, z1, z2⟩, _⟩ := box3 (unhide HX5)
  go_wp2_with fail
  refine (markV_any n1 k1 _ _ ys _ (by omega) (unhide HV1)).mono ?_
  rintro e w12 ⟨rfl, hM, hg12⟩
  have HM := hide hM
  replace HV0 := hide (insO_grown (unhide HV0) hg12 (by cases e : (Value.slice a0 ys.length c0).ownBlock with | none => exact .inl rfl | some g => exact .inr (fun e' => by have h1 := unhide HN0 g e; have h2 := (unhide HN1 g e'.symm).1; omega)))
  replace HX := hide ((hg12.block _ (by omega) (fun e => by have h2 := (unhide HN1 _ e.symm).1; omega)).trans (unhide HX))
  replace HX0 := hide ((hg12.block _ (by omega) (fun e => by have h2 := (unhide HN1 _ e.symm).1; omega)).trans (unhide HX0))
  replace HX5 := hide ((hg12.block _ (by omega) (fun e => by have h2 := (unhide HN1 _ e.symm).2; omega)).trans (unhide HX5))
  replace hB := hB.grown hg12 hB.size (fun j hj => by have h2 := (unhide HN1 _ hj).1; omega)
  clear HV1 hM hg12 z0 z1 z2
  obtain ⟨kq, hkq⟩ : ∃ kq, ((1 + ys.length * 3 : Nat) : Int) = kq := ⟨_, rfl⟩
  have hk9 : ¬ kq < 0 := by omega
  have HKQ := hide hkq
  rw [hkq]
  clear hkq
  obtain ⟨⟨z0, z1, z2⟩, _⟩ := box3 (unhide HX5)
  go_wp2_with fail
  refine (heldV_any n1 k1 _ ys.length _ (by omega) (unhide HM)).mono ?_
  rw [unhide HKQ]
  rintro e w13 ⟨rfl, hb13⟩
  replace HX := hide (box_below (unhide HX) hb13)
  replace HV0 := hide (insO_below (unhide HV0) hb13)
  replace HX0 := hide (box_below (unhide HX0) hb13)
  replace HX5 := hide (box_below (unhide HX5) hb13)
  replace HM := hide ((unhide HM).below hb13)
  replace hB := bl_trans hB hb13
  clear hb13 z0 z1 z2
  obtain ⟨⟨d0, d1, d2⟩, _⟩ := box3 (unhide HX)
  go_wp2_with fail
  refine (toFun_any nm wk a cap xs _ hlen hl hm ((unhide HR0).below hB)).mono ?_
  rintro e w14 ⟨R14, hR14, rfl, hO14, hb14⟩
  replace HX := hide (box_below (unhide HX) hb14)
  replace HV0 := hide (insO_below (unhide HV0) hb14)
  replace HX0 := hide (box_below (unhide HX0) hb14)
  replace HX5 := hide (box_below (unhide HX5) hb14)
  replace HM := hide ((unhide HM).below hb14)
  replace hB := bl_trans hB hb14
  have HO14 := hide (hO14.row (unhide HZ))
  clear hO14 hb14 d0 d1 d2
  go_wp2_with fail
  refine (implFoldName_any nm wk _ _ xs s t _ hnm ht (Nat.le_refl _) hlm (unhide HO14)).mono ?_
  rw [unhide HG]
  rintro e w15 ⟨v2, rfl, hV2, hb15⟩
  dsimp only at hV2 ⊢
  replace HX := hide (box_below (unhide HX) hb15)
  replace HV0 := hide (insO_below (unhide HV0) hb15)
  replace HX0 := hide (box_below (unhide HX0) hb15)
  replace HX5 := hide (box_below (unhide HX5) hb15)
  replace HM := hide ((unhide HM).below hb15)
  replace hB := bl_trans hB hb15
  have HV2 := hide hV2
  clear hV2 hb15 HO14
  obtain ⟨a2, c2, ev2⟩ := insO_form (unhide HV2)
  subst ev2
  have HX15 := hide (new_block w15 (.cells #[.string n1, .bool k1, .slice a2 ys.length c2] 28))
  have hbx := below_alloc1 w15 (.cells #[.string n1, .bool k1, .slice a2 ys.length c2] 28)
  replace HX := hide (box_below (unhide HX) hbx)
  replace HV0 := hide (insO_below (unhide HV0) hbx)
  replace HX0 := hide (box_below (unhide HX0) hbx)
  replace HX5 := hide (box_below (unhide HX5) hbx)
  replace HM := hide ((unhide HM).below hbx)
  replace HV2 := hide (insO_below (unhide HV2) hbx)
  replace hB := bl_trans hB hbx
  clear hbx
  obtain ⟨⟨z0, z1, z2⟩, _⟩ := box3 (unhide HX15)
  obtain ⟨⟨y0, y1, y2⟩, _⟩ := box3 (unhide HX0)
  go_wp2_with fail
  refine (eqV_same n1 k1 _ _ ys _ (unhide HYS) (unhide HV2) (unhide HV0)).mono ?_
  rintro e w16 ⟨rfl, hb16⟩
  replace HX := hide (box_below (unhide HX) hb16)
  replace HV0 := hide (insO_below (unhide HV0) hb16)
  replace HX0 := hide (box_below (unhide HX0) hb16)
  replace HX5 := hide (box_below (unhide HX5) hb16)
  replace HM := hide ((unhide HM).below hb16)
  replace HV2 := hide (insO_below (unhide HV2) hb16)
  replace HX15 := hide (box_below (unhide HX15) hb16)
  replace hB := bl_trans hB hb16
  clear hb16 z0 z1 z2 y0 y1 y2
  obtain ⟨⟨z0, z1, z2⟩, _⟩ := box3 (unhide HX5)
  go_wp2_with fail
  refine (heldV_any n1 k1 _ ys.length _ (by omega) (unhide HM)).mono ?_
  rw [unhide HKQ]
  rintro e w17 ⟨rfl, hb17⟩
  replace HX := hide (box_below (unhide HX) hb17)
  replace HV0 := hide (insO_below (unhide HV0) hb17)
  replace HX0 := hide (box_below (unhide HX0) hb17)
  replace HX5 := hide (box_below (unhide HX5) hb17)
  replace HM := hide ((unhide HM).below hb17)
  replace HV2 := hide (insO_below (unhide HV2) hb17)
  replace HX15 := hide (box_below (unhide HX15) hb17)
  replace hB := bl_trans hB hb17
  clear hb17 z0 z1 z2
  go_wp2_with fail
  go_ret
  exact ⟨rfl, hB⟩

set_option maxRecDepth 100000 in
theorem lifted (os : Os) (started : os.Started) (H : Type) (enc : TypeId × Value → H) :
    ReturnsInHanded {} Try.checked os 3 .any (Rows.fnExactFoldNameSpec.pre6 enc Try.prog Try.f3 Rows.fnExactFoldNameRow.domain false) (Rows.fnExactFoldNameSpec.post enc Try.prog Try.f3 false true false false) := by
  refine returnsInHanded_of_change (C := Try.checked) own started (by kernel_rfl) Try.func3
    (ChangeSpec.witness6 (enc := enc) (C := Try.checked) false ⟨#[], #[.agg #[.string ByteArray.empty, .bool false, .slice none 0 0], .string ByteArray.empty, .string ByteArray.empty], []⟩ 8 (by kernel_rfl) (by kernel_rfl) (by kernel_rfl) (by kernel_rfl)) ?_
  intro W base args ds gs before hval0 hW hcnd _
  have hval : ∀ (j : Nat) t v, Try.f3.params[j]? = some t → args[j]? = some v → Value.okWide Try.prog W .any base t v := hval0
  have hW' := hW
  obtain ⟨p, q, hA0, hV, rfl, hfz, hnd⟩ := hW
  have hA : DataW.TrodAll enc Try.prog W 0 (fun _ => true) true Try.f3.params.toList args.toList ds p := hA0
  rw [Try.params3] at hA hval
  obtain ⟨v0, vs0, d0, ds0, p0, q0, hargs, rfl, rfl, h0, r0⟩ := trodAll_cons hA
  obtain ⟨v1, vs1, d1, ds1, p1, q1, rfl, rfl, rfl, h1, r1⟩ := trodAll_cons r0
  obtain ⟨v2, vs2, d2, ds2, p2, q2, rfl, rfl, rfl, h2, r2⟩ := trodAll_cons r1
  obtain ⟨rfl, rfl, rfl⟩ := trodAll_nil r2
  obtain rfl : args = #[v0, v1, v2] := by cases args; simp_all
  obtain ⟨rfl, rfl⟩ := trodVars_none hV
  have k0 := h0
  have lt0 : ∀ x ∈ p0, x.block < W.heap.size := by obtain ⟨m, hm⟩ := k0; exact DataW.trod_lt m _ _ _ hm
  obtain ⟨nm0, wk0, a0, cap0, xs0, hv0, hnm0, hl0, hm0, hr0⟩ := fun_of (hval 0 24 v0 rfl rfl) h0
  have k1 := h1
  have lt1 : ∀ x ∈ p1, x.block < W.heap.size := by obtain ⟨m, hm⟩ := k1; exact DataW.trod_lt m _ _ _ hm
  obtain ⟨s1, hv1, _, _, w1⟩ := open_string Try.underlying9 (hval 1 9 v1 rfl rfl) h1
  have k2 := h2
  have lt2 : ∀ x ∈ p2, x.block < W.heap.size := by obtain ⟨m, hm⟩ := k2; exact DataW.trod_lt m _ _ _ hm
  obtain ⟨s2, hv2, _, _, w2⟩ := open_string Try.underlying9 (hval 2 9 v2 rfl rfl) h2
  clear hA0 hval0
  subst hv0 hv1 hv2
  refine (walk nm0 wk0 a0 cap0 xs0 hnm0 hl0 hm0 s1 w1 s2 w2 W hr0).mono fun e W' ⟨he, bel⟩ => ?_
  subst he
  exact ⟨_, rfl, _, _, _, [], _, [], hW', trodAll_mk1 (shut_bool Try.underlying4 _), (trodAll_cons_mk (Below.trod laidOut (by kernel_rfl) (of_decide_eq_true (by kernel_rfl)) k0 bel lt0) (trodAll_cons_mk (Below.trod laidOut (by kernel_rfl) (of_decide_eq_true (by kernel_rfl)) k1 bel lt1) (trodAll_cons_mk (Below.trod laidOut (by kernel_rfl) (of_decide_eq_true (by kernel_rfl)) k2 bel lt2) trodAll_mk0))), rfl, bel.frame _, fun h => by cases h⟩

theorem proved : Rows.FnExactFoldNameSaid :=
  OpenClaim.holds_of_wide 3 Try.f3 rfl rfl rfl rfl rfl rfl rfl ⟨rfl, rfl, rfl, rfl, rfl⟩ rfl rfl rfl rfl rfl (by kernel_rfl) Try.func3 (by kernel_rfl)
    (of_decide_eq_true (by kernel_rfl)) (by unfold Func.isWrapper; first | (rw [if_pos (by decide +kernel)]; kernel_rfl) | (rw [if_neg (by decide +kernel)]; exact ⟨rfl, rfl⟩))
    (fun os started H enc _ => lifted os started H enc)
#print axioms proved
end Go.Proofs.Ythbbmookhcalkaa.fnExactFoldName
