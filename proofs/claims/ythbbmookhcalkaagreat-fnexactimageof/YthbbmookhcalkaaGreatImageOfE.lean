/- For every program, number and laying the exact law of ImageOf answers true, and all read afterwards as they did. No condition. -/
import Derived.Test.YthbbmookhcalkaaGreatBase
import Derived.WalkKit
import Derived.ProofKit
import Derived.OpenShut
import Derived.ShutString
import Derived.ChangeOld
import Derived.Below
import Derived.Lib.SmallJoins
import Derived.Deep.Cut
import Derived.Deep.RegionHeld3
import Derived.Test.YthbbmookhcalkaaGreatFuns
import Derived.Test.YthbbmookhcalkaaGreatOpen
import Derived.Test.YthbbmookhcalkaaGreatFunS
import Derived.Test.YthbbmookhcalkaaGreatKeep
import Derived.Test.YthbbmookhcalkaaGreatUnits
import Derived.Test.YthbbmookhcalkaaGreatUnitS
import Derived.Test.YthbbmookhcalkaaGreatRefs
import Derived.Test.YthbbmookhcalkaaGreatMark
import Derived.Test.YthbbmookhcalkaaGreatMarkF
import Derived.Test.YthbbmookhcalkaaGreatMarkU
import Derived.Test.YthbbmookhcalkaaGreatConcat
import Derived.Test.YthbbmookhcalkaaGreatKeepC
import Derived.Test.YthbbmookhcalkaaGreatLayN
import Derived.Test.YthbbmookhcalkaaGreatLayA
import Derived.Test.YthbbmookhcalkaaGreatLayB
import Derived.Test.YthbbmookhcalkaaGreatKeepA
import Derived.Test.YthbbmookhcalkaaGreatKeepD
import Derived.Test.YthbbmookhcalkaaGreatLayD
import Derived.Test.YthbbmookhcalkaaGreatCellA
import Derived.Test.YthbbmookhcalkaaGreatImgC
import Derived.Test.YthbbmookhcalkaaGreatImgS
import Derived.Test.YthbbmookhcalkaaGreatImgI
import Derived.Test.YthbbmookhcalkaaGreatCMk
namespace Go.Proofs.YthbbmookhcalkaaGreat.fnExactImageOf
open Go.ChangeShapes Go.WideShapes Go.ChangeAt Go.RowKit Go.Joins
open Go.ChangeMaps (open_string shut_string)
open Go.Proofs.YthbbmookhcalkaaGreat.Base
open Go.Proofs.YthbbmookhcalkaaGreat.Funs
open Go.Proofs.YthbbmookhcalkaaGreat.Open
open Go.Proofs.YthbbmookhcalkaaGreat.FunS
open Go.Proofs.YthbbmookhcalkaaGreat.Keep
open Go.Proofs.YthbbmookhcalkaaGreat.Units
open Go.Proofs.YthbbmookhcalkaaGreat.UnitS
open Go.Proofs.YthbbmookhcalkaaGreat.Refs
open Go.Proofs.YthbbmookhcalkaaGreat.Mark
open Go.Proofs.YthbbmookhcalkaaGreat.MarkF
open Go.Proofs.YthbbmookhcalkaaGreat.MarkU
open Go.Proofs.YthbbmookhcalkaaGreat.Concat
open Go.Proofs.YthbbmookhcalkaaGreat.KeepC
open Go.Proofs.YthbbmookhcalkaaGreat.LayN
open Go.Proofs.YthbbmookhcalkaaGreat.LayA
open Go.Proofs.YthbbmookhcalkaaGreat.LayB
open Go.Proofs.YthbbmookhcalkaaGreat.KeepA
open Go.Proofs.YthbbmookhcalkaaGreat.KeepD
open Go.Proofs.YthbbmookhcalkaaGreat.LayD
open Go.Proofs.YthbbmookhcalkaaGreat.CellA
open Go.Proofs.YthbbmookhcalkaaGreat.ImgC
open Go.Proofs.YthbbmookhcalkaaGreat.ImgS
open Go.Proofs.YthbbmookhcalkaaGreat.ImgI
open Go.Proofs.YthbbmookhcalkaaGreat.CMk
set_option linter.unusedVariables false
set_option maxRecDepth 100000
theorem own : ownKnob Tryz.prog.godebug = none := by kernel_rfl
theorem laidOut : laidOutB Tryz.prog = true := by kernel_rfl

theorem q2 {a b c : Prop} (h : a ∧ b ∧ c) : c := h.2.2
theorem q4 {a b c d e : Prop} (h : a ∧ b ∧ c ∧ d ∧ e) : e := h.2.2.2.2
theorem ml {n : Nat} (h : n ≤ 1048576) : n ≤ maxLen := by unfold maxLen; omega
theorem cells_lt {w : World} {B : Nat} {v : Value} {l : List CellD} (h : CellsO w B v l) : ∀ g, v.ownBlock = some g → B ≤ g ∧ g < w.heap.size := fun g hg => World.ownsRow.lt h g hg
theorem MFun.mid' {w w' : World} {R E R1 E1 n : Nat} {Rs ls : Nat → Nat} (h : MFun w R E Rs ls n) (hb : Below w.heap.size w w') : MFun w' R E Rs ls n := h.below hb
theorem CanT.mid {w w' : World} {R E R' E' S : Nat} {Rs : Nat → Nat} {st : List (List ByteArray)} (h : CanT w R E S Rs st) (hm : Mid R' E' w w') (ho : E' ≤ R) : CanT w' R E S Rs st := by
  obtain ⟨⟨C, hC, hF⟩, h1, h2⟩ := h
  refine ⟨⟨C, hm.box hC (.inr (by omega)), hF⟩, h1, fun i hi => ?_⟩
  obtain ⟨k1, k2, ss, k3, k4, k5 | ⟨g, cap, cur, hv, hB, hg, hr⟩⟩ := h2 i hi
  · exact ⟨k1, k2, ss, k3, k4, .inl k5⟩
  · exact ⟨k1, k2, ss, k3, k4, .inr ⟨g, cap, cur, hv, hB, hm.box hg (.inr (by omega)), hr⟩⟩
theorem eqCells_own {w : World} {B B' : Nat} {a a' : Option Addr} {c c' : Nat} {l : List CellD} (h : CellsO w B (.slice a l.length c) l) (h' : CellsO w B' (.slice a' l.length c') l) :
    Calls Tryz.prog 10 #[.slice a l.length c, .slice a' l.length c'] w fun e w' => e = .returned (.bool true) ∧ Below w.heap.size w w' := by
  obtain ⟨b, d, e, k1, k2, k3⟩ := h.row
  obtain ⟨b', d', e', j1, j2, j3⟩ := h'.row
  injection e with e1 _ e3
  injection e' with f1 _ f3
  subst e1; subst e3; subst f1; subst f3
  exact eqCellS_same _ _ _ _ l w k1 k2 k3 j3
theorem cnt_bd (ls : Nat → Nat) : ∀ n, (∀ i, i < n → ls i ≤ 1048576) → cntL ls n ≤ n * 3145730
  | 0, _ => Nat.le_refl _
  | n + 1, h => by
    have ih := cnt_bd ls n (fun i hi => h i (by omega))
    have := h n (by omega)
    rw [cntL]
    omega
set_option maxHeartbeats 16000000 in
theorem walk (a : Option Addr) (cap : Nat) (fs : List FunD) (hl : fs.length ≤ cap) (hm : cap ≤ maxLen) (rr : Int) (wrr : (Lit.int .i64 rr).wf = true) (na sa : Option Addr) (nc sc : Nat) (ns : List Int) (st : List (List ByteArray)) (h1 : ns.length ≤ nc) (h2 : nc ≤ maxLen) (h3 : st.length ≤ sc) (h4 : sc ≤ maxLen) (w : World) (hf : FunRow w a fs) (hs : NumRow w na ns) (ho : TextsRow w sa st) :
    Calls Tryz.prog 3 #[.slice a fs.length cap, .int .i64 rr, .agg #[.slice na ns.length nc, .slice sa st.length sc]] w fun e w' => e = .returned (.bool true) ∧ Below w.heap.size w w' := by
  obtain ⟨W0, hW0⟩ : ∃ W0, w.alloc (.cells #[.slice na ns.length nc, .slice sa st.length sc] 26) = W0 := ⟨_, rfl⟩
  have hB00 : Below w.heap.size w W0 := by rw [← hW0]; exact below_alloc1 _ _
  have HX0 : Hid (W0.heap[w.heap.size]? = some (.cells #[.slice na ns.length nc, .slice sa st.length sc] 26)) := by show _ = _; rw [← hW0]; exact new_block _ _
  have HR0 := hide (hf.below hB00)
  have HN0 := hide (hs.below hB00)
  have HO0 := hide (ho.below hB00)
  have HFZ := hide (unhide HR0).sizes
  have HTZ := hide (unhide HO0).sizes
  have HW0 := hide hW0
  have HB00 := hide hB00
  clear hf hs ho hW0 hB00
  by_cases hz : szFs fs 1048576 < 0
  · go_enter Tryz.func3, Tryz.ntmps3
    go_upto_region 1 with fail
    rw [unhide HW0]
    go_wp2_with fail
    refine (szFunS_any a cap fs _ _ (by omega) (by omega) hl hm (unhide HR0)).mono ?_
    rintro e w1 ⟨rfl, hb1⟩
    go_wp2_with fail
    go_ret
    exact ⟨rfl, bl_trans (unhide HB00) hb1⟩
  have hz0 : 0 ≤ szFs fs 1048576 := by omega
  have hz1 : szFs fs 1048576 ≤ 1048576 := szFs_bd _ (by omega) (by omega)
  obtain ⟨hfl, hfb⟩ := szFs_len (by omega) hz0
  have HFB := hide hfb
  clear hfb hz
  obtain ⟨⟨c0, c1⟩, _⟩ := box2 (unhide HX0)
  go_enter Tryz.func3, Tryz.ntmps3
  go_upto_region 1 with fail
  rw [unhide HW0]
  clear HW0
  go_wp2_with fail
  refine (szFunS_any a cap fs _ _ (by omega) (by omega) hl hm (unhide HR0)).mono ?_
  rintro e w1 ⟨rfl, hB1⟩
  clear c0 c1
  obtain ⟨⟨c0, c1⟩, _⟩ := box2 (box_below (unhide HX0) hB1)
  generalize szFs fs 1048576 = z at *
  by_cases hy : szLayI ns.length st z < 0
  · go_wp2_with fail
    refine (szLay_any na sa nc sc ns.length st z _ hz0 hz1 h1 h2 h3 h4 ((unhide HO0).below hB1)).mono ?_
    rintro e w2 ⟨rfl, hb2⟩
    clear c0 c1
    go_wp2_with fail
    go_ret
    exact ⟨rfl, bl_trans (unhide HB00) (bl_trans hB1 hb2)⟩
  obtain ⟨hnl, hft⟩ := szLay_few hz1 (show 0 ≤ szLayI ns.length st z by omega)
  have HFT := hide hft
  have hstl := hft.1
  clear hft
  go_wp2_with fail
  refine (szLay_any na sa nc sc ns.length st z _ hz0 hz1 h1 h2 h3 h4 ((unhide HO0).below hB1)).mono ?_
  rintro e w2 ⟨rfl, hb2⟩
  have hB2 := bl_trans hB1 hb2
  clear hb2 c0 c1 hB1
  generalize szLayI ns.length st z = z2 at *
  have hcc2 := (box2 (box_below (unhide HX0) hB2)).1
  have HST1 : Hid (Stable (fun w' => w'.cell? ⟨w.heap.size, 0, none⟩ = some (.slice na ns.length nc) ∧ w'.cell? ⟨w.heap.size, 1, none⟩ = some (.slice sa st.length sc) ∧ Below w2.heap.size w2 w')) := ((Stable.cell _ _).and ((Stable.cell _ _).and (Stable.below w2)))
  have hS2 : (fun w' => w'.cell? ⟨w.heap.size, 0, none⟩ = some (.slice na ns.length nc) ∧ w'.cell? ⟨w.heap.size, 1, none⟩ = some (.slice sa st.length sc) ∧ Below w2.heap.size w2 w') w2 := ⟨hcc2.1, hcc2.2, Below.refl _ _⟩
  clear hcc2
  go_wp2_with fail
  go_region_held3 (fun w' => w'.cell? ⟨w.heap.size, 0, none⟩ = some (.slice na ns.length nc) ∧ w'.cell? ⟨w.heap.size, 1, none⟩ = some (.slice sa st.length sc) ∧ Below w2.heap.size w2 w') (first | assumption | (refine (unhide HST1).1 _ _ hbk ?_; assumption) | (refine (unhide HST1).2 _ ?_; assumption))
    (first
      | (go_at_call 7; refine (toFunS_any a cap fs _ hfl (unhide HFB) hl hm ((unhide HR0).below (bl_trans hB2 (q2 (by assumption))))).mono ?_; rintro e wk1 ⟨rfl, hOk, hbk⟩; (try replace hO5 := NumRow.below (l := ns) (by exact hO5) hbk); (try replace hQ5 := TextsRow.below (st := st) (by exact hQ5) hbk); have hOf := OwnFuns.row hOk (unhide HFZ); clear hOk)
      | (go_at_call 8; refine (toLay_any na sa nc sc ns st _ hnl (unhide HFT) h1 h2 h3 h4 ((unhide HN0).below (bl_trans hB2 (q2 (by assumption)))) ((unhide HO0).below (bl_trans hB2 (q2 (by assumption))))).mono ?_; rintro e wk1 ⟨Rk, Sk, hRk, hSk, hEk, rfl, hOk, hQk, hbk⟩; clear hRk hSk hEk; (try replace hOf := FunRow.below (l := fs) (by exact hOf) hbk); have hO5 := OwnNums.row hOk; have hQ5 := OwnTexts.row hQk (unhide HTZ); clear hOk hQk)
      | (go_at_call 6; refine (specImageOf_any _ _ _ _ _ _ fs ns st rr _ (unhide HFT) (Nat.le_refl _) (ml hfl) (Nat.le_refl _) (ml hnl) (Nat.le_refl _) (ml hstl) (by exact hOf) (by exact hO5) (by exact hQ5)).mono ?_; rintro e wk1 ⟨ak, ck, rfl, hUk, hbk⟩; have hU := CellsO.base hUk (Below.size (q2 (by assumption))); clear hUk))
  have hS3 : (fun w' => w'.cell? ⟨w.heap.size, 0, none⟩ = some (.slice na ns.length nc) ∧ w'.cell? ⟨w.heap.size, 1, none⟩ = some (.slice sa st.length sc) ∧ Below w2.heap.size w2 w') wk1 := by assumption
  have hB3 := bl_trans hB2 (q2 hS3)
  have HV0 := hide (CellsO.base (by exact hU) hB2.size)
  clear hS2
  try clear hOf hO5 hQ5
  try clear hU
  clear hS3 HST1
  generalize hlq : imageOfB fs rr ns st = lq at *
  have hlen : lq.length ≤ 42000000 := by rw [← hlq]; exact image_few (unhide HFT)
  have HLQ := hide hlq
  clear hlq
  have hs3 := hB3.size
  go_wp2_with fail
  refine (toFunS_any a cap fs _ hfl (unhide HFB) hl hm ((unhide HR0).below hB3)).mono ?_
  rintro e w4 ⟨rfl, hO4, hb4⟩
  have hB4 := bl_trans hB3 hb4
  have hs34 : wk1.heap.size < w4.heap.size := by obtain ⟨C, _, hC, _⟩ := hO4; exact (Array.getElem?_eq_some_iff.1 hC).1
  have HVB : Hid (∀ g, (Value.slice ak lq.length ck).ownBlock = some g → g < wk1.heap.size) := fun g hg => (cells_lt (unhide HV0) g hg).2
  obtain ⟨Rs, hM4⟩ := OwnFuns.mfun hO4
  have HM4 := hide hM4
  have HX4 := hide (hO4.row (unhide HFZ))
  have HV4 := hide ((unhide HV0).below hb4)
  clear hO4 hM4 hb4 HV0 hB3
  obtain ⟨⟨c0, c1⟩, _⟩ := box2 (box_below (unhide HX0) hB4)
  generalize hk3 : wk1.heap.size = K3 at *
  clear hk3
  go_wp2_with fail
  refine (toLay_any na sa nc sc ns st _ hnl (unhide HFT) h1 h2 h3 h4 ((unhide HN0).below hB4) ((unhide HO0).below hB4)).mono ?_
  rintro e w5 ⟨R5, S5, hR5, hS5, hE5, rfl, hO5, hQ5, hb5⟩
  obtain ⟨W5, hW5⟩ : ∃ W5, w5.alloc (.cells #[.slice (some ⟨R5, 0, none⟩) ns.length ns.length, .slice (some ⟨S5, 0, none⟩) st.length st.length] 33) = W5 := ⟨_, rfl⟩
  have hbx : Below w5.heap.size w5 W5 := by rw [← hW5]; exact below_alloc1 _ _
  have HX5 : Hid (W5.heap[w5.heap.size]? = some (.cells #[.slice (some ⟨R5, 0, none⟩) ns.length ns.length, .slice (some ⟨S5, 0, none⟩) st.length st.length] 33)) := by show _ = _; rw [← hW5]; exact new_block _ _
  have hs56 : w5.heap.size < W5.heap.size := (Array.getElem?_eq_some_iff.1 (unhide HX5)).1
  have hs45 := hb5.size
  have hb45 := bl_trans hb5 hbx
  have hB5 := bl_trans hB4 hb45
  have HN5 := hide (hO5.row.below hbx)
  have HT5 := hide ((hQ5.row (unhide HTZ)).below hbx)
  have HCN := hide ((CanN.made hO5 hR5 (show R5 < w5.heap.size by omega)).below hbx)
  obtain ⟨Ts, hct⟩ := CanT.of hQ5 (unhide HFT) (Nat.le_refl _) (show w4.heap.size ≤ S5 by omega)
  have HCT := hide (hct.below hbx)
  have HX5r := hide ((unhide HX4).below hb45)
  have HM5 := hide ((unhide HM4).below hb45)
  have HV5 := hide ((unhide HV4).below hb45)
  have HW5 := hide hW5
  clear hO5 hQ5 hct hb45 hb5 hbx hW5 HX4 HM4 HV4 hB4 c0 c1
  go_upto_region 11 with fail
  rw [unhide HW5]
  clear HW5
  generalize hk5 : w5.heap.size = X5 at *
  generalize hk4 : w4.heap.size = K4 at *
  clear hk5 hk4
  obtain ⟨⟨x0, x1⟩, _⟩ := box2 (unhide HX5)
  go_wp2_with fail
  refine (implImageOf_any _ _ _ _ _ _ fs ns st rr _ (unhide HFT) (Nat.le_refl _) (ml hfl) (Nat.le_refl _) (ml hnl) (Nat.le_refl _) (ml hstl) (unhide HX5r) (unhide HN5) (unhide HT5)).mono ?_
  rintro e w6 ⟨a1, cc1, rfl, hU1, hb6⟩
  rw [unhide HLQ] at hU1 ⊢
  have hB6 := bl_trans hB5 hb6
  have HV1 := hide hU1
  have HV6 := hide ((unhide HV5).below hb6)
  have HX6 := hide (box_below (unhide HX5) hb6)
  have HN6 := hide ((unhide HN5).below hb6)
  have HT6 := hide ((unhide HT5).below hb6)
  have HR6 := hide ((unhide HX5r).below hb6)
  have HM6 := hide ((unhide HM5).below hb6)
  have HCN6 := hide ((unhide HCN).below hb6)
  have HCT6 := hide ((unhide HCT).below hb6)
  have hs6 := hb6.size
  have HGB : Hid (∀ g, (Value.slice a1 lq.length cc1).ownBlock = some g → W5.heap.size ≤ g) := fun g hg => (cells_lt (unhide HV1) g hg).1
  clear hU1 hb6 hB5 HX5 HN5 HT5 HX5r HM5 HCN HCT HV5 x0 x1
  go_wp2_with fail
  refine (eqCells_own (unhide HV1) (unhide HV6)).mono ?_
  rintro e w7 ⟨rfl, hb7⟩
  have hB7 := bl_trans hB6 hb7
  go_wp2_with fail
  refine (toFunS_any a cap fs _ hfl (unhide HFB) hl hm ((unhide HR0).below hB7)).mono ?_
  rintro e w8 ⟨rfl, hO8, hb8⟩
  have hb78 := bl_trans hb7 hb8
  have HR8 := hide (And.intro ((unhide HR6).below hb78) (hO8.row (unhide HFZ)))
  clear hO8 hb7 hb8 hB7
  go_wp2_with fail
  refine (eqFunS_same _ _ _ _ fs _ (Nat.le_refl _) (ml hfl) (unhide HR8).1 (unhide HR8).2).mono ?_
  rintro e w9 ⟨rfl, hb9⟩
  have hb69 := bl_trans hb78 hb9
  have hB9 := bl_trans hB6 hb69
  have HV1' := hide ((unhide HV1).below hb69)
  have HV9 := hide ((unhide HV6).below hb69)
  have HX9 := hide (box_below (unhide HX6) hb69)
  have HN9 := hide ((unhide HN6).below hb69)
  have HT9 := hide ((unhide HT6).below hb69)
  have HM9 := hide ((unhide HM6).below hb69)
  have HCN9 := hide ((unhide HCN6).below hb69)
  have HCT9 := hide ((unhide HCT6).below hb69)
  have hs9 := hb69.size
  clear HR8 HR6 HV1 HV6 HX6 HN6 HT6 HM6 HCN6 HCT6 hb9 hb78 hb69 hB6
  have hcc9 := (box2 (box_below (unhide HX0) hB9)).1
  have hxx9 := (box2 (unhide HX9)).1
  have HST2 : Hid (Stable (fun w' => w'.cell? ⟨w.heap.size, 0, none⟩ = some (.slice na ns.length nc) ∧ w'.cell? ⟨w.heap.size, 1, none⟩ = some (.slice sa st.length sc) ∧ w'.cell? ⟨X5, 0, none⟩ = some (.slice (some ⟨R5, 0, none⟩) ns.length ns.length) ∧ w'.cell? ⟨X5, 1, none⟩ = some (.slice (some ⟨S5, 0, none⟩) st.length st.length) ∧ Below w9.heap.size w9 w')) := ((Stable.cell _ _).and ((Stable.cell _ _).and ((Stable.cell _ _).and ((Stable.cell _ _).and (Stable.below w9)))))
  have hS9 : (fun w' => w'.cell? ⟨w.heap.size, 0, none⟩ = some (.slice na ns.length nc) ∧ w'.cell? ⟨w.heap.size, 1, none⟩ = some (.slice sa st.length sc) ∧ w'.cell? ⟨X5, 0, none⟩ = some (.slice (some ⟨R5, 0, none⟩) ns.length ns.length) ∧ w'.cell? ⟨X5, 1, none⟩ = some (.slice (some ⟨S5, 0, none⟩) st.length st.length) ∧ Below w9.heap.size w9 w') w9 := ⟨hcc9.1, hcc9.2, hxx9.1, hxx9.2, Below.refl _ _⟩
  clear hcc9 hxx9
  go_wp2_with fail
  go_region_held3 (fun w' => w'.cell? ⟨w.heap.size, 0, none⟩ = some (.slice na ns.length nc) ∧ w'.cell? ⟨w.heap.size, 1, none⟩ = some (.slice sa st.length sc) ∧ w'.cell? ⟨X5, 0, none⟩ = some (.slice (some ⟨R5, 0, none⟩) ns.length ns.length) ∧ w'.cell? ⟨X5, 1, none⟩ = some (.slice (some ⟨S5, 0, none⟩) st.length st.length) ∧ Below w9.heap.size w9 w') (first | assumption | (refine (unhide HST2).1 _ _ hbk ?_; assumption) | (refine (unhide HST2).2 _ ?_; assumption))
    (first
      | (go_at_call 8; refine (toLay_any na sa nc sc ns st _ hnl (unhide HFT) h1 h2 h3 h4 ((unhide HN0).below (bl_trans hB9 (q4 (by assumption)))) ((unhide HO0).below (bl_trans hB9 (q4 (by assumption))))).mono ?_; rintro e wk1 ⟨Rk, Sk, hRk, hSk, hEk, rfl, hOk, hQk, hbk⟩; clear hRk hSk hEk; have hO := OwnNums.row hOk; have hQ := OwnTexts.row hQk (unhide HTZ); clear hOk hQk)
      | (go_at_call 12; refine (eqLay_same _ _ _ _ _ _ _ _ ns st _ (Nat.le_refl _) (ml hnl) (Nat.le_refl _) (ml hstl) ((unhide HN9).below (q4 (by assumption))) ((unhide HT9).below (q4 (by assumption))) (by exact hO) (by exact hQ)).mono ?_; rintro e wk1 ⟨rfl, hbk⟩))
  have hS10 : (fun w' => w'.cell? ⟨w.heap.size, 0, none⟩ = some (.slice na ns.length nc) ∧ w'.cell? ⟨w.heap.size, 1, none⟩ = some (.slice sa st.length sc) ∧ w'.cell? ⟨X5, 0, none⟩ = some (.slice (some ⟨R5, 0, none⟩) ns.length ns.length) ∧ w'.cell? ⟨X5, 1, none⟩ = some (.slice (some ⟨S5, 0, none⟩) st.length st.length) ∧ Below w9.heap.size w9 w') wk1 := by assumption
  have hb10 := q4 hS10
  have hB10 := bl_trans hB9 hb10
  have HV10 := hide ((unhide HV9).below hb10)
  have HG10 := hide ((unhide HV1').below hb10)
  have HX10 := hide (box_below (unhide HX9) hb10)
  have HM10 := hide ((unhide HM9).below hb10)
  have HCN10 := hide ((unhide HCN9).below hb10)
  have HCT10 := hide ((unhide HCT9).below hb10)
  have hs10 := hb10.size
  clear hS9 hS10 HST2 hb10 HV9 HV1' HX9 HN9 HT9 HM9 HCN9 HCT9 hB9
  try clear hO
  try clear hQ
  have hcnt := cnt_bd (bodyLen fs) fs.length (fun i hi => by
    have := unhide HFB fs[i] (List.getElem_mem hi)
    simpa [bodyLen, List.getD, List.getElem?_eq_getElem hi] using this)
  have hcnt2 : fs.length * 3145730 ≤ 1048576 * 3145730 := Nat.mul_le_mul_right _ hfl
  go_wp2_with fail
  refine (markFunS_all K3 K4 fs.length fs.length 1 Rs (bodyLen fs) hs34 (by omega) hfl (by omega) _ (unhide HM10)).mono ?_
  rintro e w11 ⟨rfl, _, hm11⟩
  have hB11 := Mid.down hB10 hm11 hs3
  have HV11 := hide (CellsO.mid (unhide HV10) hm11 (fun g hg => .inl (unhide HVB g hg)))
  have HG11 := hide (CellsO.mid (unhide HG10) hm11 (fun g hg => .inr (by have := unhide HGB g hg; omega)))
  have HX11 := hide (hm11.box (unhide HX10) (.inr (by omega)))
  have HCN11 := hide (CanN.mid (unhide HCN10) hm11 (.inl (Nat.le_refl _)))
  have HCT11 := hide (CanT.mid (unhide HCT10) hm11 (Nat.le_refl _))
  have hs11 := hm11.size
  have hkq0 : 0 < 1 + cntL (bodyLen fs) fs.length := by omega
  have hkq1 : 1 + cntL (bodyLen fs) fs.length ≤ 900000000000000 := by omega
  clear hm11 HV10 HG10 HX10 HM10 HCN10 HCT10 hB10 hcnt hcnt2
  generalize 1 + cntL (bodyLen fs) fs.length = kq at *
  obtain ⟨⟨x0, x1⟩, _⟩ := box2 (unhide HX11)
  go_wp2_with fail
  refine (markLay_any K4 X5 R5 S5 ns.length st.length ns.length kq Ts st hkq0 hkq1 hnl (unhide HFT) (Nat.le_refl _) _ (by omega) (unhide HCN11) (unhide HCT11)).mono ?_
  rintro e w12 ⟨⟨q, rfl⟩, hm12⟩
  have hB12 := Mid.down hB11 hm12 (by omega)
  have HV12 := hide (CellsO.mid (unhide HV11) hm12 (fun g hg => .inl (by have := unhide HVB g hg; omega)))
  have HG12 := hide (CellsO.mid (unhide HG11) hm12 (fun g hg => .inr (by have := unhide HGB g hg; omega)))
  have hq : ¬ (q : Int) < 0 := by omega
  have hs12 := hm12.size
  clear hm12 HV11 HG11 HX11 HCN11 HCT11 hB11 x0 x1 hkq0 hkq1
  generalize (q : Int) = qi at *
  go_wp2_with fail
  refine (eqCells_own (unhide HG12) (unhide HV12)).mono ?_
  rintro e w13 ⟨rfl, hb13⟩
  have hB13 := bl_trans hB12 hb13
  have HV13 := hide ((unhide HV12).below hb13)
  have HG13 := hide ((unhide HG12).below hb13)
  have hs13 := hb13.size
  clear hb13 HV12 HG12 hB12
  go_wp2_with fail
  obtain ⟨mi, hmi⟩ : ∃ mi : Int, ((1 + lq.length * 2 : Nat) : Int) = mi := ⟨_, rfl⟩
  have hmm : ¬ mi < 0 := by omega
  have HHC := hide (fun w' h => heldCells_any (.slice a1 lq.length cc1) lq.length 1 (by omega) (by omega) w' h)
  have HMC := hide (markCells_any W5.heap.size w13.heap.size (.slice a1 lq.length cc1) lq.length 1 (by omega) (by omega) _ (CanC.of (unhide HG13) (Nat.le_refl _)))
  rw [hmi] at HHC HMC
  clear hmi
  refine (unhide HMC).mono ?_
  rintro e w14 ⟨rfl, hI14, hm14, _⟩
  have hB14 := Mid.down hB13 hm14 (by omega)
  have HV14 := hide (CellsO.mid (unhide HV13) hm14 (fun g hg => .inl (by have := unhide HVB g hg; omega)))
  have HI14 := hide hI14
  clear hI14 hm14 HV13 HG13 hB13
  go_wp2_with fail
  clear HMC
  refine (unhide HHC _ (unhide HI14)).mono ?_
  rintro e w15 ⟨rfl, hb15⟩
  have hB15 := bl_trans hB14 hb15
  have HV15 := hide ((unhide HV14).below hb15)
  have HI15 := hide ((unhide HI14).below hb15)
  clear hb15 HV14 HI14 hB14
  have hcc15 := (box2 (box_below (unhide HX0) hB15)).1
  have HST3 : Hid (Stable (fun w' => w'.cell? ⟨w.heap.size, 0, none⟩ = some (.slice na ns.length nc) ∧ w'.cell? ⟨w.heap.size, 1, none⟩ = some (.slice sa st.length sc) ∧ Below w15.heap.size w15 w')) := ((Stable.cell _ _).and ((Stable.cell _ _).and (Stable.below w15)))
  have hS15 : (fun w' => w'.cell? ⟨w.heap.size, 0, none⟩ = some (.slice na ns.length nc) ∧ w'.cell? ⟨w.heap.size, 1, none⟩ = some (.slice sa st.length sc) ∧ Below w15.heap.size w15 w') w15 := ⟨hcc15.1, hcc15.2, Below.refl _ _⟩
  clear hcc15
  go_wp2_with fail
  go_region_held3 (fun w' => w'.cell? ⟨w.heap.size, 0, none⟩ = some (.slice na ns.length nc) ∧ w'.cell? ⟨w.heap.size, 1, none⟩ = some (.slice sa st.length sc) ∧ Below w15.heap.size w15 w') (first | assumption | (refine (unhide HST3).1 _ _ hbk ?_; assumption) | (refine (unhide HST3).2 _ ?_; assumption))
    (first
      | (go_at_call 7; refine (toFunS_any a cap fs _ hfl (unhide HFB) hl hm ((unhide HR0).below (bl_trans hB15 (q2 (by assumption))))).mono ?_; rintro e wk1 ⟨rfl, hOk, hbk⟩; (try replace hO5 := NumRow.below (l := ns) (by exact hO5) hbk); (try replace hQ5 := TextsRow.below (st := st) (by exact hQ5) hbk); have hOf := OwnFuns.row hOk (unhide HFZ); clear hOk)
      | (go_at_call 8; refine (toLay_any na sa nc sc ns st _ hnl (unhide HFT) h1 h2 h3 h4 ((unhide HN0).below (bl_trans hB15 (q2 (by assumption)))) ((unhide HO0).below (bl_trans hB15 (q2 (by assumption))))).mono ?_; rintro e wk1 ⟨Rk, Sk, hRk, hSk, hEk, rfl, hOk, hQk, hbk⟩; clear hRk hSk hEk; (try replace hOf := FunRow.below (l := fs) (by exact hOf) hbk); have hO5 := OwnNums.row hOk; have hQ5 := OwnTexts.row hQk (unhide HTZ); clear hOk hQk)
      | (go_at_call 9; refine (implImageOf_any _ _ _ _ _ _ fs ns st rr _ (unhide HFT) (Nat.le_refl _) (ml hfl) (Nat.le_refl _) (ml hnl) (Nat.le_refl _) (ml hstl) (by exact hOf) (by exact hO5) (by exact hQ5)).mono ?_; rintro e wk1 ⟨ak, ck, rfl, hUk, hbk⟩; have hU := CellsO.base hUk (Below.size (q2 (by assumption))); clear hUk))
  have hS16 : (fun w' => w'.cell? ⟨w.heap.size, 0, none⟩ = some (.slice na ns.length nc) ∧ w'.cell? ⟨w.heap.size, 1, none⟩ = some (.slice sa st.length sc) ∧ Below w15.heap.size w15 w') wk1 := by assumption
  have hb16 := q2 hS16
  have hU9 := hU
  rw [unhide HLQ] at hU9 ⊢
  have HU := hide hU9
  have hB16 := bl_trans hB15 hb16
  have HV16 := hide ((unhide HV15).below hb16)
  have HI16 := hide ((unhide HI15).below hb16)
  clear hS15 hS16 HST3 hU hU9 hb16 HV15 HI15 hB15
  try clear hOf
  try clear hO5
  try clear hQ5
  go_wp2_with fail
  refine (eqCells_own (unhide HU) (unhide HV16)).mono ?_
  rintro e w17 ⟨rfl, hb17⟩
  have hB17 := bl_trans hB16 hb17
  have HI17 := hide ((unhide HI16).below hb17)
  clear hb17 HU HV16 HI16 hB16
  go_wp2_with fail
  refine (unhide HHC _ (unhide HI17)).mono ?_
  rintro e w18 ⟨rfl, hb18⟩
  have hB18 := bl_trans hB17 hb18
  go_wp2_with fail
  go_ret
  exact ⟨rfl, bl_trans (unhide HB00) hB18⟩

set_option maxRecDepth 100000 in
theorem lifted (os : Os) (started : os.Started) (H : Type) (enc : TypeId × Value → H) :
    ReturnsInHanded {} Tryz.checked os 3 .any (Rows.fnExactImageOfSpec.pre6 enc Tryz.prog Tryz.f3 Rows.fnExactImageOfRow.domain false) (Rows.fnExactImageOfSpec.post enc Tryz.prog Tryz.f3 false true false false) := by
  refine returnsInHanded_of_change (C := Tryz.checked) own started (by kernel_rfl) Tryz.func3
    (ChangeSpec.witness6 (enc := enc) (C := Tryz.checked) false ⟨#[], #[.slice none 0 0, .int .i64 0, .agg #[.slice none 0 0, .slice none 0 0]], []⟩ 8 (by kernel_rfl) (by kernel_rfl) (by kernel_rfl) (by kernel_rfl)) ?_
  intro W base args ds gs before hval0 hW hcnd _
  have hval : ∀ (j : Nat) t v, Tryz.f3.params[j]? = some t → args[j]? = some v → Value.okWide Tryz.prog W .any base t v := hval0
  have hW' := hW
  obtain ⟨p, q, hA0, hV, rfl, hfz, hnd⟩ := hW
  have hA : DataW.TrodAll enc Tryz.prog W 0 (fun _ => true) true Tryz.f3.params.toList args.toList ds p := hA0
  rw [Tryz.params3] at hA hval
  obtain ⟨v0, vs0, d0, ds0, p0, q0, hargs, rfl, rfl, h0, r0⟩ := trodAll_cons hA
  obtain ⟨v1, vs1, d1, ds1, p1, q1, rfl, rfl, rfl, h1, r1⟩ := trodAll_cons r0
  obtain ⟨v2, vs2, d2, ds2, p2, q2, rfl, rfl, rfl, h2, r2⟩ := trodAll_cons r1
  obtain ⟨rfl, rfl, rfl⟩ := trodAll_nil r2
  obtain rfl : args = #[v0, v1, v2] := by cases args; simp_all
  obtain ⟨rfl, rfl⟩ := trodVars_none hV
  have k0 := h0
  have lt0 : ∀ x ∈ p0, x.block < W.heap.size := by obtain ⟨m, hm⟩ := k0; exact DataW.trod_lt m _ _ _ hm
  obtain ⟨a0, cap0, fs0, hv0, hl0, hm0, hr0⟩ := funs_of (hval 0 22 v0 rfl rfl) h0
  have k1 := h1
  have lt1 : ∀ x ∈ p1, x.block < W.heap.size := by obtain ⟨m, hm⟩ := k1; exact DataW.trod_lt m _ _ _ hm
  obtain ⟨a1, hv1, _, _, w1⟩ := open_int Tryz.underlying3 (hval 1 3 v1 rfl rfl) h1
  have k2 := h2
  have lt2 : ∀ x ∈ p2, x.block < W.heap.size := by obtain ⟨m, hm⟩ := k2; exact DataW.trod_lt m _ _ _ hm
  obtain ⟨na2, sa2, nc2, sc2, ns2, st2, hv2, hl2, hm2, hn2, hk2, hs2, ho2⟩ := lay_of (hval 2 26 v2 rfl rfl) h2
  clear hA0 hval0
  subst hv0 hv1 hv2
  refine (walk a0 cap0 fs0 hl0 hm0 a1 w1 na2 sa2 nc2 sc2 ns2 st2 hl2 hm2 hn2 hk2 W hr0 hs2 ho2).mono fun e W' ⟨he, bel⟩ => ?_
  subst he
  exact ⟨_, rfl, _, _, _, [], _, [], hW', trodAll_mk1 (shut_bool Tryz.underlying4 _), (trodAll_cons_mk (Below.trod laidOut (by kernel_rfl) (of_decide_eq_true (by kernel_rfl)) k0 bel lt0) (trodAll_cons_mk (Below.trod laidOut (by kernel_rfl) (of_decide_eq_true (by kernel_rfl)) k1 bel lt1) (trodAll_cons_mk (Below.trod laidOut (by kernel_rfl) (of_decide_eq_true (by kernel_rfl)) k2 bel lt2) trodAll_mk0))), rfl, bel.frame _, fun h => by cases h⟩

theorem proved : Rows.FnExactImageOfSaid :=
  OpenClaim.holds_of_wide 3 Tryz.f3 rfl rfl rfl rfl rfl rfl rfl ⟨rfl, rfl, rfl, rfl, rfl⟩ rfl rfl rfl rfl rfl (by kernel_rfl) Tryz.func3 (by kernel_rfl)
    (of_decide_eq_true (by kernel_rfl)) (by unfold Func.isWrapper; first | (rw [if_pos (by decide +kernel)]; kernel_rfl) | (rw [if_neg (by decide +kernel)]; exact ⟨rfl, rfl⟩))
    (fun os started H enc _ => lifted os started H enc)
#print axioms proved
end Go.Proofs.YthbbmookhcalkaaGreat.fnExactImageOf
