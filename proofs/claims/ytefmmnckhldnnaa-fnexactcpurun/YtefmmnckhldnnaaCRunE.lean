/- For every list of cells and every number the exact law of CpuRun answers true, and the list reads afterwards as it did. No condition. -/
import Derived.Test.YtefmmnckhldnnaaBase
import Derived.WalkKit
import Derived.ProofKit
import Derived.OpenShut
import Derived.ShutString
import Derived.ChangeOld
import Derived.Below
import Derived.Lib.SmallJoins
import Derived.Deep.RegionHeld3
import Derived.Test.YtefmmnckhldnnaaFuns
import Derived.Test.YtefmmnckhldnnaaOpen
import Derived.Test.YtefmmnckhldnnaaKeep
import Derived.Test.YtefmmnckhldnnaaUnits
import Derived.Test.YtefmmnckhldnnaaMark
import Derived.Test.YtefmmnckhldnnaaMarkF
import Derived.Test.YtefmmnckhldnnaaLayN
import Derived.Test.YtefmmnckhldnnaaCellA
import Derived.Test.YtefmmnckhldnnaaImgD
import Derived.Test.YtefmmnckhldnnaaImgOk
import Derived.Test.YtefmmnckhldnnaaRestOk
import Derived.Test.YtefmmnckhldnnaaCOkS
import Derived.Test.YtefmmnckhldnnaaCSpec
import Derived.Test.YtefmmnckhldnnaaCSpecB
import Derived.Test.YtefmmnckhldnnaaCSpecC
import Derived.Test.YtefmmnckhldnnaaCSpecD
import Derived.Test.YtefmmnckhldnnaaCoreG
import Derived.Test.YtefmmnckhldnnaaCMark
namespace Go.Proofs.Ytefmmnckhldnnaa.fnExactCpuRun
open Go.ChangeShapes Go.WideShapes Go.ChangeAt Go.RowKit Go.Joins
open Go.ChangeMaps (open_string shut_string)
open Go.Proofs.Ytefmmnckhldnnaa.Base
open Go.Proofs.Ytefmmnckhldnnaa.Funs
open Go.Proofs.Ytefmmnckhldnnaa.Open
open Go.Proofs.Ytefmmnckhldnnaa.Keep
open Go.Proofs.Ytefmmnckhldnnaa.Units
open Go.Proofs.Ytefmmnckhldnnaa.Mark
open Go.Proofs.Ytefmmnckhldnnaa.MarkF
open Go.Proofs.Ytefmmnckhldnnaa.LayN
open Go.Proofs.Ytefmmnckhldnnaa.CellA
open Go.Proofs.Ytefmmnckhldnnaa.ImgD
open Go.Proofs.Ytefmmnckhldnnaa.ImgOk
open Go.Proofs.Ytefmmnckhldnnaa.RestOk
open Go.Proofs.Ytefmmnckhldnnaa.COkS
open Go.Proofs.Ytefmmnckhldnnaa.CSpec
open Go.Proofs.Ytefmmnckhldnnaa.CSpecB
open Go.Proofs.Ytefmmnckhldnnaa.CSpecC
open Go.Proofs.Ytefmmnckhldnnaa.CSpecD
open Go.Proofs.Ytefmmnckhldnnaa.CoreG
open Go.Proofs.Ytefmmnckhldnnaa.CMark
set_option linter.unusedVariables false
set_option maxRecDepth 100000
theorem own : ownKnob Try.prog.godebug = none := by kernel_rfl
theorem laidOut : laidOutB Try.prog = true := by kernel_rfl

/-- A machine in a box, its lists in rows of their own. -/
structure Held (w' : World) (B bx : Nat) (p c d : Int) (sa oa : Option Addr) (sc oc : Nat) (st : List Int) (os : List Int) : Prop where
  box : w'.heap[bx]? = some (.cells #[.int .i64 p, .int .i64 c, .slice sa st.length sc, .slice oa os.length oc, .int .i64 d] 78)
  sp : IntOwn w' B (.slice sa st.length sc) st
  nu : IntOwn w' B (.slice oa os.length oc) os
theorem Held.below {w w' : World} {B bx : Nat} {p c d : Int} {sa oa : Option Addr} {sc oc : Nat} {st : List Int} {os : List Int} (h : Held w B bx p c d sa oa sc oc st os) (hb : Below w.heap.size w w') : Held w' B bx p c d sa oa sc oc st os := ⟨box_below h.box hb, int_below h.sp hb, int_below h.nu hb⟩
theorem own_mid {w w' : World} {R E B z n : Nat} {e : TypeId} {v : Value} {xs : List Value} (h : w.ownsRow B e z v n xs) (hb : Mid R E w w') (hr : ∀ g, v.ownBlock = some g → g < R ∨ E ≤ g) : w'.ownsRow B e z v n xs := by
  obtain ⟨h0, h1 | ⟨g, cap, cur, rfl, h2, h3, h4⟩⟩ := h
  · exact ⟨h0, .inl h1⟩
  · exact ⟨h0, .inr ⟨g, cap, cur, rfl, h2, hb.box h3 (hr g rfl), h4⟩⟩
theorem Held.mid {w w' : World} {R E B bx : Nat} {p c d : Int} {sa oa : Option Addr} {sc oc : Nat} {st : List Int} {os : List Int} (h : Held w B bx p c d sa oa sc oc st os) (hb : Mid R E w w') (h0 : bx < R ∨ E ≤ bx) (h1 : ∀ g, (Value.slice sa st.length sc).ownBlock = some g → g < R ∨ E ≤ g) (h2 : ∀ g, (Value.slice oa os.length oc).ownBlock = some g → g < R ∨ E ≤ g) : Held w' B bx p c d sa oa sc oc st os := ⟨hb.box h.box h0, own_mid h.sp hb h1, own_mid h.nu hb h2⟩
theorem Held.new {w : World} {B : Nat} {p c d : Int} {sa oa : Option Addr} {sc oc : Nat} {st : List Int} {os : List Int} (h1 : IntOwn w B (.slice sa st.length sc) st) (h2 : IntOwn w B (.slice oa os.length oc) os) : Held (w.alloc (.cells #[.int .i64 p, .int .i64 c, .slice sa st.length sc, .slice oa os.length oc, .int .i64 d] 78)) B w.heap.size p c d sa oa sc oc st os :=
  ⟨new_block w _, int_below h1 (below_alloc1 _ _), int_below h2 (below_alloc1 _ _)⟩
theorem eqM_any (p c d : Int) (sa oa sa' oa' : Option Addr) (sc oc sc' oc' : Nat) (st : List Int) (os : List Int) (w : World) (h1 : st.length ≤ sc) (h2 : sc ≤ maxLen) (h3 : os.length ≤ oc) (h4 : oc ≤ maxLen) (_ : st.length ≤ sc') (_ : sc' ≤ maxLen) (_ : os.length ≤ oc') (_ : oc' ≤ maxLen) (hs : NumRow w sa st) (ho : NumRow w oa os) (hs' : NumRow w sa' st) (ho' : NumRow w oa' os) :
    Calls Try.prog 46 #[.agg #[.int .i64 p, .int .i64 c, .slice sa st.length sc, .slice oa os.length oc, .int .i64 d], .agg #[.int .i64 p, .int .i64 c, .slice sa' st.length sc', .slice oa' os.length oc', .int .i64 d]] w fun e w' => e = .returned (.bool true) ∧ Below w.heap.size w w' :=
  eqCpu_same p c d sa oa sa' oa' sc oc sc' oc' st os w h1 h2 h3 h4 hs ho hs' ho'
theorem full_small (fs : List CellD) (n : Int) : (allC fs n).st.length ≤ 5 ∧ (allC fs n).os.length ≤ 30 := by
  by_cases h : imageB fs 100 = false ∨ n < 0 ∨ 200 < n
  · rw [full_bad h]; exact ⟨Nat.zero_le _, Nat.zero_le _⟩
  · obtain ⟨hok, hn0, hn2⟩ : imageB fs 100 = true ∧ 0 ≤ n ∧ n ≤ 200 := by
      cases hok : imageB fs 100
      · exact absurd (.inl hok) h
      · exact ⟨rfl, by omega, by omega⟩
    obtain ⟨q, rfl⟩ : ∃ q : Nat, n = q := ⟨n.toNat, (Int.toNat_of_nonneg hn0).symm⟩
    rw [full_ok hok (by omega)]
    have := run_invC hok q (zero_invC hok)
    exact ⟨this.sl, this.ol⟩
set_option maxHeartbeats 16000000 in
theorem walk (a : Option Addr) (cap : Nat) (fs : List CellD) (hl : fs.length ≤ cap) (hm : cap ≤ maxLen) (n : Int) (_wn : (Lit.int .i64 n).wf = true) (w : World) (hr : CellRow w a fs) :
    Calls Try.prog 13 #[.slice a fs.length cap, .int .i64 n] w fun e w' => e = .returned (.bool true) ∧ Below w.heap.size w w' := by
  have HR := hide hr
  clear hr
  by_cases hz : sz1 fs.length 1048576 < 0
  · go_enter Try.func13, Try.ntmps13
    go_wp2_with fail
    refine (szCellS_any a cap fs _ _ (by omega) (by omega) hl hm).mono ?_
    rintro e w1 ⟨rfl, hb1⟩
    go_wp2_with fail
    go_ret
    exact ⟨rfl, hb1⟩
  have hlen := sz1_len (n := fs.length) (l := 1048576) (by omega) (by omega)
  go_enter Try.func13, Try.ntmps13
  go_wp2_with fail
  refine (szCellS_any a cap fs _ _ (by omega) (by omega) hl hm).mono ?_
  rintro e w1 ⟨rfl, hb1⟩
  have HR1 := hide ((unhide HR).below hb1)
  go_wp2_with fail
  refine (toCellS_any a cap fs _ hlen hl hm (unhide HR1)).mono ?_
  rintro e w2 ⟨rfl, hO2, hb2⟩
  have hB2 := bl_trans hb1 hb2
  have HO2 := hide (hO2.row)
  clear hO2 hb1 hb2 HR1
  go_wp2_with fail
  refine (specCpuRun_any _ _ fs n _ (Nat.le_refl _) (by unfold maxLen; omega) (unhide HO2)).mono ?_
  have HSM := hide (full_small fs n)
  have HFI : Hid (∀ (a : Option Addr) (cap : Nat) (w : World), fs.length ≤ cap → cap ≤ maxLen → CellRow w a fs → Calls Try.prog 55 #[.slice a fs.length cap, .int .i64 n] w (RunEnd w fs n)) := fun a cap w h1 h2 h3 => implCpuRun_any a cap fs n w h1 h2 h3
  unfold RunEnd at HFI ⊢
  generalize allC fs n = mm at *
  obtain ⟨p, c, d, st, os⟩ := mm
  obtain ⟨hs5, ho30⟩ := unhide HSM
  simp only at hs5 ho30
  rintro e w3 ⟨sv0, ov0, rfl, hM0⟩
  obtain ⟨sa0, sc0, rfl, g1, g2⟩ := int_form hM0.1
  obtain ⟨oa0, oc0, rfl, g3, g4⟩ := int_form hM0.2.1
  have HW := hide (Held.new (p := p) (c := c) (d := d) hM0.1 hM0.2.1)
  have HN1 : Hid (∀ g, (Value.slice sa0 st.length sc0).ownBlock = some g → g < w3.heap.size) := fun g hg => (World.ownsRow.lt hM0.1 g hg).2
  have HN2 : Hid (∀ g, (Value.slice oa0 os.length oc0).ownBlock = some g → g < w3.heap.size) := fun g hg => (World.ownsRow.lt hM0.2.1 g hg).2
  have hB3 := bl_alloc (bl_trans hB2 hM0.2.2.2) (.cells #[.int .i64 p, .int .i64 c, .slice sa0 st.length sc0, .slice oa0 os.length oc0, .int .i64 d] 78)
  have hs3 := hB3.size
  rw [World.size_alloc] at hs3
  clear hM0 hB2 HO2 HSM
  unfold aggC
  simp only
  go_wp2_with fail
  refine (toCellS_any a cap fs _ hlen hl hm ((unhide HR).below hB3)).mono ?_
  rintro e w4 ⟨rfl, hO4, hb4⟩
  rw [World.size_alloc] at hO4 ⊢
  have hB4 := bl_trans hB3 hb4
  have HW4 := hide ((unhide HW).below hb4)
  have HO4 := hide hO4
  have hs4 : w3.heap.size + 1 ≤ w4.heap.size := by have := hb4.size; rw [World.size_alloc] at this; exact this
  have hs4' : w3.heap.size + 1 < w4.heap.size := by obtain ⟨C, hC, _⟩ := hO4; exact (Array.getElem?_eq_some_iff.1 hC).1
  have HM4 := hide (CanC.made hO4 (Nat.le_refl (w3.heap.size + 1)) hs4')
  clear hO4 hb4 HW hB3
  go_wp2_with fail
  refine (unhide HFI _ _ _ (Nat.le_refl _) (by unfold maxLen; omega) ((unhide HO4).row)).mono ?_
  rintro e w5 ⟨sv1, ov1, rfl, hM1⟩
  obtain ⟨sa1, sc1, rfl, k1, k2⟩ := int_form hM1.1
  obtain ⟨oa1, oc1, rfl, k3, k4⟩ := int_form hM1.2.1
  have HG := hide (Held.new (p := p) (c := c) (d := d) hM1.1 hM1.2.1)
  have HAP := hide hM1.2.2.1
  have HCS : Hid (CanN (w5.alloc (.cells #[.int .i64 p, .int .i64 c, .slice sa1 st.length sc1, .slice oa1 os.length oc1, .int .i64 d] 78)) w4.heap.size w5.heap.size (.slice sa1 st.length sc1) st.length) := (CanN.of hM1.1 (Nat.le_refl _)).below (below_alloc1 _ _)
  have HCN : Hid (CanN (w5.alloc (.cells #[.int .i64 p, .int .i64 c, .slice sa1 st.length sc1, .slice oa1 os.length oc1, .int .i64 d] 78)) w4.heap.size w5.heap.size (.slice oa1 os.length oc1) os.length) := (CanN.of hM1.2.1 (Nat.le_refl _)).below (below_alloc1 _ _)
  have hA5 := bl_alloc hM1.2.2.2 (.cells #[.int .i64 p, .int .i64 c, .slice sa1 st.length sc1, .slice oa1 os.length oc1, .int .i64 d] 78)
  have HW5 := hide ((unhide HW4).below hA5)
  have HO5 := hide ((unhide HO4).below hA5)
  have HM5 := hide ((unhide HM4).below hA5)
  have hB5 := bl_trans hB4 hA5
  have hs5' := hM1.2.2.2.size
  clear hM1 hA5 hB4 HW4 HO4 HM4
  unfold aggC
  simp only
  have xw := (box5 (unhide HW5).box).1
  have xg := (box5 (unhide HG).box).1
  go_wp2_with fail
  clear xw xg
  refine (eqM_any p c d sa1 oa1 sa0 oa0 sc1 oc1 sc0 oc0 st os _ k1 k2 k3 k4 g1 g2 g3 g4 (int_row (unhide HG).sp) (int_row (unhide HG).nu) (int_row (unhide HW5).sp) (int_row (unhide HW5).nu)).mono ?_
  rintro e w6 ⟨rfl, hb6⟩
  have hB6 := bl_trans hB5 hb6
  have z6 : w5.heap.size + 1 ≤ w6.heap.size := by have := hb6.size; rw [World.size_alloc] at this; exact this
  have HW6 := hide ((unhide HW5).below hb6)
  have HG6 := hide ((unhide HG).below hb6)
  have HO6 := hide ((unhide HO5).below hb6)
  have HM6 := hide ((unhide HM5).below hb6)
  have HS6 := hide ((unhide HCS).below hb6)
  have HT6 := hide ((unhide HCN).below hb6)
  clear HW5 HG HO5 HM5 HCS HCN hB5 hb6
  go_wp2_with fail
  refine (toCellS_any a cap fs _ hlen hl hm ((unhide HR).below hB6)).mono ?_
  rintro e w7 ⟨rfl, hO7, hb7⟩
  have hB7 := bl_trans hB6 hb7
  have z7 := Nat.le_trans z6 hb7.size
  have HO7 := hide (hO7.row)
  have HX7 := hide (((unhide HO6).below hb7).row)
  have HW7 := hide ((unhide HW6).below hb7)
  have HG7 := hide ((unhide HG6).below hb7)
  have HM7 := hide ((unhide HM6).below hb7)
  have HS7 := hide ((unhide HS6).below hb7)
  have HT7 := hide ((unhide HT6).below hb7)
  clear hO7 HO6 HW6 HG6 HM6 HS6 HT6 hB6 hb7 z6
  go_wp2_with fail
  refine (eqCellS_same _ _ _ _ fs _ (Nat.le_refl _) (by unfold maxLen; omega) (unhide HX7) (unhide HO7)).mono ?_
  rintro e w8 ⟨rfl, hb8⟩
  have hB8 := bl_trans hB7 hb8
  have z8 := Nat.le_trans z7 hb8.size
  have HW8 := hide ((unhide HW7).below hb8)
  have HG8 := hide ((unhide HG7).below hb8)
  have HM8 := hide ((unhide HM7).below hb8)
  have HS8 := hide ((unhide HS7).below hb8)
  have HT8 := hide ((unhide HT7).below hb8)
  clear HO7 HX7 HW7 HG7 HM7 HS7 HT7 hB7 hb8 z7
  go_wp2_with fail
  refine (markCells_any (w3.heap.size + 1) w4.heap.size _ fs.length 1 hlen (by omega) _ (unhide HM8)).mono ?_
  rintro e w9 ⟨rfl, _, hb9, _⟩
  have hB9 := Mid.down hB8 hb9 (by omega)
  have z9 := Nat.le_trans z8 hb9.size
  have HW9 := hide ((unhide HW8).mid hb9 (.inl (by omega)) (fun g hg => .inl (by have := unhide HN1 g hg; omega)) (fun g hg => .inl (by have := unhide HN2 g hg; omega)))
  have HG9 := hide ((unhide HG8).mid hb9 (.inr (by omega)) (fun g hg => .inr (World.ownsRow.lt (unhide HG8).sp g hg).1) (fun g hg => .inr (World.ownsRow.lt (unhide HG8).nu g hg).1))
  have HS9 := hide ((unhide HS8).mid hb9 (.inl (Nat.le_refl _)))
  have HT9 := hide ((unhide HT8).mid hb9 (.inl (Nat.le_refl _)))
  clear HW8 HG8 HM8 HS8 HT8 hB8 hb9 z8
  have hq' : ¬ ((1 + fs.length * 2 : Nat) : Int) < 0 := by omega
  generalize ((1 + fs.length * 2 : Nat) : Int) = kk at hq' ⊢
  have xw := (box5 (unhide HW9).box).1
  have xg := (box5 (unhide HG9).box).1
  go_wp2_with fail
  clear xw xg
  refine (eqM_any p c d sa1 oa1 sa0 oa0 sc1 oc1 sc0 oc0 st os _ k1 k2 k3 k4 g1 g2 g3 g4 (int_row (unhide HG9).sp) (int_row (unhide HG9).nu) (int_row (unhide HW9).sp) (int_row (unhide HW9).nu)).mono ?_
  rintro e w10 ⟨rfl, hb10⟩
  have hB10 := bl_trans hB9 hb10
  have HW10 := hide ((unhide HW9).below hb10)
  have HG10 := hide (box_below (unhide HG9).box hb10)
  have HS10 := hide ((unhide HS9).below hb10)
  have HT10 := hide ((unhide HT9).below hb10)
  clear HW9 HG9 HS9 HT9 hB9 hb10 z9
  have xg := (box5 (unhide HG10)).1
  go_wp2_with fail
  clear xg
  refine (markCpu_any w4.heap.size w5.heap.size (⟨p, c, d, st, os⟩ : CM) _ _ sa1 oa1 sc1 oc1 st.length os.length 1 rfl rfl (by omega) (by omega) (by omega) _ (unhide HS10) (unhide HT10) (unhide HAP)).mono ?_
  rintro e w11 ⟨rfl, hI1, hI2, hb11⟩
  have hkq : ¬ ((1 + st.length + os.length : Nat) : Int) < 0 := by omega
  generalize hkk : ((1 + st.length + os.length : Nat) : Int) = kq at hkq ⊢
  have HKQ := hide hkk
  clear hkk
  have hB11 := Mid.down hB10 hb11 (by omega)
  have HW11 := hide ((unhide HW10).mid hb11 (.inl (by omega)) (fun g hg => .inl (by have := unhide HN1 g hg; omega)) (fun g hg => .inl (by have := unhide HN2 g hg; omega)))
  have HG11 := hide (hb11.box (unhide HG10) (.inr (Nat.le_refl _)))
  have HI1 := hide hI1
  have HI2 := hide hI2
  clear HW10 HG10 HS10 HT10 hB10 hb11 hI1 hI2
  have xg := (box5 (unhide HG11)).1
  go_wp2_with fail
  clear xg
  refine (heldCpu_any (⟨p, c, d, st, os⟩ : CM) _ _ sa1 oa1 sc1 oc1 st.length os.length 1 rfl rfl (by omega) (by omega) (by omega) _ (unhide HI1) (unhide HI2)).mono ?_
  rintro e w12 ⟨rfl, hb12⟩
  have hB12 := bl_trans hB11 hb12
  have HW12 := hide ((unhide HW11).below hb12)
  have HG12 := hide (box_below (unhide HG11) hb12)
  have HJ1 := hide ((unhide HI1).below hb12)
  have HJ2 := hide ((unhide HI2).below hb12)
  clear HW11 HG11 HI1 HI2 hB11 hb12
  rw [unhide HKQ]
  go_wp2_with fail
  refine (toCellS_any a cap fs _ hlen hl hm ((unhide HR).below hB12)).mono ?_
  rintro e w13 ⟨rfl, hO13, hb13⟩
  have hB13 := bl_trans hB12 hb13
  have HO13 := hide (hO13.row)
  have HW13 := hide ((unhide HW12).below hb13)
  have HG13 := hide (box_below (unhide HG12) hb13)
  have HI1 := hide ((unhide HJ1).below hb13)
  have HI2 := hide ((unhide HJ2).below hb13)
  clear hO13 HW12 HG12 HJ1 HJ2 hB12 hb13
  go_wp2_with fail
  refine (unhide HFI _ _ _ (Nat.le_refl _) (by unfold maxLen; omega) (unhide HO13)).mono ?_
  rintro e w14 ⟨sv2, ov2, rfl, hM2⟩
  obtain ⟨sa2, sc2, rfl, l1, l2⟩ := int_form hM2.1
  obtain ⟨oa2, oc2, rfl, l3, l4⟩ := int_form hM2.2.1
  have HH := hide (Held.new (p := p) (c := c) (d := d) hM2.1 hM2.2.1)
  have hA14 := bl_alloc hM2.2.2.2 (.cells #[.int .i64 p, .int .i64 c, .slice sa2 st.length sc2, .slice oa2 os.length oc2, .int .i64 d] 78)
  have hB14 := bl_trans hB13 hA14
  have HW14 := hide ((unhide HW13).below hA14)
  have HG14 := hide (box_below (unhide HG13) hA14)
  have HJ1 := hide ((unhide HI1).below hA14)
  have HJ2 := hide ((unhide HI2).below hA14)
  clear hM2 hA14 HW13 HG13 HI1 HI2 hB13 HO13
  unfold aggC
  simp only
  have xw := (box5 (unhide HW14).box).1
  have xh := (box5 (unhide HH).box).1
  go_wp2_with fail
  clear xw xh
  refine (eqM_any p c d sa2 oa2 sa0 oa0 sc2 oc2 sc0 oc0 st os _ l1 l2 l3 l4 g1 g2 g3 g4 (int_row (unhide HH).sp) (int_row (unhide HH).nu) (int_row (unhide HW14).sp) (int_row (unhide HW14).nu)).mono ?_
  rintro e w15 ⟨rfl, hb15⟩
  have hB15 := bl_trans hB14 hb15
  have HG15 := hide (box_below (unhide HG14) hb15)
  have HI1 := hide ((unhide HJ1).below hb15)
  have HI2 := hide ((unhide HJ2).below hb15)
  clear HH HW14 HG14 HJ1 HJ2 hB14 hb15
  have xg := (box5 (unhide HG15)).1
  go_wp2_with fail
  clear xg
  refine (heldCpu_any (⟨p, c, d, st, os⟩ : CM) _ _ sa1 oa1 sc1 oc1 st.length os.length 1 rfl rfl (by omega) (by omega) (by omega) _ (unhide HI1) (unhide HI2)).mono ?_
  rintro e w16 ⟨rfl, hb16⟩
  have hB16 := bl_trans hB15 hb16
  rw [unhide HKQ]
  clear HI1 HI2 HG15 hb16 hB15 HKQ
  go_wp2_with fail
  go_ret
  exact ⟨rfl, hB16⟩

set_option maxRecDepth 100000 in
theorem lifted (os : Os) (started : os.Started) (H : Type) (enc : TypeId × Value → H) :
    ReturnsInHanded {} Try.checked os 13 .any (Rows.fnExactCpuRunSpec.pre6 enc Try.prog Try.f13 Rows.fnExactCpuRunRow.domain false) (Rows.fnExactCpuRunSpec.post enc Try.prog Try.f13 false true false false) := by
  refine returnsInHanded_of_change (C := Try.checked) own started (by kernel_rfl) Try.func13
    (ChangeSpec.witness6 (enc := enc) (C := Try.checked) false ⟨#[], #[.slice none 0 0, .int .i64 0], []⟩ 8 (by kernel_rfl) (by kernel_rfl) (by kernel_rfl) (by kernel_rfl)) ?_
  intro W base args ds gs before hval0 hW hcnd _
  have hval : ∀ (j : Nat) t v, Try.f13.params[j]? = some t → args[j]? = some v → Value.okWide Try.prog W .any base t v := hval0
  have hW' := hW
  obtain ⟨p, q, hA0, hV, rfl, hfz, hnd⟩ := hW
  have hA : DataW.TrodAll enc Try.prog W 0 (fun _ => true) true Try.f13.params.toList args.toList ds p := hA0
  rw [Try.params13] at hA hval
  obtain ⟨v0, vs0, d0, ds0, p0, q0, hargs, rfl, rfl, h0, r0⟩ := trodAll_cons hA
  obtain ⟨v1, vs1, d1, ds1, p1, q1, rfl, rfl, rfl, h1, r1⟩ := trodAll_cons r0
  obtain ⟨rfl, rfl, rfl⟩ := trodAll_nil r1
  obtain rfl : args = #[v0, v1] := by cases args; simp_all
  obtain ⟨rfl, rfl⟩ := trodVars_none hV
  have k0 := h0
  have lt0 : ∀ x ∈ p0, x.block < W.heap.size := by obtain ⟨m, hm⟩ := k0; exact DataW.trod_lt m _ _ _ hm
  obtain ⟨a0, cap0, xs0, hv0, hl0, hm0, hr0⟩ := cells_of (hval 0 68 v0 rfl rfl) h0
  have k1 := h1
  have lt1 : ∀ x ∈ p1, x.block < W.heap.size := by obtain ⟨m, hm⟩ := k1; exact DataW.trod_lt m _ _ _ hm
  obtain ⟨a1, hv1, _, _, w1⟩ := open_int Try.underlying3 (hval 1 3 v1 rfl rfl) h1
  clear hA0 hval0
  subst hv0 hv1
  refine (walk a0 cap0 xs0 hl0 hm0 a1 w1 W hr0).mono fun e W' ⟨he, bel⟩ => ?_
  subst he
  exact ⟨_, rfl, _, _, _, [], _, [], hW', trodAll_mk1 (shut_bool Try.underlying4 _), (trodAll_cons_mk (Below.trod laidOut (by kernel_rfl) (of_decide_eq_true (by kernel_rfl)) k0 bel lt0) (trodAll_cons_mk (Below.trod laidOut (by kernel_rfl) (of_decide_eq_true (by kernel_rfl)) k1 bel lt1) trodAll_mk0)), rfl, bel.frame _, fun h => by cases h⟩

theorem proved : Rows.FnExactCpuRunSaid :=
  OpenClaim.holds_of_wide 13 Try.f13 rfl rfl rfl rfl rfl rfl rfl ⟨rfl, rfl, rfl, rfl, rfl⟩ rfl rfl rfl rfl rfl (by kernel_rfl) Try.func13 (by kernel_rfl)
    (of_decide_eq_true (by kernel_rfl)) (by unfold Func.isWrapper; first | (rw [if_pos (by decide +kernel)]; kernel_rfl) | (rw [if_neg (by decide +kernel)]; exact ⟨rfl, rfl⟩))
    (fun os started H enc _ => lifted os started H enc)
#print axioms proved
end Go.Proofs.Ytefmmnckhldnnaa.fnExactCpuRun
