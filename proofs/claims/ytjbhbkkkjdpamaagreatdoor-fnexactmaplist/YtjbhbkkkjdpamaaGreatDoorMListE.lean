/- For every program and laying the exact law of MapList answers true, and all read afterwards as they did. No condition. -/
import Derived.Test.YtjbhbkkkjdpamaaGreatDoorBase
import Derived.WalkKit
import Derived.ProofKit
import Derived.OpenShut
import Derived.ShutString
import Derived.ChangeOld
import Derived.Below
import Derived.Lib.SmallJoins
import Derived.Deep.DeepCutAuto
import Derived.Deep.RegionHeld3
import Derived.LaidMore
import Derived.Stop.Joined
import Derived.Stop.LaidErr
import Derived.MakeChecks
import Derived.SevenTiedAt
import Derived.Lib.LaidTab
import Derived.Lib.ItoaNum
import Derived.Test.YtjbhbkkkjdpamaaGreatDoorTie
import Derived.Test.YtjbhbkkkjdpamaaGreatDoorCards
import Derived.Test.YtjbhbkkkjdpamaaGreatDoorFuns
import Derived.Test.YtjbhbkkkjdpamaaGreatDoorOpen
import Derived.Test.YtjbhbkkkjdpamaaGreatDoorKeep
import Derived.Test.YtjbhbkkkjdpamaaGreatDoorUnits
import Derived.Test.YtjbhbkkkjdpamaaGreatDoorRefs
import Derived.Test.YtjbhbkkkjdpamaaGreatDoorLayN
import Derived.Test.YtjbhbkkkjdpamaaGreatDoorLayA
import Derived.Test.YtjbhbkkkjdpamaaGreatDoorLayD
import Derived.Test.YtjbhbkkkjdpamaaGreatDoorLayV
import Derived.Test.YtjbhbkkkjdpamaaGreatDoorLayO
import Derived.Test.YtjbhbkkkjdpamaaGreatDoorMapD
import Derived.Test.YtjbhbkkkjdpamaaGreatDoorMapA
import Derived.Test.YtjbhbkkkjdpamaaGreatDoorMapJ
import Derived.Test.YtjbhbkkkjdpamaaGreatDoorMapT
import Derived.Test.YtjbhbkkkjdpamaaGreatDoorMapK
import Derived.Test.YtjbhbkkkjdpamaaGreatDoorMapN
import Derived.Test.YtjbhbkkkjdpamaaGreatDoorMapP
import Derived.Test.YtjbhbkkkjdpamaaGreatDoorMapL
namespace Go.Proofs.YtjbhbkkkjdpamaaGreatDoor.fnExactMapList
open Go.ChangeShapes Go.WideShapes Go.ChangeAt Go.RowKit Go.Joins
open Go.ChangeMaps (open_string shut_string)
open Go.Proofs.YtjbhbkkkjdpamaaGreatDoor.Base
open Go.Proofs.YtjbhbkkkjdpamaaGreatDoor.Funs
open Go.Proofs.YtjbhbkkkjdpamaaGreatDoor.Open
open Go.Proofs.YtjbhbkkkjdpamaaGreatDoor.Keep
open Go.Proofs.YtjbhbkkkjdpamaaGreatDoor.Units
open Go.Proofs.YtjbhbkkkjdpamaaGreatDoor.Refs
open Go.Proofs.YtjbhbkkkjdpamaaGreatDoor.LayN
open Go.Proofs.YtjbhbkkkjdpamaaGreatDoor.LayA
open Go.Proofs.YtjbhbkkkjdpamaaGreatDoor.LayD
open Go.Proofs.YtjbhbkkkjdpamaaGreatDoor.LayV
open Go.Proofs.YtjbhbkkkjdpamaaGreatDoor.LayO
open Go.Proofs.YtjbhbkkkjdpamaaGreatDoor.MapD
open Go.Proofs.YtjbhbkkkjdpamaaGreatDoor.MapA
open Go.Proofs.YtjbhbkkkjdpamaaGreatDoor.MapJ
open Go.Proofs.YtjbhbkkkjdpamaaGreatDoor.MapT
open Go.Proofs.YtjbhbkkkjdpamaaGreatDoor.MapK
open Go.Proofs.YtjbhbkkkjdpamaaGreatDoor.MapN
open Go.Proofs.YtjbhbkkkjdpamaaGreatDoor.MapP
open Go.Proofs.YtjbhbkkkjdpamaaGreatDoor.MapL
set_option linter.unusedVariables false
set_option maxRecDepth 100000
theorem own : ownKnob Tryz.prog.godebug = none := by kernel_rfl
theorem laidOut : laidOutB Tryz.prog = true := by kernel_rfl

theorem q0 {a b r : Prop} (h : a ∧ b ∧ r) : a ∧ b := ⟨h.1, h.2.1⟩
theorem q1 {a b c d r : Prop} (h : a ∧ b ∧ c ∧ d ∧ r) : c ∧ d := ⟨h.2.2.1, h.2.2.2.1⟩
theorem p0 {a r : Prop} (h : a ∧ r) : a := h.1
theorem p1 {a b c r : Prop} (h : a ∧ b ∧ c ∧ r) : b ∧ c := ⟨h.2.1, h.2.2.1⟩
theorem p3 {a b c d r : Prop} (h : a ∧ b ∧ c ∧ d ∧ r) : d := h.2.2.2.1
theorem p4 {a b c d e f r : Prop} (h : a ∧ b ∧ c ∧ d ∧ e ∧ f ∧ r) : e ∧ f := ⟨h.2.2.2.2.1, h.2.2.2.2.2.1⟩
theorem ml {n : Nat} (h : n ≤ 1048576) : n ≤ maxLen := by unfold maxLen; omega
set_option maxHeartbeats 16000000 in
theorem walk (a : Option Addr) (cap : Nat) (fs : List FunD) (hl : fs.length ≤ cap) (hm : cap ≤ maxLen) (na sa : Option Addr) (nc sc : Nat) (ns : List Int) (st : List (List ByteArray)) (h1 : ns.length ≤ nc) (h2 : nc ≤ maxLen) (h3 : st.length ≤ sc) (h4 : sc ≤ maxLen) (w : World) (hf : FunRow w a fs) (hs : NumRow w na ns) (ho : TextsRow w sa st) (htab : Lib.TabIs Tryz.prog w "internal/strconv.uint64pow10" .u64 Lib.pow10Tab) :
    Calls Tryz.prog 4 #[.slice a fs.length cap, .agg #[.slice na ns.length nc, .slice sa st.length sc]] w fun e w' => e = .returned (.bool true) ∧ Below w.heap.size w w' := by
  have HT := hide htab
  have HST : Hid (Stable (fun w' => FunRow w' a fs ∧ NumRow w' na ns ∧ TextsRow w' sa st ∧ w'.cell? ⟨w.heap.size, 0, none⟩ = some (.slice na ns.length nc) ∧ w'.cell? ⟨w.heap.size, 1, none⟩ = some (.slice sa st.length sc) ∧ Below w.heap.size w w')) := ((Stable.frow a fs).and ((Stable.nrow na ns).and ((Stable.tsrow sa st).and ((Stable.cell ⟨w.heap.size, 0, none⟩ (.slice na ns.length nc)).and ((Stable.cell ⟨w.heap.size, 1, none⟩ (.slice sa st.length sc)).and (Stable.below w))))))
  have HS0 : Hid ((fun w' => FunRow w' a fs ∧ NumRow w' na ns ∧ TextsRow w' sa st ∧ w'.cell? ⟨w.heap.size, 0, none⟩ = some (.slice na ns.length nc) ∧ w'.cell? ⟨w.heap.size, 1, none⟩ = some (.slice sa st.length sc) ∧ Below w.heap.size w w') (w.alloc (.cells #[.slice na ns.length nc, .slice sa st.length sc] 26))) := by
    have n1 := (box2 (new_block w (.cells #[.slice na ns.length nc, .slice sa st.length sc] 26))).1
    exact ⟨hf.below (below_alloc1 _ _), hs.below (below_alloc1 _ _), ho.below (below_alloc1 _ _), n1.1, n1.2, below_alloc1 _ _⟩
  clear hf hs ho htab
  obtain ⟨o0, h0⟩ : ∃ o0, mapListB fs ns st = o0 := ⟨_, rfl⟩
  have HO := hide h0
  clear h0
  by_cases hz : szFs fs 1048576 < 0
  · go_enter Tryz.func4, Tryz.ntmps4
    go_wp2_with fail
    refine (szFunS_any a cap fs _ _ (by omega) (by omega) hl hm (p0 (unhide HS0))).mono ?_
    rintro e w1 ⟨rfl, hb1⟩
    go_wp2_with fail
    go_ret
    exact ⟨rfl, bl_trans (below_alloc1 _ _) hb1⟩
  have hz0 : 0 ≤ szFs fs 1048576 := by omega
  have hz1 : szFs fs 1048576 ≤ 1048576 := szFs_bd _ (by omega) (by omega)
  obtain ⟨hfl, hfb⟩ := szFs_len (by omega) hz0
  have HFB := hide hfb
  clear hfb hz
  go_enter Tryz.func4, Tryz.ntmps4
  go_wp2_with fail
  refine (szFunS_any a cap fs _ _ (by omega) (by omega) hl hm (p0 (unhide HS0))).mono ?_
  rintro e w1 ⟨rfl, hb1⟩
  have hS1 := (unhide HST).1 _ _ hb1 (unhide HS0)
  clear hb1 HS0
  have HS1 := hide hS1
  obtain ⟨_, _, _, c0, c1, _⟩ := hS1
  generalize szFs fs 1048576 = z at *
  by_cases hy : szLayI ns.length st z < 0
  · go_wp2_with fail
    refine (szLay_any na sa nc sc ns.length st z _ hz0 hz1 h1 h2 h3 h4 (p1 (unhide HS1)).2).mono ?_
    rintro e w2 ⟨rfl, hb2⟩
    have hB2 := bl_trans (unhide HS1).2.2.2.2.2 hb2
    clear c0 c1
    go_wp2_with fail
    go_ret
    exact ⟨rfl, hB2⟩
  obtain ⟨hnl, hft⟩ := szLay_few hz1 (show 0 ≤ szLayI ns.length st z by omega)
  have HFT := hide hft
  have hstl := hft.1
  clear hft
  go_wp2_with fail
  refine (szLay_any na sa nc sc ns.length st z _ hz0 hz1 h1 h2 h3 h4 (p1 (unhide HS1)).2).mono ?_
  rintro e w2 ⟨rfl, hb2⟩
  have hS2 := (unhide HST).1 _ _ hb2 (unhide HS1)
  have HFZ : Hid (∀ f ∈ fs, f.nm.size ≤ maxLen ∧ f.body.length ≤ maxLen ∧ ∀ x ∈ f.body, x.s.size ≤ maxLen) := (p0 hS2).sizes
  have HTZ : Hid (FitT st) := (p1 hS2).2.sizes
  clear hb2 HS1 c0 c1
  generalize szLayI ns.length st z = z2 at *
  have HSP : Hid (∀ {a : Option Addr} {na sa : Option Addr} w', FunRow w' a fs → NumRow w' na ns → TextsRow w' sa st → Calls Tryz.prog 14 #[.slice a fs.length fs.length, .agg #[.slice na ns.length ns.length, .slice sa st.length st.length]] w' fun e w'' => e = .returned (.string o0) ∧ Below w'.heap.size w' w'') := fun {a} {na} {sa} w' e1 e2 e3 => by
    refine (specMapList_any a fs.length fs na sa ns.length st.length ns st w' (Nat.le_refl _) (ml hfl) (Nat.le_refl _) (ml hnl) (Nat.le_refl _) (ml hstl) (unhide HFT) e1 e2 e3).mono ?_
    rintro e w3 ⟨rfl, hb⟩
    rw [unhide HO]
    exact ⟨rfl, hb⟩
  have HIM : Hid (∀ {a : Option Addr} {na sa : Option Addr} w', Below w.heap.size w w' → FunRow w' a fs → NumRow w' na ns → TextsRow w' sa st → Calls Tryz.prog 15 #[.slice a fs.length fs.length, .agg #[.slice na ns.length ns.length, .slice sa st.length st.length]] w' fun e w'' => e = .returned (.string o0) ∧ Below w'.heap.size w' w'') := fun {a} {na} {sa} w' hb0 e1 e2 e3 => by
    refine (implMapList_any a fs.length fs na sa ns.length st.length ns st w' (Nat.le_refl _) (ml hfl) (Nat.le_refl _) (ml hnl) (Nat.le_refl _) (ml hstl) (unhide HFT) e1 e2 e3 (hide (tab_stays MapP.gPow (unhide HT) hb0 (Nat.le_refl _)))).mono ?_
    rintro e w3 ⟨rfl, hb⟩
    rw [unhide HO]
    exact ⟨rfl, hb⟩
  clear HO
  have HR : Hid True := trivial
  have HR5 : Hid True := trivial
  go_wp2_with fail
  go_region_held3 (fun w' => FunRow w' a fs ∧ NumRow w' na ns ∧ TextsRow w' sa st ∧ w'.cell? ⟨w.heap.size, 0, none⟩ = some (.slice na ns.length nc) ∧ w'.cell? ⟨w.heap.size, 1, none⟩ = some (.slice sa st.length sc) ∧ Below w.heap.size w w') (first | assumption | (refine (unhide HST).1 _ _ hbk ?_; assumption) | (refine (unhide HST).2 _ ?_; assumption))
    (first | (go_at_call 9; refine (toFunS_any a cap fs _ hfl (unhide HFB) hl hm (by apply p0; assumption)).mono ?_; rintro e wk1 ⟨rfl, hOk, hbk⟩; (try replace hO5 := NumRow.below (l := ns) (by exact hO5) hbk); (try replace hQ5 := TextsRow.below (st := st) (by exact hQ5) hbk); have hOf := OwnFuns.row hOk (unhide HFZ); clear hOk) | (go_at_call 10; refine (toLay_any na sa nc sc ns st _ hnl (unhide HFT) h1 h2 h3 h4 (p1 (by assumption)).1 (p1 (by assumption)).2).mono ?_; rintro e wk1 ⟨Rk, Sk, hRk, hSk, hEk, rfl, hOk, hQk, hbk⟩; clear hRk hSk hEk; (try replace hOf := FunRow.below (l := fs) (by exact hOf) hbk); have hO5 := OwnNums.row hOk; have hQ5 := OwnTexts.row hQk (unhide HTZ); clear hOk hQk) | (go_at_call 14; refine (unhide HSP _ (by exact hOf) (by exact hO5) (by exact hQ5)).mono ?_; rintro e wk1 ⟨rfl, hbk⟩))
  have hS3 : (fun w' => FunRow w' a fs ∧ NumRow w' na ns ∧ TextsRow w' sa st ∧ w'.cell? ⟨w.heap.size, 0, none⟩ = some (.slice na ns.length nc) ∧ w'.cell? ⟨w.heap.size, 1, none⟩ = some (.slice sa st.length sc) ∧ Below w.heap.size w w') wk1 := by assumption
  clear hS2
  try clear hOf hO5 hQ5
  have HS3 := hide hS3
  obtain ⟨_, _, _, c0, c1, _⟩ := hS3
  go_wp2_with fail
  refine (toFunS_any a cap fs _ hfl (unhide HFB) hl hm (p0 (unhide HS3))).mono ?_
  rintro e w4 ⟨rfl, hO4, hb4⟩
  have hS4 := (unhide HST).1 _ _ hb4 (unhide HS3)
  have HR4 := hide (OwnFuns.row hO4 (unhide HFZ))
  clear HS3 c0 c1 hb4 hO4
  generalize wk1.heap.size = Rf at *
  have HS4 := hide hS4
  obtain ⟨_, _, _, c0, c1, _⟩ := hS4
  go_wp2_with fail
  refine (toLay_any na sa nc sc ns st _ hnl (unhide HFT) h1 h2 h3 h4 (p1 (unhide HS4)).1 (p1 (unhide HS4)).2).mono ?_
  rintro e w5 ⟨R5, S5, hR5, hS5, hE5, rfl, hO5, hQ5, hb5⟩
  clear hR5 hS5 hE5
  have HST2 : Hid (Stable (fun w' => FunRow w' a fs ∧ NumRow w' na ns ∧ TextsRow w' sa st ∧ FunRow w' (some ⟨Rf, 0, none⟩) fs ∧ NumRow w' (some ⟨R5, 0, none⟩) ns ∧ TextsRow w' (some ⟨S5, 0, none⟩) st ∧ w'.cell? ⟨w.heap.size, 0, none⟩ = some (.slice na ns.length nc) ∧ w'.cell? ⟨w.heap.size, 1, none⟩ = some (.slice sa st.length sc) ∧ w'.cell? ⟨w5.heap.size, 0, none⟩ = some (.slice (some ⟨R5, 0, none⟩) ns.length ns.length) ∧ w'.cell? ⟨w5.heap.size, 1, none⟩ = some (.slice (some ⟨S5, 0, none⟩) st.length st.length) ∧ Below w.heap.size w w')) := ((Stable.frow a fs).and ((Stable.nrow na ns).and ((Stable.tsrow sa st).and ((Stable.frow (some ⟨Rf, 0, none⟩) fs).and ((Stable.nrow (some ⟨R5, 0, none⟩) ns).and ((Stable.tsrow (some ⟨S5, 0, none⟩) st).and ((Stable.cell ⟨w.heap.size, 0, none⟩ (.slice na ns.length nc)).and ((Stable.cell ⟨w.heap.size, 1, none⟩ (.slice sa st.length sc)).and ((Stable.cell ⟨w5.heap.size, 0, none⟩ (.slice (some ⟨R5, 0, none⟩) ns.length ns.length)).and ((Stable.cell ⟨w5.heap.size, 1, none⟩ (.slice (some ⟨S5, 0, none⟩) st.length st.length)).and (Stable.below w)))))))))))
  have HS5 : Hid ((fun w' => FunRow w' a fs ∧ NumRow w' na ns ∧ TextsRow w' sa st ∧ FunRow w' (some ⟨Rf, 0, none⟩) fs ∧ NumRow w' (some ⟨R5, 0, none⟩) ns ∧ TextsRow w' (some ⟨S5, 0, none⟩) st ∧ w'.cell? ⟨w.heap.size, 0, none⟩ = some (.slice na ns.length nc) ∧ w'.cell? ⟨w.heap.size, 1, none⟩ = some (.slice sa st.length sc) ∧ w'.cell? ⟨w5.heap.size, 0, none⟩ = some (.slice (some ⟨R5, 0, none⟩) ns.length ns.length) ∧ w'.cell? ⟨w5.heap.size, 1, none⟩ = some (.slice (some ⟨S5, 0, none⟩) st.length st.length) ∧ Below w.heap.size w w') (w5.alloc (.cells #[.slice (some ⟨R5, 0, none⟩) ns.length ns.length, .slice (some ⟨S5, 0, none⟩) st.length st.length] 32))) := by
    have h := (unhide HST).alloc ((unhide HST).1 _ _ hb5 (unhide HS4)) (.cells #[.slice (some ⟨R5, 0, none⟩) ns.length ns.length, .slice (some ⟨S5, 0, none⟩) st.length st.length] 32)
    have x := (box2 (new_block w5 (.cells #[.slice (some ⟨R5, 0, none⟩) ns.length ns.length, .slice (some ⟨S5, 0, none⟩) st.length st.length] 32))).1
    exact ⟨h.1, h.2.1, h.2.2.1, ((unhide HR4).below hb5).below (below_alloc1 _ _), hO5.row.below (below_alloc1 _ _), (hQ5.row (unhide HTZ)).below (below_alloc1 _ _), h.2.2.2.1, h.2.2.2.2.1, x.1, x.2, h.2.2.2.2.2⟩
  clear HS4 HR4 c0 c1 hb5 hO5 hQ5
  have hS5 := unhide HS5
  obtain ⟨_, _, _, _, _, _, c0, c1, x0, x1, _⟩ := hS5
  go_wp2_with fail
  refine (unhide HIM _ (unhide HS5).2.2.2.2.2.2.2.2.2.2 (p3 (unhide HS5)) (p4 (unhide HS5)).1 (p4 (unhide HS5)).2).mono ?_
  rintro e w6 ⟨rfl, hb6⟩
  have hS6 := (unhide HST2).1 _ _ hb6 (unhide HS5)
  clear HS5 c0 c1 x0 x1 hb6
  have HS6 := hide hS6
  obtain ⟨_, _, _, _, _, _, c0, c1, x0, x1, _⟩ := hS6
  go_wp2_with fail
  refine (toFunS_any a cap fs _ hfl (unhide HFB) hl hm (p0 (unhide HS6))).mono ?_
  rintro e w7 ⟨rfl, hO7, hb7⟩
  have hS7 := (unhide HST2).1 _ _ hb7 (unhide HS6)
  have HR7 := hide (OwnFuns.row hO7 (unhide HFZ))
  clear HS6 c0 c1 x0 x1 hb7 hO7
  have HS7 := hide hS7
  obtain ⟨_, _, _, _, _, _, c0, c1, x0, x1, _⟩ := hS7
  go_wp2_with fail
  refine (eqFunS_same _ _ _ _ fs _ (Nat.le_refl _) (ml hfl) (p3 (unhide HS7)) (unhide HR7)).mono ?_
  rintro e w8 ⟨rfl, hb8⟩
  have hS8 := (unhide HST2).1 _ _ hb8 (unhide HS7)
  clear HS7 HR7 c0 c1 x0 x1 hb8
  go_wp2_with fail
  go_region_held3 (fun w' => FunRow w' a fs ∧ NumRow w' na ns ∧ TextsRow w' sa st ∧ FunRow w' (some ⟨Rf, 0, none⟩) fs ∧ NumRow w' (some ⟨R5, 0, none⟩) ns ∧ TextsRow w' (some ⟨S5, 0, none⟩) st ∧ w'.cell? ⟨w.heap.size, 0, none⟩ = some (.slice na ns.length nc) ∧ w'.cell? ⟨w.heap.size, 1, none⟩ = some (.slice sa st.length sc) ∧ w'.cell? ⟨w5.heap.size, 0, none⟩ = some (.slice (some ⟨R5, 0, none⟩) ns.length ns.length) ∧ w'.cell? ⟨w5.heap.size, 1, none⟩ = some (.slice (some ⟨S5, 0, none⟩) st.length st.length) ∧ Below w.heap.size w w') (first | assumption | (refine (unhide HST2).1 _ _ hbk ?_; assumption) | (refine (unhide HST2).2 _ ?_; assumption))
    (first | (go_at_call 10; refine (toLay_any na sa nc sc ns st _ hnl (unhide HFT) h1 h2 h3 h4 (p1 (by assumption)).1 (p1 (by assumption)).2).mono ?_; rintro e wk1 ⟨Rk, Sk, hRk, hSk, hEk, rfl, hOk, hQk, hbk⟩; clear hRk hSk hEk; have hO := OwnNums.row hOk; have hQ := OwnTexts.row hQk (unhide HTZ); clear hOk hQk) | (go_at_call 13; refine (eqLay_same _ _ _ _ _ _ _ _ ns st _ (Nat.le_refl _) (ml hnl) (Nat.le_refl _) (ml hstl) (p4 (by assumption)).1 (p4 (by assumption)).2 (by exact hO) (by exact hQ)).mono ?_; rintro e wk1 ⟨rfl, hbk⟩))
  have hS9 : (fun w' => FunRow w' a fs ∧ NumRow w' na ns ∧ TextsRow w' sa st ∧ FunRow w' (some ⟨Rf, 0, none⟩) fs ∧ NumRow w' (some ⟨R5, 0, none⟩) ns ∧ TextsRow w' (some ⟨S5, 0, none⟩) st ∧ w'.cell? ⟨w.heap.size, 0, none⟩ = some (.slice na ns.length nc) ∧ w'.cell? ⟨w.heap.size, 1, none⟩ = some (.slice sa st.length sc) ∧ w'.cell? ⟨w5.heap.size, 0, none⟩ = some (.slice (some ⟨R5, 0, none⟩) ns.length ns.length) ∧ w'.cell? ⟨w5.heap.size, 1, none⟩ = some (.slice (some ⟨S5, 0, none⟩) st.length st.length) ∧ Below w.heap.size w w') wk1 := by assumption
  have hB9 := hS9.2.2.2.2.2.2.2.2.2.2
  clear hS8 hS9
  go_wp2_with fail
  go_ret
  exact ⟨rfl, hB9⟩

theorem gPow : Tryz.prog.globalNamed "internal/strconv.uint64pow10" = some 0 := by kernel_rfl
theorem gPowType : (Tryz.prog.globals[0]?).map (·.type) = some 150 := by kernel_rfl
theorem powCells : Tryz.prog.cellsOf 150 = 20 := by kernel_rfl
theorem u64Cells : Tryz.prog.cellsOf 135 = 1 := by kernel_rfl
theorem powDatum : (Rows.laid_internal_strconv_uint64pow10 : DataW Unit) = Lib.tabData .u64 Lib.pow10Tab := by kernel_rfl
/-- What the listed variables give the walk: the table of the powers of ten. -/
theorem tab_of {W : World} (h : laidMetH Tryz.prog Rows.fnExactMapListRow.laid W) : Lib.TabIs Tryz.prog W "internal/strconv.uint64pow10" .u64 Lib.pow10Tab := by
  rw [MakeChecks.laidMetH_plain _ _ _ (by kernel_rfl)] at h
  have h2 : laidMet Tryz.prog [("internal/strconv.uint64pow10", Rows.laid_internal_strconv_uint64pow10)] W := laidMet.tail (laidMet.tail h)
  rw [powDatum] at h2
  exact Lib.tabIs_of_head gPow gPowType Tryz.underlying150 Tryz.underlying135 u64Cells powCells h2
theorem door_met (os : Os) (args : Array Value) : laidMetH Tryz.prog Rows.fnExactMapListRow.laid ((World.doorLaid Tryz.prog 400 os).forCall (fun _ _ => 0) ⟨#[], args, []⟩).memory :=
  laidMetH_of_parts3 (fuel := 8) (laidMet_of_run' 8 (by kernel_rfl) (by kernel_rfl)) (by kernel_rfl) (by kernel_rfl)

set_option maxRecDepth 100000 in
theorem lifted (os : Os) (started : os.Started) (H : Type) (enc : TypeId × Value → H) :
    ReturnsInHanded {} Tryz.checked os 4 .any (fun w args => (Rows.fnExactMapListSpec.pre enc Tryz.prog Tryz.f4 [] false w args ∧ laidMetH Tryz.prog Rows.fnExactMapListRow.laid w) ∧ sizedMet enc Tryz.prog Tryz.f4 (OpenSpec.ofChange Rows.fnExactMapListSpec) false w args) (Rows.fnExactMapListSpec.post enc Tryz.prog Tryz.f4 false true false false) := by
  refine returnsInHanded_of_change_and (C := Tryz.checked) (X := fun w _ => laidMetH Tryz.prog Rows.fnExactMapListRow.laid w) (fun _ _ _ hh h => h.of_heap hh) own started (by kernel_rfl) Tryz.func4
    (ChangeSpec.witness_shaped (enc := enc) (C := Tryz.checked) (os := os) (X := fun w _ => laidMetH Tryz.prog Rows.fnExactMapListRow.laid w) false (World.doorLaid Tryz.prog 400 os) #[.slice none 0 0, .agg #[.slice none 0 0, .slice none 0 0]] 8 rfl (World.shaped_of_RefB (by kernel_rfl) (by kernel_rfl)) (by kernel_rfl) (by kernel_rfl) (by kernel_rfl) (door_met os _)) ?_
  intro W base args ds gs before hval0 hW _ _ hL _
  have htab := tab_of hL
  have hval : ∀ (j : Nat) t v, Tryz.f4.params[j]? = some t → args[j]? = some v → Value.okWide Tryz.prog W .any base t v := hval0
  have hW' := hW
  obtain ⟨p, q, hA0, hV, rfl, hfz, hnd⟩ := hW
  have hA : DataW.TrodAll enc Tryz.prog W 0 (fun _ => true) true Tryz.f4.params.toList args.toList ds p := hA0
  rw [Tryz.params4] at hA hval
  obtain ⟨v0, vs0, d0, ds0, p0, q0, hargs, rfl, rfl, h0, r0⟩ := trodAll_cons hA
  obtain ⟨v1, vs1, d1, ds1, p1, q1, rfl, rfl, rfl, h1, r1⟩ := trodAll_cons r0
  obtain ⟨rfl, rfl, rfl⟩ := trodAll_nil r1
  obtain rfl : args = #[v0, v1] := by cases args; simp_all
  obtain ⟨rfl, rfl⟩ := trodVars_none hV
  have k0 := h0
  have lt0 : ∀ x ∈ p0, x.block < W.heap.size := by obtain ⟨m, hm⟩ := k0; exact DataW.trod_lt m _ _ _ hm
  obtain ⟨a0, cap0, fs0, hv0, hl0, hm0, hr0⟩ := funs_of (hval 0 22 v0 rfl rfl) h0
  have k1 := h1
  have lt1 : ∀ x ∈ p1, x.block < W.heap.size := by obtain ⟨m, hm⟩ := k1; exact DataW.trod_lt m _ _ _ hm
  obtain ⟨na1, sa1, nc1, sc1, ns1, st1, hv1, hl1, hm1, hn1, hk1, hs1, ho1⟩ := lay_of (hval 1 26 v1 rfl rfl) h1
  clear hA0 hval0
  subst hv0 hv1
  refine (walk a0 cap0 fs0 hl0 hm0 na1 sa1 nc1 sc1 ns1 st1 hl1 hm1 hn1 hk1 W hr0 hs1 ho1 htab).mono fun e W' ⟨he, bel⟩ => ?_
  subst he
  exact ⟨_, rfl, _, _, _, [], _, [], hW', trodAll_mk1 (shut_bool Tryz.underlying4 _), (trodAll_cons_mk (Below.trod laidOut (by kernel_rfl) (of_decide_eq_true (by kernel_rfl)) k0 bel lt0) (trodAll_cons_mk (Below.trod laidOut (by kernel_rfl) (of_decide_eq_true (by kernel_rfl)) k1 bel lt1) trodAll_mk0)), rfl, bel.frame _, fun h => by cases h⟩

theorem row_holds : Rows.FnExactMapListSaid :=
  OpenClaim.holds_of_wide 4 Tryz.f4 rfl rfl rfl rfl rfl rfl rfl ⟨rfl, rfl, rfl, rfl, rfl⟩ rfl rfl rfl rfl rfl (by kernel_rfl) Tryz.func4 (by kernel_rfl)
    (of_decide_eq_true (by kernel_rfl)) (by unfold Func.isWrapper; first | (rw [if_pos (by decide +kernel)]; kernel_rfl) | (rw [if_neg (by decide +kernel)]; exact ⟨rfl, rfl⟩))
    (fun os started H enc _ => lifted os started H enc)

theorem proved : Rows.FnExactMapListCardSaid :=
  Claim7.holds_tied_plain_at .later [] [.data, .data, .data] true (true, "b0ecc3a9d245fbae8975519315d16543252ebf5ff4fa3ff2e0524e0a945b0ecb") false
    row_holds (fun _ h => by cases h) (by kernel_rfl) (fun _ h => by cases h) fnExactMapList_row_tie rfl ⟨rfl, rfl⟩ (by kernel_rfl) rfl
    (fun f fn hf hfn => by
      obtain rfl : f = 4 := Option.some.inj ((show Tryz.prog.funcNamed "loop.example/stepstone/laws.FnExactMapList" = some 4 by kernel_rfl).symm.trans hf) |>.symm
      obtain rfl : fn = Tryz.f4 := (Option.some.inj (Tryz.func4.symm.trans hfn)).symm
      exact ⟨by kernel_rfl, fun j t ht => by
        rw [Tryz.params4] at ht
        have hm : t ∈ [22, 26] := by simpa using Array.mem_of_getElem? ht
        have hall : ([22, 26].all fun u => !Tryz.prog.wantsStandIn u) = true := by kernel_rfl
        exact (show Tryz.prog.wantsStandIn t = false by simpa using List.all_eq_true.1 hall t hm)⟩)
    (by kernel_rfl)
#print axioms proved
end Go.Proofs.YtjbhbkkkjdpamaaGreatDoor.fnExactMapList
