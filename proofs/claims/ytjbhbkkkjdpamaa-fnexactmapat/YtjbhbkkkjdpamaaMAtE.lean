/- For every program, laying and place the exact law of MapAt answers true, and all read afterwards as they did. No condition. -/
import Derived.Test.YtjbhbkkkjdpamaaBase
import Derived.WalkKit
import Derived.ProofKit
import Derived.OpenShut
import Derived.ShutString
import Derived.ChangeOld
import Derived.Below
import Derived.Lib.SmallJoins
import Derived.Deep.RegionHeld3
import Derived.Test.YtjbhbkkkjdpamaaFuns
import Derived.Test.YtjbhbkkkjdpamaaOpen
import Derived.Test.YtjbhbkkkjdpamaaKeep
import Derived.Test.YtjbhbkkkjdpamaaUnits
import Derived.Test.YtjbhbkkkjdpamaaRefs
import Derived.Test.YtjbhbkkkjdpamaaLayN
import Derived.Test.YtjbhbkkkjdpamaaLayA
import Derived.Test.YtjbhbkkkjdpamaaLayD
import Derived.Test.YtjbhbkkkjdpamaaLayV
import Derived.Test.YtjbhbkkkjdpamaaLayO
import Derived.Test.YtjbhbkkkjdpamaaMapD
import Derived.Test.YtjbhbkkkjdpamaaMapA
import Derived.Test.YtjbhbkkkjdpamaaMapS
import Derived.Test.YtjbhbkkkjdpamaaMapI
namespace Go.Proofs.Ytjbhbkkkjdpamaa.fnExactMapAt
open Go.ChangeShapes Go.WideShapes Go.ChangeAt Go.RowKit Go.Joins
open Go.ChangeMaps (open_string shut_string)
open Go.Proofs.Ytjbhbkkkjdpamaa.Base
open Go.Proofs.Ytjbhbkkkjdpamaa.Funs
open Go.Proofs.Ytjbhbkkkjdpamaa.Open
open Go.Proofs.Ytjbhbkkkjdpamaa.Keep
open Go.Proofs.Ytjbhbkkkjdpamaa.Units
open Go.Proofs.Ytjbhbkkkjdpamaa.Refs
open Go.Proofs.Ytjbhbkkkjdpamaa.LayN
open Go.Proofs.Ytjbhbkkkjdpamaa.LayA
open Go.Proofs.Ytjbhbkkkjdpamaa.LayD
open Go.Proofs.Ytjbhbkkkjdpamaa.LayV
open Go.Proofs.Ytjbhbkkkjdpamaa.LayO
open Go.Proofs.Ytjbhbkkkjdpamaa.MapD
open Go.Proofs.Ytjbhbkkkjdpamaa.MapA
open Go.Proofs.Ytjbhbkkkjdpamaa.MapS
open Go.Proofs.Ytjbhbkkkjdpamaa.MapI
set_option linter.unusedVariables false
set_option maxRecDepth 100000
theorem own : ownKnob Try.prog.godebug = none := by kernel_rfl
theorem laidOut : laidOutB Try.prog = true := by kernel_rfl

theorem q0 {a b r : Prop} (h : a ∧ b ∧ r) : a ∧ b := ⟨h.1, h.2.1⟩
theorem q1 {a b c d r : Prop} (h : a ∧ b ∧ c ∧ d ∧ r) : c ∧ d := ⟨h.2.2.1, h.2.2.2.1⟩
theorem p0 {a r : Prop} (h : a ∧ r) : a := h.1
theorem p1 {a b c r : Prop} (h : a ∧ b ∧ c ∧ r) : b ∧ c := ⟨h.2.1, h.2.2.1⟩
theorem p3 {a b c d r : Prop} (h : a ∧ b ∧ c ∧ d ∧ r) : d := h.2.2.2.1
theorem p4 {a b c d e f r : Prop} (h : a ∧ b ∧ c ∧ d ∧ e ∧ f ∧ r) : e ∧ f := ⟨h.2.2.2.2.1, h.2.2.2.2.2.1⟩
theorem ml {n : Nat} (h : n ≤ 1048576) : n ≤ maxLen := by unfold maxLen; omega
set_option maxHeartbeats 16000000 in
theorem walk (a : Option Addr) (cap : Nat) (fs : List FunD) (hl : fs.length ≤ cap) (hm : cap ≤ maxLen) (na sa : Option Addr) (nc sc : Nat) (ns : List Int) (st : List (List ByteArray)) (h1 : ns.length ≤ nc) (h2 : nc ≤ maxLen) (h3 : st.length ≤ sc) (h4 : sc ≤ maxLen) (ff nn : Int) (wff : (Lit.int .i64 ff).wf = true) (wnn : (Lit.int .i64 nn).wf = true) (w : World) (hf : FunRow w a fs) (hs : NumRow w na ns) (ho : TextsRow w sa st) :
    Calls Try.prog 3 #[.slice a fs.length cap, .agg #[.slice na ns.length nc, .slice sa st.length sc], .agg #[.int .i64 ff, .int .i64 nn]] w fun e w' => e = .returned (.bool true) ∧ Below w.heap.size w w' := by
  have HST : Hid (Stable (fun w' => FunRow w' a fs ∧ NumRow w' na ns ∧ TextsRow w' sa st ∧ w'.cell? ⟨w.heap.size, 0, none⟩ = some (.slice na ns.length nc) ∧ w'.cell? ⟨w.heap.size, 1, none⟩ = some (.slice sa st.length sc) ∧ w'.cell? ⟨w.heap.size + 1, 0, none⟩ = some (.int .i64 ff) ∧ w'.cell? ⟨w.heap.size + 1, 1, none⟩ = some (.int .i64 nn) ∧ Below w.heap.size w w')) := ((Stable.frow a fs).and ((Stable.nrow na ns).and ((Stable.tsrow sa st).and ((Stable.cell ⟨w.heap.size, 0, none⟩ (.slice na ns.length nc)).and ((Stable.cell ⟨w.heap.size, 1, none⟩ (.slice sa st.length sc)).and ((Stable.cell ⟨w.heap.size + 1, 0, none⟩ (.int .i64 ff)).and ((Stable.cell ⟨w.heap.size + 1, 1, none⟩ (.int .i64 nn)).and (Stable.below w))))))))
  have HS0 : Hid ((fun w' => FunRow w' a fs ∧ NumRow w' na ns ∧ TextsRow w' sa st ∧ w'.cell? ⟨w.heap.size, 0, none⟩ = some (.slice na ns.length nc) ∧ w'.cell? ⟨w.heap.size, 1, none⟩ = some (.slice sa st.length sc) ∧ w'.cell? ⟨w.heap.size + 1, 0, none⟩ = some (.int .i64 ff) ∧ w'.cell? ⟨w.heap.size + 1, 1, none⟩ = some (.int .i64 nn) ∧ Below w.heap.size w w') ((w.alloc (.cells #[.slice na ns.length nc, .slice sa st.length sc] 26)).alloc (.cells #[.int .i64 ff, .int .i64 nn] 28))) := by
    have n1 := (box2 (box_below (new_block w (.cells #[.slice na ns.length nc, .slice sa st.length sc] 26)) (below_alloc1 _ (.cells #[.int .i64 ff, .int .i64 nn] 28)))).1
    have n2 := new_block (w.alloc (.cells #[.slice na ns.length nc, .slice sa st.length sc] 26)) (.cells #[.int .i64 ff, .int .i64 nn] 28)
    rw [World.size_alloc] at n2
    have n3 := (box2 n2).1
    exact ⟨hf.below (below_alloc2 _ _ _), hs.below (below_alloc2 _ _ _), ho.below (below_alloc2 _ _ _), n1.1, n1.2, n3.1, n3.2, below_alloc2 _ _ _⟩
  clear hf hs ho
  by_cases hz : szFs fs 1048576 < 0
  · go_enter Try.func3, Try.ntmps3
    go_wp2_with fail
    refine (szFunS_any a cap fs _ _ (by omega) (by omega) hl hm (p0 (unhide HS0))).mono ?_
    rintro e w1 ⟨rfl, hb1⟩
    go_wp2_with fail
    go_ret
    exact ⟨rfl, bl_trans (below_alloc2 _ _ _) hb1⟩
  have hz0 : 0 ≤ szFs fs 1048576 := by omega
  have hz1 : szFs fs 1048576 ≤ 1048576 := szFs_bd _ (by omega) (by omega)
  obtain ⟨hfl, hfb⟩ := szFs_len (by omega) hz0
  have HFB := hide hfb
  clear hfb hz
  go_enter Try.func3, Try.ntmps3
  go_wp2_with fail
  refine (szFunS_any a cap fs _ _ (by omega) (by omega) hl hm (p0 (unhide HS0))).mono ?_
  rintro e w1 ⟨rfl, hb1⟩
  have hS1 := (unhide HST).1 _ _ hb1 (unhide HS0)
  clear hb1 HS0
  have HS1 := hide hS1
  obtain ⟨_, _, _, c0, c1, s0, s1, _⟩ := hS1
  generalize szFs fs 1048576 = z at *
  by_cases hy : szLayI ns.length st z < 0
  · go_wp2_with fail
    refine (szLay_any na sa nc sc ns.length st z _ hz0 hz1 h1 h2 h3 h4 (p1 (unhide HS1)).2).mono ?_
    rintro e w2 ⟨rfl, hb2⟩
    have hB2 := bl_trans (unhide HS1).2.2.2.2.2.2.2 hb2
    clear c0 c1 s0 s1
    go_wp2_with fail
    go_ret
    exact ⟨rfl, hB2⟩
  obtain ⟨hnl, hft⟩ := szLay_few hz1 (show 0 ≤ szLayI ns.length st z by omega)
  have HFT := hide hft
  have hstl := hft.1
  clear hft
  go_wp2_with fail
  refine (szLay_any na sa nc sc ns.length st z _ hz0 hz1 h1 h2 h3 h4 (p1 (unhide HS1)).2).mono ?_
  rintro e w2 ⟨rfl, hb2⟩
  have hS2 := (unhide HST).1 _ _ hb2 (unhide HS1)
  have HFZ : Hid (∀ f ∈ fs, f.nm.size ≤ maxLen ∧ f.body.length ≤ maxLen ∧ ∀ x ∈ f.body, x.s.size ≤ maxLen) := (p0 hS2).sizes
  have HTZ : Hid (FitT st) := (p1 hS2).2.sizes
  clear hb2 HS1 c0 c1 s0 s1
  generalize szLayI ns.length st z = z2 at *
  have HR : Hid True := trivial
  have HR5 : Hid True := trivial
  go_wp2_with fail
  go_region_held3 (fun w' => FunRow w' a fs ∧ NumRow w' na ns ∧ TextsRow w' sa st ∧ w'.cell? ⟨w.heap.size, 0, none⟩ = some (.slice na ns.length nc) ∧ w'.cell? ⟨w.heap.size, 1, none⟩ = some (.slice sa st.length sc) ∧ w'.cell? ⟨w.heap.size + 1, 0, none⟩ = some (.int .i64 ff) ∧ w'.cell? ⟨w.heap.size + 1, 1, none⟩ = some (.int .i64 nn) ∧ Below w.heap.size w w') (first | assumption | (refine (unhide HST).1 _ _ hbk ?_; assumption) | (refine (unhide HST).2 _ ?_; assumption))
    (first | (go_at_call 15; refine (toFunS_any a cap fs _ hfl (unhide HFB) hl hm (by apply p0; assumption)).mono ?_; rintro e wk1 ⟨rfl, hOk, hbk⟩; (try replace hO5 := NumRow.below (l := ns) (by exact hO5) hbk); (try replace hQ5 := TextsRow.below (st := st) (by exact hQ5) hbk); have hOf := OwnFuns.row hOk (unhide HFZ); clear hOk) | (go_at_call 16; refine (toLay_any na sa nc sc ns st _ hnl (unhide HFT) h1 h2 h3 h4 (p1 (by assumption)).1 (p1 (by assumption)).2).mono ?_; rintro e wk1 ⟨Rk, Sk, hRk, hSk, hEk, rfl, hOk, hQk, hbk⟩; clear hRk hSk hEk; (try replace hOf := FunRow.below (l := fs) (by exact hOf) hbk); have hO5 := OwnNums.row hOk; have hQ5 := OwnTexts.row hQk (unhide HTZ); clear hOk hQk) | (go_at_call 17; refine (toSpot_any ff nn _).mono ?_; rintro e wk1 ⟨rfl, hbk⟩; (try replace hOf := FunRow.below (l := fs) (by exact hOf) hbk); (try replace hO5 := NumRow.below (l := ns) (by exact hO5) hbk); (try replace hQ5 := TextsRow.below (st := st) (by exact hQ5) hbk)) | (go_at_call 14; refine (specMapAt_any _ _ fs _ _ _ _ ns st ff nn _ (Nat.le_refl _) (ml hfl) (Nat.le_refl _) (ml hnl) (Nat.le_refl _) (ml hstl) (unhide HFT) (by exact hOf) (by exact hO5) (by exact hQ5)).mono ?_; rintro e wk1 ⟨rfl, hbk⟩))
  have hS3 : (fun w' => FunRow w' a fs ∧ NumRow w' na ns ∧ TextsRow w' sa st ∧ w'.cell? ⟨w.heap.size, 0, none⟩ = some (.slice na ns.length nc) ∧ w'.cell? ⟨w.heap.size, 1, none⟩ = some (.slice sa st.length sc) ∧ w'.cell? ⟨w.heap.size + 1, 0, none⟩ = some (.int .i64 ff) ∧ w'.cell? ⟨w.heap.size + 1, 1, none⟩ = some (.int .i64 nn) ∧ Below w.heap.size w w') wk1 := by assumption
  clear hS2
  try clear hOf hO5 hQ5
  have HS3 := hide hS3
  obtain ⟨_, _, _, c0, c1, s0, s1, _⟩ := hS3
  go_wp2_with fail
  refine (toFunS_any a cap fs _ hfl (unhide HFB) hl hm (p0 (unhide HS3))).mono ?_
  rintro e w4 ⟨rfl, hO4, hb4⟩
  have hS4 := (unhide HST).1 _ _ hb4 (unhide HS3)
  have HR4 := hide (OwnFuns.row hO4 (unhide HFZ))
  clear HS3 c0 c1 s0 s1 hb4 hO4
  generalize wk1.heap.size = Rf at *
  have HS4 := hide hS4
  obtain ⟨_, _, _, c0, c1, s0, s1, _⟩ := hS4
  go_wp2_with fail
  refine (toLay_any na sa nc sc ns st _ hnl (unhide HFT) h1 h2 h3 h4 (p1 (unhide HS4)).1 (p1 (unhide HS4)).2).mono ?_
  rintro e w5 ⟨R5, S5, hR5, hS5, hE5, rfl, hO5, hQ5, hb5⟩
  clear hR5 hS5 hE5
  have HST2 : Hid (Stable (fun w' => FunRow w' a fs ∧ NumRow w' na ns ∧ TextsRow w' sa st ∧ FunRow w' (some ⟨Rf, 0, none⟩) fs ∧ NumRow w' (some ⟨R5, 0, none⟩) ns ∧ TextsRow w' (some ⟨S5, 0, none⟩) st ∧ w'.cell? ⟨w.heap.size, 0, none⟩ = some (.slice na ns.length nc) ∧ w'.cell? ⟨w.heap.size, 1, none⟩ = some (.slice sa st.length sc) ∧ w'.cell? ⟨w.heap.size + 1, 0, none⟩ = some (.int .i64 ff) ∧ w'.cell? ⟨w.heap.size + 1, 1, none⟩ = some (.int .i64 nn) ∧ w'.cell? ⟨w5.heap.size, 0, none⟩ = some (.slice (some ⟨R5, 0, none⟩) ns.length ns.length) ∧ w'.cell? ⟨w5.heap.size, 1, none⟩ = some (.slice (some ⟨S5, 0, none⟩) st.length st.length) ∧ Below w.heap.size w w')) := ((Stable.frow a fs).and ((Stable.nrow na ns).and ((Stable.tsrow sa st).and ((Stable.frow (some ⟨Rf, 0, none⟩) fs).and ((Stable.nrow (some ⟨R5, 0, none⟩) ns).and ((Stable.tsrow (some ⟨S5, 0, none⟩) st).and ((Stable.cell ⟨w.heap.size, 0, none⟩ (.slice na ns.length nc)).and ((Stable.cell ⟨w.heap.size, 1, none⟩ (.slice sa st.length sc)).and ((Stable.cell ⟨w.heap.size + 1, 0, none⟩ (.int .i64 ff)).and ((Stable.cell ⟨w.heap.size + 1, 1, none⟩ (.int .i64 nn)).and ((Stable.cell ⟨w5.heap.size, 0, none⟩ (.slice (some ⟨R5, 0, none⟩) ns.length ns.length)).and ((Stable.cell ⟨w5.heap.size, 1, none⟩ (.slice (some ⟨S5, 0, none⟩) st.length st.length)).and (Stable.below w)))))))))))))
  have HS5 : Hid ((fun w' => FunRow w' a fs ∧ NumRow w' na ns ∧ TextsRow w' sa st ∧ FunRow w' (some ⟨Rf, 0, none⟩) fs ∧ NumRow w' (some ⟨R5, 0, none⟩) ns ∧ TextsRow w' (some ⟨S5, 0, none⟩) st ∧ w'.cell? ⟨w.heap.size, 0, none⟩ = some (.slice na ns.length nc) ∧ w'.cell? ⟨w.heap.size, 1, none⟩ = some (.slice sa st.length sc) ∧ w'.cell? ⟨w.heap.size + 1, 0, none⟩ = some (.int .i64 ff) ∧ w'.cell? ⟨w.heap.size + 1, 1, none⟩ = some (.int .i64 nn) ∧ w'.cell? ⟨w5.heap.size, 0, none⟩ = some (.slice (some ⟨R5, 0, none⟩) ns.length ns.length) ∧ w'.cell? ⟨w5.heap.size, 1, none⟩ = some (.slice (some ⟨S5, 0, none⟩) st.length st.length) ∧ Below w.heap.size w w') (w5.alloc (.cells #[.slice (some ⟨R5, 0, none⟩) ns.length ns.length, .slice (some ⟨S5, 0, none⟩) st.length st.length] 34))) := by
    have h := (unhide HST).alloc ((unhide HST).1 _ _ hb5 (unhide HS4)) (.cells #[.slice (some ⟨R5, 0, none⟩) ns.length ns.length, .slice (some ⟨S5, 0, none⟩) st.length st.length] 34)
    have x := (box2 (new_block w5 (.cells #[.slice (some ⟨R5, 0, none⟩) ns.length ns.length, .slice (some ⟨S5, 0, none⟩) st.length st.length] 34))).1
    exact ⟨h.1, h.2.1, h.2.2.1, ((unhide HR4).below hb5).below (below_alloc1 _ _), hO5.row.below (below_alloc1 _ _), (hQ5.row (unhide HTZ)).below (below_alloc1 _ _), h.2.2.2.1, h.2.2.2.2.1, h.2.2.2.2.2.1, h.2.2.2.2.2.2.1, x.1, x.2, h.2.2.2.2.2.2.2⟩
  clear HS4 HR4 c0 c1 s0 s1 hb5 hO5 hQ5
  have hS5 := unhide HS5
  obtain ⟨_, _, _, _, _, _, c0, c1, s0, s1, x0, x1, _⟩ := hS5
  go_wp2_with fail
  have hS5b := unhide HS5
  go_region_held3 (fun w' => FunRow w' a fs ∧ NumRow w' na ns ∧ TextsRow w' sa st ∧ FunRow w' (some ⟨Rf, 0, none⟩) fs ∧ NumRow w' (some ⟨R5, 0, none⟩) ns ∧ TextsRow w' (some ⟨S5, 0, none⟩) st ∧ w'.cell? ⟨w.heap.size, 0, none⟩ = some (.slice na ns.length nc) ∧ w'.cell? ⟨w.heap.size, 1, none⟩ = some (.slice sa st.length sc) ∧ w'.cell? ⟨w.heap.size + 1, 0, none⟩ = some (.int .i64 ff) ∧ w'.cell? ⟨w.heap.size + 1, 1, none⟩ = some (.int .i64 nn) ∧ w'.cell? ⟨w5.heap.size, 0, none⟩ = some (.slice (some ⟨R5, 0, none⟩) ns.length ns.length) ∧ w'.cell? ⟨w5.heap.size, 1, none⟩ = some (.slice (some ⟨S5, 0, none⟩) st.length st.length) ∧ Below w.heap.size w w') (first | assumption | (refine (unhide HST2).1 _ _ hbk ?_; assumption) | (refine (unhide HST2).2 _ ?_; assumption))
    (first | (go_at_call 17; refine (toSpot_any ff nn _).mono ?_; rintro e wk2 ⟨rfl, hbk⟩) | (go_at_call 18; refine (implMapAt_any _ _ fs _ _ _ _ ns st ff nn _ (Nat.le_refl _) (ml hfl) (Nat.le_refl _) (ml hnl) (Nat.le_refl _) (ml hstl) (unhide HFT) (p3 (by assumption)) (p4 (by assumption)).1 (p4 (by assumption)).2).mono ?_; rintro e wk2 ⟨rfl, hbk⟩))
  have hS6 : (fun w' => FunRow w' a fs ∧ NumRow w' na ns ∧ TextsRow w' sa st ∧ FunRow w' (some ⟨Rf, 0, none⟩) fs ∧ NumRow w' (some ⟨R5, 0, none⟩) ns ∧ TextsRow w' (some ⟨S5, 0, none⟩) st ∧ w'.cell? ⟨w.heap.size, 0, none⟩ = some (.slice na ns.length nc) ∧ w'.cell? ⟨w.heap.size, 1, none⟩ = some (.slice sa st.length sc) ∧ w'.cell? ⟨w.heap.size + 1, 0, none⟩ = some (.int .i64 ff) ∧ w'.cell? ⟨w.heap.size + 1, 1, none⟩ = some (.int .i64 nn) ∧ w'.cell? ⟨w5.heap.size, 0, none⟩ = some (.slice (some ⟨R5, 0, none⟩) ns.length ns.length) ∧ w'.cell? ⟨w5.heap.size, 1, none⟩ = some (.slice (some ⟨S5, 0, none⟩) st.length st.length) ∧ Below w.heap.size w w') wk2 := by assumption
  clear HS5 c0 c1 s0 s1 x0 x1 hS5b
  have HS6 := hide hS6
  obtain ⟨_, _, _, _, _, _, c0, c1, s0, s1, x0, x1, _⟩ := hS6
  go_wp2_with fail
  refine (toFunS_any a cap fs _ hfl (unhide HFB) hl hm (p0 (unhide HS6))).mono ?_
  rintro e w7 ⟨rfl, hO7, hb7⟩
  have hS7 := (unhide HST2).1 _ _ hb7 (unhide HS6)
  have HR7 := hide (OwnFuns.row hO7 (unhide HFZ))
  clear HS6 c0 c1 s0 s1 x0 x1 hb7 hO7
  have HS7 := hide hS7
  obtain ⟨_, _, _, _, _, _, c0, c1, s0, s1, x0, x1, _⟩ := hS7
  go_wp2_with fail
  refine (eqFunS_same _ _ _ _ fs _ (Nat.le_refl _) (ml hfl) (p3 (unhide HS7)) (unhide HR7)).mono ?_
  rintro e w8 ⟨rfl, hb8⟩
  have hS8 := (unhide HST2).1 _ _ hb8 (unhide HS7)
  clear HS7 HR7 c0 c1 s0 s1 x0 x1 hb8
  go_wp2_with fail
  go_region_held3 (fun w' => FunRow w' a fs ∧ NumRow w' na ns ∧ TextsRow w' sa st ∧ FunRow w' (some ⟨Rf, 0, none⟩) fs ∧ NumRow w' (some ⟨R5, 0, none⟩) ns ∧ TextsRow w' (some ⟨S5, 0, none⟩) st ∧ w'.cell? ⟨w.heap.size, 0, none⟩ = some (.slice na ns.length nc) ∧ w'.cell? ⟨w.heap.size, 1, none⟩ = some (.slice sa st.length sc) ∧ w'.cell? ⟨w.heap.size + 1, 0, none⟩ = some (.int .i64 ff) ∧ w'.cell? ⟨w.heap.size + 1, 1, none⟩ = some (.int .i64 nn) ∧ w'.cell? ⟨w5.heap.size, 0, none⟩ = some (.slice (some ⟨R5, 0, none⟩) ns.length ns.length) ∧ w'.cell? ⟨w5.heap.size, 1, none⟩ = some (.slice (some ⟨S5, 0, none⟩) st.length st.length) ∧ Below w.heap.size w w') (first | assumption | (refine (unhide HST2).1 _ _ hbk ?_; assumption) | (refine (unhide HST2).2 _ ?_; assumption))
    (first | (go_at_call 16; refine (toLay_any na sa nc sc ns st _ hnl (unhide HFT) h1 h2 h3 h4 (p1 (by assumption)).1 (p1 (by assumption)).2).mono ?_; rintro e wk1 ⟨Rk, Sk, hRk, hSk, hEk, rfl, hOk, hQk, hbk⟩; clear hRk hSk hEk; have hO := OwnNums.row hOk; have hQ := OwnTexts.row hQk (unhide HTZ); clear hOk hQk) | (go_at_call 20; refine (eqLay_same _ _ _ _ _ _ _ _ ns st _ (Nat.le_refl _) (ml hnl) (Nat.le_refl _) (ml hstl) (p4 (by assumption)).1 (p4 (by assumption)).2 (by exact hO) (by exact hQ)).mono ?_; rintro e wk1 ⟨rfl, hbk⟩))
  have hS9 : (fun w' => FunRow w' a fs ∧ NumRow w' na ns ∧ TextsRow w' sa st ∧ FunRow w' (some ⟨Rf, 0, none⟩) fs ∧ NumRow w' (some ⟨R5, 0, none⟩) ns ∧ TextsRow w' (some ⟨S5, 0, none⟩) st ∧ w'.cell? ⟨w.heap.size, 0, none⟩ = some (.slice na ns.length nc) ∧ w'.cell? ⟨w.heap.size, 1, none⟩ = some (.slice sa st.length sc) ∧ w'.cell? ⟨w.heap.size + 1, 0, none⟩ = some (.int .i64 ff) ∧ w'.cell? ⟨w.heap.size + 1, 1, none⟩ = some (.int .i64 nn) ∧ w'.cell? ⟨w5.heap.size, 0, none⟩ = some (.slice (some ⟨R5, 0, none⟩) ns.length ns.length) ∧ w'.cell? ⟨w5.heap.size, 1, none⟩ = some (.slice (some ⟨S5, 0, none⟩) st.length st.length) ∧ Below w.heap.size w w') wk1 := by assumption
  have hB9 := hS9.2.2.2.2.2.2.2.2.2.2.2.2
  clear hS8 hS9
  go_wp2_with fail
  go_ret
  exact ⟨rfl, hB9⟩

set_option maxRecDepth 100000 in
theorem lifted (os : Os) (started : os.Started) (H : Type) (enc : TypeId × Value → H) :
    ReturnsInHanded {} Try.checked os 3 .any (Rows.fnExactMapAtSpec.pre6 enc Try.prog Try.f3 Rows.fnExactMapAtRow.domain false) (Rows.fnExactMapAtSpec.post enc Try.prog Try.f3 false true false false) := by
  refine returnsInHanded_of_change (C := Try.checked) own started (by kernel_rfl) Try.func3
    (ChangeSpec.witness6 (enc := enc) (C := Try.checked) false ⟨#[], #[.slice none 0 0, .agg #[.slice none 0 0, .slice none 0 0], .agg #[.int .i64 0, .int .i64 0]], []⟩ 8 (by kernel_rfl) (by kernel_rfl) (by kernel_rfl) (by kernel_rfl)) ?_
  intro W base args ds gs before hval0 hW hcnd _
  have hval : ∀ (j : Nat) t v, Try.f3.params[j]? = some t → args[j]? = some v → Value.okWide Try.prog W .any base t v := hval0
  have hW' := hW
  obtain ⟨p, q, hA0, hV, rfl, hfz, hnd⟩ := hW
  have hA : DataW.TrodAll enc Try.prog W 0 (fun _ => true) true Try.f3.params.toList args.toList ds p := hA0
  rw [Try.params3] at hA hval
  obtain ⟨v0, vs0, d0, ds0, p0, q0, hargs, rfl, rfl, h0, r0⟩ := trodAll_cons hA
  obtain ⟨v1, vs1, d1, ds1, p1, q1, rfl, rfl, rfl, h1, r1⟩ := trodAll_cons r0
  obtain ⟨v2, vs2, d2, ds2, p2, q2, rfl, rfl, rfl, h2, r2⟩ := trodAll_cons r1
  obtain ⟨rfl, rfl, rfl⟩ := trodAll_nil r2
  obtain rfl : args = #[v0, v1, v2] := by cases args; simp_all
  obtain ⟨rfl, rfl⟩ := trodVars_none hV
  have k0 := h0
  have lt0 : ∀ x ∈ p0, x.block < W.heap.size := by obtain ⟨m, hm⟩ := k0; exact DataW.trod_lt m _ _ _ hm
  obtain ⟨a0, cap0, fs0, hv0, hl0, hm0, hr0⟩ := funs_of (hval 0 22 v0 rfl rfl) h0
  have k1 := h1
  have lt1 : ∀ x ∈ p1, x.block < W.heap.size := by obtain ⟨m, hm⟩ := k1; exact DataW.trod_lt m _ _ _ hm
  obtain ⟨na1, sa1, nc1, sc1, ns1, st1, hv1, hl1, hm1, hn1, hk1, hs1, ho1⟩ := lay_of (hval 1 26 v1 rfl rfl) h1
  have k2 := h2
  have lt2 : ∀ x ∈ p2, x.block < W.heap.size := by obtain ⟨m, hm⟩ := k2; exact DataW.trod_lt m _ _ _ hm
  obtain ⟨f2, p2_, hv2, wf2, wp2⟩ := spot_of (hval 2 28 v2 rfl rfl) h2
  clear hA0 hval0
  subst hv0 hv1 hv2
  refine (walk a0 cap0 fs0 hl0 hm0 na1 sa1 nc1 sc1 ns1 st1 hl1 hm1 hn1 hk1 f2 p2_ wf2 wp2 W hr0 hs1 ho1).mono fun e W' ⟨he, bel⟩ => ?_
  subst he
  exact ⟨_, rfl, _, _, _, [], _, [], hW', trodAll_mk1 (shut_bool Try.underlying4 _), (trodAll_cons_mk (Below.trod laidOut (by kernel_rfl) (of_decide_eq_true (by kernel_rfl)) k0 bel lt0) (trodAll_cons_mk (Below.trod laidOut (by kernel_rfl) (of_decide_eq_true (by kernel_rfl)) k1 bel lt1) (trodAll_cons_mk (Below.trod laidOut (by kernel_rfl) (of_decide_eq_true (by kernel_rfl)) k2 bel lt2) trodAll_mk0))), rfl, bel.frame _, fun h => by cases h⟩

theorem proved : Rows.FnExactMapAtSaid :=
  OpenClaim.holds_of_wide 3 Try.f3 rfl rfl rfl rfl rfl rfl rfl ⟨rfl, rfl, rfl, rfl, rfl⟩ rfl rfl rfl rfl rfl (by kernel_rfl) Try.func3 (by kernel_rfl)
    (of_decide_eq_true (by kernel_rfl)) (by unfold Func.isWrapper; first | (rw [if_pos (by decide +kernel)]; kernel_rfl) | (rw [if_neg (by decide +kernel)]; exact ⟨rfl, rfl⟩))
    (fun os started H enc _ => lifted os started H enc)
#print axioms proved
end Go.Proofs.Ytjbhbkkkjdpamaa.fnExactMapAt
