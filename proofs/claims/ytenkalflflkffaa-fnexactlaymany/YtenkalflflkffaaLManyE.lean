/- For every laying the exact law of LayMany answers true, and it reads afterwards as it did. No condition. -/
import Derived.Test.YtenkalflflkffaaBase
import Derived.WalkKit
import Derived.ProofKit
import Derived.OpenShut
import Derived.ShutString
import Derived.ChangeOld
import Derived.Below
import Derived.Lib.SmallJoins
import Derived.Deep.RegionHeld3
import Derived.Test.YtenkalflflkffaaFuns
import Derived.Test.YtenkalflflkffaaOpen
import Derived.Test.YtenkalflflkffaaKeep
import Derived.Test.YtenkalflflkffaaRefs
import Derived.Test.YtenkalflflkffaaLayN
import Derived.Test.YtenkalflflkffaaLayA
import Derived.Test.YtenkalflflkffaaLayB
namespace Go.Proofs.Ytenkalflflkffaa.fnExactLayMany
open Go.ChangeShapes Go.WideShapes Go.ChangeAt Go.RowKit Go.Joins
open Go.ChangeMaps (open_string shut_string)
open Go.Proofs.Ytenkalflflkffaa.Base
open Go.Proofs.Ytenkalflflkffaa.Funs
open Go.Proofs.Ytenkalflflkffaa.Open
open Go.Proofs.Ytenkalflflkffaa.Keep
open Go.Proofs.Ytenkalflflkffaa.Refs
open Go.Proofs.Ytenkalflflkffaa.LayN
open Go.Proofs.Ytenkalflflkffaa.LayA
open Go.Proofs.Ytenkalflflkffaa.LayB
set_option linter.unusedVariables false
set_option maxRecDepth 100000
theorem own : ownKnob Try.prog.godebug = none := by kernel_rfl
theorem laidOut : laidOutB Try.prog = true := by kernel_rfl

theorem q0 {a b r : Prop} (h : a ∧ b ∧ r) : a ∧ b := ⟨h.1, h.2.1⟩
theorem q1 {a b c d r : Prop} (h : a ∧ b ∧ c ∧ d ∧ r) : c ∧ d := ⟨h.2.2.1, h.2.2.2.1⟩
theorem p0 {a r : Prop} (h : a ∧ r) : a := h.1
theorem p1 {a b c r : Prop} (h : a ∧ b ∧ c ∧ r) : b ∧ c := ⟨h.2.1, h.2.2.1⟩
theorem p3 {a b c d r : Prop} (h : a ∧ b ∧ c ∧ d ∧ r) : d := h.2.2.2.1
theorem p4 {a b c d e f r : Prop} (h : a ∧ b ∧ c ∧ d ∧ e ∧ f ∧ r) : e ∧ f := ⟨h.2.2.2.2.1, h.2.2.2.2.2.1⟩
theorem ml {n : Nat} (h : n ≤ 1048576) : n ≤ maxLen := by unfold maxLen; omega
set_option maxHeartbeats 8000000 in
theorem walk (na sa : Option Addr) (nc sc : Nat) (ns : List Int) (st : List (List ByteArray)) (h1 : ns.length ≤ nc) (h2 : nc ≤ maxLen) (h3 : st.length ≤ sc) (h4 : sc ≤ maxLen) (w : World) (hs : NumRow w na ns) (ho : TextsRow w sa st) :
    Calls Try.prog 11 #[.agg #[.slice na ns.length nc, .slice sa st.length sc]] w fun e w' => e = .returned (.bool true) ∧ Below w.heap.size w w' := by
  have HST : Hid (Stable (fun w' => NumRow w' na ns ∧ TextsRow w' sa st ∧ w'.cell? ⟨w.heap.size, 0, none⟩ = some (.slice na ns.length nc) ∧ w'.cell? ⟨w.heap.size, 1, none⟩ = some (.slice sa st.length sc) ∧ Below w.heap.size w w')) := ((Stable.nrow na ns).and ((Stable.tsrow sa st).and ((Stable.cell ⟨w.heap.size, 0, none⟩ (.slice na ns.length nc)).and ((Stable.cell ⟨w.heap.size, 1, none⟩ (.slice sa st.length sc)).and (Stable.below w)))))
  have HS0 : Hid ((fun w' => NumRow w' na ns ∧ TextsRow w' sa st ∧ w'.cell? ⟨w.heap.size, 0, none⟩ = some (.slice na ns.length nc) ∧ w'.cell? ⟨w.heap.size, 1, none⟩ = some (.slice sa st.length sc) ∧ Below w.heap.size w w') (w.alloc (.cells #[.slice na ns.length nc, .slice sa st.length sc] 45))) := by
    have n1 := (box2 (new_block w (.cells #[.slice na ns.length nc, .slice sa st.length sc] 45))).1
    exact ⟨hs.below (below_alloc1 _ _), ho.below (below_alloc1 _ _), n1.1, n1.2, below_alloc1 _ _⟩
  clear hs ho
  by_cases hy : szLayI ns.length st 1048576 < 0
  · go_enter Try.func11, Try.ntmps11
    go_wp2_with fail
    refine (szLay_any na sa nc sc ns.length st _ _ (by omega) (by omega) h1 h2 h3 h4 (q0 (unhide HS0)).2).mono ?_
    rintro e w2 ⟨rfl, hb2⟩
    have hB2 := bl_trans (unhide HS0).2.2.2.2 hb2
    go_wp2_with fail
    go_ret
    exact ⟨rfl, hB2⟩
  obtain ⟨hnl, hft⟩ := szLay_few (by omega) (show 0 ≤ szLayI ns.length st 1048576 by omega)
  have HFT := hide hft
  have hstl := hft.1
  clear hft
  go_enter Try.func11, Try.ntmps11
  go_wp2_with fail
  refine (szLay_any na sa nc sc ns.length st _ _ (by omega) (by omega) h1 h2 h3 h4 (q0 (unhide HS0)).2).mono ?_
  rintro e w2 ⟨rfl, hb2⟩
  have hS2 := (unhide HST).1 _ _ hb2 (unhide HS0)
  have HTZ : Hid (FitT st) := (q0 hS2).2.sizes
  clear hb2 HS0
  generalize szLayI ns.length st 1048576 = z2 at *
  have HS2 := hide hS2
  obtain ⟨_, _, c0, c1, _⟩ := hS2
  go_wp2_with fail
  refine (toLay_any na sa nc sc ns st _ hnl (unhide HFT) h1 h2 h3 h4 (q0 (unhide HS2)).1 (q0 (unhide HS2)).2).mono ?_
  rintro e w3 ⟨R3, S3, hR3, hS3, hE3, rfl, hO3, hQ3, hb3⟩
  clear hR3 hS3 hE3
  have HS3 := hide ((unhide HST).1 _ _ hb3 (unhide HS2))
  have hT3 := OwnTexts.row hQ3 (unhide HTZ)
  clear HS2 c0 c1 hb3 hO3 hQ3
  go_wp2_with fail
  refine (specMany_any _ _ _ _ _ st _ (unhide HFT) (Nat.le_refl _) (ml hstl) hT3).mono ?_
  rintro e w4 ⟨rfl, hb4⟩
  have hS4 := (unhide HST).1 _ _ hb4 (unhide HS3)
  clear HS3 hT3 hb4
  have HS4 := hide hS4
  obtain ⟨_, _, c0, c1, _⟩ := hS4
  go_wp2_with fail
  refine (toLay_any na sa nc sc ns st _ hnl (unhide HFT) h1 h2 h3 h4 (q0 (unhide HS4)).1 (q0 (unhide HS4)).2).mono ?_
  rintro e w5 ⟨R5, S5, hR5, hS5, hE5, rfl, hO5, hQ5, hb5⟩
  clear hR5 hS5 hE5
  have HST2 : Hid (Stable (fun w' => NumRow w' na ns ∧ TextsRow w' sa st ∧ NumRow w' (some ⟨R5, 0, none⟩) ns ∧ TextsRow w' (some ⟨S5, 0, none⟩) st ∧ w'.cell? ⟨w.heap.size, 0, none⟩ = some (.slice na ns.length nc) ∧ w'.cell? ⟨w.heap.size, 1, none⟩ = some (.slice sa st.length sc) ∧ w'.cell? ⟨w5.heap.size, 0, none⟩ = some (.slice (some ⟨R5, 0, none⟩) ns.length ns.length) ∧ w'.cell? ⟨w5.heap.size, 1, none⟩ = some (.slice (some ⟨S5, 0, none⟩) st.length st.length) ∧ Below w.heap.size w w')) := ((Stable.nrow na ns).and ((Stable.tsrow sa st).and ((Stable.nrow (some ⟨R5, 0, none⟩) ns).and ((Stable.tsrow (some ⟨S5, 0, none⟩) st).and ((Stable.cell ⟨w.heap.size, 0, none⟩ (.slice na ns.length nc)).and ((Stable.cell ⟨w.heap.size, 1, none⟩ (.slice sa st.length sc)).and ((Stable.cell ⟨w5.heap.size, 0, none⟩ (.slice (some ⟨R5, 0, none⟩) ns.length ns.length)).and ((Stable.cell ⟨w5.heap.size, 1, none⟩ (.slice (some ⟨S5, 0, none⟩) st.length st.length)).and (Stable.below w)))))))))
  have HS5 : Hid ((fun w' => NumRow w' na ns ∧ TextsRow w' sa st ∧ NumRow w' (some ⟨R5, 0, none⟩) ns ∧ TextsRow w' (some ⟨S5, 0, none⟩) st ∧ w'.cell? ⟨w.heap.size, 0, none⟩ = some (.slice na ns.length nc) ∧ w'.cell? ⟨w.heap.size, 1, none⟩ = some (.slice sa st.length sc) ∧ w'.cell? ⟨w5.heap.size, 0, none⟩ = some (.slice (some ⟨R5, 0, none⟩) ns.length ns.length) ∧ w'.cell? ⟨w5.heap.size, 1, none⟩ = some (.slice (some ⟨S5, 0, none⟩) st.length st.length) ∧ Below w.heap.size w w') (w5.alloc (.cells #[.slice (some ⟨R5, 0, none⟩) ns.length ns.length, .slice (some ⟨S5, 0, none⟩) st.length st.length] 27))) := by
    have h := (unhide HST).alloc ((unhide HST).1 _ _ hb5 (unhide HS4)) (.cells #[.slice (some ⟨R5, 0, none⟩) ns.length ns.length, .slice (some ⟨S5, 0, none⟩) st.length st.length] 27)
    have x := (box2 (new_block w5 (.cells #[.slice (some ⟨R5, 0, none⟩) ns.length ns.length, .slice (some ⟨S5, 0, none⟩) st.length st.length] 27))).1
    exact ⟨h.1, h.2.1, hO5.row.below (below_alloc1 _ _), (hQ5.row (unhide HTZ)).below (below_alloc1 _ _), h.2.2.1, h.2.2.2.1, x.1, x.2, h.2.2.2.2⟩
  clear HS4 c0 c1 hb5 hO5 hQ5
  have hS5 := unhide HS5
  obtain ⟨_, _, _, _, c0, c1, x0, x1, _⟩ := hS5
  go_wp2_with fail
  refine (implMany_any _ _ _ _ _ st _ (unhide HFT) (Nat.le_refl _) (ml hstl) (q1 (unhide HS5)).2).mono ?_
  rintro e w6 ⟨rfl, hb6⟩
  have hS6 := (unhide HST2).1 _ _ hb6 (unhide HS5)
  clear HS5 c0 c1 x0 x1 hb6
  go_wp2_with fail
  go_region_held3 (fun w' => NumRow w' na ns ∧ TextsRow w' sa st ∧ NumRow w' (some ⟨R5, 0, none⟩) ns ∧ TextsRow w' (some ⟨S5, 0, none⟩) st ∧ w'.cell? ⟨w.heap.size, 0, none⟩ = some (.slice na ns.length nc) ∧ w'.cell? ⟨w.heap.size, 1, none⟩ = some (.slice sa st.length sc) ∧ w'.cell? ⟨w5.heap.size, 0, none⟩ = some (.slice (some ⟨R5, 0, none⟩) ns.length ns.length) ∧ w'.cell? ⟨w5.heap.size, 1, none⟩ = some (.slice (some ⟨S5, 0, none⟩) st.length st.length) ∧ Below w.heap.size w w') (first | assumption | (refine (unhide HST2).1 _ _ hbk ?_; assumption) | (refine (unhide HST2).2 _ ?_; assumption))
    (first | (go_at_call 27; refine (toLay_any na sa nc sc ns st _ hnl (unhide HFT) h1 h2 h3 h4 (q0 (by assumption)).1 (q0 (by assumption)).2).mono ?_; rintro e wk1 ⟨Rk, Sk, hRk, hSk, hEk, rfl, hOk, hQk, hbk⟩; clear hRk hSk hEk; have hO := OwnNums.row hOk; have hQ := OwnTexts.row hQk (unhide HTZ); clear hOk hQk) | (go_at_call 29; refine (eqLay_same _ _ _ _ _ _ _ _ ns st _ (Nat.le_refl _) (ml hnl) (Nat.le_refl _) (ml hstl) (q1 (by assumption)).1 (q1 (by assumption)).2 (by exact hO) (by exact hQ)).mono ?_; rintro e wk1 ⟨rfl, hbk⟩))
  have hS9 : (fun w' => NumRow w' na ns ∧ TextsRow w' sa st ∧ NumRow w' (some ⟨R5, 0, none⟩) ns ∧ TextsRow w' (some ⟨S5, 0, none⟩) st ∧ w'.cell? ⟨w.heap.size, 0, none⟩ = some (.slice na ns.length nc) ∧ w'.cell? ⟨w.heap.size, 1, none⟩ = some (.slice sa st.length sc) ∧ w'.cell? ⟨w5.heap.size, 0, none⟩ = some (.slice (some ⟨R5, 0, none⟩) ns.length ns.length) ∧ w'.cell? ⟨w5.heap.size, 1, none⟩ = some (.slice (some ⟨S5, 0, none⟩) st.length st.length) ∧ Below w.heap.size w w') wk1 := by assumption
  have hB9 := hS9.2.2.2.2.2.2.2.2
  clear hS6 hS9
  go_wp2_with fail
  go_ret
  exact ⟨rfl, hB9⟩

set_option maxRecDepth 100000 in
theorem lifted (os : Os) (started : os.Started) (H : Type) (enc : TypeId × Value → H) :
    ReturnsInHanded {} Try.checked os 11 .any (Rows.fnExactLayManySpec.pre6 enc Try.prog Try.f11 Rows.fnExactLayManyRow.domain false) (Rows.fnExactLayManySpec.post enc Try.prog Try.f11 false true false false) := by
  refine returnsInHanded_of_change (C := Try.checked) own started (by kernel_rfl) Try.func11
    (ChangeSpec.witness6 (enc := enc) (C := Try.checked) false ⟨#[], #[.agg #[.slice none 0 0, .slice none 0 0]], []⟩ 8 (by kernel_rfl) (by kernel_rfl) (by kernel_rfl) (by kernel_rfl)) ?_
  intro W base args ds gs before hval0 hW hcnd _
  have hval : ∀ (j : Nat) t v, Try.f11.params[j]? = some t → args[j]? = some v → Value.okWide Try.prog W .any base t v := hval0
  have hW' := hW
  obtain ⟨p, q, hA0, hV, rfl, hfz, hnd⟩ := hW
  have hA : DataW.TrodAll enc Try.prog W 0 (fun _ => true) true Try.f11.params.toList args.toList ds p := hA0
  rw [Try.params11] at hA hval
  obtain ⟨v0, vs0, d0, ds0, p0, q0, hargs, rfl, rfl, h0, r0⟩ := trodAll_cons hA
  obtain ⟨rfl, rfl, rfl⟩ := trodAll_nil r0
  obtain rfl : args = #[v0] := by cases args; simp_all
  obtain ⟨rfl, rfl⟩ := trodVars_none hV
  have k0 := h0
  have lt0 : ∀ x ∈ p0, x.block < W.heap.size := by obtain ⟨m, hm⟩ := k0; exact DataW.trod_lt m _ _ _ hm
  obtain ⟨na0, sa0, nc0, sc0, ns0, st0, hv0, hl0, hm0, hn0, hk0, hs0, ho0⟩ := lay_of (hval 0 45 v0 rfl rfl) h0
  clear hA0 hval0
  subst hv0
  refine (walk na0 sa0 nc0 sc0 ns0 st0 hl0 hm0 hn0 hk0 W hs0 ho0).mono fun e W' ⟨he, bel⟩ => ?_
  subst he
  exact ⟨_, rfl, _, _, _, [], _, [], hW', trodAll_mk1 (shut_bool Try.underlying4 _), (trodAll_cons_mk (Below.trod laidOut (by kernel_rfl) (of_decide_eq_true (by kernel_rfl)) k0 bel lt0) trodAll_mk0), rfl, bel.frame _, fun h => by cases h⟩

theorem proved : Rows.FnExactLayManySaid :=
  OpenClaim.holds_of_wide 11 Try.f11 rfl rfl rfl rfl rfl rfl rfl ⟨rfl, rfl, rfl, rfl, rfl⟩ rfl rfl rfl rfl rfl (by kernel_rfl) Try.func11 (by kernel_rfl)
    (of_decide_eq_true (by kernel_rfl)) (by unfold Func.isWrapper; first | (rw [if_pos (by decide +kernel)]; kernel_rfl) | (rw [if_neg (by decide +kernel)]; exact ⟨rfl, rfl⟩))
    (fun os started H enc _ => lifted os started H enc)
#print axioms proved
end Go.Proofs.Ytenkalflflkffaa.fnExactLayMany
