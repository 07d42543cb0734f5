/- For every function the exact law of FunRefs answers true, and the function reads afterwards as it did. No condition. -/
import Derived.Test.YtdiaepjchcmelarBase
import Derived.WalkKit
import Derived.ProofKit
import Derived.OpenShut
import Derived.ShutString
import Derived.ChangeOld
import Derived.Below
import Derived.Lib.SmallJoins
import Derived.Test.YtdiaepjchcmelarFuns
import Derived.Test.YtdiaepjchcmelarOpen
import Derived.Test.YtdiaepjchcmelarFunS
import Derived.Test.YtdiaepjchcmelarKeep
import Derived.Test.YtdiaepjchcmelarRefs
import Derived.Test.YtdiaepjchcmelarMark
namespace Go.Proofs.Ytdiaepjchcmelar.fnExactFunRefs
open Go.ChangeShapes Go.WideShapes Go.ChangeAt Go.RowKit Go.Joins
open Go.ChangeMaps (open_string shut_string)
open Go.Proofs.Ytdiaepjchcmelar.Base
open Go.Proofs.Ytdiaepjchcmelar.Funs
open Go.Proofs.Ytdiaepjchcmelar.Open
open Go.Proofs.Ytdiaepjchcmelar.FunS
open Go.Proofs.Ytdiaepjchcmelar.Keep
open Go.Proofs.Ytdiaepjchcmelar.Refs
open Go.Proofs.Ytdiaepjchcmelar.Mark
set_option linter.unusedVariables false
set_option maxRecDepth 100000
theorem own : ownKnob Try.prog.godebug = none := by kernel_rfl
theorem laidOut : laidOutB Try.prog = true := by kernel_rfl

theorem refs_le (nm : ByteArray) (xs : List InsD) : (funRefs nm xs).length ≤ 10 := by
  unfold funRefs
  cases h : funOkB nm xs
  · simp
  · exact Nat.le_trans (refs_len xs) (fun_le h)
theorem own_ne {w : World} {B g : Nat} {v : Value} {ss : List ByteArray} (h : StrOwn w B v ss) (hg : w.heap.size ≤ g ∨ g < B) : v.ownBlock ≠ some g := fun e => by
  have := World.ownsRow.lt h g e
  omega

set_option maxHeartbeats 4000000 in
theorem walk (nm : ByteArray) (wk : Bool) (a : Option Addr) (cap : Nat) (xs : List InsD) (hnm : nm.size ≤ maxLen) (hl : xs.length ≤ cap) (hm : cap ≤ maxLen) (w : World) (hr : InsRow w a xs) :
    Calls Try.prog 6 #[.agg #[.string nm, .bool wk, .slice a xs.length cap]] w fun e w' => e = .returned (.bool true) ∧ Below w.heap.size w w' := by
  have HR0 := hide hr
  have HZ := hide hr.sizes
  have HR := hide (hr.below (below_alloc1 w (.cells #[.string nm, .bool wk, .slice a xs.length cap] 26)))
  have HX := hide (new_block w (.cells #[.string nm, .bool wk, .slice a xs.length cap] 26))
  have hrl := refs_le nm xs
  obtain ⟨ss, hss⟩ : ∃ ss, ss = funRefs nm xs := ⟨_, rfl⟩
  have HSS := hide hss
  rw [← hss] at hrl
  clear hr hss
  by_cases hz : szF nm xs 1048576 < 0
  · go_enter Try.func6, Try.ntmps6
    go_wp2_with fail
    refine (szFun_any _ _ _ _ _ _ _ (by omega) (by omega) hnm hl hm (unhide HR)).mono ?_
    rintro e w1 ⟨rfl, hb1⟩
    go_wp2_with fail
    go_ret
    exact ⟨rfl, bl_trans (below_alloc1 _ _) hb1⟩
  have hlen : xs.length ≤ 1048576 := szF_len (nm := nm) (by omega)
  go_enter Try.func6, Try.ntmps6
  go_wp2_with fail
  refine (szFun_any _ _ _ _ _ _ _ (by omega) (by omega) hnm hl hm (unhide HR)).mono ?_
  rintro e w1 ⟨rfl, hb1⟩
  have hB1 := bl_trans (below_alloc1 _ _) hb1
  have HX1 := hide (box_below (unhide HX) hb1)
  have hs1 : w.heap.size < w1.heap.size := (Array.getElem?_eq_some_iff.1 (unhide HX1)).1
  clear HR HX hb1
  obtain ⟨⟨d0, d1, d2⟩, _⟩ := box3 (unhide HX1)
  go_wp2_with fail
  refine (toFun_any nm wk a cap xs _ hlen hl hm ((unhide HR0).below hB1)).mono ?_
  rintro e w2 ⟨R2, hR2, rfl, hO2, hb2⟩
  have hB2 := bl_trans hB1 hb2
  have hs2 := Nat.lt_of_lt_of_le hs1 hb2.size
  have HX2 := hide (box_below (unhide HX1) hb2)
  have HO2 := hide (hO2.row (unhide HZ))
  clear HX1 hb2 d0 d1 d2 hB1 hO2
  go_wp2_with fail
  refine (specFunRefs_any nm wk _ _ xs _ hnm (Nat.le_refl _) (by unfold maxLen; omega) (unhide HO2)).mono ?_
  rintro e w3 ⟨v0, rfl, hV0, hb3⟩
  rw [← unhide HSS] at hV0
  have HV0 := hide hV0
  have hB3 := bl_trans hB2 hb3
  have hs3 := hb3.size
  have HX3 := hide (box_below (unhide HX2) hb3)
  clear HX2 hb3 hB2 HO2 hV0
  obtain ⟨⟨d0, d1, d2⟩, _⟩ := box3 (unhide HX3)
  go_wp2_with fail
  refine (toFun_any nm wk a cap xs _ hlen hl hm ((unhide HR0).below hB3)).mono ?_
  rintro e w4 ⟨R4, hR4, rfl, hO4, hb4⟩
  have hR4w : R4 < w4.heap.size := by obtain ⟨C, hC, _⟩ := hO4; exact (Array.getElem?_eq_some_iff.1 hC).1
  have hN3 := fun g => own_ne (g := g) (unhide HV0)
  have HN3 := hide hN3
  have HV4 := hide (((unhide HV0).below hb4).below (below_alloc1 w4 (.cells #[.string nm, .bool wk, .slice (some ⟨R4, 0, none⟩) xs.length xs.length] 31)))
  have hB4 := bl_alloc (bl_trans hB3 hb4) (.cells #[.string nm, .bool wk, .slice (some ⟨R4, 0, none⟩) xs.length xs.length] 31)
  have HX4 := hide (box_below (box_below (unhide HX3) hb4) (below_alloc1 w4 (.cells #[.string nm, .bool wk, .slice (some ⟨R4, 0, none⟩) xs.length xs.length] 31)))
  have HO4 := hide (hO4.below (below_alloc1 w4 (.cells #[.string nm, .bool wk, .slice (some ⟨R4, 0, none⟩) xs.length xs.length] 31)))
  have HY4 := hide (new_block w4 (.cells #[.string nm, .bool wk, .slice (some ⟨R4, 0, none⟩) xs.length xs.length] 31))
  clear HX3 hb4 d0 d1 d2 hB3 hO4 HV0 hN3
  go_wp2_with fail
  refine (implFunRefs_any nm wk _ _ xs _ hnm (Nat.le_refl _) (by unfold maxLen; omega) ((unhide HO4).row (unhide HZ))).mono ?_
  rintro e w5 ⟨v1, rfl, hV1, hb5⟩
  rw [← unhide HSS] at hV1
  simp only [World.size_alloc] at hV1
  have HST : Hid (Stable (fun w' => InsRow w' a xs ∧ InsRow w' (some ⟨R4, 0, none⟩) xs ∧ OwnIns w' R4 xs xs.length ∧ StrOwn w' w2.heap.size v0 ss ∧ StrOwn w' (w4.heap.size + 1) v1 ss ∧ w'.heap[w.heap.size]? = some (.cells #[.string nm, .bool wk, .slice a xs.length cap] 26) ∧ w'.heap[w4.heap.size]? = some (.cells #[.string nm, .bool wk, .slice (some ⟨R4, 0, none⟩) xs.length xs.length] 31) ∧ w'.cell? ⟨w.heap.size, 0, none⟩ = some (.string nm) ∧ w'.cell? ⟨w.heap.size, 1, none⟩ = some (.bool wk) ∧ w'.cell? ⟨w.heap.size, 2, none⟩ = some (.slice a xs.length cap) ∧ w'.cell? ⟨w4.heap.size, 0, none⟩ = some (.string nm) ∧ w'.cell? ⟨w4.heap.size, 1, none⟩ = some (.bool wk) ∧ w'.cell? ⟨w4.heap.size, 2, none⟩ = some (.slice (some ⟨R4, 0, none⟩) xs.length xs.length) ∧ Below w.heap.size w w')) := (Stable.row _ _).and ((Stable.row _ _).and ((Stable.own _ _ _).and ((Stable.strOwn _ _ _).and ((Stable.strOwn _ _ _).and ((Stable.box _ _).and ((Stable.box _ _).and ((Stable.cell _ _).and ((Stable.cell _ _).and ((Stable.cell _ _).and ((Stable.cell _ _).and ((Stable.cell _ _).and ((Stable.cell _ _).and (Stable.below w)))))))))))))
  have HS5 : Hid ((fun w' => InsRow w' a xs ∧ InsRow w' (some ⟨R4, 0, none⟩) xs ∧ OwnIns w' R4 xs xs.length ∧ StrOwn w' w2.heap.size v0 ss ∧ StrOwn w' (w4.heap.size + 1) v1 ss ∧ w'.heap[w.heap.size]? = some (.cells #[.string nm, .bool wk, .slice a xs.length cap] 26) ∧ w'.heap[w4.heap.size]? = some (.cells #[.string nm, .bool wk, .slice (some ⟨R4, 0, none⟩) xs.length xs.length] 31) ∧ w'.cell? ⟨w.heap.size, 0, none⟩ = some (.string nm) ∧ w'.cell? ⟨w.heap.size, 1, none⟩ = some (.bool wk) ∧ w'.cell? ⟨w.heap.size, 2, none⟩ = some (.slice a xs.length cap) ∧ w'.cell? ⟨w4.heap.size, 0, none⟩ = some (.string nm) ∧ w'.cell? ⟨w4.heap.size, 1, none⟩ = some (.bool wk) ∧ w'.cell? ⟨w4.heap.size, 2, none⟩ = some (.slice (some ⟨R4, 0, none⟩) xs.length xs.length) ∧ Below w.heap.size w w') w5) := by
    have x := box3 (box_below (unhide HX4) hb5)
    have y := box3 (box_below (unhide HY4) hb5)
    exact ⟨(unhide HR0).below (bl_trans hB4 hb5), ((unhide HO4).row (unhide HZ)).below hb5, (unhide HO4).below hb5, (unhide HV4).below hb5, hV1, box_below (unhide HX4) hb5, box_below (unhide HY4) hb5, x.1.1, x.1.2.1, x.1.2.2, y.1.1, y.1.2.1, y.1.2.2, bl_trans hB4 hb5⟩
  clear HV4 HX4 HO4 HY4 hb5 hB4 hV1
  go_wp2_with fail
  refine (eqStringS_same v1 v0 ss _ (unhide HS5).2.2.2.2.1.at (unhide HS5).2.2.2.1.at).mono ?_
  rintro e w6 ⟨rfl, hb6⟩
  have hS6 := (unhide HST).1 _ _ hb6 (unhide HS5)
  clear HS5 hb6
  go_wp2_with fail
  go_region_held3 (fun w' => InsRow w' a xs ∧ InsRow w' (some ⟨R4, 0, none⟩) xs ∧ OwnIns w' R4 xs xs.length ∧ StrOwn w' w2.heap.size v0 ss ∧ StrOwn w' (w4.heap.size + 1) v1 ss ∧ w'.heap[w.heap.size]? = some (.cells #[.string nm, .bool wk, .slice a xs.length cap] 26) ∧ w'.heap[w4.heap.size]? = some (.cells #[.string nm, .bool wk, .slice (some ⟨R4, 0, none⟩) xs.length xs.length] 31) ∧ w'.cell? ⟨w.heap.size, 0, none⟩ = some (.string nm) ∧ w'.cell? ⟨w.heap.size, 1, none⟩ = some (.bool wk) ∧ w'.cell? ⟨w.heap.size, 2, none⟩ = some (.slice a xs.length cap) ∧ w'.cell? ⟨w4.heap.size, 0, none⟩ = some (.string nm) ∧ w'.cell? ⟨w4.heap.size, 1, none⟩ = some (.bool wk) ∧ w'.cell? ⟨w4.heap.size, 2, none⟩ = some (.slice (some ⟨R4, 0, none⟩) xs.length xs.length) ∧ Below w.heap.size w w') (first | assumption | (refine (unhide HST).1 _ _ hbk ?_; assumption) | (refine (unhide HST).2 _ ?_; assumption))
    (first | (go_at_call 13; refine (toFun_any nm wk a cap xs _ hlen hl hm (by apply s0; assumption)).mono ?_; rintro e wk1 ⟨Rk, hRk, rfl, hOk, hbk⟩; have hO := hOk.row (xs := xs) (unhide HZ)) | (go_at_call 15; refine (eqFun_same nm wk _ _ _ _ xs _ (Nat.le_refl _) (by unfold maxLen; omega) (by apply s1; assumption) (by exact hO)).mono ?_; rintro e wk1 ⟨rfl, hbk⟩))
  have hS7 : (fun w' => InsRow w' a xs ∧ InsRow w' (some ⟨R4, 0, none⟩) xs ∧ OwnIns w' R4 xs xs.length ∧ StrOwn w' w2.heap.size v0 ss ∧ StrOwn w' (w4.heap.size + 1) v1 ss ∧ w'.heap[w.heap.size]? = some (.cells #[.string nm, .bool wk, .slice a xs.length cap] 26) ∧ w'.heap[w4.heap.size]? = some (.cells #[.string nm, .bool wk, .slice (some ⟨R4, 0, none⟩) xs.length xs.length] 31) ∧ w'.cell? ⟨w.heap.size, 0, none⟩ = some (.string nm) ∧ w'.cell? ⟨w.heap.size, 1, none⟩ = some (.bool wk) ∧ w'.cell? ⟨w.heap.size, 2, none⟩ = some (.slice a xs.length cap) ∧ w'.cell? ⟨w4.heap.size, 0, none⟩ = some (.string nm) ∧ w'.cell? ⟨w4.heap.size, 1, none⟩ = some (.bool wk) ∧ w'.cell? ⟨w4.heap.size, 2, none⟩ = some (.slice (some ⟨R4, 0, none⟩) xs.length xs.length) ∧ Below w.heap.size w w') wk1 := by assumption
  clear hS6 hO
  obtain ⟨h1, h2, hO7, hV0, hV1, hX7, hY7, _, _, _, x0, x1, x2, hB7⟩ := hS7
  have HO7 := hide hO7
  have HV0 := hide hV0
  have HV1 := hide hV1
  have HX7 := hide hX7
  have hs7 : w4.heap.size < wk1.heap.size := (Array.getElem?_eq_some_iff.1 hY7).1
  clear h1 h2 hO7 hV0 hV1 hX7 hY7
  go_wp2_with fail
  refine (markFun_any nm wk R4 xs.length xs.length 1 (xs.length * 3) (by omega) (by omega) (Nat.le_refl _) _ (OwnIns.marked (unhide HO7))).mono ?_
  rintro e w8 ⟨rfl, hM8, hb8⟩
  have hB8 := But.down hB7 hb8 (by omega)
  have HV0' := hide (hb8.strOwn (unhide HV0) (unhide HN3 R4 (by omega)))
  have HV1' := hide (hb8.strOwn (unhide HV1) (own_ne (unhide HV1) (by omega)))
  have hs8 := Nat.lt_of_lt_of_le hs7 hb8.size
  have HX8 := hide (hb8.box (unhide HX7) (by omega))
  clear HO7 HV0 HV1 HX7 x0 x1 x2 hM8 hb8 hB7
  have hk8 : ¬ ((1 + xs.length * 3 : Nat) : Int) < 0 := by omega
  generalize ((1 + xs.length * 3 : Nat) : Int) = kk at hk8 ⊢
  go_wp2_with fail
  refine (eqStringS_same v1 v0 ss _ (unhide HV1').at (unhide HV0').at).mono ?_
  rintro e w9 ⟨rfl, hb9⟩
  have hB9 := bl_trans hB8 hb9
  have HV0 := hide ((unhide HV0').below hb9)
  have HV1 := hide ((unhide HV1').below hb9)
  have HX9 := hide (box_below (unhide HX8) hb9)
  have hs9 : w4.heap.size + 1 ≤ w9.heap.size := Nat.lt_of_lt_of_le hs8 hb9.size
  clear HV0' HV1' HX8 hb9 hB8
  go_wp2_with fail
  refine (markStringS_any (w4.heap.size + 1) v1 ss 1 (by omega) (by omega) _ hs9 (unhide HV1)).mono ?_
  rintro e w10 ⟨rfl, g, hBg, hg, hM10, hb10⟩
  have hB10 := But.down hB9 hb10 (by omega)
  have HV0' := hide (hb10.strOwn (unhide HV0) (unhide HN3 g (by omega)))
  have HX10 := hide (hb10.box (unhide HX9) (by omega))
  have HM := hide hM10
  clear hM10 HV0 HV1 HX9 hb10 hB9 hg
  go_wp2_with fail
  refine (heldStringS_any v1 1 ss.length (by omega) (by omega) _ (unhide HM).at).mono ?_
  rintro e w11 ⟨rfl, hb11⟩
  have hB11 := bl_trans hB10 hb11
  have HM' := hide ((unhide HM).below hb11)
  have HV0 := hide ((unhide HV0').below hb11)
  obtain ⟨⟨d0, d1, d2⟩, _⟩ := box3 (box_below (unhide HX10) hb11)
  clear HM HV0' HX10 hb11 hB10
  have hk11 : ¬ ((1 + ss.length : Nat) : Int) < 0 := by omega
  generalize hkq : ((1 + ss.length : Nat) : Int) = kq at hk11 ⊢
  go_wp2_with fail
  refine (toFun_any nm wk a cap xs _ hlen hl hm ((unhide HR0).below hB11)).mono ?_
  rintro e w12 ⟨R12, hR12, rfl, hO12, hb12⟩
  have hB12 := bl_trans hB11 hb12
  have HO12 := hide (hO12.row (unhide HZ))
  have HM := hide ((unhide HM').below hb12)
  have HV0' := hide ((unhide HV0).below hb12)
  clear hO12 HM' HV0 hb12 d0 d1 d2 hB11
  go_wp2_with fail
  refine (implFunRefs_any nm wk _ _ xs _ hnm (Nat.le_refl _) (by unfold maxLen; omega) (unhide HO12)).mono ?_
  rintro e w13 ⟨v2, rfl, hV2, hb13⟩
  rw [← unhide HSS] at hV2
  have HV2 := hide hV2
  have hB13 := bl_trans hB12 hb13
  have HM' := hide ((unhide HM).below hb13)
  have HV0 := hide ((unhide HV0').below hb13)
  clear hV2 HM HV0' hb13 hB12
  go_wp2_with fail
  refine (eqStringS_same v2 v0 ss _ (unhide HV2).at (unhide HV0).at).mono ?_
  rintro e w14 ⟨rfl, hb14⟩
  have hB14 := bl_trans hB13 hb14
  have HM := hide ((unhide HM').below hb14)
  clear HM' HV0 HV2 hb14 hB13
  go_wp2_with fail
  refine (heldStringS_any v1 1 ss.length (by omega) (by omega) _ (unhide HM).at).mono ?_
  rintro e w15 ⟨rfl, hb15⟩
  have hB15 := bl_trans hB14 hb15
  rw [hkq]
  clear hkq HM hb15 hB14
  go_wp2_with fail
  go_ret
  exact ⟨rfl, hB15⟩

set_option maxRecDepth 100000 in
theorem lifted (os : Os) (started : os.Started) (H : Type) (enc : TypeId × Value → H) :
    ReturnsInHanded {} Try.checked os 6 .any (Rows.fnExactFunRefsSpec.pre6 enc Try.prog Try.f6 Rows.fnExactFunRefsRow.domain false) (Rows.fnExactFunRefsSpec.post enc Try.prog Try.f6 false true false false) := by
  refine returnsInHanded_of_change (C := Try.checked) own started (by kernel_rfl) Try.func6
    (ChangeSpec.witness6 (enc := enc) (C := Try.checked) false ⟨#[], #[.agg #[.string ByteArray.empty, .bool false, .slice none 0 0]], []⟩ 8 (by kernel_rfl) (by kernel_rfl) (by kernel_rfl) (by kernel_rfl)) ?_
  intro W base args ds gs before hval0 hW hcnd _
  have hval : ∀ (j : Nat) t v, Try.f6.params[j]? = some t → args[j]? = some v → Value.okWide Try.prog W .any base t v := hval0
  have hW' := hW
  obtain ⟨p, q, hA0, hV, rfl, hfz, hnd⟩ := hW
  have hA : DataW.TrodAll enc Try.prog W 0 (fun _ => true) true Try.f6.params.toList args.toList ds p := hA0
  rw [Try.params6] at hA hval
  obtain ⟨v0, vs0, d0, ds0, p0, q0, hargs, rfl, rfl, h0, r0⟩ := trodAll_cons hA
  obtain ⟨rfl, rfl, rfl⟩ := trodAll_nil r0
  obtain rfl : args = #[v0] := by cases args; simp_all
  obtain ⟨rfl, rfl⟩ := trodVars_none hV
  have k0 := h0
  have lt0 : ∀ x ∈ p0, x.block < W.heap.size := by obtain ⟨m, hm⟩ := k0; exact DataW.trod_lt m _ _ _ hm
  obtain ⟨nm0, wk0, a0, cap0, xs0, hv0, hnm0, hl0, hm0, hr0⟩ := fun_of (hval 0 26 v0 rfl rfl) h0
  clear hA0 hval0
  subst hv0
  refine (walk nm0 wk0 a0 cap0 xs0 hnm0 hl0 hm0 W hr0).mono fun e W' ⟨he, bel⟩ => ?_
  subst he
  exact ⟨_, rfl, _, _, _, [], _, [], hW', trodAll_mk1 (shut_bool Try.underlying4 _), (trodAll_cons_mk (Below.trod laidOut (by kernel_rfl) (of_decide_eq_true (by kernel_rfl)) k0 bel lt0) trodAll_mk0), rfl, bel.frame _, fun h => by cases h⟩

theorem proved : Rows.FnExactFunRefsSaid :=
  OpenClaim.holds_of_wide 6 Try.f6 rfl rfl rfl rfl rfl rfl rfl ⟨rfl, rfl, rfl, rfl, rfl⟩ rfl rfl rfl rfl rfl (by kernel_rfl) Try.func6 (by kernel_rfl)
    (of_decide_eq_true (by kernel_rfl)) (by unfold Func.isWrapper; first | (rw [if_pos (by decide +kernel)]; kernel_rfl) | (rw [if_neg (by decide +kernel)]; exact ⟨rfl, rfl⟩))
    (fun os started H enc _ => lifted os started H enc)
#print axioms proved
end Go.Proofs.Ytdiaepjchcmelar.fnExactFunRefs
