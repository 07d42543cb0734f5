/- For every instruction the exact law of InsLast answers true, and the instruction reads afterwards as it did. No condition. -/
import Derived.Test.YtbjlcihnkkfhoaqBase
import Derived.WalkKit
import Derived.ProofKit
import Derived.OpenShut
import Derived.ShutString
import Derived.ChangeOld
import Derived.Below
import Derived.Lib.SmallJoins
import Derived.Test.YtbjlcihnkkfhoaqInsA
namespace Go.Proofs.Ytbjlcihnkkfhoaq.fnExactInsLast
open Go.ChangeShapes Go.WideShapes Go.ChangeAt Go.RowKit Go.Joins
open Go.ChangeMaps (open_string shut_string)
open Go.Proofs.Ytbjlcihnkkfhoaq.Base
open Go.Proofs.Ytbjlcihnkkfhoaq.InsA
set_option linter.unusedVariables false
theorem own : ownKnob Try.prog.godebug = none := by kernel_rfl
theorem laidOut : laidOutB Try.prog = true := by kernel_rfl
theorem cellsIns : Try.prog.cellsOf 24 = 3 := by kernel_rfl

set_option maxHeartbeats 400000 in
theorem walk (o n : Int) (s : ByteArray) (_wo : (Lit.int .i64 o).wf = true) (_wn : (Lit.int .i64 n).wf = true) (hs : s.size ≤ maxLen) (w : World) :
    Calls Try.prog 6 #[.agg #[.int .i64 o, .int .i64 n, .string s]] w fun e w' => e = .returned (.bool true) ∧ Below w.heap.size w w' := by
  by_cases hlt : (1048576 : Int) < s.size
  · have hz : szI 1048576 s.size < 0 := by rw [← szI_neg hlt]; omega
    go_enter Try.func6, Try.ntmps6
    go_wp2_with (go_at_call 9; refine (szIns_any _ _ _ _ _ (by omega) (by omega) hs).mono ?_; rintro e w1 ⟨rfl, hb1⟩)
    go_ret
    exact ⟨rfl, by repeat (first | exact Below.refl _ _ | refine bl_trans ?_ (by assumption) | refine bl_alloc ?_ _)⟩
  · have hz : 0 ≤ szI 1048576 s.size := by rw [← szI_pos hlt]; omega
    go_enter Try.func6, Try.ntmps6
    go_wp2_with (first | (go_at_call 9; refine (szIns_any _ _ _ _ _ (by omega) (by omega) hs).mono ?_; rintro e w1 ⟨rfl, hb⟩; obtain ⟨hc, hf⟩ := bcell hb) | (go_at_call 11; refine (toIns_any _ _ _ _).mono ?_; rintro e w1 ⟨rfl, hb1⟩; replace hb := bl_trans hb hb1; clear hb1 hc hf; obtain ⟨hc, hf⟩ := bcell hb) | (go_at_call 15; refine (specLast_any _ _ _ _).mono ?_; rintro e w1 ⟨rfl, hb1⟩; replace hb := bl_trans hb hb1; clear hb1 hc hf; obtain ⟨hc, hf⟩ := bcell hb) | (go_at_call 16; refine (implLast_any _ _ _ _).mono ?_; rintro e w1 ⟨rfl, hb1⟩; replace hb := bl_trans hb hb1; clear hb1 hc hf; obtain ⟨hc, hf⟩ := bcell hb))
    go_ret
    exact ⟨rfl, by repeat (first | exact Below.refl _ _ | refine bl_trans ?_ (by assumption) | refine bl_alloc ?_ _)⟩

set_option maxRecDepth 100000 in
theorem lifted (os : Os) (started : os.Started) (H : Type) (enc : TypeId × Value → H) :
    ReturnsInHanded {} Try.checked os 6 .any (Rows.fnExactInsLastSpec.pre6 enc Try.prog Try.f6 Rows.fnExactInsLastRow.domain false) (Rows.fnExactInsLastSpec.post enc Try.prog Try.f6 false true false false) := by
  refine returnsInHanded_of_change (C := Try.checked) own started (by kernel_rfl) Try.func6
    (ChangeSpec.witness6 (enc := enc) (C := Try.checked) false ⟨#[], #[.agg #[.int .i64 0, .int .i64 0, .string ByteArray.empty]], []⟩ 8 (by kernel_rfl) (by kernel_rfl) (by kernel_rfl) (by kernel_rfl)) ?_
  intro W base args ds gs before hval0 hW hcnd _
  have hval : ∀ (j : Nat) t v, Try.f6.params[j]? = some t → args[j]? = some v → Value.okWide Try.prog W .any base t v := hval0
  have hW' := hW
  obtain ⟨p, q, hA0, hV, rfl, hfz, hnd⟩ := hW
  have hA : DataW.TrodAll enc Try.prog W 0 (fun _ => true) true Try.f6.params.toList args.toList ds p := hA0
  rw [Try.params6] at hA hval
  obtain ⟨v0, vs0, d0, ds0, p0, q0, hargs, rfl, rfl, h0, r0⟩ := trodAll_cons hA
  obtain ⟨rfl, rfl, rfl⟩ := trodAll_nil r0
  obtain rfl : args = #[v0] := by cases args; simp_all
  obtain ⟨rfl, rfl⟩ := trodVars_none hV
  have k0 := h0
  have lt0 : ∀ x ∈ p0, x.block < W.heap.size := by obtain ⟨m, hm⟩ := k0; exact DataW.trod_lt m _ _ _ hm
  obtain ⟨c0, c1, c2, y0, y1, y2, m, hv0, _, _, hy0, hy1, hy2⟩ := open_agg3 Try.underlying24 (by kernel_rfl) cellsIns (hval 0 24 v0 rfl rfl) h0
  obtain ⟨op, e0, _, wo⟩ := DataW.trod_int Try.underlying3 hy0
  obtain ⟨nn, e1, _, wn⟩ := DataW.trod_int Try.underlying3 hy1
  obtain ⟨ss, e2, _, ws⟩ := DataW.trod_string Try.underlying9 hy2
  simp at e0 e1 e2
  subst e0 e1 e2
  clear hA0 hval0
  subst hv0
  refine (walk op nn ss wo wn ws W).mono fun e W' ⟨he, bel⟩ => ?_
  subst he
  exact ⟨_, rfl, _, _, _, [], _, [], hW', trodAll_mk1 (shut_bool Try.underlying4 _), (trodAll_cons_mk (Below.trod laidOut (by kernel_rfl) (of_decide_eq_true (by kernel_rfl)) k0 bel lt0) trodAll_mk0), rfl, bel.frame _, fun h => by cases h⟩

theorem proved : Rows.FnExactInsLastSaid :=
  OpenClaim.holds_of_wide 6 Try.f6 rfl rfl rfl rfl rfl rfl rfl ⟨rfl, rfl, rfl, rfl, rfl⟩ rfl rfl rfl rfl rfl (by kernel_rfl) Try.func6 (by kernel_rfl)
    (of_decide_eq_true (by kernel_rfl)) (by unfold Func.isWrapper; first | (rw [if_pos (by decide +kernel)]; kernel_rfl) | (rw [if_neg (by decide +kernel)]; exact ⟨rfl, rfl⟩))
    (fun os started H enc _ => lifted os started H enc)
#print axioms proved
end Go.Proofs.Ytbjlcihnkkfhoaq.fnExactInsLast
