/- For every slice of bytes the law FnInsSum answers true, and the bytes read afterwards as they did. No condition. -/
import Derived.Test.YtbjlcihnkkfhoaaBase
import Derived.WalkKit
import Derived.ProofKit
import Derived.OpenShut
import Derived.ShutString
import Derived.ChangeOld
import Derived.Below
import Derived.Lib.SmallJoins
import Derived.Test.YtbjlcihnkkfhoaaRd
import Derived.Test.YtbjlcihnkkfhoaaSum
import Derived.Test.YtbjlcihnkkfhoaaDrawSum
namespace Go.Proofs.Ytbjlcihnkkfhoaa.fnInsSum
open Go.ChangeShapes Go.WideShapes Go.ChangeAt Go.RowKit Go.Joins
open Go.ChangeMaps (open_string shut_string)
open Go.Proofs.Ytbjlcihnkkfhoaa.Base
open Go.Proofs.Ytbjlcihnkkfhoaa.Rd
open Go.Proofs.Ytbjlcihnkkfhoaa.Sum
open Go.Proofs.Ytbjlcihnkkfhoaa.DrawSum
set_option linter.unusedVariables false
theorem own : ownKnob Try.prog.godebug = none := by kernel_rfl
theorem laidOut : laidOutB Try.prog = true := by kernel_rfl

theorem neg_sum {c : Int} (h1 : -1000 ≤ c) (h2 : c ≤ 1000) : sumI c (-c) = 0 := by
  rw [sumI_in h1 h2 (by omega) (by omega), show c + -c = 0 by omega]; rfl
theorem back_sum {c d : Int} (h1 : -1000 ≤ c) (h2 : c ≤ 1000) (h3 : -1000 ≤ d) (h4 : d ≤ 1000) (h5 : -1000 ≤ c + d) (h6 : c + d ≤ 1000) : sumI (c + d) (-d) = c := by
  rw [sumI_in h5 h6 (by omega) (by omega), show c + d + -d = c by omega, cut_id h1 h2]

theorem key (x y : Int) : ∃ c d : Int, sumI x 0 = c ∧ sumI y 0 = d ∧ -1000 ≤ c ∧ c ≤ 1000 ∧ -1000 ≤ d ∧ d ≤ 1000 ∧ sumI c 0 = c ∧ sumI c (-c) = 0 ∧
    ((c + d < -1000 ∧ sumI x y = -1000 ∧ sumI y x = -1000) ∨ (1000 < c + d ∧ sumI x y = 1000 ∧ sumI y x = 1000) ∨ (-1000 ≤ c + d ∧ c + d ≤ 1000 ∧ sumI x y = c + d ∧ sumI y x = c + d ∧ sumI (c + d) (-d) = c)) := by
  have hc := cut_bd x
  have hd := cut_bd y
  refine ⟨cut x, cut y, sumI_zero x, sumI_zero y, hc.1, hc.2, hd.1, hd.2, ?_, neg_sum hc.1 hc.2, ?_⟩
  · rw [sumI_zero, cut_id hc.1 hc.2]
  · rw [sumI_comm y x]
    have e : sumI x y = cut (cut x + cut y) := rfl
    rw [e]
    by_cases h1 : cut x + cut y < -1000
    · have := cut_by (n := cut x + cut y) (m := -1000) (by omega)
      exact .inl ⟨h1, this.symm, this.symm⟩
    · by_cases h2 : 1000 < cut x + cut y
      · have := cut_by (n := cut x + cut y) (m := 1000) (by omega)
        exact .inr (.inl ⟨h2, this.symm, this.symm⟩)
      · have := cut_id (n := cut x + cut y) (by omega) (by omega)
        exact .inr (.inr ⟨by omega, by omega, this, this, back_sum hc.1 hc.2 hd.1 hd.2 (by omega) (by omega)⟩)

set_option maxHeartbeats 1000000 in
theorem walk (a : Option Addr) (len cap : Nat) (zs : List Int) (W : World) (hrow : IsRow .u8 W a len cap zs) :
    Calls Try.prog 3 #[.slice a len cap] W fun e w' => e = .returned (.bool true) ∧ Below W.heap.size W w' := by
  obtain ⟨hl, hm, hb⟩ := isRow_bytes hrow
  by_cases hlt : (1048576 : Int) < len
  · go_enter Try.func3, Try.ntmps3
    go_wp2
    go_ret
    exact ⟨rfl, Below.refl _ _⟩
  · have Hb := hide hb
    clear hb hrow
    go_enter Try.func3, Try.ntmps3
    go_wp2_with fail
    refine (draw_any _ _ _ _ hl hm (unhide Hb)).mono ?_
    rintro e w1 ⟨x, y, rfl, hb1⟩
    obtain ⟨c, d, g1, g2, b1, b2, b3, b4, g3, g4, h⟩ := key x y
    rcases h with ⟨h, g5, g6⟩ | ⟨h, g5, g6⟩ | ⟨h, h', g5, g6, g7⟩
    · go_wp2_with (first | (go_at_call 6; refine (implInsSum_any _ _ _).mono ?_; rintro e w' ⟨rfl, rfl⟩) | (go_at_call 7; refine (specInsSum_any _ _ _).mono ?_; rintro e w' ⟨rfl, rfl⟩))
      go_ret
      exact ⟨rfl, hb1⟩
    · go_wp2_with (first | (go_at_call 6; refine (implInsSum_any _ _ _).mono ?_; rintro e w' ⟨rfl, rfl⟩) | (go_at_call 7; refine (specInsSum_any _ _ _).mono ?_; rintro e w' ⟨rfl, rfl⟩))
      go_ret
      exact ⟨rfl, hb1⟩
    · go_wp2_with (first | (go_at_call 6; refine (implInsSum_any _ _ _).mono ?_; rintro e w' ⟨rfl, rfl⟩) | (go_at_call 7; refine (specInsSum_any _ _ _).mono ?_; rintro e w' ⟨rfl, rfl⟩))
      go_ret
      exact ⟨rfl, hb1⟩

set_option maxRecDepth 100000 in
theorem lifted (os : Os) (started : os.Started) (H : Type) (enc : TypeId × Value → H) :
    ReturnsInHanded {} Try.checked os 3 .any (Rows.fnInsSumSpec.pre6 enc Try.prog Try.f3 Rows.fnInsSumRow.domain false) (Rows.fnInsSumSpec.post enc Try.prog Try.f3 false true false false) := by
  refine returnsInHanded_of_change (C := Try.checked) own started (by kernel_rfl) Try.func3
    (ChangeSpec.witness6 (enc := enc) (C := Try.checked) false ⟨#[], #[.slice none 0 0], []⟩ 8 (by kernel_rfl) (by kernel_rfl) (by kernel_rfl) (by kernel_rfl)) ?_
  intro W base args ds gs before hval0 hW hcnd _
  have hval : ∀ (j : Nat) t v, Try.f3.params[j]? = some t → args[j]? = some v → Value.okWide Try.prog W .any base t v := hval0
  have hW' := hW
  obtain ⟨p, q, hA0, hV, rfl, hfz, hnd⟩ := hW
  have hA : DataW.TrodAll enc Try.prog W 0 (fun _ => true) true Try.f3.params.toList args.toList ds p := hA0
  rw [Try.params3] at hA hval
  obtain ⟨v0, vs0, d0, ds0, p0, q0, hargs, rfl, rfl, h0, r0⟩ := trodAll_cons hA
  obtain ⟨rfl, rfl, rfl⟩ := trodAll_nil r0
  obtain rfl : args = #[v0] := by cases args; simp_all
  obtain ⟨rfl, rfl⟩ := trodVars_none hV
  have k0 := h0
  have lt0 : ∀ x ∈ p0, x.block < W.heap.size := by obtain ⟨m, hm⟩ := k0; exact DataW.trod_lt m _ _ _ hm
  obtain ⟨a0, len0, cap0, hv0⟩ := okWide_slice Try.underlying22 (hval 0 22 v0 rfl rfl)
  obtain ⟨z0, w0⟩ : ∃ zs, IsRow .u8 W a0 len0 cap0 zs := by
    subst hv0
    obtain ⟨fuel, hf⟩ := h0
    rcases open_ints Try.underlying22 Try.underlying5 (by kernel_rfl) hf with ⟨hcs, _⟩ | ⟨x, l, c, zs, hcs, _, hl, hm, hz, _, hcell, hwz⟩
    · simp [Value.cells] at hcs
      obtain ⟨rfl, rfl, rfl⟩ := hcs
      exact ⟨[], .inl ⟨rfl, rfl, rfl, rfl⟩⟩
    · simp [Value.cells] at hcs
      obtain ⟨rfl, rfl, rfl⟩ := hcs
      exact ⟨zs, .inr ⟨_, rfl, hl, hm, by simpa using hz, hcell, hwz⟩⟩
  clear hA0 hval0
  subst hv0
  refine (walk a0 len0 cap0 z0 W w0).mono fun e W' ⟨he, bel⟩ => ?_
  subst he
  exact ⟨_, rfl, _, _, _, [], _, [], hW', trodAll_mk1 (shut_bool Try.underlying4 _), (trodAll_cons_mk (Below.trod laidOut (by kernel_rfl) (of_decide_eq_true (by kernel_rfl)) k0 bel lt0) trodAll_mk0), rfl, bel.frame _, fun h => by cases h⟩

theorem proved : Rows.FnInsSumSaid :=
  OpenClaim.holds_of_wide 3 Try.f3 rfl rfl rfl rfl rfl rfl rfl ⟨rfl, rfl, rfl, rfl, rfl⟩ rfl rfl rfl rfl rfl (by kernel_rfl) Try.func3 (by kernel_rfl)
    (of_decide_eq_true (by kernel_rfl)) (by unfold Func.isWrapper; first | (rw [if_pos (by decide +kernel)]; kernel_rfl) | (rw [if_neg (by decide +kernel)]; exact ⟨rfl, rfl⟩))
    (fun os started H enc _ => lifted os started H enc)
#print axioms proved
end Go.Proofs.Ytbjlcihnkkfhoaa.fnInsSum
