/- For every slice of bytes the law FnInsAll answers true, and the bytes read afterwards as they did. No condition. -/
import Derived.Test.YtbjlcihnkkfhoaaBase
import Derived.WalkKit
import Derived.ProofKit
import Derived.OpenShut
import Derived.ShutString
import Derived.ChangeOld
import Derived.Below
import Derived.Lib.SmallJoins
import Derived.Deep.RegionHeld3
import Derived.Deep.RegionWith
import Derived.Deep.DeepCutAuto
import Derived.Test.YtbjlcihnkkfhoaaInsA
import Derived.Test.YtbjlcihnkkfhoaaRd
import Derived.Test.YtbjlcihnkkfhoaaDrawInsB
namespace Go.Proofs.Ytbjlcihnkkfhoaa.fnInsAll
open Go.ChangeShapes Go.WideShapes Go.ChangeAt Go.RowKit Go.Joins
open Go.ChangeMaps (open_string shut_string)
open Go.Proofs.Ytbjlcihnkkfhoaa.Base
open Go.Proofs.Ytbjlcihnkkfhoaa.InsA
open Go.Proofs.Ytbjlcihnkkfhoaa.Rd
open Go.Proofs.Ytbjlcihnkkfhoaa.DrawInsB
set_option linter.unusedVariables false
theorem own : ownKnob Try.prog.godebug = none := by kernel_rfl
theorem laidOut : laidOutB Try.prog = true := by kernel_rfl

theorem keep_call {A B : Nat} {W w w' : World} {v0 v1 v2 u0 u1 u2 : Value} (h : (w.cell? ⟨A, 0, none⟩ = some v0 ∧ w.cell? ⟨A, 1, none⟩ = some v1 ∧ w.cell? ⟨A, 2, none⟩ = some v2) ∧ (w.cell? ⟨B, 0, none⟩ = some u0 ∧ w.cell? ⟨B, 1, none⟩ = some u1 ∧ w.cell? ⟨B, 2, none⟩ = some u2) ∧ Below W.heap.size W w) (hb : Below w.heap.size w w') :
    (w'.cell? ⟨A, 0, none⟩ = some v0 ∧ w'.cell? ⟨A, 1, none⟩ = some v1 ∧ w'.cell? ⟨A, 2, none⟩ = some v2) ∧ (w'.cell? ⟨B, 0, none⟩ = some u0 ∧ w'.cell? ⟨B, 1, none⟩ = some u1 ∧ w'.cell? ⟨B, 2, none⟩ = some u2) ∧ Below W.heap.size W w' := by
  obtain ⟨⟨a0, a1, a2⟩, ⟨b0, b1, b2⟩, hW⟩ := h
  have t : ∀ b o v, w.cell? ⟨b, o, none⟩ = some v → w'.cell? ⟨b, o, none⟩ = some v := fun b o v hc => (hb.cell (p := ⟨b, o, none⟩) (World.block_lt_of_cell? w _ hc)).trans hc
  exact ⟨⟨t _ _ _ a0, t _ _ _ a1, t _ _ _ a2⟩, ⟨t _ _ _ b0, t _ _ _ b1, t _ _ _ b2⟩, bl_trans hW hb⟩
theorem keep_drew {A B : Nat} {W w : World} {v0 v1 v2 u0 u1 u2 : Value} (h : (w.cell? ⟨A, 0, none⟩ = some v0 ∧ w.cell? ⟨A, 1, none⟩ = some v1 ∧ w.cell? ⟨A, 2, none⟩ = some v2) ∧ (w.cell? ⟨B, 0, none⟩ = some u0 ∧ w.cell? ⟨B, 1, none⟩ = some u1 ∧ w.cell? ⟨B, 2, none⟩ = some u2) ∧ Below W.heap.size W w) :
    (w.drew.cell? ⟨A, 0, none⟩ = some v0 ∧ w.drew.cell? ⟨A, 1, none⟩ = some v1 ∧ w.drew.cell? ⟨A, 2, none⟩ = some v2) ∧ (w.drew.cell? ⟨B, 0, none⟩ = some u0 ∧ w.drew.cell? ⟨B, 1, none⟩ = some u1 ∧ w.drew.cell? ⟨B, 2, none⟩ = some u2) ∧ Below W.heap.size W w.drew :=
  ⟨h.1, h.2.1, h.2.2.drew⟩

theorem last_cases (o : Int) : (o = 4 ∧ lastB o = true) ∨ (o = 6 ∧ lastB o = true) ∨ (o = 7 ∧ lastB o = true) ∨ ((o == 4) = false ∧ (o == 6) = false ∧ (o == 7) = false ∧ lastB o = false) := by
  by_cases h4 : o = 4
  · exact .inl ⟨h4, by rw [h4]; rfl⟩
  · by_cases h6 : o = 6
    · exact .inr (.inl ⟨h6, by rw [h6]; rfl⟩)
    · by_cases h7 : o = 7
      · exact .inr (.inr (.inl ⟨h7, by rw [h7]; rfl⟩))
      · exact .inr (.inr (.inr ⟨by simp [h4], by simp [h6], by simp [h7], by simp [lastB, h4, h6, h7]⟩))
theorem refs_cases (o : Int) : (o = 3 ∧ refsB o = true) ∨ (o = 4 ∧ refsB o = true) ∨ (o = 5 ∧ refsB o = true) ∨ ((o == 3) = false ∧ (o == 4) = false ∧ (o == 5) = false ∧ refsB o = false) := by
  by_cases h4 : o = 3
  · exact .inl ⟨h4, by rw [h4]; rfl⟩
  · by_cases h6 : o = 4
    · exact .inr (.inl ⟨h6, by rw [h6]; rfl⟩)
    · by_cases h7 : o = 5
      · exact .inr (.inr (.inl ⟨h7, by rw [h7]; rfl⟩))
      · exact .inr (.inr (.inr ⟨by simp [h4], by simp [h6], by simp [h7], by simp [refsB, h4, h6, h7]⟩))

set_option maxHeartbeats 4000000 in
theorem walk (a : Option Addr) (len cap : Nat) (zs : List Int) (W : World) (hrow : IsRow .u8 W a len cap zs) :
    Calls Try.prog 4 #[.slice a len cap] W fun e w' => e = .returned (.bool true) ∧ Below W.heap.size W w' := by
  obtain ⟨hl, hm, hb⟩ := isRow_bytes hrow
  by_cases hlt : (1048576 : Int) < len
  · go_enter Try.func4, Try.ntmps4
    go_wp2
    go_ret
    exact ⟨rfl, Below.refl _ _⟩
  · have Hb := hide hb
    clear hb hrow
    go_enter Try.func4, Try.ntmps4
    go_wp2_with fail
    refine (drawLast_any _ _ _ _ hl hm (unhide Hb)).mono ?_
    rintro e w1 ⟨o, n, s, rfl, hs, hb1⟩
    go_wp2_with fail
    refine (drawRefs_any _ _ _ _ hl hm (bytes_below (unhide Hb) (bl_alloc hb1 _))).mono ?_
    rintro e w2 ⟨o2, n2, s2, rfl, hs2, hb2⟩
    have HX := hide (box_below (box_below (new_block w1 _) hb2) (below_alloc1 w2 (.cells #[.int .i64 o2, .int .i64 n2, .string s2] 28)))
    have HY := hide (new_block w2 (.cells #[.int .i64 o2, .int .i64 n2, .string s2] 28))
    have HB := hide (bl_alloc (bl_trans (bl_alloc hb1 _) hb2) (.cells #[.int .i64 o2, .int .i64 n2, .string s2] 28))
    clear hb1 hb2 Hb
    have b0 := (box3 (unhide HX)).1
    have d0 := (box3 (unhide HY)).1
    have hS0 := And.intro b0 (And.intro d0 (unhide HB))
    clear HX HY HB b0 d0 hl hm
    go_wp2_with fail
    go_region_held3 (fun w' => (w'.cell? ⟨w1.heap.size, 0, none⟩ = some (.int .i64 o) ∧ w'.cell? ⟨w1.heap.size, 1, none⟩ = some (.int .i64 n) ∧ w'.cell? ⟨w1.heap.size, 2, none⟩ = some (.string s)) ∧ (w'.cell? ⟨w2.heap.size, 0, none⟩ = some (.int .i64 o2) ∧ w'.cell? ⟨w2.heap.size, 1, none⟩ = some (.int .i64 n2) ∧ w'.cell? ⟨w2.heap.size, 2, none⟩ = some (.string s2)) ∧ Below W.heap.size W w') (first | assumption | (refine keep_call ?_ hbk; assumption) | (refine keep_drew ?_; assumption)) (first | (go_at_call 10; refine (implLast_any _ _ _ _).mono ?_; rintro e wk ⟨rfl, hbk⟩) | (go_at_call 11; refine (specLast_any _ _ _ _).mono ?_; rintro e wk ⟨rfl, hbk⟩) | (go_at_call 12; refine (implRefs_any _ _ _ _).mono ?_; rintro e wk ⟨rfl, hbk⟩) | (go_at_call 13; refine (specRefs_any _ _ _ _).mono ?_; rintro e wk ⟨rfl, hbk⟩))
    have hS1 : (fun w' => (w'.cell? ⟨w1.heap.size, 0, none⟩ = some (.int .i64 o) ∧ w'.cell? ⟨w1.heap.size, 1, none⟩ = some (.int .i64 n) ∧ w'.cell? ⟨w1.heap.size, 2, none⟩ = some (.string s)) ∧ (w'.cell? ⟨w2.heap.size, 0, none⟩ = some (.int .i64 o2) ∧ w'.cell? ⟨w2.heap.size, 1, none⟩ = some (.int .i64 n2) ∧ w'.cell? ⟨w2.heap.size, 2, none⟩ = some (.string s2)) ∧ Below W.heap.size W w') wk := by assumption
    clear hS0
    have hB1 := hS1.2.2
    clear hB1
    go_upto_region 7 with fail
    go_cut [39] (fun t wx => t = .bool false ∧ (fun w' => (w'.cell? ⟨w1.heap.size, 0, none⟩ = some (.int .i64 o) ∧ w'.cell? ⟨w1.heap.size, 1, none⟩ = some (.int .i64 n) ∧ w'.cell? ⟨w1.heap.size, 2, none⟩ = some (.string s)) ∧ (w'.cell? ⟨w2.heap.size, 0, none⟩ = some (.int .i64 o2) ∧ w'.cell? ⟨w2.heap.size, 1, none⟩ = some (.int .i64 n2) ∧ w'.cell? ⟨w2.heap.size, 2, none⟩ = some (.string s2)) ∧ Below W.heap.size W w') wx)
    case first =>
      have ho := last_cases o
      have hS2 := keep_drew hS1
      obtain ⟨⟨c0, c1, c2⟩, _, _⟩ := hS1
      rcases ho with ⟨rfl, hL⟩ | ⟨rfl, hL⟩ | ⟨rfl, hL⟩ | ⟨e4, e6, e7, hL⟩
      all_goals (first | go_region_with (go_at_call 10; refine (implLast_any _ _ _ _).mono ?_; rintro e wk ⟨rfl, hbk⟩; have hS3 := keep_call hS2 hbk; have hS4 := hS3; obtain ⟨⟨g0, g1, g2⟩, _, _⟩ := hS4) | fail)
      all_goals (go_wp2_with fail; go_meet; exact ⟨rfl, hS3⟩)
    case rest =>
      obtain ⟨rfl, hS1⟩ := hcut
      go_wp2_with fail
      have ho := refs_cases o2
      have hS2 := keep_drew hS1
      obtain ⟨_, ⟨c0, c1, c2⟩, _⟩ := hS1
      rcases ho with ⟨rfl, hL⟩ | ⟨rfl, hL⟩ | ⟨rfl, hL⟩ | ⟨e4, e6, e7, hL⟩
      all_goals (first | go_region_with (go_at_call 12; refine (implRefs_any _ _ _ _).mono ?_; rintro e wk ⟨rfl, hbk⟩; have hS3 := keep_call hS2 hbk; have hS4 := hS3; obtain ⟨_, ⟨g0, g1, g2⟩, _⟩ := hS4) | fail)
      all_goals (go_wp2_with fail; go_ret; exact ⟨rfl, hS3.2.2⟩)

set_option maxRecDepth 100000 in
theorem lifted (os : Os) (started : os.Started) (H : Type) (enc : TypeId × Value → H) :
    ReturnsInHanded {} Try.checked os 4 .any (Rows.fnInsAllSpec.pre6 enc Try.prog Try.f4 Rows.fnInsAllRow.domain false) (Rows.fnInsAllSpec.post enc Try.prog Try.f4 false true false false) := by
  refine returnsInHanded_of_change (C := Try.checked) own started (by kernel_rfl) Try.func4
    (ChangeSpec.witness6 (enc := enc) (C := Try.checked) false ⟨#[], #[.slice none 0 0], []⟩ 8 (by kernel_rfl) (by kernel_rfl) (by kernel_rfl) (by kernel_rfl)) ?_
  intro W base args ds gs before hval0 hW hcnd _
  have hval : ∀ (j : Nat) t v, Try.f4.params[j]? = some t → args[j]? = some v → Value.okWide Try.prog W .any base t v := hval0
  have hW' := hW
  obtain ⟨p, q, hA0, hV, rfl, hfz, hnd⟩ := hW
  have hA : DataW.TrodAll enc Try.prog W 0 (fun _ => true) true Try.f4.params.toList args.toList ds p := hA0
  rw [Try.params4] at hA hval
  obtain ⟨v0, vs0, d0, ds0, p0, q0, hargs, rfl, rfl, h0, r0⟩ := trodAll_cons hA
  obtain ⟨rfl, rfl, rfl⟩ := trodAll_nil r0
  obtain rfl : args = #[v0] := by cases args; simp_all
  obtain ⟨rfl, rfl⟩ := trodVars_none hV
  have k0 := h0
  have lt0 : ∀ x ∈ p0, x.block < W.heap.size := by obtain ⟨m, hm⟩ := k0; exact DataW.trod_lt m _ _ _ hm
  obtain ⟨a0, len0, cap0, hv0⟩ := okWide_slice Try.underlying22 (hval 0 22 v0 rfl rfl)
  obtain ⟨z0, w0⟩ : ∃ zs, IsRow .u8 W a0 len0 cap0 zs := by
    subst hv0
    obtain ⟨fuel, hf⟩ := h0
    rcases open_ints Try.underlying22 Try.underlying5 (by kernel_rfl) hf with ⟨hcs, _⟩ | ⟨x, l, c, zs, hcs, _, hl, hm, hz, _, hcell, hwz⟩
    · simp [Value.cells] at hcs
      obtain ⟨rfl, rfl, rfl⟩ := hcs
      exact ⟨[], .inl ⟨rfl, rfl, rfl, rfl⟩⟩
    · simp [Value.cells] at hcs
      obtain ⟨rfl, rfl, rfl⟩ := hcs
      exact ⟨zs, .inr ⟨_, rfl, hl, hm, by simpa using hz, hcell, hwz⟩⟩
  clear hA0 hval0
  subst hv0
  refine (walk a0 len0 cap0 z0 W w0).mono fun e W' ⟨he, bel⟩ => ?_
  subst he
  exact ⟨_, rfl, _, _, _, [], _, [], hW', trodAll_mk1 (shut_bool Try.underlying4 _), (trodAll_cons_mk (Below.trod laidOut (by kernel_rfl) (of_decide_eq_true (by kernel_rfl)) k0 bel lt0) trodAll_mk0), rfl, bel.frame _, fun h => by cases h⟩

theorem proved : Rows.FnInsAllSaid :=
  OpenClaim.holds_of_wide 4 Try.f4 rfl rfl rfl rfl rfl rfl rfl ⟨rfl, rfl, rfl, rfl, rfl⟩ rfl rfl rfl rfl rfl (by kernel_rfl) Try.func4 (by kernel_rfl)
    (of_decide_eq_true (by kernel_rfl)) (by unfold Func.isWrapper; first | (rw [if_pos (by decide +kernel)]; kernel_rfl) | (rw [if_neg (by decide +kernel)]; exact ⟨rfl, rfl⟩))
    (fun os started H enc _ => lifted os started H enc)
#print axioms proved
end Go.Proofs.Ytbjlcihnkkfhoaa.fnInsAll
