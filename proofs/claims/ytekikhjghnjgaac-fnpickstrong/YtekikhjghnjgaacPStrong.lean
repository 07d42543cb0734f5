/- For every slice of bytes the law FnPickStrong answers true, and the bytes read afterwards as they did. No condition. -/
import Derived.Test.YtekikhjghnjgaacBase
import Derived.WalkKit
import Derived.ProofKit
import Derived.OpenShut
import Derived.ShutString
import Derived.ChangeOld
import Derived.Below
import Derived.Lib.SmallJoins
import Derived.Deep.RegionHeld3
import Derived.BigQuiet
import Derived.Deep.QuietTactic
import Derived.Test.YtekikhjghnjgaacName
import Derived.Test.YtekikhjghnjgaacInsA
import Derived.Test.YtekikhjghnjgaacInsB
import Derived.Test.YtekikhjghnjgaacFuns
import Derived.Test.YtekikhjghnjgaacOpen
import Derived.Test.YtekikhjghnjgaacFunS
import Derived.Test.YtekikhjghnjgaacKeep
import Derived.Test.YtekikhjghnjgaacUnitS
import Derived.Test.YtekikhjghnjgaacUnitM
import Derived.Test.YtekikhjghnjgaacUU
import Derived.Test.YtekikhjghnjgaacUVals
import Derived.Test.YtekikhjghnjgaacRd
import Derived.Test.YtekikhjghnjgaacDrawIns
import Derived.Test.YtekikhjghnjgaacPickD
import Derived.Test.YtekikhjghnjgaacPickS
import Derived.Test.YtekikhjghnjgaacPickM
import Derived.Test.YtekikhjghnjgaacPickP
import Derived.Test.YtekikhjghnjgaacPickQ
import Derived.Test.YtekikhjghnjgaacDrawUU
import Derived.Test.YtekikhjghnjgaacDrawThin
namespace Go.Proofs.Ytekikhjghnjgaac.fnPickStrong
open Go.ChangeShapes Go.WideShapes Go.ChangeAt Go.RowKit Go.Joins
open Go.ChangeMaps (open_string shut_string)
open Go.Proofs.Ytekikhjghnjgaac.Base
open Go.Proofs.Ytekikhjghnjgaac.Name
open Go.Proofs.Ytekikhjghnjgaac.InsA
open Go.Proofs.Ytekikhjghnjgaac.InsB
open Go.Proofs.Ytekikhjghnjgaac.Funs
open Go.Proofs.Ytekikhjghnjgaac.Open
open Go.Proofs.Ytekikhjghnjgaac.FunS
open Go.Proofs.Ytekikhjghnjgaac.Keep
open Go.Proofs.Ytekikhjghnjgaac.UnitS
open Go.Proofs.Ytekikhjghnjgaac.UnitM
open Go.Proofs.Ytekikhjghnjgaac.UU
open Go.Proofs.Ytekikhjghnjgaac.UVals
open Go.Proofs.Ytekikhjghnjgaac.Rd
open Go.Proofs.Ytekikhjghnjgaac.DrawIns
open Go.Proofs.Ytekikhjghnjgaac.PickD
open Go.Proofs.Ytekikhjghnjgaac.PickS
open Go.Proofs.Ytekikhjghnjgaac.PickM
open Go.Proofs.Ytekikhjghnjgaac.PickP
open Go.Proofs.Ytekikhjghnjgaac.PickQ
open Go.Proofs.Ytekikhjghnjgaac.DrawUU
open Go.Proofs.Ytekikhjghnjgaac.DrawThin
set_option linter.unusedVariables false
set_option maxRecDepth 100000
theorem own : ownKnob Try.prog.godebug = none := by kernel_rfl
theorem laidOut : laidOutB Try.prog = true := by kernel_rfl

theorem names_ok : ∀ x, x ∈ names → nameB x = true := by
  intro x hx
  simp only [names, List.mem_cons, List.not_mem_nil, or_false] at hx
  rcases hx with rfl | rfl | rfl | rfl | rfl | rfl <;> decide

set_option maxHeartbeats 8000000 in
theorem walk (a : Option Addr) (len cap : Nat) (zs : List Int) (W : World) (hrow : IsRow .u8 W a len cap zs) :
    Calls Try.prog 6 #[.slice a len cap] W fun e w' => e = .returned (.bool true) ∧ Below W.heap.size W w' := by
  obtain ⟨hl, hm, hb⟩ := isRow_bytes hrow
  by_cases hlt : (1048576 : Int) < len
  · go_enter Try.func6, Try.ntmps6
    go_wp2
    go_ret
    exact ⟨rfl, Below.refl _ _⟩
  have Hb := hide hb
  clear hb hrow
  obtain ⟨i0, hi, hz0, hz1, hz2⟩ := info_unit
  go_enter Try.func6, Try.ntmps6
  go_wp2_with fail
  refine (drawPickAt_any _ _ _ _ hl hm (unhide Hb)).mono ?_
  rintro e w1 ⟨b, c, us, x, rfl, hx, h1, h2, h9, h4, hrow, hb1⟩
  have hxm : x.size ≤ maxLen := by have := names_short x hx; unfold maxLen; omega
  have HXN := hide (names_ok x hx)
  have HR := hide hrow
  clear hrow h4 hx
  go_wp2_with fail
  refine (implPickAt_any b c us x _ hxm h1 h2 (unhide HR)).mono ?_
  rintro e w2 ⟨rfl, hb2⟩
  have hB2 := bl_trans hb1 hb2
  have HR2 := hide ((unhide HR).below hb2)
  clear hb1 hb2 HR
  unfold tup3
  go_wp2_with fail
  refine (specPickAt_any b c us x _ hxm h1 h2 (unhide HR2)).mono ?_
  rintro e w3 ⟨rfl, hb3⟩
  have hB3 := bl_trans hB2 hb3
  have HR3 := hide ((unhide HR2).below hb3)
  clear hb3 HR2 hB2
  have HBAD : Hid (unitsOkB us 8 = false → (pickAtB us x).2.2 = false) := fun h => by simp [pickAtB, h]
  have HLAW := hide (fun h h4 => strong_law (us := us) (x := x) h h4 (unhide HXN))
  generalize pickAtB us x = t at *
  obtain ⟨t0, t1, t2⟩ := t
  unfold tup3
  by_cases h4 : us.length ≤ 4
  · have h4' : ¬ (4 : Int) < (us.length : Int) := by omega
    go_wp2_with fail
    go_loopw [11] (fun i w' => ∃ k : Nat, k ≤ us.length ∧ i = .int .i64 k ∧ Hid (∀ i (h : i < us.length), i < k → unitOkB us[i] = true) ∧ Below W.heap.size W w' ∧ Below w3.heap.size w3 w') (fun i _ => us.length - (intOf i).toNat)
    case atStart => exact ⟨0, Nat.zero_le _, rfl, fun i h h0 => by omega, hB3, Below.refl _ _⟩
    case round =>
      obtain ⟨k, hk, rfl, HN, hB, hb3⟩ := hrel
      by_cases hkl : k < us.length
      · obtain ⟨g, off, rfl⟩ := (unhide HR3).get (by omega)
        obtain ⟨ai, ci, c0, k4, k5, k6⟩ := ((unhide HR3).below hb3).at hkl
        have H6 := hide k6
        clear k6
        have hkl' : (k : Int) < (us.length : Int) := by omega
        have HB1 := hide (units_bad (m := 8) hkl)
        have HX : Hid (unitOkB us[k] = true → ∀ i (h : i < us.length), i < k + 1 → unitOkB us[i] = true) := fun h1 i hi hlt => by
          by_cases e : i = k
          · subst e; exact h1
          · exact unhide HN i hi (by omega)
        generalize us[k] = f at *
        cases hok : unitOkB f
        · have ht2 : t2 = false := unhide HBAD (unhide HB1 hok).symm
          subst ht2
          go_wp2_with fail
          refine (specUnitOk_any ai ci f _ k4 k5 (unhide H6)).mono ?_
          rintro e w4 ⟨rfl, hb4⟩
          rw [hok]
          go_wp2_with fail
          go_ret
          exact ⟨rfl, bl_trans hB hb4⟩
        · go_wp2_with fail
          refine (specUnitOk_any ai ci f _ k4 k5 (unhide H6)).mono ?_
          rintro e w4 ⟨rfl, hb4⟩
          rw [hok]
          go_wp2_with fail
          exact ⟨⟨k + 1, by omega, by go_num, unhide HX hok, bl_trans hB hb4, bl_trans hb3 hb4⟩, by simp [intOf]; omega⟩
      · have hu : unitsOkB us 8 = true := by
          have := units_end (m := 8) (fun i h => unhide HN i h (by omega))
          rw [this]; exact decide_eq_true (by omega)
        have hlaw := unhide HLAW hu h4
        have HL := hide hlaw
        have hkl' : ¬ (k : Int) < (us.length : Int) := by omega
        have HRW := hide ((unhide HR3).below hb3)
        clear hlaw HLAW HBAD HR3 hb3
        have hap5 := fun ty => append_uvals (below_alloc1 wr (.cells #[] 31)) (ci := c) (v := .slice (some ⟨wr.heap.size, 0, none⟩) 0 0) ty (show wr.heap.size ≤ (wr.alloc (.cells #[] 31)).heap.size by simp) (uv_made wr) (unhide HRW) (by simp; omega)
        have HAP5 := hide hap5
        clear hap5
        go_wp2_with (first
          | (at_builtin; obtain ⟨ys5, v5, y5, hws5, hbd5, hrun5, hown5, hgr5, hat5⟩ := unhide HAP5 _; refine Lib.wpList_append_run _ rfl _ _ _ _ rfl _ _ rfl rfl _ _ hrun5 ?_; rw [List.nil_append] at hown5; have hyl5 : ys5.length ≤ 9 := by (rw [← hws5, List.length_map] at h9; exact h9))
          | (at_builtin; refine wpList_append_own_at _ rfl _ _ 23 rfl wr.heap.size 31 i0 (.slice none 0 0) 1 24 Try.underlying23 hi hz0 hz1 hz2 rfl (by decide) _ ys5.length (ys5.map Prod.snd) rfl (World.ownsRow.alloc (World.ownsRow.alloc (World.ownsRow.alloc hown5 _) _) _) ⟨y5.heap.size + 1 + 1, 0, none⟩ 1 1 [.slice (some ⟨y5.heap.size + 1, 0, none⟩) 1 1] rfl rfl (cell_one_new3 _ _ _ _ _) (by simp [Value.oneCell']) (by unfold maxLen; omega) (by omega) (by have h1 := hgr5.size; simp at h1; simp; omega) ?_; intro x5 z5 hownb5 hgrow5 _ _)
          | fail)
        obtain ⟨a5, c5, e5, l5, m5, hrow5, hB5⟩ := more_row hbd5 hgr5 hown5 hownb5 hgrow5 hxm (Nat.zero_le _)
        rw [hws5, show loneU x true 6 0 ⟨#[]⟩ = soloF x true from rfl] at e5 l5 hrow5
        obtain ⟨us5, hus5⟩ : ∃ l, l = us ++ [soloF x true] := ⟨_, rfl⟩
        rw [← hus5] at e5 l5 hrow5
        rw [← hus5] at HL
        have HROW5 := hide hrow5
        subst e5
        clear hrow5 hownb5 hgrow5 hrun5 hown5 hgr5 hat5 hbd5 HAP5 hws5 hus5
        refine (implPickAt_any a5 c5 us5 x _ hxm l5 m5 (unhide HROW5)).mono ?_
        rintro e t5 ⟨rfl, hbb5⟩
        have hBB5 := bl_trans hB5 hbb5
        generalize pickAtB us5 x = p5 at HL ⊢
        obtain ⟨p50, p51, p52⟩ := p5
        unfold tup3
        clear hbb5 HROW5 hB5 l5 m5
        have HRZ := hide ((unhide HRW).below hBB5)
        have hBZ := bl_trans hB hBB5
        clear HRW hBB5 hB
        have hap7 := fun ty => append_uvals (below_alloc1 t5 (.cells #[] 31)) (ci := c) (v := .slice (some ⟨t5.heap.size, 0, none⟩) 0 0) ty (show t5.heap.size ≤ (t5.alloc (.cells #[] 31)).heap.size by simp) (uv_made t5) (unhide HRZ) (by simp; omega)
        have HAP7 := hide hap7
        clear hap7
        go_wp2_with (first
          | (at_builtin; obtain ⟨ys7, v7, y7, hws7, hbd7, hrun7, hown7, hgr7, hat7⟩ := unhide HAP7 _; refine Lib.wpList_append_run _ rfl _ _ _ _ rfl _ _ rfl rfl _ _ hrun7 ?_; rw [List.nil_append] at hown7; have hyl7 : ys7.length ≤ 9 := by (rw [← hws7, List.length_map] at h9; exact h9))
          | (at_builtin; refine wpList_append_own_at _ rfl _ _ 23 rfl t5.heap.size 31 i0 (.slice none 0 0) 1 24 Try.underlying23 hi hz0 hz1 hz2 rfl (by decide) _ ys7.length (ys7.map Prod.snd) rfl (World.ownsRow.alloc (World.ownsRow.alloc (World.ownsRow.alloc hown7 _) _) _) ⟨y7.heap.size + 1 + 1, 0, none⟩ 1 1 [.slice (some ⟨y7.heap.size + 1, 0, none⟩) 1 1] rfl rfl (cell_one_new3 _ _ _ _ _) (by simp [Value.oneCell']) (by unfold maxLen; omega) (by omega) (by have h1 := hgr7.size; simp at h1; simp; omega) ?_; intro x7 z7 hownb7 hgrow7 _ _)
          | fail)
        obtain ⟨a7, c7, e7, l7, m7, hrow7, hB7⟩ := more_row hbd7 hgr7 hown7 hownb7 hgrow7 hxm (Nat.zero_le _)
        rw [hws7, show loneU x false 6 0 ⟨#[]⟩ = soloF x false from rfl] at e7 l7 hrow7
        obtain ⟨us7, hus7⟩ : ∃ l, l = us ++ [soloF x false] := ⟨_, rfl⟩
        rw [← hus7] at e7 l7 hrow7
        rw [← hus7] at HL
        have HROW7 := hide hrow7
        subst e7
        clear hrow7 hownb7 hgrow7 hrun7 hown7 hgr7 hat7 hbd7 HAP7 hws7 hus7
        refine (implPickAt_any a7 c7 us7 x _ hxm l7 m7 (unhide HROW7)).mono ?_
        rintro e t7 ⟨rfl, hbb7⟩
        have hBB7 := bl_trans hB7 hbb7
        generalize pickAtB us7 x = p7 at HL ⊢
        obtain ⟨p70, p71, p72⟩ := p7
        unfold tup3
        clear hbb7 HROW7 hB7 l7 m7
        have HRQ := hide ((unhide HRZ).below hBB7)
        have hBQ := bl_trans hBZ hBB7
        clear HRZ hBB7 hBZ
        obtain ⟨hl1, hl2⟩ := unhide HL
        clear HL
        cases t2
        · obtain ⟨⟨k1, hk1⟩, k2, hk2⟩ := hl2 rfl
          simp only [Prod.mk.injEq] at hk1 hk2
          obtain ⟨rfl, rfl, rfl⟩ := hk1
          obtain ⟨rfl, rfl, rfl⟩ := hk2
          clear hl1 hl2
          go_wp2_with fail
          go_quiet (fail)
          go_wp2_with fail
          go_ret
          exact ⟨rfl, bl_drewN hBQ _⟩
        · obtain ⟨⟨i, j, f⟩, hb1, hb2, hb3, hb4, hb5⟩ := hl1 rfl
          simp only [Prod.mk.injEq] at hb1 hb3
          obtain ⟨rfl, rfl, _⟩ := hb1
          obtain ⟨rfl, rfl, rfl⟩ := hb3
          obtain ⟨hi', hk', hf, hnm, hfi, _⟩ := best_is (units_apart hu) hb2
          simp only at hi' hk' hf hnm hfi hb4 hb5
          clear hl1 hl2 hb2
          have huo := units_each hu us[i] (List.getElem_mem _)
          have hfj : unitFindI us[i] x = (j : Int) := by simp [unitFindI, huo, hfi]
          obtain ⟨g, off, rfl⟩ := (unhide HRQ).get (by omega)
          obtain ⟨ai, ci, c0, q4, q5, q6⟩ := (unhide HRQ).at hi'
          obtain ⟨b', off', rfl⟩ := q6.get (by omega)
          obtain ⟨ai', ci', d0, d1, d2, hn, _⟩ := q6.at hk'
          rw [hf] at d1
          have hi1 : (i : Int) < (us.length : Int) := by omega
          have hi0 : (0 : Int) ≤ (i : Int) := by omega
          have hj1 : (j : Int) < (us[i].length : Int) := by omega
          have hj0 : (0 : Int) ≤ (j : Int) := by omega
          have hS0 := And.intro q6 (And.intro c0 (And.intro d1 hBQ))
          have HST : Hid (Stable (fun w' => FunRow w' (some ⟨b', off', none⟩) us[i] ∧ w'.cell? ⟨g, off + i, none⟩ = some (.slice (some ⟨b', off', none⟩) us[i].length ci) ∧ w'.cell? ⟨b', off' + j * 3 + 1, none⟩ = some (.bool f.wk) ∧ Below W.heap.size W w')) := (Stable.frow _ _).and ((Stable.cell _ _).and ((Stable.cell _ _).and (Stable.below W)))
          clear c0 d0 d1 d2 q6 hBQ hf hnm hfi
          go_wp2_with fail
          go_region_held3 (fun w' => FunRow w' (some ⟨b', off', none⟩) us[i] ∧ w'.cell? ⟨g, off + i, none⟩ = some (.slice (some ⟨b', off', none⟩) us[i].length ci) ∧ w'.cell? ⟨b', off' + j * 3 + 1, none⟩ = some (.bool f.wk) ∧ Below W.heap.size W w')
            (first | assumption | (refine (unhide HST).1 _ _ hbk ?_; assumption) | (refine (unhide HST).2 _ ?_; assumption))
            (first | (go_at_call 21; refine (implUnitFind_any (some ⟨b', off', none⟩) ci us[i] x _ hxm q4 q5 (by apply s0; assumption)).mono ?_; rintro e wk1 ⟨rfl, hbk⟩; rw [hfj]))
          have hS1 : (fun w' => FunRow w' (some ⟨b', off', none⟩) us[i] ∧ w'.cell? ⟨g, off + i, none⟩ = some (.slice (some ⟨b', off', none⟩) us[i].length ci) ∧ w'.cell? ⟨b', off' + j * 3 + 1, none⟩ = some (.bool f.wk) ∧ Below W.heap.size W w') wk1 := by assumption
          have hBf := hS1.2.2.2
          clear hS0 hS1
          cases hw : f.wk
          · obtain ⟨k2, hk2⟩ := hb4 hw
            simp only [Prod.mk.injEq] at hk2
            obtain ⟨rfl, rfl, rfl⟩ := hk2
            clear hb4 hb5
            go_wp2_with fail
            go_ret
            exact ⟨rfl, hBf⟩
          · obtain ⟨k2, hk2⟩ := hb5 hw
            simp only [Prod.mk.injEq] at hk2
            obtain ⟨rfl, rfl, rfl⟩ := hk2
            clear hb4 hb5
            go_wp2_with fail
            go_ret
            exact ⟨rfl, hBf⟩
  · have h4' : (4 : Int) < (us.length : Int) := by omega
    go_wp2_with fail
    go_ret
    exact ⟨rfl, hB3⟩

set_option maxRecDepth 100000 in
theorem lifted (os : Os) (started : os.Started) (H : Type) (enc : TypeId × Value → H) :
    ReturnsInHanded {} Try.checked os 6 .any (Rows.fnPickStrongSpec.pre6 enc Try.prog Try.f6 Rows.fnPickStrongRow.domain false) (Rows.fnPickStrongSpec.post enc Try.prog Try.f6 false true false false) := by
  refine returnsInHanded_of_change (C := Try.checked) own started (by kernel_rfl) Try.func6
    (ChangeSpec.witness6 (enc := enc) (C := Try.checked) false ⟨#[], #[.slice none 0 0], []⟩ 8 (by kernel_rfl) (by kernel_rfl) (by kernel_rfl) (by kernel_rfl)) ?_
  intro W base args ds gs before hval0 hW hcnd _
  have hval : ∀ (j : Nat) t v, Try.f6.params[j]? = some t → args[j]? = some v → Value.okWide Try.prog W .any base t v := hval0
  have hW' := hW
  obtain ⟨p, q, hA0, hV, rfl, hfz, hnd⟩ := hW
  have hA : DataW.TrodAll enc Try.prog W 0 (fun _ => true) true Try.f6.params.toList args.toList ds p := hA0
  rw [Try.params6] at hA hval
  obtain ⟨v0, vs0, d0, ds0, p0, q0, hargs, rfl, rfl, h0, r0⟩ := trodAll_cons hA
  obtain ⟨rfl, rfl, rfl⟩ := trodAll_nil r0
  obtain rfl : args = #[v0] := by cases args; simp_all
  obtain ⟨rfl, rfl⟩ := trodVars_none hV
  have k0 := h0
  have lt0 : ∀ x ∈ p0, x.block < W.heap.size := by obtain ⟨m, hm⟩ := k0; exact DataW.trod_lt m _ _ _ hm
  obtain ⟨a0, len0, cap0, hv0⟩ := okWide_slice Try.underlying22 (hval 0 22 v0 rfl rfl)
  obtain ⟨z0, w0⟩ : ∃ zs, IsRow .u8 W a0 len0 cap0 zs := by
    subst hv0
    obtain ⟨fuel, hf⟩ := h0
    rcases open_ints Try.underlying22 Try.underlying5 (by kernel_rfl) hf with ⟨hcs, _⟩ | ⟨x, l, c, zs, hcs, _, hl, hm, hz, _, hcell, hwz⟩
    · simp [Value.cells] at hcs
      obtain ⟨rfl, rfl, rfl⟩ := hcs
      exact ⟨[], .inl ⟨rfl, rfl, rfl, rfl⟩⟩
    · simp [Value.cells] at hcs
      obtain ⟨rfl, rfl, rfl⟩ := hcs
      exact ⟨zs, .inr ⟨_, rfl, hl, hm, by simpa using hz, hcell, hwz⟩⟩
  clear hA0 hval0
  subst hv0
  refine (walk a0 len0 cap0 z0 W w0).mono fun e W' ⟨he, bel⟩ => ?_
  subst he
  exact ⟨_, rfl, _, _, _, [], _, [], hW', trodAll_mk1 (shut_bool Try.underlying4 _), (trodAll_cons_mk (Below.trod laidOut (by kernel_rfl) (of_decide_eq_true (by kernel_rfl)) k0 bel lt0) trodAll_mk0), rfl, bel.frame _, fun h => by cases h⟩

theorem proved : Rows.FnPickStrongSaid :=
  OpenClaim.holds_of_wide 6 Try.f6 rfl rfl rfl rfl rfl rfl rfl ⟨rfl, rfl, rfl, rfl, rfl⟩ rfl rfl rfl rfl rfl (by kernel_rfl) Try.func6 (by kernel_rfl)
    (of_decide_eq_true (by kernel_rfl)) (by unfold Func.isWrapper; first | (rw [if_pos (by decide +kernel)]; kernel_rfl) | (rw [if_neg (by decide +kernel)]; exact ⟨rfl, rfl⟩))
    (fun os started H enc _ => lifted os started H enc)
#print axioms proved
end Go.Proofs.Ytekikhjghnjgaac.fnPickStrong
