/- For every slice of bytes the law FnPickAt answers true, and the bytes read afterwards as they did. No condition. -/
import Derived.Test.YtekikhjghnjgaacBase
import Derived.WalkKit
import Derived.ProofKit
import Derived.OpenShut
import Derived.ShutString
import Derived.ChangeOld
import Derived.Below
import Derived.Lib.SmallJoins
import Derived.BigQuiet
import Derived.Deep.QuietTactic
import Derived.Test.YtekikhjghnjgaacFuns
import Derived.Test.YtekikhjghnjgaacOpen
import Derived.Test.YtekikhjghnjgaacKeep
import Derived.Test.YtekikhjghnjgaacUnitS
import Derived.Test.YtekikhjghnjgaacUU
import Derived.Test.YtekikhjghnjgaacRd
import Derived.Test.YtekikhjghnjgaacDrawIns
import Derived.Test.YtekikhjghnjgaacPickD
import Derived.Test.YtekikhjghnjgaacPickS
import Derived.Test.YtekikhjghnjgaacPickM
import Derived.Test.YtekikhjghnjgaacPickP
import Derived.Test.YtekikhjghnjgaacDrawUU
import Derived.Test.YtekikhjghnjgaacDrawThin
namespace Go.Proofs.Ytekikhjghnjgaac.fnPickAt
open Go.ChangeShapes Go.WideShapes Go.ChangeAt Go.RowKit Go.Joins
open Go.ChangeMaps (open_string shut_string)
open Go.Proofs.Ytekikhjghnjgaac.Base
open Go.Proofs.Ytekikhjghnjgaac.Funs
open Go.Proofs.Ytekikhjghnjgaac.Open
open Go.Proofs.Ytekikhjghnjgaac.Keep
open Go.Proofs.Ytekikhjghnjgaac.UnitS
open Go.Proofs.Ytekikhjghnjgaac.UU
open Go.Proofs.Ytekikhjghnjgaac.Rd
open Go.Proofs.Ytekikhjghnjgaac.DrawIns
open Go.Proofs.Ytekikhjghnjgaac.PickD
open Go.Proofs.Ytekikhjghnjgaac.PickS
open Go.Proofs.Ytekikhjghnjgaac.PickM
open Go.Proofs.Ytekikhjghnjgaac.PickP
open Go.Proofs.Ytekikhjghnjgaac.DrawUU
open Go.Proofs.Ytekikhjghnjgaac.DrawThin
set_option linter.unusedVariables false
set_option maxRecDepth 100000
theorem own : ownKnob Try.prog.godebug = none := by kernel_rfl
theorem laidOut : laidOutB Try.prog = true := by kernel_rfl

set_option maxHeartbeats 4000000 in
theorem walk (a : Option Addr) (len cap : Nat) (zs : List Int) (W : World) (hrow : IsRow .u8 W a len cap zs) :
    Calls Try.prog 3 #[.slice a len cap] W fun e w' => e = .returned (.bool true) ∧ Below W.heap.size W w' := by
  obtain ⟨hl, hm, hb⟩ := isRow_bytes hrow
  by_cases hlt : (1048576 : Int) < len
  · go_enter Try.func3, Try.ntmps3
    go_wp2
    go_ret
    exact ⟨rfl, Below.refl _ _⟩
  have Hb := hide hb
  clear hb hrow
  go_enter Try.func3, Try.ntmps3
  go_wp2_with fail
  refine (drawPickAt_any _ _ _ _ hl hm (unhide Hb)).mono ?_
  rintro e w1 ⟨b, c, us, x, rfl, hx, h1, h2, h9, h4, hrow, hb1⟩
  have hxm : x.size ≤ maxLen := by have := names_short x hx; unfold maxLen; omega
  have HR := hide hrow
  have H4 := hide h4
  clear hrow h4 hx
  go_wp2_with fail
  refine (implPickAt_any b c us x _ hxm h1 h2 (unhide HR)).mono ?_
  rintro e w2 ⟨rfl, hb2⟩
  have hB2 := bl_trans hb1 hb2
  have HR2 := hide ((unhide HR).below hb2)
  clear hb1 hb2 HR
  unfold tup3
  go_wp2_with fail
  refine (specPickAt_any b c us x _ hxm h1 h2 (unhide HR2)).mono ?_
  rintro e w3 ⟨rfl, hb3⟩
  have hB3 := bl_trans hB2 hb3
  have HR3 := hide ((unhide HR2).below hb3)
  clear hb3 HR2 hB2
  have hlen : (us.length : Int) ≤ 9223372036854775807 := by omega
  cases ho : (pickAtB us x).2.2
  · rw [at_none ho]
    unfold tup3
    go_wp2_with fail
    go_ret
    exact ⟨rfl, hB3⟩
  · obtain ⟨hu, ⟨i, k, f⟩, hpe, hbest⟩ := at_is ho
    obtain ⟨hi, hk, hf, hnm, _, hall⟩ := best_is (units_apart hu) hbest
    rw [hpe]
    clear ho hpe hbest hu
    simp only at hi hk hf hnm hall
    have HA := hide hall
    have hi' : (i : Int) < (us.length : Int) := by omega
    have hi0 : (0 : Int) ≤ (i : Int) := by omega
    have hk' : (k : Int) < (us[i].length : Int) := by omega
    have hk0 : (0 : Int) ≤ (k : Int) := by omega
    have hnm' : (f.nm.toList == x.toList) = true := hnm
    obtain ⟨g, off, rfl⟩ := (unhide HR3).get (by omega)
    obtain ⟨ai, ci, c0, k4, k5, k6⟩ := (unhide HR3).at hi
    obtain ⟨b', off', rfl⟩ := k6.get (by omega)
    obtain ⟨ai', ci', d0, d1, d2, hn, _⟩ := k6.at hk
    rw [hf] at d0 d1
    have HCELL := hide (And.intro c0 (And.intro d0 d1))
    clear hall hnm k6 d2
    unfold tup3
    go_wp2_with fail
    go_loopw [11] (fun xv w' => ∃ q : Nat, q ≤ us.length ∧ xv = .int .i64 q ∧ Below W.heap.size W w' ∧ Below w3.heap.size w3 w') (fun xv _ => us.length - (intOf xv).toNat)
    case atStart => exact ⟨0, Nat.zero_le _, rfl, hB3, Below.refl _ _⟩
    case round =>
      obtain ⟨q, hq, rfl, hB, hb3⟩ := hrel
      by_cases hql : q < us.length
      · have hql' : (q : Int) < (us.length : Int) := by omega
        have hq0 : (0 : Int) ≤ (q : Int) := by omega
        clear c0 d0 d1
        go_wp2_with fail
        go_loopw [12] (fun yv w' => ∃ j : Nat, j ≤ us[q].length ∧ yv = .int .i64 j ∧ Below W.heap.size W w' ∧ Below w3.heap.size w3 w') (fun yv _ => us[q].length - (intOf yv).toNat)
        case atStart => exact ⟨0, Nat.zero_le _, rfl, hB, hb3⟩
        case round =>
          obtain ⟨j, hj, rfl, hB', hb3'⟩ := hrel
          obtain ⟨aq, cq, e0, m4, m5, m6⟩ := ((unhide HR3).below hb3').at hql
          have hcc : (us[q].length : Int) ≤ 9223372036854775807 := by unfold maxLen at m5; omega
          by_cases hjl : j < us[q].length
          · have hjl' : (j : Int) < (us[q].length : Int) := by omega
            have hj0 : (0 : Int) ≤ (j : Int) := by omega
            obtain ⟨bq, oq, rfl⟩ := m6.get (by omega)
            obtain ⟨aj, cj, f0, f1, f2, hfn, _⟩ := m6.at hjl
            have HAJ := hide (unhide HA q j hql hjl)
            clear m6
            generalize us[q][j] = y at *
            have HNM : Hid (isNm x y = (y.nm.toList == x.toList)) := rfl
            obtain ⟨c1, d1, d2⟩ := unhide HCELL
            replace c1 := (Stable.cell _ _).1 _ _ (bl_alloc hb3' (.cells #[.string y.nm, .bool y.wk, .slice aj y.body.length cj] 30)) c1
            replace d2 := (Stable.cell _ _).1 _ _ (bl_alloc hb3' (.cells #[.string y.nm, .bool y.wk, .slice aj y.body.length cj] 30)) d2
            clear d1
            cases hq1 : (y.nm.toList == x.toList)
            · go_wp2_with fail
              exact ⟨⟨j + 1, by omega, by go_num, bl_alloc hB' _, bl_alloc hb3' _⟩, by simp [intOf]; omega⟩
            · have hJ := unhide HAJ ((unhide HNM).trans hq1)
              cases hfw : f.wk
              · rw [hfw] at d2
                cases hyw : y.wk
                · have hqi := hJ.2 hfw hyw
                  have hqi' : ¬ (q : Int) < (i : Int) := by omega
                  rw [hyw] at f1 d2 c1
                  clear hJ
                  go_wp2_with fail
                  exact ⟨⟨j + 1, by omega, by go_num, bl_alloc hB' _, bl_alloc hb3' _⟩, by simp [intOf]; omega⟩
                · rw [hyw] at f1 d2 c1
                  clear hJ
                  go_wp2_with fail
                  exact ⟨⟨j + 1, by omega, by go_num, bl_alloc hB' _, bl_alloc hb3' _⟩, by simp [intOf]; omega⟩
              · obtain ⟨hyw, hqi⟩ := hJ.1 hfw
                have hqi' : ¬ (q : Int) < (i : Int) := by omega
                rw [hfw, hyw] at d2
                rw [hyw] at f1 c1
                clear hJ
                go_wp2_with fail
                exact ⟨⟨j + 1, by omega, by go_num, bl_alloc hB' _, bl_alloc hb3' _⟩, by simp [intOf]; omega⟩
          · clear m6
            go_wp2_with fail
            exact ⟨⟨q + 1, by omega, by go_num, hB', hb3'⟩, by simp [intOf]; omega⟩
      · have hql' : ¬ (q : Int) < (us.length : Int) := by omega
        go_wp2_with fail
        go_ret
        exact ⟨rfl, hB⟩

set_option maxRecDepth 100000 in
theorem lifted (os : Os) (started : os.Started) (H : Type) (enc : TypeId × Value → H) :
    ReturnsInHanded {} Try.checked os 3 .any (Rows.fnPickAtSpec.pre6 enc Try.prog Try.f3 Rows.fnPickAtRow.domain false) (Rows.fnPickAtSpec.post enc Try.prog Try.f3 false true false false) := by
  refine returnsInHanded_of_change (C := Try.checked) own started (by kernel_rfl) Try.func3
    (ChangeSpec.witness6 (enc := enc) (C := Try.checked) false ⟨#[], #[.slice none 0 0], []⟩ 8 (by kernel_rfl) (by kernel_rfl) (by kernel_rfl) (by kernel_rfl)) ?_
  intro W base args ds gs before hval0 hW hcnd _
  have hval : ∀ (j : Nat) t v, Try.f3.params[j]? = some t → args[j]? = some v → Value.okWide Try.prog W .any base t v := hval0
  have hW' := hW
  obtain ⟨p, q, hA0, hV, rfl, hfz, hnd⟩ := hW
  have hA : DataW.TrodAll enc Try.prog W 0 (fun _ => true) true Try.f3.params.toList args.toList ds p := hA0
  rw [Try.params3] at hA hval
  obtain ⟨v0, vs0, d0, ds0, p0, q0, hargs, rfl, rfl, h0, r0⟩ := trodAll_cons hA
  obtain ⟨rfl, rfl, rfl⟩ := trodAll_nil r0
  obtain rfl : args = #[v0] := by cases args; simp_all
  obtain ⟨rfl, rfl⟩ := trodVars_none hV
  have k0 := h0
  have lt0 : ∀ x ∈ p0, x.block < W.heap.size := by obtain ⟨m, hm⟩ := k0; exact DataW.trod_lt m _ _ _ hm
  obtain ⟨a0, len0, cap0, hv0⟩ := okWide_slice Try.underlying22 (hval 0 22 v0 rfl rfl)
  obtain ⟨z0, w0⟩ : ∃ zs, IsRow .u8 W a0 len0 cap0 zs := by
    subst hv0
    obtain ⟨fuel, hf⟩ := h0
    rcases open_ints Try.underlying22 Try.underlying5 (by kernel_rfl) hf with ⟨hcs, _⟩ | ⟨x, l, c, zs, hcs, _, hl, hm, hz, _, hcell, hwz⟩
    · simp [Value.cells] at hcs
      obtain ⟨rfl, rfl, rfl⟩ := hcs
      exact ⟨[], .inl ⟨rfl, rfl, rfl, rfl⟩⟩
    · simp [Value.cells] at hcs
      obtain ⟨rfl, rfl, rfl⟩ := hcs
      exact ⟨zs, .inr ⟨_, rfl, hl, hm, by simpa using hz, hcell, hwz⟩⟩
  clear hA0 hval0
  subst hv0
  refine (walk a0 len0 cap0 z0 W w0).mono fun e W' ⟨he, bel⟩ => ?_
  subst he
  exact ⟨_, rfl, _, _, _, [], _, [], hW', trodAll_mk1 (shut_bool Try.underlying4 _), (trodAll_cons_mk (Below.trod laidOut (by kernel_rfl) (of_decide_eq_true (by kernel_rfl)) k0 bel lt0) trodAll_mk0), rfl, bel.frame _, fun h => by cases h⟩

theorem proved : Rows.FnPickAtSaid :=
  OpenClaim.holds_of_wide 3 Try.f3 rfl rfl rfl rfl rfl rfl rfl ⟨rfl, rfl, rfl, rfl, rfl⟩ rfl rfl rfl rfl rfl (by kernel_rfl) Try.func3 (by kernel_rfl)
    (of_decide_eq_true (by kernel_rfl)) (by unfold Func.isWrapper; first | (rw [if_pos (by decide +kernel)]; kernel_rfl) | (rw [if_neg (by decide +kernel)]; exact ⟨rfl, rfl⟩))
    (fun os started H enc _ => lifted os started H enc)
#print axioms proved
end Go.Proofs.Ytekikhjghnjgaac.fnPickAt
