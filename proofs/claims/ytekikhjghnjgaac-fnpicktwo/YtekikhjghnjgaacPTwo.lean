/- For every slice of bytes the law FnPickTwo answers true, and the bytes read afterwards as they did. No condition. -/
import Derived.Test.YtekikhjghnjgaacBase
import Derived.WalkKit
import Derived.ProofKit
import Derived.OpenShut
import Derived.ShutString
import Derived.ChangeOld
import Derived.Below
import Derived.Lib.SmallJoins
import Derived.BigQuiet
import Derived.Deep.QuietTactic
import Derived.Test.YtekikhjghnjgaacFuns
import Derived.Test.YtekikhjghnjgaacOpen
import Derived.Test.YtekikhjghnjgaacKeep
import Derived.Test.YtekikhjghnjgaacUnitS
import Derived.Test.YtekikhjghnjgaacUU
import Derived.Test.YtekikhjghnjgaacRd
import Derived.Test.YtekikhjghnjgaacPickD
import Derived.Test.YtekikhjghnjgaacPickS
import Derived.Test.YtekikhjghnjgaacPickM
import Derived.Test.YtekikhjghnjgaacPickP
import Derived.Test.YtekikhjghnjgaacDrawUU
import Derived.Test.YtekikhjghnjgaacDrawThin
namespace Go.Proofs.Ytekikhjghnjgaac.fnPickTwo
open Go.ChangeShapes Go.WideShapes Go.ChangeAt Go.RowKit Go.Joins
open Go.ChangeMaps (open_string shut_string)
open Go.Proofs.Ytekikhjghnjgaac.Base
open Go.Proofs.Ytekikhjghnjgaac.Funs
open Go.Proofs.Ytekikhjghnjgaac.Open
open Go.Proofs.Ytekikhjghnjgaac.Keep
open Go.Proofs.Ytekikhjghnjgaac.UnitS
open Go.Proofs.Ytekikhjghnjgaac.UU
open Go.Proofs.Ytekikhjghnjgaac.Rd
open Go.Proofs.Ytekikhjghnjgaac.PickD
open Go.Proofs.Ytekikhjghnjgaac.PickS
open Go.Proofs.Ytekikhjghnjgaac.PickM
open Go.Proofs.Ytekikhjghnjgaac.PickP
open Go.Proofs.Ytekikhjghnjgaac.DrawUU
open Go.Proofs.Ytekikhjghnjgaac.DrawThin
set_option linter.unusedVariables false
set_option maxRecDepth 100000
theorem own : ownKnob Try.prog.godebug = none := by kernel_rfl
theorem laidOut : laidOutB Try.prog = true := by kernel_rfl

set_option maxHeartbeats 2000000 in
theorem walk (a : Option Addr) (len cap : Nat) (zs : List Int) (W : World) (hrow : IsRow .u8 W a len cap zs) :
    Calls Try.prog 4 #[.slice a len cap] W fun e w' => e = .returned (.bool true) ∧ Below W.heap.size W w' := by
  obtain ⟨hl, hm, hb⟩ := isRow_bytes hrow
  by_cases hlt : (1048576 : Int) < len
  · go_enter Try.func4, Try.ntmps4
    go_wp2
    go_ret
    exact ⟨rfl, Below.refl _ _⟩
  have Hb := hide hb
  clear hb hrow
  go_enter Try.func4, Try.ntmps4
  go_wp2_with fail
  refine (drawPickTwo_any _ _ _ _ hl hm (unhide Hb)).mono ?_
  rintro e w1 ⟨b, c, us, rfl, h1, h2, h9, h4, hrow, hb1⟩
  have HR := hide hrow
  have H4 := hide h4
  clear hrow h4
  go_wp2_with fail
  refine (implPickTwo_any b c us _ h1 h2 (unhide HR)).mono ?_
  rintro e w2 ⟨rfl, hb2⟩
  have hB2 := bl_trans hb1 hb2
  have HR2 := hide ((unhide HR).below hb2)
  clear hb1 hb2 HR
  unfold tup2
  go_wp2_with fail
  refine (specPickTwo_any b c us _ h1 h2 (unhide HR2)).mono ?_
  rintro e w3 ⟨rfl, hb3⟩
  have hB3 := bl_trans hB2 hb3
  have HR3 := hide ((unhide HR2).below hb3)
  clear hb3 HR2 hB2
  have HT := hide (two_is (us := us))
  generalize pickTwoB us = t at *
  obtain ⟨s, ok⟩ := t
  unfold tup2
  have hlen : (us.length : Int) ≤ 9223372036854775807 := by omega
  cases ok
  · go_wp2_with fail
    go_loopw [8, 9] (fun n i w' => n = .int .i64 0 ∧ i = .int .i64 0 ∧ Below W.heap.size W w') (fun _ _ _ => 0)
    case atStart => exact ⟨rfl, rfl, hB3⟩
    case round =>
      obtain ⟨rfl, rfl, hB⟩ := hrel
      by_cases h0 : 0 < us.length
      · have h0' : (0 : Int) < (us.length : Int) := by omega
        go_wp2_with fail
        go_ret
        exact ⟨rfl, hB⟩
      · have h0' : ¬ (0 : Int) < (us.length : Int) := by omega
        go_wp2_with fail
        go_ret
        exact ⟨rfl, hB⟩
  · obtain ⟨hu, hst⟩ := unhide HT rfl
    have HC := hide (cntS_all (units_apart hu) s)
    have HFL := hide (flat_len (us := us) (ok_five hu))
    have h8 := units_len hu
    clear HT
    simp only at hst
    go_wp2_with fail
    go_loopw [8, 9] (fun nv i w' => ∃ k n : Nat, k ≤ us.length ∧ i = .int .i64 k ∧ nv = .int .i64 n ∧ n ≤ k * 5 ∧ Hid (n = cntS (flatTo us k) s) ∧ Below W.heap.size W w' ∧ UnitRow w' b us) (fun _ i _ => us.length - (intOf i).toNat)
    case atStart => exact ⟨0, 0, Nat.zero_le _, rfl, rfl, Nat.le_refl _, rfl, hB3, unhide HR3⟩
    case round =>
      obtain ⟨k, n, hk, rfl, rfl, hn5, HN, hB, hR⟩ := hrel
      have HR := hide hR
      clear hR HR3
      by_cases hkl : k < us.length
      · have hkl' : (k : Int) < (us.length : Int) := by omega
        have hk0 : (0 : Int) ≤ (k : Int) := by omega
        obtain ⟨g, off, rfl⟩ := (unhide HR).get (by omega)
        obtain ⟨ai, ci, c0, k4, k5, k6⟩ := (unhide HR).at hkl
        have HR6 := hide k6
        have HFS := hide (flat_succ hkl)
        have hu4 := unhide H4 us[k] (List.getElem_mem _)
        clear k6
        generalize us[k] = u at *
        go_wp2_with fail
        go_loopw [8, 10] (fun nv j w' => ∃ q n : Nat, q ≤ u.length ∧ j = .int .i64 q ∧ nv = .int .i64 n ∧ n ≤ k * 5 + q ∧ Hid (n = cntS (flatTo us k ++ rowE k u q) s) ∧ w' = wr) (fun _ j _ => u.length - (intOf j).toNat)
        case atStart => exact ⟨0, n, Nat.zero_le _, rfl, rfl, by omega, by show _ = _; rw [rowE, List.append_nil]; exact unhide HN, rfl⟩
        case round =>
          obtain ⟨q, n', hq, rfl, rfl, hnq, HN2, hw⟩ := hrel
          subst hw
          by_cases hql : q < u.length
          · have hql' : (q : Int) < (u.length : Int) := by omega
            have hq0 : (0 : Int) ≤ (q : Int) := by omega
            obtain ⟨b', off', rfl⟩ := (unhide HR6).get (by omega)
            obtain ⟨ai', ci', d0, d1, d2, hn, _⟩ := (unhide HR6).at hql
            have HS2 : Hid (cntS (flatTo us k ++ rowE k u (q + 1)) s = n' + cntS [(k, q, u[q])] s) := by show _ = _; rw [rowE_succ k hql, ← List.append_assoc, cntS_append, unhide HN2]
            have HO := hide (cntS_one (k, q, u[q]) s)
            have HNM : Hid (isNm s u[q] = (u[q].nm.toList == s.toList)) := rfl
            clear d2
            generalize u[q] = f at *
            cases hq1 : (f.nm.toList == s.toList)
            · have HE : Hid (n' = cntS (flatTo us k ++ rowE k u (q + 1)) s) := by show _ = _; rw [unhide HS2, unhide HO]; simp [unhide HNM, hq1]
              go_wp2_with fail
              exact ⟨⟨q + 1, n', by omega, by go_num, rfl, by omega, unhide HE, trivial⟩, by simp [intOf]; omega⟩
            · cases hw : f.wk
              · rw [hw] at d1
                have HE : Hid (n' + 1 = cntS (flatTo us k ++ rowE k u (q + 1)) s) := by show _ = _; rw [unhide HS2, unhide HO]; simp [unhide HNM, hq1, hw]
                go_wp2_with fail
                exact ⟨⟨q + 1, n' + 1, by omega, by go_num, by go_num, by omega, unhide HE, trivial⟩, by simp [intOf]; omega⟩
              · rw [hw] at d1
                have HE : Hid (n' = cntS (flatTo us k ++ rowE k u (q + 1)) s) := by show _ = _; rw [unhide HS2, unhide HO]; simp [hw]
                go_wp2_with fail
                exact ⟨⟨q + 1, n', by omega, by go_num, rfl, by omega, unhide HE, trivial⟩, by simp [intOf]; omega⟩
          · have hqe : q = u.length := by omega
            subst hqe
            have HE : Hid (n' = cntS (flatTo us (k + 1)) s) := by show _ = _; rw [unhide HFS]; exact unhide HN2
            go_wp2_with fail
            exact ⟨⟨k + 1, n', by omega, by go_num, rfl, by omega, unhide HE, hB, unhide HR⟩, by simp [intOf]; omega⟩
      · have hkl' : ¬ (k : Int) < (us.length : Int) := by omega
        have hke : k = us.length := by omega
        subst hke
        have hn1 : 1 < n := by rw [unhide HN, unhide HC]; exact hst
        have hn1' : (1 : Int) < (n : Int) := by omega
        go_wp2_with fail
        go_ret
        exact ⟨rfl, hB⟩

set_option maxRecDepth 100000 in
theorem lifted (os : Os) (started : os.Started) (H : Type) (enc : TypeId × Value → H) :
    ReturnsInHanded {} Try.checked os 4 .any (Rows.fnPickTwoSpec.pre6 enc Try.prog Try.f4 Rows.fnPickTwoRow.domain false) (Rows.fnPickTwoSpec.post enc Try.prog Try.f4 false true false false) := by
  refine returnsInHanded_of_change (C := Try.checked) own started (by kernel_rfl) Try.func4
    (ChangeSpec.witness6 (enc := enc) (C := Try.checked) false ⟨#[], #[.slice none 0 0], []⟩ 8 (by kernel_rfl) (by kernel_rfl) (by kernel_rfl) (by kernel_rfl)) ?_
  intro W base args ds gs before hval0 hW hcnd _
  have hval : ∀ (j : Nat) t v, Try.f4.params[j]? = some t → args[j]? = some v → Value.okWide Try.prog W .any base t v := hval0
  have hW' := hW
  obtain ⟨p, q, hA0, hV, rfl, hfz, hnd⟩ := hW
  have hA : DataW.TrodAll enc Try.prog W 0 (fun _ => true) true Try.f4.params.toList args.toList ds p := hA0
  rw [Try.params4] at hA hval
  obtain ⟨v0, vs0, d0, ds0, p0, q0, hargs, rfl, rfl, h0, r0⟩ := trodAll_cons hA
  obtain ⟨rfl, rfl, rfl⟩ := trodAll_nil r0
  obtain rfl : args = #[v0] := by cases args; simp_all
  obtain ⟨rfl, rfl⟩ := trodVars_none hV
  have k0 := h0
  have lt0 : ∀ x ∈ p0, x.block < W.heap.size := by obtain ⟨m, hm⟩ := k0; exact DataW.trod_lt m _ _ _ hm
  obtain ⟨a0, len0, cap0, hv0⟩ := okWide_slice Try.underlying22 (hval 0 22 v0 rfl rfl)
  obtain ⟨z0, w0⟩ : ∃ zs, IsRow .u8 W a0 len0 cap0 zs := by
    subst hv0
    obtain ⟨fuel, hf⟩ := h0
    rcases open_ints Try.underlying22 Try.underlying5 (by kernel_rfl) hf with ⟨hcs, _⟩ | ⟨x, l, c, zs, hcs, _, hl, hm, hz, _, hcell, hwz⟩
    · simp [Value.cells] at hcs
      obtain ⟨rfl, rfl, rfl⟩ := hcs
      exact ⟨[], .inl ⟨rfl, rfl, rfl, rfl⟩⟩
    · simp [Value.cells] at hcs
      obtain ⟨rfl, rfl, rfl⟩ := hcs
      exact ⟨zs, .inr ⟨_, rfl, hl, hm, by simpa using hz, hcell, hwz⟩⟩
  clear hA0 hval0
  subst hv0
  refine (walk a0 len0 cap0 z0 W w0).mono fun e W' ⟨he, bel⟩ => ?_
  subst he
  exact ⟨_, rfl, _, _, _, [], _, [], hW', trodAll_mk1 (shut_bool Try.underlying4 _), (trodAll_cons_mk (Below.trod laidOut (by kernel_rfl) (of_decide_eq_true (by kernel_rfl)) k0 bel lt0) trodAll_mk0), rfl, bel.frame _, fun h => by cases h⟩

theorem proved : Rows.FnPickTwoSaid :=
  OpenClaim.holds_of_wide 4 Try.f4 rfl rfl rfl rfl rfl rfl rfl ⟨rfl, rfl, rfl, rfl, rfl⟩ rfl rfl rfl rfl rfl (by kernel_rfl) Try.func4 (by kernel_rfl)
    (of_decide_eq_true (by kernel_rfl)) (by unfold Func.isWrapper; first | (rw [if_pos (by decide +kernel)]; kernel_rfl) | (rw [if_neg (by decide +kernel)]; exact ⟨rfl, rfl⟩))
    (fun os started H enc _ => lifted os started H enc)
#print axioms proved
end Go.Proofs.Ytekikhjghnjgaac.fnPickTwo
