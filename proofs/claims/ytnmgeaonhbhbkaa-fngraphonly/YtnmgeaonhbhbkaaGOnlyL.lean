/- For every slice of bytes the law FnGraphOnly answers true, and the bytes read afterwards as they did. No condition. -/
import Derived.Test.YtnmgeaonhbhbkaaPk5024f70b
import Derived.WalkKit
import Derived.ProofKit
import Derived.OpenShut
import Derived.ShutString
import Derived.ChangeOld
import Derived.Below
import Derived.Lib.SmallJoins
import Derived.BigQuiet
import Derived.Deep.QuietTactic
import Derived.Deep.RegionHeld3
import Derived.Test.YtnmgeaonhbhbkaaPkc40bfc31
import Derived.Test.YtnmgeaonhbhbkaaFunS
import Derived.Test.YtnmgeaonhbhbkaaPk0031b0a3
import Derived.Test.YtnmgeaonhbhbkaaRefs
import Derived.Test.YtnmgeaonhbhbkaaWantsL
import Derived.Test.YtnmgeaonhbhbkaaWantsI
import Derived.Test.YtnmgeaonhbhbkaaRd
import Derived.Test.YtnmgeaonhbhbkaaDrawIns
import Derived.Test.YtnmgeaonhbhbkaaKeepC
import Derived.Test.YtnmgeaonhbhbkaaPk31f9ae0e
import Derived.Test.YtnmgeaonhbhbkaaKeepA
import Derived.Test.YtnmgeaonhbhbkaaKeepD
import Derived.Test.YtnmgeaonhbhbkaaPkc9ed0e7a
import Derived.Test.YtnmgeaonhbhbkaaKeepT
import Derived.Test.YtnmgeaonhbhbkaaKeepU
import Derived.Test.YtnmgeaonhbhbkaaWayD
import Derived.Test.YtnmgeaonhbhbkaaGraphD
import Derived.Test.YtnmgeaonhbhbkaaGraphS
import Derived.Test.YtnmgeaonhbhbkaaGraphT
import Derived.Test.YtnmgeaonhbhbkaaGraphL
import Derived.Test.YtnmgeaonhbhbkaaGraphM
import Derived.Test.YtnmgeaonhbhbkaaPk143f984e
import Derived.Test.YtnmgeaonhbhbkaaGraphO
import Derived.Test.YtnmgeaonhbhbkaaPk865d1915
import Derived.Test.YtnmgeaonhbhbkaaPk3558df9a
import Derived.Test.YtnmgeaonhbhbkaaDrawR
import Derived.Test.YtnmgeaonhbhbkaaPke528171d
namespace Go.Proofs.Ytnmgeaonhbhbkaa.fnGraphOnly
open Go.ChangeShapes Go.WideShapes Go.ChangeAt Go.RowKit Go.Joins
open Go.ChangeMaps (open_string shut_string)
open Go.Proofs.Ytnmgeaonhbhbkaa.Base
open Go.Proofs.Ytnmgeaonhbhbkaa.Funs
open Go.Proofs.Ytnmgeaonhbhbkaa.Open
open Go.Proofs.Ytnmgeaonhbhbkaa.FunS
open Go.Proofs.Ytnmgeaonhbhbkaa.Keep
open Go.Proofs.Ytnmgeaonhbhbkaa.UnitS
open Go.Proofs.Ytnmgeaonhbhbkaa.Refs
open Go.Proofs.Ytnmgeaonhbhbkaa.WantsL
open Go.Proofs.Ytnmgeaonhbhbkaa.WantsI
open Go.Proofs.Ytnmgeaonhbhbkaa.Rd
open Go.Proofs.Ytnmgeaonhbhbkaa.DrawIns
open Go.Proofs.Ytnmgeaonhbhbkaa.KeepC
open Go.Proofs.Ytnmgeaonhbhbkaa.KeepO
open Go.Proofs.Ytnmgeaonhbhbkaa.KeepN
open Go.Proofs.Ytnmgeaonhbhbkaa.KeepA
open Go.Proofs.Ytnmgeaonhbhbkaa.KeepD
open Go.Proofs.Ytnmgeaonhbhbkaa.KeepR
open Go.Proofs.Ytnmgeaonhbhbkaa.KeepI
open Go.Proofs.Ytnmgeaonhbhbkaa.KeepT
open Go.Proofs.Ytnmgeaonhbhbkaa.KeepU
open Go.Proofs.Ytnmgeaonhbhbkaa.WayD
open Go.Proofs.Ytnmgeaonhbhbkaa.GraphD
open Go.Proofs.Ytnmgeaonhbhbkaa.GraphS
open Go.Proofs.Ytnmgeaonhbhbkaa.GraphT
open Go.Proofs.Ytnmgeaonhbhbkaa.GraphL
open Go.Proofs.Ytnmgeaonhbhbkaa.GraphM
open Go.Proofs.Ytnmgeaonhbhbkaa.GraphN
open Go.Proofs.Ytnmgeaonhbhbkaa.GraphO
open Go.Proofs.Ytnmgeaonhbhbkaa.GraphU
open Go.Proofs.Ytnmgeaonhbhbkaa.OnlyD
open Go.Proofs.Ytnmgeaonhbhbkaa.DrawP
open Go.Proofs.Ytnmgeaonhbhbkaa.DrawR
open Go.Proofs.Ytnmgeaonhbhbkaa.DrawS
open Go.Proofs.Ytnmgeaonhbhbkaa.DrawG
set_option linter.unusedVariables false
set_option maxRecDepth 100000
theorem own : ownKnob Try.prog.godebug = none := by kernel_rfl
theorem laidOut : laidOutB Try.prog = true := by kernel_rfl

theorem str_cells {w : World} {a : Option Addr} {c : Nat} {ss : List ByteArray} (h : StrAt w (.slice a ss.length c) ss) (h0 : 0 < ss.length) : ∃ b o, a = some ⟨b, o, none⟩ ∧ ∀ w', Below w.heap.size w w' → ∀ i (hi : i < ss.length), w'.cell? ⟨b, o + i, none⟩ = some (.string ss[i]) := by
  obtain ⟨b, o, e, hc⟩ := str_read h rfl h0
  exact ⟨b, o, e, fun w' hb i hi => (Stable.cell _ _).1 _ _ hb (hc i hi)⟩
theorem deep_same {fs : List FunD} (hok : keepOkB fs = true) {r r' : Int} (h : DeepR (kept fs) r) (h' : DeepR fs r') : r = r' := by
  rcases h with ⟨h1, _⟩ | ⟨_, h2⟩
  · rw [kept_ok hok] at h1; cases h1
  · rcases h' with ⟨h1, _⟩ | ⟨_, h2'⟩
    · rw [hok] at h1; cases h1
    · exact deepest_one ((kept_deep hok).1 h2) h2'
set_option maxHeartbeats 8000000 in
theorem walk (a : Option Addr) (len cap : Nat) (zs : List Int) (W : World) (hrow : IsRow .u8 W a len cap zs) :
    Calls Try.prog 6 #[.slice a len cap] W fun e w' => e = .returned (.bool true) ∧ Below W.heap.size W w' := by
  obtain ⟨hl, hm, hb⟩ := isRow_bytes hrow
  by_cases hlt : (1048576 : Int) < len
  · go_enter Try.func6, Try.ntmps6
    go_wp2
    go_ret
    exact ⟨rfl, Below.refl _ _⟩
  have Hb := hide hb
  clear hb hrow
  go_enter Try.func6, Try.ntmps6
  go_wp2_with fail
  refine (drawGraphBack_any _ _ _ _ hl hm (unhide Hb)).mono ?_
  rintro e w1 ⟨b, c, fs, rfl, _, h1, h2, h42, hrow, hb1⟩
  have HR := hide hrow
  have hlen : (fs.length : Int) ≤ 9223372036854775807 := by omega
  clear hrow
  go_wp2_with fail
  refine (implBack_any b c fs _ h1 h2 (unhide HR)).mono ?_
  rintro e w2 ⟨bv, ob, rfl, hN2, hol, hO2, hb2⟩
  have HN := hide hN2
  have HO2 := hide hO2.at
  have hB2 := bl_trans hb1 hb2
  have HR2 := hide ((unhide HR).below hb2)
  obtain ⟨ba, bc, e2, hx2⟩ := hO2.at
  subst e2
  clear hx2 hN2 hO2 hb1 hb2 HR
  cases hok : keepOkB fs
  · go_wp2_with fail
    refine (specBack_any b c fs _ h1 h2 (unhide HR2)).mono ?_
    rintro e w3 ⟨wv, ob', rfl, hN3, _, hO3, hb3⟩
    obtain rfl := gn_one (unhide HN) hN3
    obtain ⟨wa, wc, e3, hx3⟩ := hO3.at
    subst e3
    have hB3 := bl_trans hB2 hb3
    have HR3 := hide ((unhide HR2).below hb3)
    clear hx3 hN3 hO3 hb3 hB2 HR2 HO2
    go_wp2_with fail
    refine (specKeepOk_any b c fs _ h1 h2 (unhide HR3)).mono ?_
    rintro e w4 ⟨rfl, hb4⟩
    rw [hok]
    have hB4 := bl_trans hB3 hb4
    have HR4 := hide ((unhide HR3).below hb4)
    clear hb4 hB3 HR3
    go_wp2_with fail
    refine (specBack_any b c fs _ h1 h2 (unhide HR4)).mono ?_
    rintro e w5 ⟨wv, ob', rfl, hN3, _, hO3, hb3⟩
    obtain rfl := gn_one (unhide HN) hN3
    obtain ⟨wa', wc', e3, hx3⟩ := hO3.at
    subst e3
    have hB5 := bl_trans hB4 hb3
    clear hx3 hN3 hO3 hb3 hB4 HR4
    go_wp2_with fail
    go_ret
    exact ⟨by simp, hB5⟩
  have hq40 : (kept fs).length ≤ 40 := (list_facts hok).1
  have HND : Hid (((kept fs).map fun f => f.nm.toList).Nodup) := (list_facts hok).2.1
  have HALL := hide (fun oc => cntN_all hok (unhide HN) (oc := oc))
  have HHAS := hide (fun oc (h : GN (kept fs) (BackP (kept fs)) oc) i (hi : i < oc.length) => kept_has hok (unhide HN) h hi)
  have HDS := hide (fun r r' => deep_same hok (r := r) (r' := r'))
  have HONL : Hid (onlyB fs = kept fs) := rfl
  go_wp2_with fail
  refine (specBack_any b c fs _ h1 h2 (unhide HR2)).mono ?_
  rintro e w3 ⟨wv, ob', rfl, hN3, _, hO3, hb3⟩
  obtain rfl := gn_one (unhide HN) hN3
  obtain ⟨wa, wc, e3, hx3⟩ := hO3.at
  subst e3
  have hB3 := bl_trans hB2 hb3
  have HR3 := hide ((unhide HR2).below hb3)
  have HO3 := hide ((unhide HO2).below hb3)
  clear hx3 hN3 hO3 hb3 hB2 HR2 HO2
  go_wp2_with fail
  refine (specKeepOk_any b c fs _ h1 h2 (unhide HR3)).mono ?_
  rintro e w4 ⟨rfl, hb4⟩
  rw [hok]
  have hB4 := bl_trans hB3 hb4
  have HR4 := hide ((unhide HR3).below hb4)
  have HO4 := hide ((unhide HO3).below hb4)
  clear hb4 hB3 HR3 HO3 hok
  go_wp2_with fail
  refine (implKeepOnly_any b c fs _ h1 h2 (unhide HR4)).mono ?_
  rintro e w5 ⟨qv, vs, rfl, hvs, hO5, hb5⟩
  rw [unhide HONL] at hvs
  obtain ⟨qa, qc, eq5, hqc, hqm, hQ5⟩ := hO5.row
  rw [hvs] at eq5 hqc hQ5
  subst eq5
  have HQ5 := hide hQ5
  have hB5 := bl_trans hB4 hb5
  have HR5 := hide ((unhide HR4).below hb5)
  have HO5 := hide ((unhide HO4).below hb5)
  clear hQ5 hO5 hvs hb5 hB4 HR4 HO4 HONL
  generalize kept fs = qs at *
  go_wp2_with fail
  refine (implBack_any qa qc qs _ hqc hqm (unhide HQ5)).mono ?_
  rintro e w6 ⟨cv, oc, rfl, hN6, hcl, hO6, hb6⟩
  have HNC := hide hN6
  have HC6 := hide hO6.at
  obtain ⟨ca, cc, e6, hx6⟩ := hO6.at
  subst e6
  have hB6 := bl_trans hB5 hb6
  have HR6 := hide ((unhide HR5).below hb6)
  have HO6 := hide ((unhide HO5).below hb6)
  have HQ6 := hide ((unhide HQ5).below hb6)
  have HAL := hide (unhide HALL oc hN6)
  have HHA := hide (unhide HHAS oc hN6)
  clear hx6 hN6 hO6 hb6 hB5 HR5 HO5 HQ5 HALL HHAS
  go_wp2_with fail
  go_loopw [7, 8] (fun n i w' => ∃ (k : Nat), k ≤ ob.length ∧ i = .int .i64 k ∧ n = .int .i64 (cntN qs ob k : Int) ∧ Below w6.heap.size w6 w') (fun _ i _ => ob.length - (intOf i).toNat)
  case atStart => exact ⟨0, Nat.zero_le _, rfl, rfl, Below.refl _ _⟩
  case round =>
    obtain ⟨k, hk, rfl, rfl, hB⟩ := hrel
    by_cases hkl : k < ob.length
    · have hkl' : (k : Int) < (ob.length : Int) := by omega
      obtain ⟨lb, lo, rfl, hlc⟩ := str_cells (unhide HO6) (by omega)
      have HT : Hid (∀ w', Below w6.heap.size w6 w' → w'.cell? ⟨lb, lo + k, none⟩ = some (.string ob[k])) := fun w' hb => hlc w' hb k hkl
      have HNX := hide (cntN_next (unhide HND) hkl)
      have hc1 := cntN_le qs ob k
      clear hlc
      generalize ob[k] = t at *
      generalize cntN qs ob k = n0 at *
      go_wp2_with fail
      go_loopw [7, 9] (fun n i w' => ∃ (j : Nat), j ≤ qs.length ∧ i = .int .i64 j ∧ n = .int .i64 ((n0 + cntQ qs t j : Nat) : Int) ∧ Below w6.heap.size w6 w') (fun _ i _ => qs.length - (intOf i).toNat)
      case atStart => exact ⟨0, Nat.zero_le _, rfl, rfl, hB⟩
      case round =>
        obtain ⟨j, hj, rfl, rfl, hB⟩ := hrel
        by_cases hjl : j < qs.length
        · have hjl' : (j : Int) < (qs.length : Int) := by omega
          obtain ⟨qb, qo, rfl⟩ := (unhide HQ6).get (by omega)
          obtain ⟨_, _, c0, _⟩ := ((unhide HQ6).below hB).at hjl
          have t0 := unhide HT _ hB
          have hc2 := cntQ_le qs t j
          have HY := hide (cntQ_yes (t := t) hjl)
          have HNO := hide (cntQ_no (t := t) hjl)
          have hj0 : (0 : Int) ≤ (j : Int) := by omega
          have hk0 : (0 : Int) ≤ (k : Int) := by omega
          generalize qs[j] = f at *
          generalize f.nm = nm at *
          cases hq : (nm.toList == t.toList)
          · have HX := hide (unhide HNO hq)
            clear HY HNO
            go_wp2_with fail
            go_quiet (fail)
            go_wp2_with fail
            exact ⟨⟨j + 1, by omega, by go_num, by rw [unhide HX], by first | exact hB | exact hB.trans (below_draws _ _ _)⟩, by simp [intOf]; omega⟩
          · have HX := hide (unhide HY hq)
            clear HY HNO
            go_wp2_with fail
            go_quiet (fail)
            go_wp2_with fail
            exact ⟨⟨j + 1, by omega, by go_num, by rw [unhide HX]; go_num, by first | exact hB | exact hB.trans (below_draws _ _ _)⟩, by simp [intOf]; omega⟩
        · have hjl' : ¬ (j : Int) < (qs.length : Int) := by omega
          have hje : j = qs.length := by omega
          rw [hje, ← unhide HNX]
          clear hje
          go_wp2_with fail
          exact ⟨⟨k + 1, by omega, by go_num, rfl, hB⟩, by simp [intOf]; omega⟩
    · have hkl' : ¬ (k : Int) < (ob.length : Int) := by omega
      have hke : k = ob.length := by omega
      rw [hke, unhide HAL]
      have hB' := hB
      clear hB hke
      go_wp2_with fail
      clear hkl hkl' hk
      go_loopw [10] (fun i w' => ∃ (k : Nat), k ≤ oc.length ∧ i = .int .i64 k ∧ Below w6.heap.size w6 w') (fun i _ => oc.length - (intOf i).toNat)
      case atStart => exact ⟨0, Nat.zero_le _, rfl, hB'⟩
      case round =>
        obtain ⟨k, hk, rfl, hB⟩ := hrel
        clear hB'
        by_cases hkl : k < oc.length
        · have hkl' : (k : Int) < (oc.length : Int) := by omega
          obtain ⟨lb, lo, rfl, hlc⟩ := str_cells (unhide HC6) (by omega)
          have d0 := hlc _ hB k hkl
          have hh := unhide HHA k hkl
          clear hlc
          generalize oc[k] = t at *
          go_wp2_with fail
          refine (wpHas_any _ ob t _ ((unhide HO6).below hB)).mono ?_
          rintro e w7 ⟨rfl, hb7⟩
          rw [hh]
          go_wp2_with fail
          exact ⟨⟨k + 1, by omega, by go_num, bl_trans hB hb7⟩, by simp [intOf]; omega⟩
        · have hkl' : ¬ (k : Int) < (oc.length : Int) := by omega
          go_wp2_with fail
          refine (implDeep_any qa qc qs _ hqc hqm ((unhide HQ6).below hB)).mono ?_
          rintro e w7 ⟨r1, rfl, hr1, hb7⟩
          have hB7 := bl_trans hB hb7
          have HD1 := hide hr1
          clear hr1 hb7
          go_wp2_with fail
          refine (implDeep_any b c fs _ h1 h2 ((unhide HR6).below hB7)).mono ?_
          rintro e w8 ⟨r2, rfl, hr2, hb8⟩
          obtain rfl := unhide HDS r1 r2 (unhide HD1) hr2
          have hB8 := bl_trans hB6 (bl_trans hB7 hb8)
          clear hr2 hb8
          go_wp2_with fail
          go_ret
          exact ⟨by simp, hB8⟩

set_option maxRecDepth 100000 in
theorem lifted (os : Os) (started : os.Started) (H : Type) (enc : TypeId × Value → H) :
    ReturnsInHanded {} Try.checked os 6 .any (Rows.fnGraphOnlySpec.pre6 enc Try.prog Try.f6 Rows.fnGraphOnlyRow.domain false) (Rows.fnGraphOnlySpec.post enc Try.prog Try.f6 false true false false) := by
  refine returnsInHanded_of_change (C := Try.checked) own started (by kernel_rfl) Try.func6
    (ChangeSpec.witness6 (enc := enc) (C := Try.checked) false ⟨#[], #[.slice none 0 0], []⟩ 8 (by kernel_rfl) (by kernel_rfl) (by kernel_rfl) (by kernel_rfl)) ?_
  intro W base args ds gs before hval0 hW hcnd _
  have hval : ∀ (j : Nat) t v, Try.f6.params[j]? = some t → args[j]? = some v → Value.okWide Try.prog W .any base t v := hval0
  have hW' := hW
  obtain ⟨p, q, hA0, hV, rfl, hfz, hnd⟩ := hW
  have hA : DataW.TrodAll enc Try.prog W 0 (fun _ => true) true Try.f6.params.toList args.toList ds p := hA0
  rw [Try.params6] at hA hval
  obtain ⟨v0, vs0, d0, ds0, p0, q0, hargs, rfl, rfl, h0, r0⟩ := trodAll_cons hA
  obtain ⟨rfl, rfl, rfl⟩ := trodAll_nil r0
  obtain rfl : args = #[v0] := by cases args; simp_all
  obtain ⟨rfl, rfl⟩ := trodVars_none hV
  have k0 := h0
  have lt0 : ∀ x ∈ p0, x.block < W.heap.size := by obtain ⟨m, hm⟩ := k0; exact DataW.trod_lt m _ _ _ hm
  obtain ⟨a0, len0, cap0, hv0⟩ := okWide_slice Try.underlying22 (hval 0 22 v0 rfl rfl)
  obtain ⟨z0, w0⟩ : ∃ zs, IsRow .u8 W a0 len0 cap0 zs := by
    subst hv0
    obtain ⟨fuel, hf⟩ := h0
    rcases open_ints Try.underlying22 Try.underlying5 (by kernel_rfl) hf with ⟨hcs, _⟩ | ⟨x, l, c, zs, hcs, _, hl, hm, hz, _, hcell, hwz⟩
    · simp [Value.cells] at hcs
      obtain ⟨rfl, rfl, rfl⟩ := hcs
      exact ⟨[], .inl ⟨rfl, rfl, rfl, rfl⟩⟩
    · simp [Value.cells] at hcs
      obtain ⟨rfl, rfl, rfl⟩ := hcs
      exact ⟨zs, .inr ⟨_, rfl, hl, hm, by simpa using hz, hcell, hwz⟩⟩
  clear hA0 hval0
  subst hv0
  refine (walk a0 len0 cap0 z0 W w0).mono fun e W' ⟨he, bel⟩ => ?_
  subst he
  exact ⟨_, rfl, _, _, _, [], _, [], hW', trodAll_mk1 (shut_bool Try.underlying4 _), (trodAll_cons_mk (Below.trod laidOut (by kernel_rfl) (of_decide_eq_true (by kernel_rfl)) k0 bel lt0) trodAll_mk0), rfl, bel.frame _, fun h => by cases h⟩

theorem proved : Rows.FnGraphOnlySaid :=
  OpenClaim.holds_of_wide 6 Try.f6 rfl rfl rfl rfl rfl rfl rfl ⟨rfl, rfl, rfl, rfl, rfl⟩ rfl rfl rfl rfl rfl (by kernel_rfl) Try.func6 (by kernel_rfl)
    (of_decide_eq_true (by kernel_rfl)) (by unfold Func.isWrapper; first | (rw [if_pos (by decide +kernel)]; kernel_rfl) | (rw [if_neg (by decide +kernel)]; exact ⟨rfl, rfl⟩))
    (fun os started H enc _ => lifted os started H enc)
#print axioms proved
end Go.Proofs.Ytnmgeaonhbhbkaa.fnGraphOnly
