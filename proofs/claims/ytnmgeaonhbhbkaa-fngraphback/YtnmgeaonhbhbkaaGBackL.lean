/- For every slice of bytes the law FnGraphBack answers true, and the bytes read afterwards as they did. No condition. -/
import Derived.Test.YtnmgeaonhbhbkaaPk3b7a8e77
import Derived.WalkKit
import Derived.ProofKit
import Derived.OpenShut
import Derived.ShutString
import Derived.ChangeOld
import Derived.Below
import Derived.Lib.SmallJoins
import Derived.BigQuiet
import Derived.Deep.QuietTactic
import Derived.Deep.RegionHeld3
import Derived.Test.YtnmgeaonhbhbkaaFuns
import Derived.Test.YtnmgeaonhbhbkaaOpen
import Derived.Test.YtnmgeaonhbhbkaaFunS
import Derived.Test.YtnmgeaonhbhbkaaPk0031b0a3
import Derived.Test.YtnmgeaonhbhbkaaRefs
import Derived.Test.YtnmgeaonhbhbkaaWantsL
import Derived.Test.YtnmgeaonhbhbkaaWantsI
import Derived.Test.YtnmgeaonhbhbkaaRd
import Derived.Test.YtnmgeaonhbhbkaaDrawIns
import Derived.Test.YtnmgeaonhbhbkaaKeepA
import Derived.Test.YtnmgeaonhbhbkaaKeepD
import Derived.Test.YtnmgeaonhbhbkaaPkc9ed0e7a
import Derived.Test.YtnmgeaonhbhbkaaKeepT
import Derived.Test.YtnmgeaonhbhbkaaPk03ef5724
import Derived.Test.YtnmgeaonhbhbkaaGraphD
import Derived.Test.YtnmgeaonhbhbkaaGraphS
import Derived.Test.YtnmgeaonhbhbkaaGraphT
import Derived.Test.YtnmgeaonhbhbkaaGraphL
import Derived.Test.YtnmgeaonhbhbkaaGraphM
import Derived.Test.YtnmgeaonhbhbkaaDrawP
import Derived.Test.YtnmgeaonhbhbkaaDrawR
import Derived.Test.YtnmgeaonhbhbkaaPke528171d
namespace Go.Proofs.Ytnmgeaonhbhbkaa.fnGraphBack
open Go.ChangeShapes Go.WideShapes Go.ChangeAt Go.RowKit Go.Joins
open Go.ChangeMaps (open_string shut_string)
open Go.Proofs.Ytnmgeaonhbhbkaa.Base
open Go.Proofs.Ytnmgeaonhbhbkaa.Funs
open Go.Proofs.Ytnmgeaonhbhbkaa.Open
open Go.Proofs.Ytnmgeaonhbhbkaa.FunS
open Go.Proofs.Ytnmgeaonhbhbkaa.Keep
open Go.Proofs.Ytnmgeaonhbhbkaa.UnitS
open Go.Proofs.Ytnmgeaonhbhbkaa.Refs
open Go.Proofs.Ytnmgeaonhbhbkaa.WantsL
open Go.Proofs.Ytnmgeaonhbhbkaa.WantsI
open Go.Proofs.Ytnmgeaonhbhbkaa.Rd
open Go.Proofs.Ytnmgeaonhbhbkaa.DrawIns
open Go.Proofs.Ytnmgeaonhbhbkaa.KeepA
open Go.Proofs.Ytnmgeaonhbhbkaa.KeepD
open Go.Proofs.Ytnmgeaonhbhbkaa.KeepR
open Go.Proofs.Ytnmgeaonhbhbkaa.KeepI
open Go.Proofs.Ytnmgeaonhbhbkaa.KeepT
open Go.Proofs.Ytnmgeaonhbhbkaa.KeepU
open Go.Proofs.Ytnmgeaonhbhbkaa.GraphD
open Go.Proofs.Ytnmgeaonhbhbkaa.GraphS
open Go.Proofs.Ytnmgeaonhbhbkaa.GraphT
open Go.Proofs.Ytnmgeaonhbhbkaa.GraphL
open Go.Proofs.Ytnmgeaonhbhbkaa.GraphM
open Go.Proofs.Ytnmgeaonhbhbkaa.GraphU
open Go.Proofs.Ytnmgeaonhbhbkaa.DrawP
open Go.Proofs.Ytnmgeaonhbhbkaa.DrawR
open Go.Proofs.Ytnmgeaonhbhbkaa.DrawS
open Go.Proofs.Ytnmgeaonhbhbkaa.DrawG
set_option linter.unusedVariables false
set_option maxRecDepth 100000
theorem own : ownKnob Try.prog.godebug = none := by kernel_rfl
theorem laidOut : laidOutB Try.prog = true := by kernel_rfl

theorem str_cells {w : World} {a : Option Addr} {c : Nat} {ss : List ByteArray} (h : StrAt w (.slice a ss.length c) ss) (h0 : 0 < ss.length) : ∃ b o, a = some ⟨b, o, none⟩ ∧ ∀ w', Below w.heap.size w w' → ∀ i (hi : i < ss.length), w'.cell? ⟨b, o + i, none⟩ = some (.string ss[i]) := by
  obtain ⟨b, o, e, hc⟩ := str_read h rfl h0
  exact ⟨b, o, e, fun w' hb i hi => (Stable.cell _ _).1 _ _ hb (hc i hi)⟩
theorem hasB_next {ss : List ByteArray} {s : ByteArray} {j : Nat} (hj : j < ss.length) : hasB (ss.take (j + 1)) s = (hasB (ss.take j) s || ss[j].toList == s.toList) := by
  unfold hasB
  rw [List.take_succ_eq_append_getElem hj, List.any_append]
  simp
/-- Whether a name is reached from one of the first k. -/
def backK (fs : List FunD) (rs : List ByteArray) (nm : ByteArray) (k : Nat) : Bool := (rs.take k).any fun r => decide (nm.toList ∈ reachS fs r)
theorem backK_next {fs : List FunD} {rs : List ByteArray} {nm : ByteArray} {k : Nat} (hk : k < rs.length) {o : List ByteArray} (ho : RN fs rs[k] o) : (backK fs rs nm k || hasB o nm) = backK fs rs nm (k + 1) := by
  unfold backK
  rw [List.take_succ_eq_append_getElem hk, List.any_append]
  have : hasB o nm = decide (nm.toList ∈ reachS fs rs[k]) := by
    rw [Bool.eq_iff_iff, has_iff ho, decide_eq_true_iff]
  rw [this]
  simp
theorem backK_all {fs : List FunD} {f : FunD} {k : Nat} (hk : k = (refsOf f.body).length) : backK fs (refsOf f.body) f.nm k = true ↔ BackP fs f := by
  subst hk
  unfold backK BackP
  rw [List.take_length, List.any_eq_true]
  constructor
  · rintro ⟨r, h1, h2⟩; exact ⟨r, h1, by simpa using h2⟩
  · rintro ⟨r, h1, h2⟩; exact ⟨r, h1, by simpa using h2⟩
set_option maxHeartbeats 8000000 in
theorem walk (a : Option Addr) (len cap : Nat) (zs : List Int) (W : World) (hrow : IsRow .u8 W a len cap zs) :
    Calls Try.prog 5 #[.slice a len cap] W fun e w' => e = .returned (.bool true) ∧ Below W.heap.size W w' := by
  obtain ⟨hl, hm, hb⟩ := isRow_bytes hrow
  by_cases hlt : (1048576 : Int) < len
  · go_enter Try.func5, Try.ntmps5
    go_wp2
    go_ret
    exact ⟨rfl, Below.refl _ _⟩
  have Hb := hide hb
  clear hb hrow
  go_enter Try.func5, Try.ntmps5
  go_wp2_with fail
  refine (drawGraphBack_any _ _ _ _ hl hm (unhide Hb)).mono ?_
  rintro e w1 ⟨b, c, fs, rfl, _, h1, h2, h42, hrow, hb1⟩
  have HR := hide hrow
  have HZ := hide hrow.sizes
  have hlen : (fs.length : Int) ≤ 9223372036854775807 := by omega
  clear hrow
  go_wp2_with fail
  refine (implBack_any b c fs _ h1 h2 (unhide HR)).mono ?_
  rintro e w2 ⟨bv, ob, rfl, hN2, hol, hO2, hb2⟩
  have HN := hide hN2
  have HO2 := hide hO2.at
  have hB2 := bl_trans hb1 hb2
  have HR2 := hide ((unhide HR).below hb2)
  obtain ⟨ba, bc, e2, hx2⟩ := hO2.at
  subst e2
  clear hx2 hN2 hO2 hb1 hb2 HR
  go_wp2_with fail
  refine (specBack_any b c fs _ h1 h2 (unhide HR2)).mono ?_
  rintro e w5 ⟨wv, ob', rfl, hN3, _, hO3, hb3⟩
  obtain rfl := gn_one (unhide HN) hN3
  have HP5 := hide hO3.at
  obtain ⟨wa, wc, e3, hx3⟩ := hO3.at
  subst e3
  have hB5 := bl_trans hB2 hb3
  have HR5 := hide ((unhide HR2).below hb3)
  have HO5 := hide ((unhide HO2).below hb3)
  clear hx3 hN3 hO3 hb3 hB2 HR2 HO2
  go_wp2_with fail
  go_loopw [6] (fun i w' => ∃ (k : Nat), k ≤ ob.length ∧ i = .int .i64 k ∧ Below w5.heap.size w5 w') (fun i _ => ob.length - (intOf i).toNat)
  case atStart => exact ⟨0, Nat.zero_le _, rfl, Below.refl _ _⟩
  case round =>
    obtain ⟨k, hk, rfl, hB⟩ := hrel
    by_cases hkl : k < ob.length
    · have hkl' : (k : Int) < (ob.length : Int) := by omega
      obtain ⟨lb, lo, rfl, hlc⟩ := str_cells (unhide HO5) (by omega)
      obtain ⟨vb, vo, rfl, hvc⟩ := str_cells (unhide HP5) (by omega)
      have d0 := hlc _ hB k hkl
      have d1 := hvc _ hB k hkl
      have hk0 : (0 : Int) ≤ (k : Int) := by omega
      clear hlc hvc
      generalize ob[k] = t at *
      go_wp2_with fail
      go_quiet (fail)
      go_wp2_with fail
      exact ⟨⟨k + 1, by omega, by go_num, by first | exact hB | exact hB.trans (below_draws _ _ _)⟩, by simp [intOf]; omega⟩
    · have hkl' : ¬ (k : Int) < (ob.length : Int) := by omega
      have hB' := hB
      clear hB HP5
      go_wp2_with fail
      clear hkl hkl' hk
      go_loopw [7] (fun i w' => ∃ (k : Nat), k ≤ fs.length ∧ i = .int .i64 k ∧ Below w5.heap.size w5 w') (fun i _ => fs.length - (intOf i).toNat)
      case atStart => exact ⟨0, Nat.zero_le _, rfl, hB'⟩
      case round =>
        obtain ⟨k, hk, rfl, hB⟩ := hrel
        clear hB'
        by_cases hkl : k < fs.length
        · have hkl' : (k : Int) < (fs.length : Int) := by omega
          cases hok : keepOkB fs
          · go_wp2_with fail
            refine (specKeepOk_any b c fs _ h1 h2 ((unhide HR5).below hB)).mono ?_
            rintro e w6 ⟨rfl, hb6⟩
            rw [hok]
            go_wp2_with fail
            go_ret
            exact ⟨rfl, bl_trans hB5 (bl_trans hB hb6)⟩
          · have hfo := (keep_parts hok).2.2.1 fs[k] (List.getElem_mem hkl)
            have hrl : (refsOf fs[k].body).length ≤ 10 := Nat.le_trans (refs_len _) (fun_le hfo)
            have HRF : Hid (funRefs fs[k].nm fs[k].body = refsOf fs[k].body) := by show _ = _; simp [funRefs, hfo]
            have HRZ : Hid (∀ r ∈ refsOf fs[k].body, r.size ≤ maxLen) := refs_sized (unhide HZ _ (List.getElem_mem hkl)).2.2
            have HEQ : Hid (backK fs (refsOf fs[k].body) fs[k].nm (refsOf fs[k].body).length = hasB ob fs[k].nm) := by
              show _ = _
              cases hh : backK fs (refsOf fs[k].body) fs[k].nm (refsOf fs[k].body).length
              · exact (gn_not (unhide HN) (List.getElem_mem hkl) (fun h => by have := (backK_all rfl).2 h; rw [hh] at this; cases this)).symm
              · exact (gn_yes hok (unhide HN) (List.getElem_mem hkl) ((backK_all rfl).1 hh)).symm
            obtain ⟨g, off, rfl⟩ := (unhide HR5).get (by omega)
            have HFA : Hid (∀ w', FunRow w' (some ⟨g, off, none⟩) fs → FunAt w' g (off + k * 3) fs[k]) := fun w' h => h.at hkl
            clear hfo
            generalize fs[k] = f at *
            go_wp2_with fail
            refine (specKeepOk_any _ c fs _ h1 h2 ((unhide HR5).below hB)).mono ?_
            rintro e w6 ⟨rfl, hb6⟩
            rw [hok]
            have hB6 := bl_trans hB hb6
            obtain ⟨ai, ci, c0, c1, c2, hfn, k4, k5, k6⟩ := unhide HFA _ ((unhide HR5).below hB6)
            have HK6 := hide k6
            clear k6 hb6 hB hok
            go_wp2_with fail
            refine (implFunRefs_any f.nm f.wk ai ci f.body _ hfn k4 k5 (unhide HK6)).mono ?_
            rintro e w7 ⟨rv, rfl, hRV, hb7⟩
            rw [unhide HRF] at hRV
            have hB7 := bl_trans hB6 hb7
            have HF7 := hide hRV.at
            obtain ⟨fa, fc, ef, hfx⟩ := hRV.at
            subst ef
            clear hfx hRV hb7 hB6 c0 c1 c2 HK6
            generalize refsOf f.body = rs at *
            go_wp2_with fail
            go_loopw [9, 10] (fun m i w' => ∃ (j : Nat), j ≤ rs.length ∧ i = .int .i64 j ∧ m = .bool (backK fs rs f.nm j) ∧ Below w7.heap.size w7 w') (fun _ i _ => rs.length - (intOf i).toNat)
            case atStart => exact ⟨0, Nat.zero_le _, rfl, rfl, Below.refl _ _⟩
            case round =>
              obtain ⟨j, hj, rfl, rfl, hB⟩ := hrel
              by_cases hjl : j < rs.length
              · have hjl' : (j : Int) < (rs.length : Int) := by omega
                obtain ⟨fb, fo, rfl, hfc⟩ := str_cells (unhide HF7) (by omega)
                have r5 := hfc _ hB j hjl
                have hrz := unhide HRZ rs[j] (List.getElem_mem _)
                have HNX := hide (fun o => backK_next (fs := fs) (nm := f.nm) hjl (o := o))
                clear hfc
                generalize rs[j] = r at *
                generalize backK fs rs f.nm j = acc0 at *
                go_wp2_with fail
                refine (implKeepReach_any _ c fs r _ hrz h1 h2 ((unhide HR5).below (bl_trans hB7 hB))).mono ?_
                rintro e w8 ⟨ov, o, rfl, hN8, ho40, hO8, hb8⟩
                have HNO := hide (unhide HNX o hN8)
                have HO8 := hide hO8.at
                obtain ⟨oa, oc, eo, hox⟩ := hO8.at
                subst eo
                have hB8 := bl_trans hB hb8
                clear hox hN8 hO8 hb8 r5 HNX
                go_wp2_with fail
                go_loopw [9, 12] (fun m i w' => ∃ (q : Nat), q ≤ o.length ∧ i = .int .i64 q ∧ m = .bool (acc0 || hasB (o.take q) f.nm) ∧ Below w8.heap.size w8 w') (fun _ i _ => o.length - (intOf i).toNat)
                case atStart => exact ⟨0, Nat.zero_le _, rfl, by simp [hasB], Below.refl _ _⟩
                case round =>
                  obtain ⟨q, hq, rfl, rfl, hB9⟩ := hrel
                  obtain ⟨_, _, c0, _⟩ := unhide HFA _ ((unhide HR5).below (bl_trans hB7 (bl_trans hB8 hB9)))
                  by_cases hql : q < o.length
                  · have hql' : (q : Int) < (o.length : Int) := by omega
                    obtain ⟨xb, xo, rfl, hxc⟩ := str_cells (unhide HO8) (by omega)
                    have x5 := hxc _ hB9 q hql
                    have HN9 : Hid ((acc0 || hasB (o.take (q + 1)) f.nm) = ((acc0 || hasB (o.take q) f.nm) || o[q].toList == f.nm.toList)) := by
                      show _ = _
                      rw [hasB_next hql, Bool.or_assoc]
                    have hq0 : (0 : Int) ≤ (q : Int) := by omega
                    have hk0 : (0 : Int) ≤ (k : Int) := by omega
                    clear hxc
                    generalize o[q] = y at *
                    generalize (acc0 || hasB (o.take q) f.nm) = acc at *
                    cases acc
                    · cases hq2 : (y.toList == f.nm.toList)
                      · go_wp2_with fail
                        go_quiet (fail)
                        go_wp2_with fail
                        exact ⟨⟨q + 1, by omega, by go_num, by rw [unhide HN9, hq2]; rfl, by first | exact hB9 | exact hB9.trans (below_draws _ _ _)⟩, by simp [intOf]; omega⟩
                      · go_wp2_with fail
                        go_quiet (fail)
                        go_wp2_with fail
                        exact ⟨⟨q + 1, by omega, by go_num, by rw [unhide HN9, hq2]; rfl, by first | exact hB9 | exact hB9.trans (below_draws _ _ _)⟩, by simp [intOf]; omega⟩
                    · go_wp2_with fail
                      go_quiet (fail)
                      go_wp2_with fail
                      exact ⟨⟨q + 1, by omega, by go_num, by rw [unhide HN9]; rfl, by first | exact hB9 | exact hB9.trans (below_draws _ _ _)⟩, by simp [intOf]; omega⟩
                  · have hql' : ¬ (q : Int) < (o.length : Int) := by omega
                    have hqe : o.take q = o := List.take_of_length_le (by omega)
                    rw [hqe, unhide HNO]
                    clear hqe c0
                    go_wp2_with fail
                    exact ⟨⟨j + 1, by omega, by go_num, rfl, bl_trans hB8 hB9⟩, by simp [intOf]; omega⟩
              · have hjl' : ¬ (j : Int) < (rs.length : Int) := by omega
                have hje : j = rs.length := by omega
                rw [hje, unhide HEQ]
                have hB8 := bl_trans hB7 hB
                obtain ⟨_, _, c0, _⟩ := unhide HFA _ ((unhide HR5).below hB8)
                clear hje hB HF7 hj hjl hjl'
                cases hh : hasB ob f.nm
                · go_wp2_with fail
                  refine (wpHas_any _ ob f.nm _ ((unhide HO5).below hB8)).mono ?_
                  rintro e w9 ⟨rfl, hb9⟩
                  rw [hh]
                  go_wp2_with fail
                  exact ⟨⟨k + 1, by omega, by go_num, bl_trans hB8 hb9⟩, by simp [intOf]; omega⟩
                · go_wp2_with fail
                  refine (wpHas_any _ ob f.nm _ ((unhide HO5).below hB8)).mono ?_
                  rintro e w9 ⟨rfl, hb9⟩
                  rw [hh]
                  go_wp2_with fail
                  exact ⟨⟨k + 1, by omega, by go_num, bl_trans hB8 hb9⟩, by simp [intOf]; omega⟩
        · have hkl' : ¬ (k : Int) < (fs.length : Int) := by omega
          go_wp2_with fail
          go_ret
          exact ⟨rfl, bl_trans hB5 hB⟩

set_option maxRecDepth 100000 in
theorem lifted (os : Os) (started : os.Started) (H : Type) (enc : TypeId × Value → H) :
    ReturnsInHanded {} Try.checked os 5 .any (Rows.fnGraphBackSpec.pre6 enc Try.prog Try.f5 Rows.fnGraphBackRow.domain false) (Rows.fnGraphBackSpec.post enc Try.prog Try.f5 false true false false) := by
  refine returnsInHanded_of_change (C := Try.checked) own started (by kernel_rfl) Try.func5
    (ChangeSpec.witness6 (enc := enc) (C := Try.checked) false ⟨#[], #[.slice none 0 0], []⟩ 8 (by kernel_rfl) (by kernel_rfl) (by kernel_rfl) (by kernel_rfl)) ?_
  intro W base args ds gs before hval0 hW hcnd _
  have hval : ∀ (j : Nat) t v, Try.f5.params[j]? = some t → args[j]? = some v → Value.okWide Try.prog W .any base t v := hval0
  have hW' := hW
  obtain ⟨p, q, hA0, hV, rfl, hfz, hnd⟩ := hW
  have hA : DataW.TrodAll enc Try.prog W 0 (fun _ => true) true Try.f5.params.toList args.toList ds p := hA0
  rw [Try.params5] at hA hval
  obtain ⟨v0, vs0, d0, ds0, p0, q0, hargs, rfl, rfl, h0, r0⟩ := trodAll_cons hA
  obtain ⟨rfl, rfl, rfl⟩ := trodAll_nil r0
  obtain rfl : args = #[v0] := by cases args; simp_all
  obtain ⟨rfl, rfl⟩ := trodVars_none hV
  have k0 := h0
  have lt0 : ∀ x ∈ p0, x.block < W.heap.size := by obtain ⟨m, hm⟩ := k0; exact DataW.trod_lt m _ _ _ hm
  obtain ⟨a0, len0, cap0, hv0⟩ := okWide_slice Try.underlying22 (hval 0 22 v0 rfl rfl)
  obtain ⟨z0, w0⟩ : ∃ zs, IsRow .u8 W a0 len0 cap0 zs := by
    subst hv0
    obtain ⟨fuel, hf⟩ := h0
    rcases open_ints Try.underlying22 Try.underlying5 (by kernel_rfl) hf with ⟨hcs, _⟩ | ⟨x, l, c, zs, hcs, _, hl, hm, hz, _, hcell, hwz⟩
    · simp [Value.cells] at hcs
      obtain ⟨rfl, rfl, rfl⟩ := hcs
      exact ⟨[], .inl ⟨rfl, rfl, rfl, rfl⟩⟩
    · simp [Value.cells] at hcs
      obtain ⟨rfl, rfl, rfl⟩ := hcs
      exact ⟨zs, .inr ⟨_, rfl, hl, hm, by simpa using hz, hcell, hwz⟩⟩
  clear hA0 hval0
  subst hv0
  refine (walk a0 len0 cap0 z0 W w0).mono fun e W' ⟨he, bel⟩ => ?_
  subst he
  exact ⟨_, rfl, _, _, _, [], _, [], hW', trodAll_mk1 (shut_bool Try.underlying4 _), (trodAll_cons_mk (Below.trod laidOut (by kernel_rfl) (of_decide_eq_true (by kernel_rfl)) k0 bel lt0) trodAll_mk0), rfl, bel.frame _, fun h => by cases h⟩

theorem proved : Rows.FnGraphBackSaid :=
  OpenClaim.holds_of_wide 5 Try.f5 rfl rfl rfl rfl rfl rfl rfl ⟨rfl, rfl, rfl, rfl, rfl⟩ rfl rfl rfl rfl rfl (by kernel_rfl) Try.func5 (by kernel_rfl)
    (of_decide_eq_true (by kernel_rfl)) (by unfold Func.isWrapper; first | (rw [if_pos (by decide +kernel)]; kernel_rfl) | (rw [if_neg (by decide +kernel)]; exact ⟨rfl, rfl⟩))
    (fun os started H enc _ => lifted os started H enc)
#print axioms proved
end Go.Proofs.Ytnmgeaonhbhbkaa.fnGraphBack
