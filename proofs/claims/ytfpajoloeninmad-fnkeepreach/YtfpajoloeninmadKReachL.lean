/- For every slice of bytes the law FnKeepReach answers true, and the bytes read afterwards as they did. No condition. -/
import Derived.Test.YtfpajoloeninmadBase
import Derived.WalkKit
import Derived.ProofKit
import Derived.OpenShut
import Derived.ShutString
import Derived.ChangeOld
import Derived.Below
import Derived.Lib.SmallJoins
import Derived.Deep.QuietTactic
import Derived.BigQuiet
import Derived.Test.YtfpajoloeninmadFuns
import Derived.Test.YtfpajoloeninmadOpen
import Derived.Test.YtfpajoloeninmadFunS
import Derived.Test.YtfpajoloeninmadKeep
import Derived.Test.YtfpajoloeninmadUnitS
import Derived.Test.YtfpajoloeninmadRefs
import Derived.Test.YtfpajoloeninmadWantsL
import Derived.Test.YtfpajoloeninmadWantsI
import Derived.Test.YtfpajoloeninmadRd
import Derived.Test.YtfpajoloeninmadDrawIns
import Derived.Test.YtfpajoloeninmadKeepA
import Derived.Test.YtfpajoloeninmadKeepD
import Derived.Test.YtfpajoloeninmadKeepR
import Derived.Test.YtfpajoloeninmadKeepI
import Derived.Test.YtfpajoloeninmadKeepT
import Derived.Test.YtfpajoloeninmadKeepU
import Derived.Test.YtfpajoloeninmadDrawP
import Derived.Test.YtfpajoloeninmadDrawR
import Derived.Test.YtfpajoloeninmadDrawS
namespace Go.Proofs.Ytfpajoloeninmad.fnKeepReach
open Go.ChangeShapes Go.WideShapes Go.ChangeAt Go.RowKit Go.Joins
open Go.ChangeMaps (open_string shut_string)
open Go.Proofs.Ytfpajoloeninmad.Base
open Go.Proofs.Ytfpajoloeninmad.Funs
open Go.Proofs.Ytfpajoloeninmad.Open
open Go.Proofs.Ytfpajoloeninmad.FunS
open Go.Proofs.Ytfpajoloeninmad.Keep
open Go.Proofs.Ytfpajoloeninmad.UnitS
open Go.Proofs.Ytfpajoloeninmad.Refs
open Go.Proofs.Ytfpajoloeninmad.WantsL
open Go.Proofs.Ytfpajoloeninmad.WantsI
open Go.Proofs.Ytfpajoloeninmad.Rd
open Go.Proofs.Ytfpajoloeninmad.DrawIns
open Go.Proofs.Ytfpajoloeninmad.KeepA
open Go.Proofs.Ytfpajoloeninmad.KeepD
open Go.Proofs.Ytfpajoloeninmad.KeepR
open Go.Proofs.Ytfpajoloeninmad.KeepI
open Go.Proofs.Ytfpajoloeninmad.KeepT
open Go.Proofs.Ytfpajoloeninmad.KeepU
open Go.Proofs.Ytfpajoloeninmad.DrawP
open Go.Proofs.Ytfpajoloeninmad.DrawR
open Go.Proofs.Ytfpajoloeninmad.DrawS
set_option linter.unusedVariables false
set_option maxRecDepth 100000
theorem own : ownKnob Try.prog.godebug = none := by kernel_rfl
theorem laidOut : laidOutB Try.prog = true := by kernel_rfl

theorem leq_no {x y : ByteArray} (h : y.toList < x.toList) : (Op.bytesLess x.toList y.toList || x.toList == y.toList) = false := by
  rw [Bool.or_eq_false_iff]
  constructor
  · rw [Go.Proofs.bytesLess_eq, decide_eq_false_iff_not]
    exact fun hc => List.lt_irrefl _ (List.lt_trans h hc)
  · rw [beq_eq_false_iff_ne]
    intro e
    rw [e] at h
    exact List.lt_irrefl _ h
theorem rn_lt {fs : List FunD} {s : ByteArray} {out : List ByteArray} (h : RN fs s out) {i : Nat} (hi : i + 1 < out.length) : (out[i]'(by omega)).toList < out[i + 1].toList := by
  have h1 := List.pairwise_iff_getElem.1 h.1 i (i + 1) (by simp [bl]; omega) (by simpa [bl] using hi) (by omega)
  simpa [bl] using h1
theorem str_read {w : World} {v : Value} {ss : List ByteArray} {a : Option Addr} {n c : Nat} (h : StrAt w v ss) (e : v = .slice a n c) (h0 : 0 < ss.length) : ∃ b o, a = some ⟨b, o, none⟩ ∧ ∀ i (hi : i < ss.length), w.cell? ⟨b, o + i, none⟩ = some (.string ss[i]) := by
  obtain ⟨a', c', e', _, _, hc⟩ := h
  rw [e] at e'
  cases e'
  rcases hc with hc | ⟨b, o, ha, hc⟩
  · rw [hc] at h0; simp at h0
  · exact ⟨b, o, ha, hc⟩
set_option maxHeartbeats 8000000 in
theorem walk (a : Option Addr) (len cap : Nat) (zs : List Int) (W : World) (hrow : IsRow .u8 W a len cap zs) :
    Calls Try.prog 5 #[.slice a len cap] W fun e w' => e = .returned (.bool true) ∧ Below W.heap.size W w' := by
  obtain ⟨hl, hm, hb⟩ := isRow_bytes hrow
  by_cases hlt : (1048576 : Int) < len
  · go_enter Try.func5, Try.ntmps5
    go_wp2
    go_ret
    exact ⟨rfl, Below.refl _ _⟩
  have Hb := hide hb
  clear hb hrow
  go_enter Try.func5, Try.ntmps5
  go_wp2_with fail
  refine (drawKeepReach_any _ _ _ _ hl hm (unhide Hb)).mono ?_
  rintro e w1 ⟨b, c, fs, s, rfl, hs, h1, h2, h42, hrow, hb1⟩
  have HR := hide hrow
  have HZ := hide hrow.sizes
  have hlen : (fs.length : Int) ≤ 9223372036854775807 := by omega
  clear hrow
  go_wp2_with fail
  refine (implKeepReach_any b c fs s _ hs h1 h2 (unhide HR)).mono ?_
  rintro e w2 ⟨v5, out, rfl, hN5, hol, hO5, hb2⟩
  have HN := hide hN5
  have HO2 := hide hO5.at
  have hB2 := bl_trans hb1 hb2
  have HR2 := hide ((unhide HR).below hb2)
  obtain ⟨ra, rc, e5, hrc, hrcm, _⟩ := hO5.at
  subst e5
  clear hN5 hO5 hb1 hb2 HR
  go_wp2_with fail
  refine (specKeepReach_any b c fs s _ hs h1 h2 (unhide HR2)).mono ?_
  rintro e w3 ⟨v6, out', rfl, hN6, _, hO6, hb3⟩
  obtain rfl := rn_one (unhide HN) hN6
  have HP3 := hide hO6.at
  obtain ⟨sa, sc, e6, hsc, hscm, _⟩ := hO6.at
  subst e6
  have hB3 := bl_trans hB2 hb3
  have HR3 := hide ((unhide HR2).below hb3)
  have HO3 := hide ((unhide HO2).below hb3)
  clear hN6 hO6 hb3 hB2 HR2 HO2
  go_wp2_with fail
  go_loopw [7] (fun i w' => ∃ (k : Nat), k ≤ out.length ∧ i = .int .i64 k ∧ Below w3.heap.size w3 w') (fun i _ => out.length - (intOf i).toNat)
  case atStart => exact ⟨0, Nat.zero_le _, rfl, Below.refl _ _⟩
  case round =>
    obtain ⟨k, hk, rfl, hB⟩ := hrel
    by_cases hkl : k < out.length
    · have hkl' : (k : Int) < (out.length : Int) := by omega
      obtain ⟨rb, ro, rfl, hrcell⟩ := str_read ((unhide HO3).below hB) rfl (by omega)
      obtain ⟨sb, so, rfl, hscell⟩ := str_read ((unhide HP3).below hB) rfl (by omega)
      have d0 := hrcell k hkl
      have d1 := hscell k hkl
      have hk0 : (0 : Int) ≤ (k : Int) := by omega
      by_cases h0 : k = 0
      · subst h0
        clear hrcell hscell
        simp only [Nat.add_zero] at d0 d1
        generalize out[0] = t at *
        go_wp2_with fail
        go_quiet (fail)
        go_wp2_with fail
        exact ⟨⟨0 + 1, by omega, by go_num, hB.trans (below_draws _ _ _)⟩, by simp [intOf]; omega⟩
      · obtain ⟨j, hj⟩ : ∃ j, k = j + 1 := ⟨k - 1, by omega⟩
        have hjo : j < out.length := by omega
        have d2 := hrcell j hjo
        have hleq : (Op.bytesLess out[k].toList out[j].toList || out[k].toList == out[j].toList) = false := by
          subst hj
          exact leq_no (rn_lt (unhide HN) hkl)
        have hj0 : (0 : Int) ≤ (j : Int) := by omega
        have hj1 : (0 : Int) < (k : Int) := by omega
        have hj2 : 0 < k := by omega
        have hd3 : decide (0 < k) = true := decide_eq_true hj2
        have hd2 : decide ((0 : Int) < (k : Int)) = true := decide_eq_true hj1
        have hw1 : IntKind.i64.wrap ((k : Int) - 1) = (j : Int) := by rw [show (k : Int) - 1 = (j : Int) by omega, IntKind.wrap_i64]; omega
        have hw2 : (k : Int) - 1 = (j : Int) := by omega
        have hw3 : IntKind.i64.wrap (j : Int) = (j : Int) := by rw [IntKind.wrap_i64]; omega
        have hjl : (j : Int) < (out.length : Int) := by omega
        clear hrcell hscell h0 hj
        generalize out[k] = t at *
        generalize out[j] = u at *
        have hl3 : binOp .leq 9 (.string t) (.string u) = pure (.bool false) := by simp [binOp, Op.stringOp, hleq]
        have hl4 : ∀ Wd : World, Sem.run Try.prog (binOp .leq 9 (.string t) (.string u)) Wd = .ok (.bool false) Wd := fun Wd => by rw [hl3]; rfl
        have hl1 : Op.bytesLess t.toList u.toList = false := (Bool.or_eq_false_iff.1 hleq).1
        have hl2 : (t.toList == u.toList) = false := (Bool.or_eq_false_iff.1 hleq).2
        have hl5 : ¬ t.toList = u.toList := by simpa using hl2
        go_wp2_with fail
        go_quiet (fail)
        go_wp2_with fail
        exact ⟨⟨k + 1, by omega, by go_num, hB.trans (below_draws _ _ _)⟩, by simp [intOf]; omega⟩
    · have hkl' : ¬ (k : Int) < (out.length : Int) := by omega
      have hB4 := bl_trans hB3 hB
      have HR4 := hide ((unhide HR3).below hB)
      have HO4 := hide ((unhide HO3).below hB)
      clear HP3 hB HR3 HO3 hB3 hk
      by_cases h0 : out.length = 0
      · have h0' : (out.length : Int) = 0 := by omega
        go_wp2_with fail
        go_ret
        exact ⟨rfl, hB4⟩
      have h0' : ¬ (out.length : Int) = 0 := by omega
      obtain ⟨hok, hfi⟩ := rn_ne (unhide HN) (fun e => h0 (by rw [e]; rfl))
      have HOK := hide hok
      have HFI := hide hfi
      have HFO := hide (keep_parts hok).2.2.1
      have HHS : Hid (hasB out s = true) := (has_iff (unhide HN)).2 (reach_head hok hfi)
      clear hok hfi
      go_wp2_with fail
      clear hkl hkl'
      go_loopw [8] (fun i w' => ∃ (k : Nat), k ≤ fs.length ∧ i = .int .i64 k ∧ FunRow w' b fs ∧ StrAt w' (.slice ra out.length rc) out ∧ Below W.heap.size W w') (fun i _ => fs.length - (intOf i).toNat)
      case atStart => exact ⟨0, Nat.zero_le _, rfl, unhide HR4, unhide HO4, hB4⟩
      case round =>
        obtain ⟨k, hk, rfl, hR, hO, hB⟩ := hrel
        have HRW := hide hR
        have HO := hide hO
        clear hR hO HR4 HO4 hB4
        by_cases hkl : k < fs.length
        · have hkl' : (k : Int) < (fs.length : Int) := by omega
          obtain ⟨g, off, rfl⟩ := (unhide HRW).get (by omega)
          have HFA : Hid (∀ w', FunRow w' (some ⟨g, off, none⟩) fs → FunAt w' g (off + k * 3) fs[k]) := fun w' h => h.at hkl
          have HCL : Hid (hasB out fs[k].nm = true → ∀ r ∈ refsOf fs[k].body, hasB out r = true) := fun h r hr => (has_iff (unhide HN)).2 (reach_clos (unhide HOK) (unhide HFI) (List.getElem_mem _) ((has_iff (unhide HN)).1 h) r hr)
          have HLE : Hid (hasB out fs[k].nm = true → ∀ o, RN fs fs[k].nm o → o.length ≤ out.length) := fun h o ho => reach_le (unhide HOK) (unhide HFI) (unhide HN) ho ((rn_mem (unhide HN) _).2 ((has_iff (unhide HN)).1 h))
          have hfo := unhide HFO fs[k] (List.getElem_mem _)
          have HRF : Hid (funRefs fs[k].nm fs[k].body = refsOf fs[k].body) := by show _ = _; simp [funRefs, hfo]
          have hrl : (refsOf fs[k].body).length ≤ 10 := Nat.le_trans (refs_len _) (fun_le hfo)
          have hnz := (unhide HZ fs[k] (List.getElem_mem _)).1
          generalize fs[k] = f at *
          obtain ⟨ai0, ci0, c0, _, _, _, _, _, _⟩ := unhide HFA _ (unhide HRW)
          cases hh : hasB out f.nm
          · go_wp2_with fail
            refine (wpHas_any _ out f.nm _ (unhide HO)).mono ?_
            rintro e w5 ⟨rfl, hb5⟩
            rw [hh]
            go_wp2_with fail
            exact ⟨⟨k + 1, by omega, by go_num, (unhide HRW).below hb5, (unhide HO).below hb5, bl_trans hB hb5⟩, by simp [intOf]; omega⟩
          · have HCL2 := hide (unhide HCL hh)
            have HLE2 := hide (unhide HLE hh)
            clear HCL HLE
            go_wp2_with fail
            refine (wpHas_any _ out f.nm _ (unhide HO)).mono ?_
            rintro e w5 ⟨rfl, hb5⟩
            rw [hh]
            have HR5 := hide ((unhide HRW).below hb5)
            have HO5 := hide ((unhide HO).below hb5)
            have hB5 := bl_trans hB hb5
            clear HRW HO hB hb5 c0
            obtain ⟨ai, ci, c0, c1, c2, hfn, k4, k5, k6⟩ := unhide HFA _ (unhide HR5)
            have HK6 := hide k6
            clear k6
            go_wp2_with fail
            refine (implFunRefs_any f.nm f.wk ai ci f.body _ hfn k4 k5 (unhide HK6)).mono ?_
            rintro e w6 ⟨rv, rfl, hRV, hb6⟩
            rw [unhide HRF] at hRV
            have HRV := hide hRV.at
            have HR6 := hide ((unhide HR5).below hb6)
            have HO6 := hide ((unhide HO5).below hb6)
            have hB6 := bl_trans hB5 hb6
            obtain ⟨fa, fc, ef, _⟩ := hRV.at
            subst ef
            clear hRV hb6 HR5 HO5 hB5 c0 c1 c2 HK6
            generalize refsOf f.body = rs at *
            go_wp2_with fail
            go_loopw [10] (fun i w' => ∃ (q : Nat), q ≤ rs.length ∧ i = .int .i64 q ∧ StrAt w' (.slice fa rs.length fc) rs ∧ FunRow w' (some ⟨g, off, none⟩) fs ∧ StrAt w' (.slice ra out.length rc) out ∧ Below W.heap.size W w') (fun i _ => rs.length - (intOf i).toNat)
            case atStart => exact ⟨0, Nat.zero_le _, rfl, unhide HRV, unhide HR6, unhide HO6, hB6⟩
            case round =>
              obtain ⟨q, hq', rfl, hF, hR, hO, hB⟩ := hrel
              have HF := hide hF
              have HR := hide hR
              have HO := hide hO
              clear hF hR hO HRV HR6 HO6 hB6
              by_cases hql : q < rs.length
              · have hql' : (q : Int) < (rs.length : Int) := by omega
                obtain ⟨fb, fo, rfl, hg5⟩ := str_read (unhide HF) rfl (by omega)
                have r5 := hg5 q hql
                have hh5 := unhide HCL2 rs[q] (List.getElem_mem _)
                clear hg5
                generalize rs[q] = r at *
                go_wp2_with fail
                refine (wpHas_any _ out r _ (unhide HO)).mono ?_
                rintro e w7 ⟨rfl, hb7⟩
                rw [hh5]
                go_wp2_with fail
                exact ⟨⟨q + 1, by omega, by go_num, (unhide HF).below hb7, (unhide HR).below hb7, (unhide HO).below hb7, bl_trans hB hb7⟩, by simp [intOf]; omega⟩
              · have hql' : ¬ (q : Int) < (rs.length : Int) := by omega
                obtain ⟨ai, ci, c0, _, _, _, _, _, _⟩ := unhide HFA _ (unhide HR)
                go_wp2_with fail
                refine (implKeepReach_any _ c fs f.nm _ hnz h1 h2 (unhide HR)).mono ?_
                rintro e w7 ⟨mv, o, rfl, hN7, hol7, hO7, hb7⟩
                have hle7 := unhide HLE2 o hN7
                have hle7' : ¬ (out.length : Int) < (o.length : Int) := by omega
                obtain ⟨ma, mc, em, _⟩ := hO7.at
                subst em
                have HR7 := hide ((unhide HR).below hb7)
                have HO7 := hide ((unhide HO).below hb7)
                have hB7 := bl_trans hB hb7
                clear hN7 hO7 hb7 HR HO hB HF c0
                go_wp2_with fail
                exact ⟨⟨k + 1, by omega, by go_num, unhide HR7, unhide HO7, hB7⟩, by simp [intOf]; omega⟩
        · have hkl' : ¬ (k : Int) < (fs.length : Int) := by omega
          go_wp2_with fail
          refine (wpHas_any _ out s _ (unhide HO)).mono ?_
          rintro e w5 ⟨rfl, hb5⟩
          rw [unhide HHS]
          have hB5 := bl_trans hB hb5
          go_wp2_with fail
          go_ret
          exact ⟨rfl, hB5⟩

set_option maxRecDepth 100000 in
theorem lifted (os : Os) (started : os.Started) (H : Type) (enc : TypeId × Value → H) :
    ReturnsInHanded {} Try.checked os 5 .any (Rows.fnKeepReachSpec.pre6 enc Try.prog Try.f5 Rows.fnKeepReachRow.domain false) (Rows.fnKeepReachSpec.post enc Try.prog Try.f5 false true false false) := by
  refine returnsInHanded_of_change (C := Try.checked) own started (by kernel_rfl) Try.func5
    (ChangeSpec.witness6 (enc := enc) (C := Try.checked) false ⟨#[], #[.slice none 0 0], []⟩ 8 (by kernel_rfl) (by kernel_rfl) (by kernel_rfl) (by kernel_rfl)) ?_
  intro W base args ds gs before hval0 hW hcnd _
  have hval : ∀ (j : Nat) t v, Try.f5.params[j]? = some t → args[j]? = some v → Value.okWide Try.prog W .any base t v := hval0
  have hW' := hW
  obtain ⟨p, q, hA0, hV, rfl, hfz, hnd⟩ := hW
  have hA : DataW.TrodAll enc Try.prog W 0 (fun _ => true) true Try.f5.params.toList args.toList ds p := hA0
  rw [Try.params5] at hA hval
  obtain ⟨v0, vs0, d0, ds0, p0, q0, hargs, rfl, rfl, h0, r0⟩ := trodAll_cons hA
  obtain ⟨rfl, rfl, rfl⟩ := trodAll_nil r0
  obtain rfl : args = #[v0] := by cases args; simp_all
  obtain ⟨rfl, rfl⟩ := trodVars_none hV
  have k0 := h0
  have lt0 : ∀ x ∈ p0, x.block < W.heap.size := by obtain ⟨m, hm⟩ := k0; exact DataW.trod_lt m _ _ _ hm
  obtain ⟨a0, len0, cap0, hv0⟩ := okWide_slice Try.underlying22 (hval 0 22 v0 rfl rfl)
  obtain ⟨z0, w0⟩ : ∃ zs, IsRow .u8 W a0 len0 cap0 zs := by
    subst hv0
    obtain ⟨fuel, hf⟩ := h0
    rcases open_ints Try.underlying22 Try.underlying5 (by kernel_rfl) hf with ⟨hcs, _⟩ | ⟨x, l, c, zs, hcs, _, hl, hm, hz, _, hcell, hwz⟩
    · simp [Value.cells] at hcs
      obtain ⟨rfl, rfl, rfl⟩ := hcs
      exact ⟨[], .inl ⟨rfl, rfl, rfl, rfl⟩⟩
    · simp [Value.cells] at hcs
      obtain ⟨rfl, rfl, rfl⟩ := hcs
      exact ⟨zs, .inr ⟨_, rfl, hl, hm, by simpa using hz, hcell, hwz⟩⟩
  clear hA0 hval0
  subst hv0
  refine (walk a0 len0 cap0 z0 W w0).mono fun e W' ⟨he, bel⟩ => ?_
  subst he
  exact ⟨_, rfl, _, _, _, [], _, [], hW', trodAll_mk1 (shut_bool Try.underlying4 _), (trodAll_cons_mk (Below.trod laidOut (by kernel_rfl) (of_decide_eq_true (by kernel_rfl)) k0 bel lt0) trodAll_mk0), rfl, bel.frame _, fun h => by cases h⟩

theorem proved : Rows.FnKeepReachSaid :=
  OpenClaim.holds_of_wide 5 Try.f5 rfl rfl rfl rfl rfl rfl rfl ⟨rfl, rfl, rfl, rfl, rfl⟩ rfl rfl rfl rfl rfl (by kernel_rfl) Try.func5 (by kernel_rfl)
    (of_decide_eq_true (by kernel_rfl)) (by unfold Func.isWrapper; first | (rw [if_pos (by decide +kernel)]; kernel_rfl) | (rw [if_neg (by decide +kernel)]; exact ⟨rfl, rfl⟩))
    (fun os started H enc _ => lifted os started H enc)
#print axioms proved
end Go.Proofs.Ytfpajoloeninmad.fnKeepReach
