/- For every slice of bytes the law FnGraphBy answers true, and the bytes read afterwards as they did. No condition. -/
import Derived.Test.YtnmgeaonhbhbkaaPk3b7a8e77
import Derived.WalkKit
import Derived.ProofKit
import Derived.OpenShut
import Derived.ShutString
import Derived.ChangeOld
import Derived.Below
import Derived.Lib.SmallJoins
import Derived.BigQuiet
import Derived.Deep.QuietTactic
import Derived.Deep.RegionHeld3
import Derived.Test.YtnmgeaonhbhbkaaFuns
import Derived.Test.YtnmgeaonhbhbkaaOpen
import Derived.Test.YtnmgeaonhbhbkaaFunS
import Derived.Test.YtnmgeaonhbhbkaaPk0031b0a3
import Derived.Test.YtnmgeaonhbhbkaaRefs
import Derived.Test.YtnmgeaonhbhbkaaWantsL
import Derived.Test.YtnmgeaonhbhbkaaWantsI
import Derived.Test.YtnmgeaonhbhbkaaRd
import Derived.Test.YtnmgeaonhbhbkaaDrawIns
import Derived.Test.YtnmgeaonhbhbkaaKeepA
import Derived.Test.YtnmgeaonhbhbkaaKeepD
import Derived.Test.YtnmgeaonhbhbkaaKeepR
import Derived.Test.YtnmgeaonhbhbkaaKeepI
import Derived.Test.YtnmgeaonhbhbkaaKeepT
import Derived.Test.YtnmgeaonhbhbkaaPk03ef5724
import Derived.Test.YtnmgeaonhbhbkaaGraphD
import Derived.Test.YtnmgeaonhbhbkaaGraphS
import Derived.Test.YtnmgeaonhbhbkaaGraphT
import Derived.Test.YtnmgeaonhbhbkaaGraphL
import Derived.Test.YtnmgeaonhbhbkaaDrawP
import Derived.Test.YtnmgeaonhbhbkaaDrawR
import Derived.Test.YtnmgeaonhbhbkaaPke528171d
namespace Go.Proofs.Ytnmgeaonhbhbkaa.fnGraphBy
open Go.ChangeShapes Go.WideShapes Go.ChangeAt Go.RowKit Go.Joins
open Go.ChangeMaps (open_string shut_string)
open Go.Proofs.Ytnmgeaonhbhbkaa.Base
open Go.Proofs.Ytnmgeaonhbhbkaa.Funs
open Go.Proofs.Ytnmgeaonhbhbkaa.Open
open Go.Proofs.Ytnmgeaonhbhbkaa.FunS
open Go.Proofs.Ytnmgeaonhbhbkaa.Keep
open Go.Proofs.Ytnmgeaonhbhbkaa.UnitS
open Go.Proofs.Ytnmgeaonhbhbkaa.Refs
open Go.Proofs.Ytnmgeaonhbhbkaa.WantsL
open Go.Proofs.Ytnmgeaonhbhbkaa.WantsI
open Go.Proofs.Ytnmgeaonhbhbkaa.Rd
open Go.Proofs.Ytnmgeaonhbhbkaa.DrawIns
open Go.Proofs.Ytnmgeaonhbhbkaa.KeepA
open Go.Proofs.Ytnmgeaonhbhbkaa.KeepD
open Go.Proofs.Ytnmgeaonhbhbkaa.KeepR
open Go.Proofs.Ytnmgeaonhbhbkaa.KeepI
open Go.Proofs.Ytnmgeaonhbhbkaa.KeepT
open Go.Proofs.Ytnmgeaonhbhbkaa.KeepU
open Go.Proofs.Ytnmgeaonhbhbkaa.GraphD
open Go.Proofs.Ytnmgeaonhbhbkaa.GraphS
open Go.Proofs.Ytnmgeaonhbhbkaa.GraphT
open Go.Proofs.Ytnmgeaonhbhbkaa.GraphL
open Go.Proofs.Ytnmgeaonhbhbkaa.GraphU
open Go.Proofs.Ytnmgeaonhbhbkaa.DrawP
open Go.Proofs.Ytnmgeaonhbhbkaa.DrawR
open Go.Proofs.Ytnmgeaonhbhbkaa.DrawS
open Go.Proofs.Ytnmgeaonhbhbkaa.DrawG
set_option linter.unusedVariables false
set_option maxRecDepth 100000
theorem own : ownKnob Try.prog.godebug = none := by kernel_rfl
theorem laidOut : laidOutB Try.prog = true := by kernel_rfl

theorem str_cells {w : World} {a : Option Addr} {c : Nat} {ss : List ByteArray} (h : StrAt w (.slice a ss.length c) ss) (h0 : 0 < ss.length) : ∃ b o, a = some ⟨b, o, none⟩ ∧ ∀ w', Below w.heap.size w w' → ∀ i (hi : i < ss.length), w'.cell? ⟨b, o + i, none⟩ = some (.string ss[i]) := by
  obtain ⟨b, o, e, hc⟩ := str_read h rfl h0
  exact ⟨b, o, e, fun w' hb i hi => (Stable.cell _ _).1 _ _ hb (hc i hi)⟩
theorem leq_no {x y : ByteArray} (h : y.toList < x.toList) : (Op.bytesLess x.toList y.toList || x.toList == y.toList) = false := by
  rw [Bool.or_eq_false_iff]
  constructor
  · rw [Go.Proofs.bytesLess_eq, decide_eq_false_iff_not]
    exact fun hc => List.lt_irrefl _ (List.lt_trans h hc)
  · rw [beq_eq_false_iff_ne]
    intro e
    rw [e] at h
    exact List.lt_irrefl _ h
theorem gn_lt {fs : List FunD} {P : FunD → Prop} {out : List ByteArray} (h : GN fs P out) {i : Nat} (hi : i + 1 < out.length) : (out[i]'(by omega)).toList < out[i + 1].toList := by
  have h1 := List.pairwise_iff_getElem.1 h.1 i (i + 1) (by simp [bl]; omega) (by simpa [bl] using hi) (by omega)
  simpa [bl] using h1
def leafP (f : FunD) : Bool := decide ((refsOf f.body).length = 0)
theorem leafP_iff (f : FunD) : leafP f = true ↔ LeafP f := by
  unfold leafP LeafP
  rw [decide_eq_true_iff, List.length_eq_zero_iff]
def byP (s : ByteArray) (f : FunD) : Bool := hasB (refsOf f.body) s
theorem hasB_next {ss : List ByteArray} {s : ByteArray} {j : Nat} (hj : j < ss.length) : hasB (ss.take (j + 1)) s = (hasB (ss.take j) s || ss[j].toList == s.toList) := by
  unfold hasB
  rw [List.take_succ_eq_append_getElem hj, List.any_append]
  simp
/-- What stands along the way of the first loop. -/
def ByLoop (w5 : World) (fs : List FunD) (s : ByteArray) (n l i : Value) (w' : World) : Prop := ∃ k : Nat, k ≤ fs.length ∧ Hid (keepOkB fs = false → k = 0) ∧ i = .int .i64 k ∧ n = .int .i64 (cntF fs (byP s) k : Int) ∧ l = .int .i64 (cntF fs leafP k : Int) ∧ Below w5.heap.size w5 w'
set_option maxHeartbeats 8000000 in
theorem walk (a : Option Addr) (len cap : Nat) (zs : List Int) (W : World) (hrow : IsRow .u8 W a len cap zs) :
    Calls Try.prog 4 #[.slice a len cap] W fun e w' => e = .returned (.bool true) ∧ Below W.heap.size W w' := by
  obtain ⟨hl, hm, hb⟩ := isRow_bytes hrow
  by_cases hlt : (1048576 : Int) < len
  · go_enter Try.func4, Try.ntmps4
    go_wp2
    go_ret
    exact ⟨rfl, Below.refl _ _⟩
  have Hb := hide hb
  clear hb hrow
  go_enter Try.func4, Try.ntmps4
  go_wp2_with fail
  refine (drawGraphBy_any _ _ _ _ hl hm (unhide Hb)).mono ?_
  rintro e w1 ⟨b, c, fs, s, rfl, hs, h1, h2, h42, hrow, hb1⟩
  have HR := hide hrow
  have HZ := hide hrow.sizes
  have hlen : (fs.length : Int) ≤ 9223372036854775807 := by omega
  clear hrow
  go_wp2_with fail
  refine (implBy_any b c fs s _ h1 h2 (unhide HR)).mono ?_
  rintro e w2 ⟨bv, ob, rfl, hN2, hol, hO2, hb2⟩
  have HN := hide hN2
  have HO2 := hide hO2.at
  have hB2 := bl_trans hb1 hb2
  have HR2 := hide ((unhide HR).below hb2)
  obtain ⟨ba, bc, e2, hx2⟩ := hO2.at
  subst e2
  clear hx2 hN2 hO2 hb1 hb2 HR
  go_wp2_with fail
  refine (specBy_any b c fs s _ h1 h2 (unhide HR2)).mono ?_
  rintro e w3 ⟨wv, ob', rfl, hN3, _, hO3, hb3⟩
  obtain rfl := gn_one (unhide HN) hN3
  obtain ⟨wa, wc, e3, hx3⟩ := hO3.at
  subst e3
  have hB3 := bl_trans hB2 hb3
  have HR3 := hide ((unhide HR2).below hb3)
  have HO3 := hide ((unhide HO2).below hb3)
  clear hx3 hN3 hO3 hb3 hB2 HR2 HO2
  go_wp2_with fail
  refine (implLeaf_any b c fs _ h1 h2 (unhide HR3)).mono ?_
  rintro e w4 ⟨lv, ol, rfl, hN4, hll, hO4, hb4⟩
  have HNL := hide hN4
  have HL4 := hide hO4.at
  obtain ⟨la, lc, e4, hx4⟩ := hO4.at
  subst e4
  have hB4 := bl_trans hB3 hb4
  have HR4 := hide ((unhide HR3).below hb4)
  have HO4 := hide ((unhide HO3).below hb4)
  clear hx4 hN4 hO4 hb4 hB3 HR3 HO3
  go_wp2_with fail
  refine (specLeaf_any b c fs _ h1 h2 (unhide HR4)).mono ?_
  rintro e w5 ⟨vv, ol', rfl, hN5, _, hO5, hb5⟩
  obtain rfl := gn_one (unhide HNL) hN5
  obtain ⟨va, vc, e5, hx5⟩ := hO5.at
  subst e5
  have hB5 := bl_trans hB4 hb5
  have HR5 := hide ((unhide HR4).below hb5)
  have HO5 := hide ((unhide HO4).below hb5)
  have HL5 := hide ((unhide HL4).below hb5)
  have HCA : Hid (keepOkB fs = true → cntF fs (byP s) fs.length = ob.length ∧ cntF fs leafP fs.length = ol.length) := fun h => ⟨cntF_all h (unhide HN) (fun f _ => by unfold byP ByP; exact has_mem), cntF_all h (unhide HNL) (fun f _ => leafP_iff f)⟩
  have HC0 : Hid (keepOkB fs = false → ob.length = 0 ∧ ol.length = 0) := fun h => ⟨gn_none h (unhide HN), gn_none h (unhide HNL)⟩
  clear hx5 hN5 hO5 hb5 hB4 HR4 HO4 HL4
  go_wp2_with fail
  go_loopw [9, 10, 11] (fun n l i w' => ByLoop w5 fs s n l i w') (fun _ _ i _ => fs.length - (intOf i).toNat)
  case atStart => exact ⟨0, Nat.zero_le _, fun _ => rfl, rfl, rfl, rfl, Below.refl _ _⟩
  case round =>
    obtain ⟨k, hk, HK0, rfl, rfl, rfl, hB⟩ := hrel
    have hc1 := cntF_le fs leafP k
    have hc2 := cntF_le fs (byP s) k
    have HFIN : Hid (k = fs.length ∨ keepOkB fs = false → cntF fs (byP s) k = ob.length ∧ cntF fs leafP k = ol.length) := fun h => by
      cases hok : keepOkB fs
      · have h3 := unhide HK0 hok
        obtain ⟨h4, h5⟩ := unhide HC0 hok
        rw [h3, h4, h5]; exact ⟨rfl, rfl⟩
      · rcases h with h | h
        · rw [h]; exact unhide HCA hok
        · rw [hok] at h; cases h
    by_cases hkl : k < fs.length
    · have hkl' : (k : Int) < (fs.length : Int) := by omega
      cases hok : keepOkB fs
      · have HE := hide (unhide HFIN (.inr hok))
        go_wp2_with fail
        refine (specKeepOk_any b c fs _ h1 h2 ((unhide HR5).below hB)).mono ?_
        rintro e w6 ⟨rfl, hb6⟩
        rw [hok]
        have hBT := bl_trans hB hb6
        go_wp2_with fail
        rw [(unhide HE).1, (unhide HE).2]
        clear HFIN HK0 HE hc1 hc2
        go_wp2_with fail
        go_loopw [17] (fun i w' => ∃ (q : Nat), 1 ≤ q ∧ i = .int .i64 q ∧ Below w5.heap.size w5 w') (fun i _ => ol.length - (intOf i).toNat)
        case atStart => exact ⟨1, Nat.le_refl _, rfl, hBT⟩
        case round =>
          obtain ⟨q, hq1, rfl, hBT'⟩ := hrel
          by_cases hql : q < ol.length
          · have hql' : (q : Int) < (ol.length : Int) := by omega
            obtain ⟨lb, lo, rfl, hlc⟩ := str_cells (unhide HL5) (by omega)
            obtain ⟨j, hj⟩ : ∃ j, q = j + 1 := ⟨q - 1, by omega⟩
            have hjo : j < ol.length := by omega
            have d0 := hlc _ hBT' q hql
            have d2 := hlc _ hBT' j hjo
            have hleq : (Op.bytesLess ol[q].toList ol[j].toList || ol[q].toList == ol[j].toList) = false := by
              subst hj
              exact leq_no (gn_lt (unhide HNL) hql)
            have hq0 : (0 : Int) ≤ (q : Int) := by omega
            have hj0 : (0 : Int) ≤ (j : Int) := by omega
            have hw1 : IntKind.i64.wrap ((q : Int) - 1) = (j : Int) := by rw [show (q : Int) - 1 = (j : Int) by omega, IntKind.wrap_i64]; omega
            have hw2 : (q : Int) - 1 = (j : Int) := by omega
            have hw3 : IntKind.i64.wrap (j : Int) = (j : Int) := by rw [IntKind.wrap_i64]; omega
            have hjl : (j : Int) < (ol.length : Int) := by omega
            clear hlc hj
            generalize ol[q] = t at *
            generalize ol[j] = u at *
            have hl3 : binOp .leq 9 (.string t) (.string u) = pure (.bool false) := by simp [binOp, Op.stringOp, hleq]
            have hl4 : ∀ Wd : World, Sem.run Try.prog (binOp .leq 9 (.string t) (.string u)) Wd = .ok (.bool false) Wd := fun Wd => by rw [hl3]; rfl
            have hl1 : Op.bytesLess t.toList u.toList = false := (Bool.or_eq_false_iff.1 hleq).1
            have hl2 : (t.toList == u.toList) = false := (Bool.or_eq_false_iff.1 hleq).2
            have hl5 : ¬ t.toList = u.toList := by simpa using hl2
            go_wp2_with fail
            go_quiet (fail)
            go_wp2_with fail
            exact ⟨⟨q + 1, by omega, by go_num, hBT'.trans (below_draws _ _ _)⟩, by simp [intOf]; omega⟩
          · have hql' : ¬ (q : Int) < (ol.length : Int) := by omega
            go_wp2_with fail
            go_ret
            exact ⟨by simp, bl_trans hB5 hBT'⟩
      · have hfo := (keep_parts hok).2.2.1 fs[k] (List.getElem_mem hkl)
        have hrl : (refsOf fs[k].body).length ≤ 10 := Nat.le_trans (refs_len _) (fun_le hfo)
        have HRF : Hid (funRefs fs[k].nm fs[k].body = refsOf fs[k].body) := by show _ = _; simp [funRefs, hfo]
        have HY1 := hide (cntF_yes (p := byP s) hkl)
        have HN1 := hide (cntF_no (p := byP s) hkl)
        have HY2 := hide (cntF_yes (p := leafP) hkl)
        have HN2 := hide (cntF_no (p := leafP) hkl)
        have HEQ : Hid (hasB (refsOf fs[k].body) s = hasB ob fs[k].nm) := by
          show _ = _
          cases hh : hasB (refsOf fs[k].body) s
          · exact (gn_not (unhide HN) (List.getElem_mem hkl) (fun h => by have := has_mem.2 h; rw [hh] at this; cases this)).symm
          · exact (gn_yes hok (unhide HN) (List.getElem_mem hkl) (has_mem.1 hh)).symm
        have HBP : Hid (byP s fs[k] = hasB (refsOf fs[k].body) s) := rfl
        have HLP : Hid (leafP fs[k] = decide ((refsOf fs[k].body).length = 0)) := rfl
        obtain ⟨g, off, rfl⟩ := (unhide HR5).get (by omega)
        have HFA : Hid (∀ w', FunRow w' (some ⟨g, off, none⟩) fs → FunAt w' g (off + k * 3) fs[k]) := fun w' h => h.at hkl
        clear hfo
        generalize fs[k] = f at *
        go_wp2_with fail
        refine (specKeepOk_any _ c fs _ h1 h2 ((unhide HR5).below hB)).mono ?_
        rintro e w6 ⟨rfl, hb6⟩
        rw [hok]
        have hB6 := bl_trans hB hb6
        obtain ⟨ai, ci, c0, c1, c2, hfn, k4, k5, k6⟩ := unhide HFA _ ((unhide HR5).below hB6)
        have HK6 := hide k6
        have HOKK : Hid (keepOkB fs = false → k + 1 = 0) := fun h => by rw [hok] at h; cases h
        clear k6 hb6 hB hok
        go_wp2_with fail
        refine (implFunRefs_any f.nm f.wk ai ci f.body _ hfn k4 k5 (unhide HK6)).mono ?_
        rintro e w7 ⟨rv, rfl, hRV, hb7⟩
        rw [unhide HRF] at hRV
        have hB7 := bl_trans hB6 hb7
        have HF7 := hide hRV.at
        obtain ⟨fa, fc, ef, hfx⟩ := hRV.at
        subst ef
        clear hfx hRV hb7 hB6 c0 c1 c2 HK6
        generalize refsOf f.body = rs at *
        go_wp2_with fail
        go_loopw [13, 14] (fun m i w' => ∃ (j : Nat), j ≤ rs.length ∧ i = .int .i64 j ∧ m = .bool (hasB (rs.take j) s) ∧ Below w7.heap.size w7 w') (fun _ i _ => rs.length - (intOf i).toNat)
        case atStart => exact ⟨0, Nat.zero_le _, rfl, rfl, Below.refl _ _⟩
        case round =>
          obtain ⟨j, hj, rfl, rfl, hB⟩ := hrel
          by_cases hjl : j < rs.length
          · have hjl' : (j : Int) < (rs.length : Int) := by omega
            obtain ⟨fb, fo, rfl, hfc⟩ := str_cells (unhide HF7) (by omega)
            have r5 := hfc _ hB j hjl
            have HNX := hide (hasB_next (s := s) hjl)
            clear hfc
            generalize rs[j] = r at *
            generalize hasB (rs.take j) s = acc at *
            cases acc
            · cases hq : (r.toList == s.toList)
              · go_wp2_with fail
                exact ⟨⟨j + 1, by omega, by go_num, by rw [unhide HNX, hq]; rfl, hB⟩, by simp [intOf]; omega⟩
              · go_wp2_with fail
                exact ⟨⟨j + 1, by omega, by go_num, by rw [unhide HNX, hq]; rfl, hB⟩, by simp [intOf]; omega⟩
            · go_wp2_with fail
              exact ⟨⟨j + 1, by omega, by go_num, by rw [unhide HNX]; rfl, hB⟩, by simp [intOf]; omega⟩
          · have hjl' : ¬ (j : Int) < (rs.length : Int) := by omega
            have hje : rs.take j = rs := List.take_of_length_le (by omega)
            rw [hje]
            have hB8 := bl_trans hB7 hB
            clear hje hB HF7 hj
            go_wp2_with fail
            clear hjl hjl'
            go_loopw [15, 16] (fun m i w' => ∃ (j : Nat), j ≤ ob.length ∧ i = .int .i64 j ∧ m = .bool (hasB (ob.take j) f.nm) ∧ Below w5.heap.size w5 w') (fun _ i _ => ob.length - (intOf i).toNat)
            case atStart => exact ⟨0, Nat.zero_le _, rfl, rfl, hB8⟩
            case round =>
              obtain ⟨j, hj, rfl, rfl, hB⟩ := hrel
              clear hB8
              obtain ⟨_, _, c0, _⟩ := unhide HFA _ ((unhide HR5).below hB)
              by_cases hjl : j < ob.length
              · have hjl' : (j : Int) < (ob.length : Int) := by omega
                obtain ⟨fb, fo, rfl, hfc⟩ := str_cells (unhide HO5) (by omega)
                have r5 := hfc _ hB j hjl
                have HNX := hide (hasB_next (s := f.nm) hjl)
                have hj0 : (0 : Int) ≤ (j : Int) := by omega
                have hk0 : (0 : Int) ≤ (k : Int) := by omega
                clear hfc
                generalize ob[j] = r at *
                generalize hasB (ob.take j) f.nm = acc at *
                cases acc
                · cases hq : (r.toList == f.nm.toList)
                  · go_wp2_with fail
                    go_quiet (fail)
                    go_wp2_with fail
                    exact ⟨⟨j + 1, by omega, by go_num, by rw [unhide HNX, hq]; rfl, by first | exact hB | exact hB.trans (below_draws _ _ _)⟩, by simp [intOf]; omega⟩
                  · go_wp2_with fail
                    go_quiet (fail)
                    go_wp2_with fail
                    exact ⟨⟨j + 1, by omega, by go_num, by rw [unhide HNX, hq]; rfl, by first | exact hB | exact hB.trans (below_draws _ _ _)⟩, by simp [intOf]; omega⟩
                · go_wp2_with fail
                  go_quiet (fail)
                  go_wp2_with fail
                  exact ⟨⟨j + 1, by omega, by go_num, by rw [unhide HNX]; rfl, by first | exact hB | exact hB.trans (below_draws _ _ _)⟩, by simp [intOf]; omega⟩
              · have hjl' : ¬ (j : Int) < (ob.length : Int) := by omega
                have hje : ob.take j = ob := List.take_of_length_le (by omega)
                rw [hje, ← unhide HEQ]
                clear hje c0
                have hlz : rs.length = 0 ∧ ((rs.length : Int) == 0) = true ∧ leafP f = true ∨ ¬ rs.length = 0 ∧ ((rs.length : Int) == 0) = false ∧ leafP f = false := by
                  rw [unhide HLP]
                  by_cases h : rs.length = 0
                  · exact .inl ⟨h, by simp [h], by simp [h]⟩
                  · exact .inr ⟨h, by rw [beq_eq_false_iff_ne]; omega, by simp [h]⟩
                have hbp := unhide HBP
                generalize hhs : hasB rs s = hs at *
                cases hs
                · have q1 := hide (unhide HN1 hbp)
                  rcases hlz with ⟨hz, hzb, hlf⟩ | ⟨hz, hzb, hlf⟩
                  · have q2 := hide (unhide HY2 hlf)
                    rw [hz]
                    clear hzb hz hlf hbp HEQ HY1 HN1 HY2 HN2 HBP HLP HRF
                    go_wp2_with fail
                    exact ⟨⟨k + 1, by omega, unhide HOKK, by go_num, by rw [unhide q1], by rw [unhide q2]; go_num, hB⟩, by simp [intOf]; omega⟩
                  · have q2 := hide (unhide HN2 hlf)
                    have hz' : ¬ (rs.length : Int) = 0 := by omega
                    clear hzb hlf hbp HEQ HY1 HN1 HY2 HN2 HBP HLP HRF hhs
                    generalize rs.length = nn at hz hz' ⊢
                    go_wp2_with fail
                    exact ⟨⟨k + 1, by omega, unhide HOKK, by go_num, by rw [unhide q1], by rw [unhide q2], hB⟩, by simp [intOf]; omega⟩
                · have q1 := hide (unhide HY1 hbp)
                  rcases hlz with ⟨hz, hzb, hlf⟩ | ⟨hz, hzb, hlf⟩
                  · have q2 := hide (unhide HY2 hlf)
                    rw [hz]
                    clear hzb hz hlf hbp HEQ HY1 HN1 HY2 HN2 HBP HLP HRF
                    go_wp2_with fail
                    exact ⟨⟨k + 1, by omega, unhide HOKK, by go_num, by rw [unhide q1]; go_num, by rw [unhide q2]; go_num, hB⟩, by simp [intOf]; omega⟩
                  · have q2 := hide (unhide HN2 hlf)
                    have hz' : ¬ (rs.length : Int) = 0 := by omega
                    clear hzb hlf hbp HEQ HY1 HN1 HY2 HN2 HBP HLP HRF hhs
                    generalize rs.length = nn at hz hz' ⊢
                    go_wp2_with fail
                    exact ⟨⟨k + 1, by omega, unhide HOKK, by go_num, by rw [unhide q1]; go_num, by rw [unhide q2], hB⟩, by simp [intOf]; omega⟩
    · have hkl' : ¬ (k : Int) < (fs.length : Int) := by omega
      have HE := hide (unhide HFIN (.inl (by omega)))
      have hBT := hB
      clear hB
      rw [(unhide HE).1, (unhide HE).2]
      clear HFIN HK0 HE hc1 hc2
      go_wp2_with fail
      go_loopw [17] (fun i w' => ∃ (q : Nat), 1 ≤ q ∧ i = .int .i64 q ∧ Below w5.heap.size w5 w') (fun i _ => ol.length - (intOf i).toNat)
      case atStart => exact ⟨1, Nat.le_refl _, rfl, hBT⟩
      case round =>
        obtain ⟨q, hq1, rfl, hBT'⟩ := hrel
        by_cases hql : q < ol.length
        · have hql' : (q : Int) < (ol.length : Int) := by omega
          obtain ⟨lb, lo, rfl, hlc⟩ := str_cells (unhide HL5) (by omega)
          obtain ⟨j, hj⟩ : ∃ j, q = j + 1 := ⟨q - 1, by omega⟩
          have hjo : j < ol.length := by omega
          have d0 := hlc _ hBT' q hql
          have d2 := hlc _ hBT' j hjo
          have hleq : (Op.bytesLess ol[q].toList ol[j].toList || ol[q].toList == ol[j].toList) = false := by
            subst hj
            exact leq_no (gn_lt (unhide HNL) hql)
          have hq0 : (0 : Int) ≤ (q : Int) := by omega
          have hj0 : (0 : Int) ≤ (j : Int) := by omega
          have hw1 : IntKind.i64.wrap ((q : Int) - 1) = (j : Int) := by rw [show (q : Int) - 1 = (j : Int) by omega, IntKind.wrap_i64]; omega
          have hw2 : (q : Int) - 1 = (j : Int) := by omega
          have hw3 : IntKind.i64.wrap (j : Int) = (j : Int) := by rw [IntKind.wrap_i64]; omega
          have hjl : (j : Int) < (ol.length : Int) := by omega
          clear hlc hj
          generalize ol[q] = t at *
          generalize ol[j] = u at *
          have hl3 : binOp .leq 9 (.string t) (.string u) = pure (.bool false) := by simp [binOp, Op.stringOp, hleq]
          have hl4 : ∀ Wd : World, Sem.run Try.prog (binOp .leq 9 (.string t) (.string u)) Wd = .ok (.bool false) Wd := fun Wd => by rw [hl3]; rfl
          have hl1 : Op.bytesLess t.toList u.toList = false := (Bool.or_eq_false_iff.1 hleq).1
          have hl2 : (t.toList == u.toList) = false := (Bool.or_eq_false_iff.1 hleq).2
          have hl5 : ¬ t.toList = u.toList := by simpa using hl2
          go_wp2_with fail
          go_quiet (fail)
          go_wp2_with fail
          exact ⟨⟨q + 1, by omega, by go_num, hBT'.trans (below_draws _ _ _)⟩, by simp [intOf]; omega⟩
        · have hql' : ¬ (q : Int) < (ol.length : Int) := by omega
          go_wp2_with fail
          go_ret
          exact ⟨by simp, bl_trans hB5 hBT'⟩

set_option maxRecDepth 100000 in
theorem lifted (os : Os) (started : os.Started) (H : Type) (enc : TypeId × Value → H) :
    ReturnsInHanded {} Try.checked os 4 .any (Rows.fnGraphBySpec.pre6 enc Try.prog Try.f4 Rows.fnGraphByRow.domain false) (Rows.fnGraphBySpec.post enc Try.prog Try.f4 false true false false) := by
  refine returnsInHanded_of_change (C := Try.checked) own started (by kernel_rfl) Try.func4
    (ChangeSpec.witness6 (enc := enc) (C := Try.checked) false ⟨#[], #[.slice none 0 0], []⟩ 8 (by kernel_rfl) (by kernel_rfl) (by kernel_rfl) (by kernel_rfl)) ?_
  intro W base args ds gs before hval0 hW hcnd _
  have hval : ∀ (j : Nat) t v, Try.f4.params[j]? = some t → args[j]? = some v → Value.okWide Try.prog W .any base t v := hval0
  have hW' := hW
  obtain ⟨p, q, hA0, hV, rfl, hfz, hnd⟩ := hW
  have hA : DataW.TrodAll enc Try.prog W 0 (fun _ => true) true Try.f4.params.toList args.toList ds p := hA0
  rw [Try.params4] at hA hval
  obtain ⟨v0, vs0, d0, ds0, p0, q0, hargs, rfl, rfl, h0, r0⟩ := trodAll_cons hA
  obtain ⟨rfl, rfl, rfl⟩ := trodAll_nil r0
  obtain rfl : args = #[v0] := by cases args; simp_all
  obtain ⟨rfl, rfl⟩ := trodVars_none hV
  have k0 := h0
  have lt0 : ∀ x ∈ p0, x.block < W.heap.size := by obtain ⟨m, hm⟩ := k0; exact DataW.trod_lt m _ _ _ hm
  obtain ⟨a0, len0, cap0, hv0⟩ := okWide_slice Try.underlying22 (hval 0 22 v0 rfl rfl)
  obtain ⟨z0, w0⟩ : ∃ zs, IsRow .u8 W a0 len0 cap0 zs := by
    subst hv0
    obtain ⟨fuel, hf⟩ := h0
    rcases open_ints Try.underlying22 Try.underlying5 (by kernel_rfl) hf with ⟨hcs, _⟩ | ⟨x, l, c, zs, hcs, _, hl, hm, hz, _, hcell, hwz⟩
    · simp [Value.cells] at hcs
      obtain ⟨rfl, rfl, rfl⟩ := hcs
      exact ⟨[], .inl ⟨rfl, rfl, rfl, rfl⟩⟩
    · simp [Value.cells] at hcs
      obtain ⟨rfl, rfl, rfl⟩ := hcs
      exact ⟨zs, .inr ⟨_, rfl, hl, hm, by simpa using hz, hcell, hwz⟩⟩
  clear hA0 hval0
  subst hv0
  refine (walk a0 len0 cap0 z0 W w0).mono fun e W' ⟨he, bel⟩ => ?_
  subst he
  exact ⟨_, rfl, _, _, _, [], _, [], hW', trodAll_mk1 (shut_bool Try.underlying4 _), (trodAll_cons_mk (Below.trod laidOut (by kernel_rfl) (of_decide_eq_true (by kernel_rfl)) k0 bel lt0) trodAll_mk0), rfl, bel.frame _, fun h => by cases h⟩

theorem proved : Rows.FnGraphBySaid :=
  OpenClaim.holds_of_wide 4 Try.f4 rfl rfl rfl rfl rfl rfl rfl ⟨rfl, rfl, rfl, rfl, rfl⟩ rfl rfl rfl rfl rfl (by kernel_rfl) Try.func4 (by kernel_rfl)
    (of_decide_eq_true (by kernel_rfl)) (by unfold Func.isWrapper; first | (rw [if_pos (by decide +kernel)]; kernel_rfl) | (rw [if_neg (by decide +kernel)]; exact ⟨rfl, rfl⟩))
    (fun os started H enc _ => lifted os started H enc)
#print axioms proved
end Go.Proofs.Ytnmgeaonhbhbkaa.fnGraphBy
