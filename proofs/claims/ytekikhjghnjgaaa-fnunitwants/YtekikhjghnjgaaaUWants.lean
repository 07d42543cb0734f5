/- For every slice of bytes the law FnUnitWants answers true, and the bytes read afterwards as they did. No condition. -/
import Derived.Test.YtekikhjghnjgaaaBase
import Derived.WalkKit
import Derived.ProofKit
import Derived.OpenShut
import Derived.ShutString
import Derived.ChangeOld
import Derived.Below
import Derived.Lib.SmallJoins
import Derived.Deep.RegionHeld3
import Derived.BigQuiet
import Derived.Deep.QuietTactic
import Derived.Test.YtekikhjghnjgaaaFuns
import Derived.Test.YtekikhjghnjgaaaOpen
import Derived.Test.YtekikhjghnjgaaaInsA
import Derived.Test.YtekikhjghnjgaaaFunS
import Derived.Test.YtekikhjghnjgaaaKeep
import Derived.Test.YtekikhjghnjgaaaUnitS
import Derived.Test.YtekikhjghnjgaaaUnitM
import Derived.Test.YtekikhjghnjgaaaRefs
import Derived.Test.YtekikhjghnjgaaaMark
import Derived.Test.YtekikhjghnjgaaaWantsS
import Derived.Test.YtekikhjghnjgaaaWantsI
import Derived.Test.YtekikhjghnjgaaaWantsL
import Derived.Test.YtekikhjghnjgaaaWantsM
import Derived.Test.YtekikhjghnjgaaaRd
import Derived.Test.YtekikhjghnjgaaaDrawsU
namespace Go.Proofs.Ytekikhjghnjgaaa.fnUnitWants
open Go.ChangeShapes Go.WideShapes Go.ChangeAt Go.RowKit Go.Joins
open Go.ChangeMaps (open_string shut_string)
open Go.Proofs.Ytekikhjghnjgaaa.Base
open Go.Proofs.Ytekikhjghnjgaaa.Funs
open Go.Proofs.Ytekikhjghnjgaaa.Open
open Go.Proofs.Ytekikhjghnjgaaa.InsA
open Go.Proofs.Ytekikhjghnjgaaa.FunS
open Go.Proofs.Ytekikhjghnjgaaa.Keep
open Go.Proofs.Ytekikhjghnjgaaa.UnitS
open Go.Proofs.Ytekikhjghnjgaaa.UnitM
open Go.Proofs.Ytekikhjghnjgaaa.Refs
open Go.Proofs.Ytekikhjghnjgaaa.Mark
open Go.Proofs.Ytekikhjghnjgaaa.WantsS
open Go.Proofs.Ytekikhjghnjgaaa.WantsI
open Go.Proofs.Ytekikhjghnjgaaa.WantsL
open Go.Proofs.Ytekikhjghnjgaaa.WantsM
open Go.Proofs.Ytekikhjghnjgaaa.Rd
open Go.Proofs.Ytekikhjghnjgaaa.DrawsU
set_option linter.unusedVariables false
set_option maxRecDepth 100000
theorem own : ownKnob Try.prog.godebug = none := by kernel_rfl
theorem laidOut : laidOutB Try.prog = true := by kernel_rfl

/-- Whether a text is on the list. -/
def hasIn (l : List ByteArray) (x : ByteArray) : Bool := l.any (fun t => t.toList == x.toList)
theorem hasIn_snoc (l : List ByteArray) (t x : ByteArray) : hasIn (l ++ [t]) x = (hasIn l x || (t.toList == x.toList)) := by simp [hasIn]
theorem hasIn_mem {l : List ByteArray} {x : ByteArray} : hasIn l x = true ↔ ∃ t ∈ l, t.toList = x.toList := by simp [hasIn]
theorem refs_ok {f : FunD} (h : funOkB f.nm f.body = true) : funRefs f.nm f.body = refsOf f.body := by simp [funRefs, h]
theorem want_mem {fs : List FunD} {ns ss : List ByteArray} (h : Wants fs ns ss) {i : Nat} (hi : i < ss.length) : hasIn ns ss[i] = true ∧ findI fs ss[i] < 0 := by
  obtain ⟨t, ht, e, hf⟩ := (h.2 ss[i].toList).1 (List.mem_map.2 ⟨_, List.getElem_mem hi, rfl⟩)
  refine ⟨hasIn_mem.2 ⟨t, ht, e⟩, ?_⟩
  have : isNm t = isNm ss[i] := by funext f; simp [isNm, e]
  unfold findI at *
  rw [← this]
  exact hf
theorem want_lt {fs : List FunD} {ns ss : List ByteArray} (h : Wants fs ns ss) {i : Nat} (hi : i + 1 < ss.length) : ss[i].toList < ss[i + 1].toList := by
  have := List.pairwise_iff_getElem.1 h.1 i (i + 1) (by simpa [bl] using Nat.lt_of_succ_lt hi) (by simpa [bl] using hi) (by omega)
  simpa [bl] using this
theorem want_all {fs : List FunD} {ns ss : List ByteArray} (h : Wants fs ns ss) {t : ByteArray} (ht : t ∈ ns) (hf : findI fs t < 0) : hasIn ss t = true := by
  obtain ⟨y, hy, e⟩ := List.mem_map.1 ((h.2 t.toList).2 ⟨t, ht, rfl, hf⟩)
  exact hasIn_mem.2 ⟨y, hy, e⟩

theorem str_cell {w : World} {a : Option Addr} {n cap q : Nat} {ss : List ByteArray} (h : StrAt w (.slice a n cap) ss) (hq : q < ss.length) : ∃ g o, a = some ⟨g, o, none⟩ ∧ w.cell? ⟨g, o + q, none⟩ = some (.string ss[q]) := by
  obtain ⟨a', cap', e, _, _, hcc⟩ := h
  obtain h0 | ⟨g, o, h1, hg⟩ := hcc
  · rw [h0] at hq; simp at hq
  · simp only [Value.slice.injEq] at e
    exact ⟨g, o, by rw [e.1, h1], hg q hq⟩

theorem leq_no {x y : ByteArray} (h : ltS y x = true) : (Op.bytesLess x.toList y.toList || x.toList == y.toList) = false := by
  have h1 := ltS_iff.1 h
  rw [Bool.or_eq_false_iff]
  constructor
  · cases hc : Op.bytesLess x.toList y.toList
    · rfl
    · exact absurd (List.lt_trans h1 (ltS_iff.1 hc)) (List.lt_irrefl _)
  · cases hc : (x.toList == y.toList)
    · rfl
    · rw [beq_iff_eq.1 hc] at h1; exact absurd h1 (List.lt_irrefl _)
theorem size_of {a b : ByteArray} (h : a.toList = b.toList) : a.size = b.size := by
  rw [ByteArray.toList_eq, ByteArray.toList_eq] at h
  have := congrArg List.length h
  simpa using this
theorem want_size {fs : List FunD} {ss : List ByteArray} (h : Wants fs (bodyRefs fs fs.length) ss) (hs : ∀ f ∈ fs, f.nm.size ≤ maxLen ∧ f.body.length ≤ maxLen ∧ ∀ x ∈ f.body, x.s.size ≤ maxLen) {i : Nat} (hi : i < ss.length) : ss[i].size ≤ maxLen := by
  obtain ⟨t, ht, e, _⟩ := (h.2 ss[i].toList).1 (List.mem_map.2 ⟨_, List.getElem_mem hi, rfl⟩)
  rw [← size_of e]
  unfold bodyRefs at ht
  rw [List.take_length] at ht
  obtain ⟨f, hf, ht⟩ := List.mem_flatMap.1 ht
  exact refsOf_size (hs f hf).2.2 t ht
theorem refs_in {fs : List FunD} {q : Nat} (hq : q < fs.length) {t : ByteArray} (ht : t ∈ refsOf fs[q].body) : t ∈ bodyRefs fs fs.length := by
  unfold bodyRefs
  rw [List.take_length]
  exact List.mem_flatMap.2 ⟨_, List.getElem_mem hq, ht⟩
theorem hasIn_take {l : List ByteArray} {m : Nat} (h : m < l.length) (x : ByteArray) : hasIn (l.take (m + 1)) x = (hasIn (l.take m) x || (l[m].toList == x.toList)) := by rw [List.take_succ_eq_append_getElem h, hasIn_snoc]

set_option maxHeartbeats 8000000 in
theorem walk (a : Option Addr) (len cap : Nat) (zs : List Int) (W : World) (hrow : IsRow .u8 W a len cap zs) :
    Calls Try.prog 5 #[.slice a len cap] W fun e w' => e = .returned (.bool true) ∧ Below W.heap.size W w' := by
  obtain ⟨hl, hm, hb⟩ := isRow_bytes hrow
  by_cases hlt : (1048576 : Int) < len
  · go_enter Try.func5, Try.ntmps5
    go_wp2
    go_ret
    exact ⟨rfl, Below.refl _ _⟩
  have Hb := hide hb
  clear hb hrow
  go_enter Try.func5, Try.ntmps5
  go_wp2_with fail
  refine (drawWants_any _ _ _ _ hl hm (unhide Hb)).mono ?_
  rintro e w1 ⟨b, c, fs, rfl, h1, h2, h3, h4, hrow, hb1⟩
  have HR := hide hrow
  clear hrow
  go_wp2_with fail
  refine (implUWants_any b c fs _ h1 h2 (unhide HR)).mono ?_
  rintro e w2 ⟨v, ss, rfl, hU, hV, hb2⟩
  have hB2 := bl_trans hb1 hb2
  have HR2 := hide ((unhide HR).below hb2)
  have HV2 := hide hV.at
  have HU := hide hU
  clear hb1 hb2 HR hV hU
  go_wp2_with fail
  refine (specUWants_any b c fs _ h1 h2 (unhide HR2)).mono ?_
  rintro e w3 ⟨v', ss', rfl, hU', hl50, hV', hb3⟩
  obtain rfl := uwants_one (unhide HU) hU'
  have hS3 := And.intro ((unhide HR2).below hb3) (And.intro ((unhide HV2).below hb3) (And.intro hV'.at (bl_trans hB2 hb3)))
  have HS3 := hide hS3
  have HST : Hid (Stable (fun w' => FunRow w' b fs ∧ StrAt w' v ss ∧ StrAt w' v' ss ∧ Below W.heap.size W w')) := (Stable.frow _ _).and ((Stable.strAt _ _).and ((Stable.strAt _ _).and (Stable.below W)))
  obtain ⟨av, cv, rfl, hv1, hv2, _⟩ := unhide HV2
  obtain ⟨av', cv', rfl, hv1', hv2', _⟩ := hV'.at
  clear hU' hV' hb3 hB2 HR2 HV2 hS3
  cases hu : unitOkB fs
  · have hs0 : ss = [] := by have := unhide HU; simpa [UWants, hu] using this
    go_wp2_with fail
    refine (specUnitOk_any b c fs _ h1 h2 (unhide HS3).1).mono ?_
    rintro e w4 ⟨rfl, hb4⟩
    rw [hu]
    have hB4 := ((unhide HST).1 _ _ hb4 (unhide HS3)).2.2.2
    subst hs0
    go_wp2_with fail
    go_ret
    exact ⟨rfl, hB4⟩
  · have hW : Wants fs (bodyRefs fs fs.length) ss := by have := unhide HU; simpa [UWants, hu] using this
    have HW := hide hW
    obtain ⟨hf5, hf10, hok⟩ := unit_bodies hu
    have HOK := hide hok
    have HF10 := hide hf10
    clear hW hok hf10
    have hv3 : (ss.length : Int) ≤ 9223372036854775807 := by omega
    go_wp2_with fail
    refine (specUnitOk_any b c fs _ h1 h2 (unhide HS3).1).mono ?_
    rintro e w4 ⟨rfl, hb4⟩
    rw [hu]
    have HS4 := hide ((unhide HST).1 _ _ hb4 (unhide HS3))
    clear HS3 hb4
    go_wp2_with fail
    go_loopw [6] (fun i w' => ∃ m : Nat, m ≤ ss.length ∧ i = .int .i64 m ∧ FunRow w' b fs ∧ StrAt w' (.slice av ss.length cv) ss ∧ StrAt w' (.slice av' ss.length cv') ss ∧ Below W.heap.size W w') (fun i _ => ss.length - (intOf i).toNat)
    case atStart => exact ⟨0, Nat.zero_le _, rfl, unhide HS4⟩
    case round =>
      obtain ⟨m, hm, rfl, hS⟩ := hrel
      have HS := hide hS
      clear hS HS4
      by_cases hml : m < ss.length
      · obtain ⟨g1, o1, rfl, r1⟩ := str_cell (unhide HS).2.1 hml
        obtain ⟨g2, o2, rfl, r2⟩ := str_cell (unhide HS).2.2.1 hml
        obtain ⟨bb, off, rfl⟩ := (unhide HS).1.get (by omega)
        have hml' : (m : Int) < (ss.length : Int) := by omega
        obtain ⟨hx1, hx2⟩ := want_mem (unhide HW) hml
        obtain ⟨x, hx⟩ : ∃ x, x = ss[m] := ⟨_, rfl⟩
        rw [← hx] at hx1 hx2 r1 r2
        have HX := hide hx
        clear hx
        clear r1 r2
        go_wp2_with fail
        go_loopw [7, 8] (fun so k w' => ∃ q : Nat, q ≤ fs.length ∧ k = .int .i64 q ∧ so = .bool (hasIn (bodyRefs fs q) x) ∧ FunRow w' (some ⟨bb, off, none⟩) fs ∧ StrAt w' (.slice (some ⟨g1, o1, none⟩) ss.length cv) ss ∧ StrAt w' (.slice (some ⟨g2, o2, none⟩) ss.length cv') ss ∧ Below W.heap.size W w') (fun _ k _ => fs.length - (intOf k).toNat)
        case atStart => exact ⟨0, Nat.zero_le _, rfl, rfl, unhide HS⟩
        case round =>
          obtain ⟨q, hq, rfl, rfl, hS⟩ := hrel
          have HS' := hide hS
          clear hS HS
          by_cases hql : q < fs.length
          · obtain ⟨ai, ci, c0, c1, c2, hn, k4, k5, k6⟩ := (unhide HS').1.at hql
            have hql' : (q : Int) < (fs.length : Int) := by omega
            have hfr := refs_ok (unhide HOK fs[q] (List.getElem_mem _))
            have HS1 := hide (bodyRefs_succ hql)
            have hrl := Nat.le_trans (refs_len fs[q].body) (unhide HF10 _ (List.getElem_mem hql))
            generalize fs[q] = f at *
            have K6 := hide k6
            clear k6
            go_wp2_with fail
            refine (implFunRefs_any f.nm f.wk ai ci f.body _ hn k4 k5 (unhide K6)).mono ?_
            rintro e w5 ⟨rv, rfl, hV5, hb5⟩
            rw [hfr] at hV5
            have HS5 := hide ((unhide HST).1 _ _ hb5 (unhide HS'))
            have HV5 := hide hV5.at
            obtain ⟨ra, rc, rfl, hr1, hr2, _⟩ := hV5.at
            clear hV5 hb5 HS' c0 c1 c2 K6 hfr
            generalize refsOf f.body = rs at *
            go_wp2_with fail
            go_loopw [7, 10] (fun so j w' => ∃ p : Nat, p ≤ rs.length ∧ j = .int .i64 p ∧ so = .bool (hasIn (bodyRefs fs q ++ rs.take p) x) ∧ StrAt w' (.slice ra rs.length rc) rs ∧ FunRow w' (some ⟨bb, off, none⟩) fs ∧ StrAt w' (.slice (some ⟨g1, o1, none⟩) ss.length cv) ss ∧ StrAt w' (.slice (some ⟨g2, o2, none⟩) ss.length cv') ss ∧ Below W.heap.size W w') (fun _ j _ => rs.length - (intOf j).toNat)
            case atStart => exact ⟨0, Nat.zero_le _, rfl, by simp, unhide HV5, unhide HS5⟩
            case round =>
              obtain ⟨p, hp, rfl, rfl, hV, hS⟩ := hrel
              have HV := hide hV
              have HS' := hide hS
              clear hS hV HV5 HS5
              by_cases hpl : p < rs.length
              · obtain ⟨g3, o3, rfl, r3⟩ := str_cell (unhide HV) hpl
                obtain ⟨g1', o1', e1, r1⟩ := str_cell (unhide HS').2.1 hml
                obtain ⟨rfl, rfl⟩ : g1 = g1' ∧ o1 = o1' := by simpa using e1
                rw [← unhide HX] at r1
                have hpl' : (p : Int) < (rs.length : Int) := by omega
                have HHS : Hid (hasIn (bodyRefs fs q ++ rs.take (p + 1)) x = (hasIn (bodyRefs fs q ++ rs.take p) x || (rs[p].toList == x.toList))) := by
                  show hasIn _ _ = _
                  rw [List.take_succ_eq_append_getElem hpl, ← List.append_assoc, hasIn_snoc]
                clear e1
                generalize rs[p] = t at *
                generalize hasIn (bodyRefs fs q ++ rs.take p) x = so at *
                have HSV := hide (And.intro (unhide HV) (unhide HS'))
                clear HV HS'
                cases so
                · go_wp2_with fail
                  go_quiet (fail)
                  go_wp2
                  exact ⟨⟨p + 1, by omega, by go_num, by rw [unhide HHS]; rfl, ((Stable.strAt _ _).and (unhide HST)).1 _ _ (below_draws _ _ _) (unhide HSV)⟩, by simp [intOf]; omega⟩
                · go_wp2_with fail
                  go_quiet (fail)
                  go_wp2
                  exact ⟨⟨p + 1, by omega, by go_num, by rw [unhide HHS]; rfl, ((Stable.strAt _ _).and (unhide HST)).1 _ _ (below_draws _ _ _) (unhide HSV)⟩, by simp [intOf]; omega⟩
              · have hpe : p = rs.length := by omega
                subst hpe
                rw [List.take_length, ← unhide HS1]
                go_wp2_with fail
                exact ⟨⟨q + 1, by omega, by go_num, rfl, unhide HS'⟩, by simp [intOf]; omega⟩
          · have hqe : q = fs.length := by omega
            subst hqe
            rw [hx1]
            obtain ⟨g1', o1', e1, r1⟩ := str_cell (unhide HS').2.1 hml
            obtain ⟨rfl, rfl⟩ : g1 = g1' ∧ o1 = o1' := by simpa using e1
            obtain ⟨g2', o2', e2, r2⟩ := str_cell (unhide HS').2.2.1 hml
            obtain ⟨rfl, rfl⟩ : g2 = g2' ∧ o2 = o2' := by simpa using e2
            rw [← unhide HX] at r1 r2
            clear e1 e2
            have hxs : x.size ≤ maxLen := by rw [unhide HX]; exact want_size (unhide HW) (unhide HS').1.sizes hml
            have hUF : unitFindI fs x = -1 := by
              simp only [unitFindI, hu, if_true]
              unfold findI at hx2 ⊢
              split at hx2
              · omega
              · rename_i h; rw [if_neg h]
            have hS0 := And.intro (unhide HS').1 (And.intro (unhide HS').2.1 (And.intro (unhide HS').2.2.1 (And.intro r1 (And.intro r2 (unhide HS').2.2.2))))
            have HSA : Hid (Stable (fun w' => FunRow w' (some ⟨bb, off, none⟩) fs ∧ StrAt w' (.slice (some ⟨g1, o1, none⟩) ss.length cv) ss ∧ StrAt w' (.slice (some ⟨g2, o2, none⟩) ss.length cv') ss ∧ w'.cell? ⟨g1, o1 + m, none⟩ = some (.string x) ∧ w'.cell? ⟨g2, o2 + m, none⟩ = some (.string x) ∧ Below W.heap.size W w')) := (Stable.frow _ _).and ((Stable.strAt _ _).and ((Stable.strAt _ _).and ((Stable.cell _ _).and ((Stable.cell _ _).and (Stable.below W)))))
            clear r1 r2 HS'
            by_cases hm0 : m = 0
            · have hd1 : decide ((m : Int) > 0) = false := decide_eq_false (by omega)
              have hd2 : decide ((0 : Int) < (m : Int)) = false := decide_eq_false (by omega)
              have hd3 : decide (0 < m) = false := decide_eq_false (by omega)
              have hm1 : (0 : Int) ≤ (m : Int) := by omega
              have hm2 : ¬ (0 : Int) < (m : Int) := by omega
              clear hm0
              go_wp2_with fail
              refine wp_region_held_drew (S := fun w' => FunRow w' (some ⟨bb, off, none⟩) fs ∧ StrAt w' (.slice (some ⟨g1, o1, none⟩) ss.length cv) ss ∧ StrAt w' (.slice (some ⟨g2, o2, none⟩) ss.length cv') ss ∧ w'.cell? ⟨g1, o1 + m, none⟩ = some (.string x) ∧ w'.cell? ⟨g2, o2 + m, none⟩ = some (.string x) ∧ Below W.heap.size W w') (by kernel_rfl) ((unhide HSA).2 _ hS0) (fun hHeld => ?_)
              refine wpAnyH_take (i := 0) (oi := { dst := some 71, op := Go.Op.move (Go.Operand.tmp 7), type := 4, pos := "laws.go:119", after := #[], guard := none }) (v := ?v0) rfl (by kernel_rfl) (by kernel_rfl) (by kernel_rfl) (fun _ _ _ h => h) (Or.inl ⟨by rfl, ?y0⟩) (by assumption) ?r0
              case y0 => (intro w hSw; (try dsimp only at hSw); go_simp; try (with_reducible rfl))
              try simp only [Act.put, List.setIfInBounds_toArray, List.set_cons_zero, List.set_cons_succ]
              refine wpAnyH_take (i := 1) (oi := { dst := some 72, op := Go.Op.unOp Go.UnOp.not 4 (Go.Operand.tmp 71), type := 4, pos := "laws.go:119", after := #[{ on := 0, ground := Go.Ground.data }], guard := none }) (v := ?v1) rfl (by kernel_rfl) (by kernel_rfl) (by kernel_rfl) (fun _ _ _ h => h) (Or.inl ⟨by rfl, ?y1⟩) (by assumption) ?r1
              case y1 => (intro w hSw; (try dsimp only at hSw); go_simp; try (with_reducible rfl))
              try simp only [Act.put, List.setIfInBounds_toArray, List.set_cons_zero, List.set_cons_succ]
              refine wpAnyH_take (i := 2) (oi := { dst := some 73, op := Go.Op.move (Go.Operand.tmp 72), type := 4, pos := "laws.go:119", after := #[{ on := 1, ground := Go.Ground.data }], guard := none }) (v := ?v2) rfl (by kernel_rfl) (by kernel_rfl) (by kernel_rfl) (fun _ _ _ h => h) (Or.inl ⟨by rfl, ?y2⟩) (by assumption) ?r2
              case y2 => (intro w hSw; (try dsimp only at hSw); go_simp; try (with_reducible rfl))
              try simp only [Act.put, List.setIfInBounds_toArray, List.set_cons_zero, List.set_cons_succ]
              refine wpAnyH_take (i := 3) (oi := { dst := some 74, op := Go.Op.move (Go.Operand.tmp 4), type := 33, pos := "laws.go:119", after := #[{ on := 2, ground := Go.Ground.guard }], guard := some (2, false) }) (v := ?v3) rfl (by kernel_rfl) (by kernel_rfl) (by kernel_rfl) (fun _ _ _ h => h) (Or.inl ⟨by rfl, ?y3⟩) (by assumption) ?r3
              case y3 => (intro w hSw; (try dsimp only at hSw); go_simp; try (with_reducible rfl))
              try simp only [Act.put, List.setIfInBounds_toArray, List.set_cons_zero, List.set_cons_succ]
              refine wpAnyH_take (i := 4) (oi := { dst := some 75, op := Go.Op.move (Go.Operand.tmp 6), type := 3, pos := "laws.go:119", after := #[{ on := 2, ground := Go.Ground.guard }], guard := some (2, false) }) (v := ?v4) rfl (by kernel_rfl) (by kernel_rfl) (by kernel_rfl) (fun _ _ _ h => h) (Or.inl ⟨by rfl, ?y4⟩) (by assumption) ?r4
              case y4 => (intro w hSw; (try dsimp only at hSw); go_simp; try (with_reducible rfl))
              try simp only [Act.put, List.setIfInBounds_toArray, List.set_cons_zero, List.set_cons_succ]
              refine wpAnyH_take (i := 5) (oi := { dst := some 76, op := Go.Op.indexAddr 33 (Go.Operand.tmp 74) (Go.Operand.tmp 75), type := 0, pos := "laws.go:119", after := #[{ on := 3, ground := Go.Ground.data }, { on := 4, ground := Go.Ground.data }, { on := 2, ground := Go.Ground.guard }], guard := some (2, false) }) (v := ?v5) rfl (by kernel_rfl) (by kernel_rfl) (by kernel_rfl) (fun _ _ _ h => h) (Or.inl ⟨by rfl, ?y5⟩) (by assumption) ?r5
              case y5 => (intro w hSw; (try dsimp only at hSw); go_simp; try (with_reducible rfl))
              try simp only [Act.put, List.setIfInBounds_toArray, List.set_cons_zero, List.set_cons_succ]
              refine wpAnyH_take (i := 6) (oi := { dst := some 77, op := Go.Op.load 9 (Go.Operand.tmp 76), type := 9, pos := "laws.go:119", after := #[{ on := 5, ground := Go.Ground.data }, { on := 2, ground := Go.Ground.guard }], guard := some (2, false) }) (v := ?v6) rfl (by kernel_rfl) (by kernel_rfl) (by kernel_rfl) (fun _ _ _ h => h) (Or.inl ⟨by rfl, ?y6⟩) (by assumption) ?r6
              case y6 => (intro w hSw; (try dsimp only at hSw); go_simp; try (with_reducible rfl))
              try simp only [Act.put, List.setIfInBounds_toArray, List.set_cons_zero, List.set_cons_succ]
              refine wpAnyH_take (i := 7) (oi := { dst := some 78, op := Go.Op.move (Go.Operand.tmp 5), type := 33, pos := "laws.go:119", after := #[{ on := 2, ground := Go.Ground.guard }], guard := some (2, false) }) (v := ?v7) rfl (by kernel_rfl) (by kernel_rfl) (by kernel_rfl) (fun _ _ _ h => h) (Or.inl ⟨by rfl, ?y7⟩) (by assumption) ?r7
              case y7 => (intro w hSw; (try dsimp only at hSw); go_simp; try (with_reducible rfl))
              try simp only [Act.put, List.setIfInBounds_toArray, List.set_cons_zero, List.set_cons_succ]
              refine wpAnyH_take (i := 8) (oi := { dst := some 79, op := Go.Op.move (Go.Operand.tmp 6), type := 3, pos := "laws.go:119", after := #[{ on := 2, ground := Go.Ground.guard }], guard := some (2, false) }) (v := ?v8) rfl (by kernel_rfl) (by kernel_rfl) (by kernel_rfl) (fun _ _ _ h => h) (Or.inl ⟨by rfl, ?y8⟩) (by assumption) ?r8
              case y8 => (intro w hSw; (try dsimp only at hSw); go_simp; try (with_reducible rfl))
              try simp only [Act.put, List.setIfInBounds_toArray, List.set_cons_zero, List.set_cons_succ]
              refine wpAnyH_take (i := 9) (oi := { dst := some 80, op := Go.Op.indexAddr 33 (Go.Operand.tmp 78) (Go.Operand.tmp 79), type := 0, pos := "laws.go:119", after := #[{ on := 7, ground := Go.Ground.data }, { on := 8, ground := Go.Ground.data }, { on := 2, ground := Go.Ground.guard }], guard := some (2, false) }) (v := ?v9) rfl (by kernel_rfl) (by kernel_rfl) (by kernel_rfl) (fun _ _ _ h => h) (Or.inl ⟨by rfl, ?y9⟩) (by assumption) ?r9
              case y9 => (intro w hSw; (try dsimp only at hSw); go_simp; try (with_reducible rfl))
              try simp only [Act.put, List.setIfInBounds_toArray, List.set_cons_zero, List.set_cons_succ]
              refine wpAnyH_take (i := 10) (oi := { dst := some 81, op := Go.Op.load 9 (Go.Operand.tmp 80), type := 9, pos := "laws.go:119", after := #[{ on := 9, ground := Go.Ground.data }, { on := 2, ground := Go.Ground.guard }], guard := some (2, false) }) (v := ?v10) rfl (by kernel_rfl) (by kernel_rfl) (by kernel_rfl) (fun _ _ _ h => h) (Or.inl ⟨by rfl, ?y10⟩) (by assumption) ?r10
              case y10 => (intro w hSw; (try dsimp only at hSw); go_simp; try (with_reducible rfl))
              try simp only [Act.put, List.setIfInBounds_toArray, List.set_cons_zero, List.set_cons_succ]
              refine wpAnyH_take (i := 11) (oi := { dst := some 82, op := Go.Op.binOp Go.BinOp.neq 9 (Go.Operand.tmp 77) (Go.Operand.tmp 81) 9, type := 4, pos := "laws.go:119", after := #[{ on := 6, ground := Go.Ground.data }, { on := 10, ground := Go.Ground.data }, { on := 2, ground := Go.Ground.guard }], guard := some (2, false) }) (v := ?v11) rfl (by kernel_rfl) (by kernel_rfl) (by kernel_rfl) (fun _ _ _ h => h) (Or.inl ⟨by rfl, ?y11⟩) (by assumption) ?r11
              case y11 => (intro w hSw; (try dsimp only at hSw); go_simp; try (with_reducible rfl))
              try simp only [Act.put, List.setIfInBounds_toArray, List.set_cons_zero, List.set_cons_succ]
              refine wpAnyH_take (i := 12) (oi := { dst := some 83, op := Go.Op.pick (Go.Operand.tmp 73) (Go.Operand.const (Go.Value.bool true)) (Go.Operand.tmp 82), type := 4, pos := "laws.go:119", after := #[{ on := 2, ground := Go.Ground.data }, { on := 11, ground := Go.Ground.data }], guard := none }) (v := ?v12) rfl (by kernel_rfl) (by kernel_rfl) (by kernel_rfl) (fun _ _ _ h => h) (Or.inl ⟨by rfl, ?y12⟩) (by assumption) ?r12
              case y12 => (intro w hSw; (try dsimp only at hSw); go_simp; try (with_reducible rfl))
              try simp only [Act.put, List.setIfInBounds_toArray, List.set_cons_zero, List.set_cons_succ]
              refine wpAnyH_take (i := 13) (oi := { dst := some 84, op := Go.Op.move (Go.Operand.tmp 83), type := 4, pos := "laws.go:119", after := #[{ on := 12, ground := Go.Ground.data }, { on := 2, ground := Go.Ground.chain }], guard := none }) (v := ?v13) rfl (by kernel_rfl) (by kernel_rfl) (by kernel_rfl) (fun _ _ _ h => h) (Or.inl ⟨by rfl, ?y13⟩) (by assumption) ?r13
              case y13 => (intro w hSw; (try dsimp only at hSw); go_simp; try (with_reducible rfl))
              try simp only [Act.put, List.setIfInBounds_toArray, List.set_cons_zero, List.set_cons_succ]
              refine wpAnyH_take (i := 14) (oi := { dst := some 85, op := Go.Op.move (Go.Operand.tmp 3), type := 31, pos := "laws.go:119", after := #[{ on := 13, ground := Go.Ground.guard }], guard := some (13, false) }) (v := ?v14) rfl (by kernel_rfl) (by kernel_rfl) (by kernel_rfl) (fun _ _ _ h => h) (Or.inl ⟨by rfl, ?y14⟩) (by assumption) ?r14
              case y14 => (intro w hSw; (try dsimp only at hSw); go_simp; try (with_reducible rfl))
              try simp only [Act.put, List.setIfInBounds_toArray, List.set_cons_zero, List.set_cons_succ]
              refine wpAnyH_take (i := 15) (oi := { dst := some 86, op := Go.Op.move (Go.Operand.tmp 4), type := 33, pos := "laws.go:119", after := #[{ on := 13, ground := Go.Ground.guard }], guard := some (13, false) }) (v := ?v15) rfl (by kernel_rfl) (by kernel_rfl) (by kernel_rfl) (fun _ _ _ h => h) (Or.inl ⟨by rfl, ?y15⟩) (by assumption) ?r15
              case y15 => (intro w hSw; (try dsimp only at hSw); go_simp; try (with_reducible rfl))
              try simp only [Act.put, List.setIfInBounds_toArray, List.set_cons_zero, List.set_cons_succ]
              refine wpAnyH_take (i := 16) (oi := { dst := some 87, op := Go.Op.move (Go.Operand.tmp 6), type := 3, pos := "laws.go:119", after := #[{ on := 13, ground := Go.Ground.guard }], guard := some (13, false) }) (v := ?v16) rfl (by kernel_rfl) (by kernel_rfl) (by kernel_rfl) (fun _ _ _ h => h) (Or.inl ⟨by rfl, ?y16⟩) (by assumption) ?r16
              case y16 => (intro w hSw; (try dsimp only at hSw); go_simp; try (with_reducible rfl))
              try simp only [Act.put, List.setIfInBounds_toArray, List.set_cons_zero, List.set_cons_succ]
              refine wpAnyH_take (i := 17) (oi := { dst := some 88, op := Go.Op.indexAddr 33 (Go.Operand.tmp 86) (Go.Operand.tmp 87), type := 0, pos := "laws.go:119", after := #[{ on := 15, ground := Go.Ground.data }, { on := 16, ground := Go.Ground.data }, { on := 13, ground := Go.Ground.guard }], guard := some (13, false) }) (v := ?v17) rfl (by kernel_rfl) (by kernel_rfl) (by kernel_rfl) (fun _ _ _ h => h) (Or.inl ⟨by rfl, ?y17⟩) (by assumption) ?r17
              case y17 => (intro w hSw; (try dsimp only at hSw); go_simp; try (with_reducible rfl))
              try simp only [Act.put, List.setIfInBounds_toArray, List.set_cons_zero, List.set_cons_succ]
              refine wpAnyH_take (i := 18) (oi := { dst := some 89, op := Go.Op.load 9 (Go.Operand.tmp 88), type := 9, pos := "laws.go:119", after := #[{ on := 17, ground := Go.Ground.data }, { on := 13, ground := Go.Ground.guard }], guard := some (13, false) }) (v := ?v18) rfl (by kernel_rfl) (by kernel_rfl) (by kernel_rfl) (fun _ _ _ h => h) (Or.inl ⟨by rfl, ?y18⟩) (by assumption) ?r18
              case y18 => (intro w hSw; (try dsimp only at hSw); go_simp; try (with_reducible rfl))
              try simp only [Act.put, List.setIfInBounds_toArray, List.set_cons_zero, List.set_cons_succ]
              refine wpAnyH_ready (rs := [19]) (by kernel_rfl) (by simp) (AllReadyH.cons (o := { dst := some 90, op := Go.Op.call { callee := Go.Callee.value (Go.Operand.func 20), args := #[Go.Operand.tmp 85, Go.Operand.tmp 89], argTypes := #[31, 9] }, type := 3, pos := "laws.go:119", after := #[{ on := 14, ground := Go.Ground.data }, { on := 18, ground := Go.Ground.data }, { on := 13, ground := Go.Ground.chain }, { on := 13, ground := Go.Ground.guard }], guard := some (13, false) }) rfl (fun K hK => ?_) AllReadyH.nil)
              go_simp
              go_at_call 20
              refine (implUnitFind_any _ c fs x _ hxs h1 h2 hHeld.1).mono ?_
              rw [hUF]
              rintro e wk1 ⟨rfl, hbk⟩
              have hHeld2 := (unhide HSA).1 _ _ hbk hHeld
              go_wp2_with fail
              refine hK.out _ _ hHeld2 (fun _ => ?_)
              clear hK K hHeld hbk
              try simp only [Act.put, List.setIfInBounds_toArray, List.set_cons_zero, List.set_cons_succ]
              refine wpAnyH_take (i := 20) (oi := { dst := some 91, op := Go.Op.binOp Go.BinOp.geq 3 (Go.Operand.tmp 90) (Go.Operand.const (Go.Value.int Go.IntKind.i64 0)) 3, type := 4, pos := "laws.go:119", after := #[{ on := 19, ground := Go.Ground.data }, { on := 13, ground := Go.Ground.guard }], guard := some (13, false) }) (v := ?v20) rfl (by kernel_rfl) (by kernel_rfl) (by kernel_rfl) (fun _ _ _ h => h) (Or.inl ⟨by rfl, ?y20⟩) (by assumption) ?r20
              case y20 => (intro w hSw; (try dsimp only at hSw); go_simp; try (with_reducible rfl))
              try simp only [Act.put, List.setIfInBounds_toArray, List.set_cons_zero, List.set_cons_succ]
              refine wpAnyH_take (i := 21) (oi := { dst := some 92, op := Go.Op.pick (Go.Operand.tmp 84) (Go.Operand.const (Go.Value.bool true)) (Go.Operand.tmp 91), type := 4, pos := "laws.go:119", after := #[{ on := 13, ground := Go.Ground.data }, { on := 20, ground := Go.Ground.data }], guard := none }) (v := ?v21) rfl (by kernel_rfl) (by kernel_rfl) (by kernel_rfl) (fun _ _ _ h => h) (Or.inl ⟨by rfl, ?y21⟩) (by assumption) ?r21
              case y21 => (intro w hSw; (try dsimp only at hSw); go_simp; try (with_reducible rfl))
              try simp only [Act.put, List.setIfInBounds_toArray, List.set_cons_zero, List.set_cons_succ]
              refine wpAnyH_take (i := 22) (oi := { dst := some 93, op := Go.Op.move (Go.Operand.tmp 92), type := 4, pos := "laws.go:119", after := #[{ on := 21, ground := Go.Ground.data }, { on := 19, ground := Go.Ground.chain }], guard := none }) (v := ?v22) rfl (by kernel_rfl) (by kernel_rfl) (by kernel_rfl) (fun _ _ _ h => h) (Or.inl ⟨by rfl, ?y22⟩) (by assumption) ?r22
              case y22 => (intro w hSw; (try dsimp only at hSw); go_simp; try (with_reducible rfl))
              try simp only [Act.put, List.setIfInBounds_toArray, List.set_cons_zero, List.set_cons_succ]
              refine wpAnyH_take (i := 23) (oi := { dst := some 94, op := Go.Op.move (Go.Operand.tmp 6), type := 3, pos := "laws.go:119", after := #[{ on := 22, ground := Go.Ground.guard }], guard := some (22, false) }) (v := ?v23) rfl (by kernel_rfl) (by kernel_rfl) (by kernel_rfl) (fun _ _ _ h => h) (Or.inl ⟨by rfl, ?y23⟩) (by assumption) ?r23
              case y23 => (intro w hSw; (try dsimp only at hSw); go_simp; try (with_reducible rfl))
              try simp only [Act.put, List.setIfInBounds_toArray, List.set_cons_zero, List.set_cons_succ]
              refine wpAnyH_take (i := 24) (oi := { dst := some 95, op := Go.Op.binOp Go.BinOp.gtr 3 (Go.Operand.tmp 94) (Go.Operand.const (Go.Value.int Go.IntKind.i64 0)) 3, type := 4, pos := "laws.go:119", after := #[{ on := 23, ground := Go.Ground.data }, { on := 22, ground := Go.Ground.guard }], guard := some (22, false) }) (v := ?v24) rfl (by kernel_rfl) (by kernel_rfl) (by kernel_rfl) (fun _ _ _ h => h) (Or.inl ⟨by rfl, ?y24⟩) (by assumption) ?r24
              case y24 => (intro w hSw; (try dsimp only at hSw); go_simp; try (with_reducible rfl))
              try simp only [Act.put, List.setIfInBounds_toArray, List.set_cons_zero, List.set_cons_succ]
              refine wpAnyH_take (i := 25) (oi := { dst := some 96, op := Go.Op.move (Go.Operand.tmp 95), type := 4, pos := "laws.go:119", after := #[{ on := 24, ground := Go.Ground.data }, { on := 22, ground := Go.Ground.chain }, { on := 22, ground := Go.Ground.guard }], guard := some (22, false) }) (v := ?v25) rfl (by kernel_rfl) (by kernel_rfl) (by kernel_rfl) (fun _ _ _ h => h) (Or.inl ⟨by rfl, ?y25⟩) (by assumption) ?r25
              case y25 => (intro w hSw; (try dsimp only at hSw); go_simp; try (with_reducible rfl))
              try simp only [Act.put, List.setIfInBounds_toArray, List.set_cons_zero, List.set_cons_succ]
              try simp only [hd3]
              refine wpAnyH_take (i := 26) (oi := { dst := some 97, op := Go.Op.move (Go.Operand.tmp 4), type := 33, pos := "laws.go:119", after := #[{ on := 25, ground := Go.Ground.guard }], guard := some (25, true) }) (v := undef) rfl (by kernel_rfl) (by kernel_rfl) (by kernel_rfl) (fun _ _ _ h => h) (Or.inr ⟨by rfl, rfl⟩) (by assumption) ?_
              try simp only [Act.put, List.setIfInBounds_toArray, List.set_cons_zero, List.set_cons_succ]
              refine wpAnyH_take (i := 27) (oi := { dst := some 98, op := Go.Op.move (Go.Operand.tmp 6), type := 3, pos := "laws.go:119", after := #[{ on := 25, ground := Go.Ground.guard }], guard := some (25, true) }) (v := undef) rfl (by kernel_rfl) (by kernel_rfl) (by kernel_rfl) (fun _ _ _ h => h) (Or.inr ⟨by rfl, rfl⟩) (by assumption) ?_
              try simp only [Act.put, List.setIfInBounds_toArray, List.set_cons_zero, List.set_cons_succ]
              refine wpAnyH_take (i := 28) (oi := { dst := some 99, op := Go.Op.indexAddr 33 (Go.Operand.tmp 97) (Go.Operand.tmp 98), type := 0, pos := "laws.go:119", after := #[{ on := 26, ground := Go.Ground.data }, { on := 27, ground := Go.Ground.data }, { on := 25, ground := Go.Ground.guard }], guard := some (25, true) }) (v := undef) rfl (by kernel_rfl) (by kernel_rfl) (by kernel_rfl) (fun _ _ _ h => h) (Or.inr ⟨by rfl, rfl⟩) (by assumption) ?_
              try simp only [Act.put, List.setIfInBounds_toArray, List.set_cons_zero, List.set_cons_succ]
              refine wpAnyH_take (i := 29) (oi := { dst := some 100, op := Go.Op.load 9 (Go.Operand.tmp 99), type := 9, pos := "laws.go:119", after := #[{ on := 28, ground := Go.Ground.data }, { on := 25, ground := Go.Ground.guard }], guard := some (25, true) }) (v := undef) rfl (by kernel_rfl) (by kernel_rfl) (by kernel_rfl) (fun _ _ _ h => h) (Or.inr ⟨by rfl, rfl⟩) (by assumption) ?_
              try simp only [Act.put, List.setIfInBounds_toArray, List.set_cons_zero, List.set_cons_succ]
              refine wpAnyH_take (i := 30) (oi := { dst := some 101, op := Go.Op.move (Go.Operand.tmp 4), type := 33, pos := "laws.go:119", after := #[{ on := 25, ground := Go.Ground.guard }], guard := some (25, true) }) (v := undef) rfl (by kernel_rfl) (by kernel_rfl) (by kernel_rfl) (fun _ _ _ h => h) (Or.inr ⟨by rfl, rfl⟩) (by assumption) ?_
              try simp only [Act.put, List.setIfInBounds_toArray, List.set_cons_zero, List.set_cons_succ]
              refine wpAnyH_take (i := 31) (oi := { dst := some 102, op := Go.Op.move (Go.Operand.tmp 6), type := 3, pos := "laws.go:119", after := #[{ on := 25, ground := Go.Ground.guard }], guard := some (25, true) }) (v := undef) rfl (by kernel_rfl) (by kernel_rfl) (by kernel_rfl) (fun _ _ _ h => h) (Or.inr ⟨by rfl, rfl⟩) (by assumption) ?_
              try simp only [Act.put, List.setIfInBounds_toArray, List.set_cons_zero, List.set_cons_succ]
              refine wpAnyH_take (i := 32) (oi := { dst := some 103, op := Go.Op.binOp Go.BinOp.sub 3 (Go.Operand.tmp 102) (Go.Operand.const (Go.Value.int Go.IntKind.i64 1)) 3, type := 3, pos := "laws.go:119", after := #[{ on := 31, ground := Go.Ground.data }, { on := 25, ground := Go.Ground.guard }], guard := some (25, true) }) (v := undef) rfl (by kernel_rfl) (by kernel_rfl) (by kernel_rfl) (fun _ _ _ h => h) (Or.inr ⟨by rfl, rfl⟩) (by assumption) ?_
              try simp only [Act.put, List.setIfInBounds_toArray, List.set_cons_zero, List.set_cons_succ]
              refine wpAnyH_take (i := 33) (oi := { dst := some 104, op := Go.Op.indexAddr 33 (Go.Operand.tmp 101) (Go.Operand.tmp 103), type := 0, pos := "laws.go:119", after := #[{ on := 30, ground := Go.Ground.data }, { on := 32, ground := Go.Ground.data }, { on := 25, ground := Go.Ground.guard }], guard := some (25, true) }) (v := undef) rfl (by kernel_rfl) (by kernel_rfl) (by kernel_rfl) (fun _ _ _ h => h) (Or.inr ⟨by rfl, rfl⟩) (by assumption) ?_
              try simp only [Act.put, List.setIfInBounds_toArray, List.set_cons_zero, List.set_cons_succ]
              refine wpAnyH_take (i := 34) (oi := { dst := some 105, op := Go.Op.load 9 (Go.Operand.tmp 104), type := 9, pos := "laws.go:119", after := #[{ on := 33, ground := Go.Ground.data }, { on := 25, ground := Go.Ground.guard }], guard := some (25, true) }) (v := undef) rfl (by kernel_rfl) (by kernel_rfl) (by kernel_rfl) (fun _ _ _ h => h) (Or.inr ⟨by rfl, rfl⟩) (by assumption) ?_
              try simp only [Act.put, List.setIfInBounds_toArray, List.set_cons_zero, List.set_cons_succ]
              refine wpAnyH_take (i := 35) (oi := { dst := some 106, op := Go.Op.binOp Go.BinOp.leq 9 (Go.Operand.tmp 100) (Go.Operand.tmp 105) 9, type := 4, pos := "laws.go:119", after := #[{ on := 29, ground := Go.Ground.data }, { on := 34, ground := Go.Ground.data }, { on := 25, ground := Go.Ground.guard }], guard := some (25, true) }) (v := undef) rfl (by kernel_rfl) (by kernel_rfl) (by kernel_rfl) (fun _ _ _ h => h) (Or.inr ⟨by rfl, rfl⟩) (by assumption) ?_
              try simp only [Act.put, List.setIfInBounds_toArray, List.set_cons_zero, List.set_cons_succ]
              refine wpAnyH_take (i := 36) (oi := { dst := some 107, op := Go.Op.pick (Go.Operand.tmp 96) (Go.Operand.tmp 106) (Go.Operand.const (Go.Value.bool false)), type := 4, pos := "laws.go:119", after := #[{ on := 25, ground := Go.Ground.data }, { on := 35, ground := Go.Ground.data }, { on := 22, ground := Go.Ground.guard }], guard := some (22, false) }) (v := ?v36) rfl (by kernel_rfl) (by kernel_rfl) (by kernel_rfl) (fun _ _ _ h => h) (Or.inl ⟨by rfl, ?y36⟩) (by assumption) ?r36
              case y36 => (intro w hSw; (try dsimp only at hSw); go_simp; try (with_reducible rfl))
              try simp only [Act.put, List.setIfInBounds_toArray, List.set_cons_zero, List.set_cons_succ]
              refine wpAnyH_take (i := 37) (oi := { dst := some 108, op := Go.Op.pick (Go.Operand.tmp 93) (Go.Operand.const (Go.Value.bool true)) (Go.Operand.tmp 107), type := 4, pos := "laws.go:119", after := #[{ on := 22, ground := Go.Ground.data }, { on := 36, ground := Go.Ground.data }], guard := none }) (v := ?v37) rfl (by kernel_rfl) (by kernel_rfl) (by kernel_rfl) (fun _ _ _ h => h) (Or.inl ⟨by rfl, ?y37⟩) (by assumption) ?r37
              case y37 => (intro w hSw; (try dsimp only at hSw); go_simp; try (with_reducible rfl))
              try simp only [Act.put, List.setIfInBounds_toArray, List.set_cons_zero, List.set_cons_succ]
              refine wpAnyH_done (by kernel_rfl) ?_ _
              have HS9 := hide (And.intro hHeld2.1 (And.intro hHeld2.2.1 (And.intro hHeld2.2.2.1 hHeld2.2.2.2.2.2)))
              clear hS0 hHeld2
              go_wp2_with fail
              exact ⟨⟨m + 1, by omega, by go_num, unhide HS9⟩, by simp [intOf]; omega⟩
            · obtain ⟨j, hj⟩ : ∃ j, m = j + 1 := ⟨m - 1, by omega⟩
              obtain ⟨g1', o1', e1, r0⟩ := str_cell hS0.2.1 (show j < ss.length by omega)
              obtain ⟨rfl, rfl⟩ : g1 = g1' ∧ o1 = o1' := by simpa using e1
              have hlt' : ltS (ss[j]'(by omega)) x = true := by
                subst hj
                rw [unhide HX]
                exact ltS_iff.2 (want_lt (unhide HW) hml)
              generalize ss[j]'(by omega) = y at r0 hlt'
              have hleq : ∀ Wd : World, Sem.run Try.prog (binOp .leq 9 (.string x) (.string y)) Wd = .ok (.bool false) Wd := fun Wd => by
                have e : binOp .leq 9 (.string x) (.string y) = pure (.bool false) := by simp [binOp, Op.stringOp, leq_no hlt']
                rw [e]; rfl
              have hm1 : (0 : Int) ≤ (m : Int) := by omega
              have hm2 : (0 : Int) < (m : Int) := by omega
              have hm3 : 0 < m := by omega
              have hd1 : decide ((m : Int) > 0) = true := decide_eq_true hm2
              have hd2 : decide ((0 : Int) < (m : Int)) = true := decide_eq_true hm2
              have hj1 : (0 : Int) ≤ (j : Int) := by omega
              have hj2 : (j : Int) < (ss.length : Int) := by omega
              have hw1 : IntKind.i64.wrap ((m : Int) - 1) = (j : Int) := by rw [show (m : Int) - 1 = (j : Int) by omega, IntKind.wrap_i64]; omega
              clear hlt' e1 hj hm0
              have hS1 := And.intro r0 hS0
              have HSB : Hid (Stable (fun w' => w'.cell? ⟨g1, o1 + j, none⟩ = some (.string y) ∧ FunRow w' (some ⟨bb, off, none⟩) fs ∧ StrAt w' (.slice (some ⟨g1, o1, none⟩) ss.length cv) ss ∧ StrAt w' (.slice (some ⟨g2, o2, none⟩) ss.length cv') ss ∧ w'.cell? ⟨g1, o1 + m, none⟩ = some (.string x) ∧ w'.cell? ⟨g2, o2 + m, none⟩ = some (.string x) ∧ Below W.heap.size W w')) := (Stable.cell _ _).and (unhide HSA)
              clear r0 hS0 HSA
              go_wp2_with fail
              go_region_held3 (fun w' => w'.cell? ⟨g1, o1 + j, none⟩ = some (.string y) ∧ FunRow w' (some ⟨bb, off, none⟩) fs ∧ StrAt w' (.slice (some ⟨g1, o1, none⟩) ss.length cv) ss ∧ StrAt w' (.slice (some ⟨g2, o2, none⟩) ss.length cv') ss ∧ w'.cell? ⟨g1, o1 + m, none⟩ = some (.string x) ∧ w'.cell? ⟨g2, o2 + m, none⟩ = some (.string x) ∧ Below W.heap.size W w') (first | assumption | (refine (unhide HSB).1 _ _ hbk ?_; assumption) | (refine (unhide HSB).2 _ ?_; assumption))
                (first | (go_at_call 20; refine (implUnitFind_any _ c fs x _ hxs h1 h2 (by apply s1; assumption)).mono ?_; rw [hUF]; rintro e wk1 ⟨rfl, hbk⟩))
              have hS2 : (fun w' => w'.cell? ⟨g1, o1 + j, none⟩ = some (.string y) ∧ FunRow w' (some ⟨bb, off, none⟩) fs ∧ StrAt w' (.slice (some ⟨g1, o1, none⟩) ss.length cv) ss ∧ StrAt w' (.slice (some ⟨g2, o2, none⟩) ss.length cv') ss ∧ w'.cell? ⟨g1, o1 + m, none⟩ = some (.string x) ∧ w'.cell? ⟨g2, o2 + m, none⟩ = some (.string x) ∧ Below W.heap.size W w') wk1 := by assumption
              have HS9 := hide (And.intro hS2.2.1 (And.intro hS2.2.2.1 (And.intro hS2.2.2.2.1 hS2.2.2.2.2.2.2)))
              clear hS1 hS2
              go_wp2_with fail
              exact ⟨⟨m + 1, by omega, by go_num, unhide HS9⟩, by simp [intOf]; omega⟩
      · have hml' : ¬ (m : Int) < (ss.length : Int) := by omega
        go_wp2_with fail
        go_loopw [11] (fun k w' => ∃ q : Nat, q ≤ fs.length ∧ k = .int .i64 q ∧ FunRow w' b fs ∧ StrAt w' (.slice av ss.length cv) ss ∧ StrAt w' (.slice av' ss.length cv') ss ∧ Below W.heap.size W w') (fun k _ => fs.length - (intOf k).toNat)
        case atStart => exact ⟨0, Nat.zero_le _, rfl, unhide HS⟩
        case round =>
          obtain ⟨q, hq, rfl, hS⟩ := hrel
          have HS' := hide hS
          clear hS HS
          by_cases hql : q < fs.length
          · obtain ⟨bb, off, rfl⟩ := (unhide HS').1.get (by omega)
            obtain ⟨ai, ci, c0, c1, c2, hn, k4, k5, k6⟩ := (unhide HS').1.at hql
            have hql' : (q : Int) < (fs.length : Int) := by omega
            have hfr := refs_ok (unhide HOK fs[q] (List.getElem_mem _))
            have HIN := hide (fun t ht => refs_in hql (t := t) ht)
            have HRZ := hide (refsOf_size k6.sizes)
            have hrl := Nat.le_trans (refs_len fs[q].body) (unhide HF10 _ (List.getElem_mem hql))
            generalize fs[q] = f at *
            have K6 := hide k6
            clear k6
            go_wp2_with fail
            refine (implFunRefs_any f.nm f.wk ai ci f.body _ hn k4 k5 (unhide K6)).mono ?_
            rintro e w5 ⟨rv, rfl, hV5, hb5⟩
            rw [hfr] at hV5
            have HS5 := hide ((unhide HST).1 _ _ hb5 (unhide HS'))
            have HV5 := hide hV5.at
            obtain ⟨ra, rc, rfl, hr1, hr2, _⟩ := hV5.at
            clear hV5 hb5 HS' c0 c1 c2 K6 hfr
            generalize refsOf f.body = rs at *
            go_wp2_with fail
            go_loopw [13] (fun j w' => ∃ p : Nat, p ≤ rs.length ∧ j = .int .i64 p ∧ StrAt w' (.slice ra rs.length rc) rs ∧ FunRow w' (some ⟨bb, off, none⟩) fs ∧ StrAt w' (.slice av ss.length cv) ss ∧ StrAt w' (.slice av' ss.length cv') ss ∧ Below W.heap.size W w') (fun j _ => rs.length - (intOf j).toNat)
            case atStart => exact ⟨0, Nat.zero_le _, rfl, unhide HV5, unhide HS5⟩
            case round =>
              obtain ⟨p, hp, rfl, hV, hS⟩ := hrel
              have HV := hide hV
              have HS' := hide hS
              clear hS hV HV5 HS5
              by_cases hpl : p < rs.length
              · obtain ⟨g3, o3, rfl, r3⟩ := str_cell (unhide HV) hpl
                have hpl' : (p : Int) < (rs.length : Int) := by omega
                have hp0 : (0 : Int) ≤ (p : Int) := by omega
                have htz := unhide HRZ rs[p] (List.getElem_mem _)
                have HTI := hide (unhide HIN rs[p] (List.getElem_mem _))
                have HSV := hide (And.intro (unhide HV) (unhide HS'))
                have HRP : Hid (∀ w', StrAt w' (.slice (some ⟨g3, o3, none⟩) rs.length rc) rs → w'.cell? ⟨g3, o3 + p, none⟩ = some (.string rs[p])) := fun w' h => by
                  obtain ⟨g3', o3', e3, h3⟩ := str_cell h hpl
                  obtain ⟨rfl, rfl⟩ : g3 = g3' ∧ o3 = o3' := by simpa using e3
                  exact h3
                clear HV HS'
                generalize rs[p] = t at *
                have hUF : unitFindI fs t = findI fs t := by simp [unitFindI, hu]
                have HAL := hide (fun h => want_all (unhide HW) (unhide HTI) h)
                go_wp2_with fail
                refine (implUnitFind_any _ c fs t _ htz h1 h2 (unhide HSV).2.1).mono ?_
                rw [hUF]
                rintro e w6 ⟨rfl, hb6⟩
                have HSV6 := hide (((Stable.strAt _ _).and (unhide HST)).1 _ _ hb6 (unhide HSV))
                clear HSV hb6 r3
                generalize findI fs t = fi at *
                go_wp2_with fail
                go_loopw [14, 15] (fun hs i w' => ∃ m : Nat, m ≤ ss.length ∧ i = .int .i64 m ∧ hs = .bool (decide (0 ≤ fi) || hasIn (ss.take m) t) ∧ StrAt w' (.slice (some ⟨g3, o3, none⟩) rs.length rc) rs ∧ FunRow w' (some ⟨bb, off, none⟩) fs ∧ StrAt w' (.slice av ss.length cv) ss ∧ StrAt w' (.slice av' ss.length cv') ss ∧ Below W.heap.size W w') (fun _ i _ => ss.length - (intOf i).toNat)
                case atStart => exact ⟨0, Nat.zero_le _, rfl, by simp [hasIn], unhide HSV6⟩
                case round =>
                  obtain ⟨m, hm, rfl, rfl, hSV⟩ := hrel
                  have HSV := hide hSV
                  have r3 := unhide HRP _ hSV.1
                  clear hSV HSV6
                  by_cases hml : m < ss.length
                  · obtain ⟨g1, o1, rfl, r1⟩ := str_cell (unhide HSV).2.2.1 hml
                    have hml' : (m : Int) < (ss.length : Int) := by omega
                    have hm0 : (0 : Int) ≤ (m : Int) := by omega
                    have HHS : Hid ((decide (0 ≤ fi) || hasIn (ss.take (m + 1)) t) = ((decide (0 ≤ fi) || hasIn (ss.take m) t) || (ss[m].toList == t.toList))) := by show _ = _; rw [hasIn_take hml, Bool.or_assoc]
                    generalize ss[m] = x at *
                    generalize (decide (0 ≤ fi) || hasIn (ss.take m) t) = so at *
                    cases so
                    · go_wp2_with fail
                      go_quiet (fail)
                      go_wp2
                      exact ⟨⟨m + 1, by omega, by go_num, by rw [unhide HHS]; rfl, ((Stable.strAt _ _).and (unhide HST)).1 _ _ (below_draws _ _ _) (unhide HSV)⟩, by simp [intOf]; omega⟩
                    · go_wp2_with fail
                      go_quiet (fail)
                      go_wp2
                      exact ⟨⟨m + 1, by omega, by go_num, by rw [unhide HHS]; rfl, ((Stable.strAt _ _).and (unhide HST)).1 _ _ (below_draws _ _ _) (unhide HSV)⟩, by simp [intOf]; omega⟩
                  · have hml' : ¬ (m : Int) < (ss.length : Int) := by omega
                    have hme : m = ss.length := by omega
                    have hyes : (decide (0 ≤ fi) || hasIn (ss.take m) t) = true := by
                      rw [hme, List.take_length]
                      by_cases h0 : 0 ≤ fi
                      · simp [h0]
                      · rw [unhide HAL (by omega)]; simp
                    rw [hyes]
                    go_wp2_with fail
                    exact ⟨⟨p + 1, by omega, by go_num, unhide HSV⟩, by simp [intOf]; omega⟩
              · have hpl' : ¬ (p : Int) < (rs.length : Int) := by omega
                go_wp2_with fail
                exact ⟨⟨q + 1, by omega, by go_num, unhide HS'⟩, by simp [intOf]; omega⟩
          · have hql' : ¬ (q : Int) < (fs.length : Int) := by omega
            have hBe := (unhide HS').2.2.2
            go_wp2_with fail
            go_ret
            exact ⟨rfl, hBe⟩

set_option maxRecDepth 100000 in
theorem lifted (os : Os) (started : os.Started) (H : Type) (enc : TypeId × Value → H) :
    ReturnsInHanded {} Try.checked os 5 .any (Rows.fnUnitWantsSpec.pre6 enc Try.prog Try.f5 Rows.fnUnitWantsRow.domain false) (Rows.fnUnitWantsSpec.post enc Try.prog Try.f5 false true false false) := by
  refine returnsInHanded_of_change (C := Try.checked) own started (by kernel_rfl) Try.func5
    (ChangeSpec.witness6 (enc := enc) (C := Try.checked) false ⟨#[], #[.slice none 0 0], []⟩ 8 (by kernel_rfl) (by kernel_rfl) (by kernel_rfl) (by kernel_rfl)) ?_
  intro W base args ds gs before hval0 hW hcnd _
  have hval : ∀ (j : Nat) t v, Try.f5.params[j]? = some t → args[j]? = some v → Value.okWide Try.prog W .any base t v := hval0
  have hW' := hW
  obtain ⟨p, q, hA0, hV, rfl, hfz, hnd⟩ := hW
  have hA : DataW.TrodAll enc Try.prog W 0 (fun _ => true) true Try.f5.params.toList args.toList ds p := hA0
  rw [Try.params5] at hA hval
  obtain ⟨v0, vs0, d0, ds0, p0, q0, hargs, rfl, rfl, h0, r0⟩ := trodAll_cons hA
  obtain ⟨rfl, rfl, rfl⟩ := trodAll_nil r0
  obtain rfl : args = #[v0] := by cases args; simp_all
  obtain ⟨rfl, rfl⟩ := trodVars_none hV
  have k0 := h0
  have lt0 : ∀ x ∈ p0, x.block < W.heap.size := by obtain ⟨m, hm⟩ := k0; exact DataW.trod_lt m _ _ _ hm
  obtain ⟨a0, len0, cap0, hv0⟩ := okWide_slice Try.underlying22 (hval 0 22 v0 rfl rfl)
  obtain ⟨z0, w0⟩ : ∃ zs, IsRow .u8 W a0 len0 cap0 zs := by
    subst hv0
    obtain ⟨fuel, hf⟩ := h0
    rcases open_ints Try.underlying22 Try.underlying5 (by kernel_rfl) hf with ⟨hcs, _⟩ | ⟨x, l, c, zs, hcs, _, hl, hm, hz, _, hcell, hwz⟩
    · simp [Value.cells] at hcs
      obtain ⟨rfl, rfl, rfl⟩ := hcs
      exact ⟨[], .inl ⟨rfl, rfl, rfl, rfl⟩⟩
    · simp [Value.cells] at hcs
      obtain ⟨rfl, rfl, rfl⟩ := hcs
      exact ⟨zs, .inr ⟨_, rfl, hl, hm, by simpa using hz, hcell, hwz⟩⟩
  clear hA0 hval0
  subst hv0
  refine (walk a0 len0 cap0 z0 W w0).mono fun e W' ⟨he, bel⟩ => ?_
  subst he
  exact ⟨_, rfl, _, _, _, [], _, [], hW', trodAll_mk1 (shut_bool Try.underlying4 _), (trodAll_cons_mk (Below.trod laidOut (by kernel_rfl) (of_decide_eq_true (by kernel_rfl)) k0 bel lt0) trodAll_mk0), rfl, bel.frame _, fun h => by cases h⟩

theorem proved : Rows.FnUnitWantsSaid :=
  OpenClaim.holds_of_wide 5 Try.f5 rfl rfl rfl rfl rfl rfl rfl ⟨rfl, rfl, rfl, rfl, rfl⟩ rfl rfl rfl rfl rfl (by kernel_rfl) Try.func5 (by kernel_rfl)
    (of_decide_eq_true (by kernel_rfl)) (by unfold Func.isWrapper; first | (rw [if_pos (by decide +kernel)]; kernel_rfl) | (rw [if_neg (by decide +kernel)]; exact ⟨rfl, rfl⟩))
    (fun os started H enc _ => lifted os started H enc)
#print axioms proved
end Go.Proofs.Ytekikhjghnjgaaa.fnUnitWants
