/- For every slice of bytes the law FnFunRefs answers true, and the bytes read afterwards as they did. No condition. -/
import Derived.Test.YtdiaepjchcmelabBase
import Derived.WalkKit
import Derived.ProofKit
import Derived.OpenShut
import Derived.ShutString
import Derived.ChangeOld
import Derived.Below
import Derived.Lib.SmallJoins
import Derived.Deep.QuietTactic
import Derived.BigQuiet
import Derived.Test.YtdiaepjchcmelabInsA
import Derived.Test.YtdiaepjchcmelabFuns
import Derived.Test.YtdiaepjchcmelabOpen
import Derived.Test.YtdiaepjchcmelabFunS
import Derived.Test.YtdiaepjchcmelabKeep
import Derived.Test.YtdiaepjchcmelabUnitS
import Derived.Test.YtdiaepjchcmelabRefs
import Derived.Test.YtdiaepjchcmelabRd
import Derived.Test.YtdiaepjchcmelabDrawsU
namespace Go.Proofs.Ytdiaepjchcmelab.fnFunRefs
open Go.ChangeShapes Go.WideShapes Go.ChangeAt Go.RowKit Go.Joins
open Go.ChangeMaps (open_string shut_string)
open Go.Proofs.Ytdiaepjchcmelab.Base
open Go.Proofs.Ytdiaepjchcmelab.InsA
open Go.Proofs.Ytdiaepjchcmelab.Funs
open Go.Proofs.Ytdiaepjchcmelab.Open
open Go.Proofs.Ytdiaepjchcmelab.FunS
open Go.Proofs.Ytdiaepjchcmelab.Keep
open Go.Proofs.Ytdiaepjchcmelab.UnitS
open Go.Proofs.Ytdiaepjchcmelab.Refs
open Go.Proofs.Ytdiaepjchcmelab.Rd
open Go.Proofs.Ytdiaepjchcmelab.DrawsU
set_option linter.unusedVariables false
set_option maxRecDepth 100000
theorem own : ownKnob Try.prog.godebug = none := by kernel_rfl
theorem laidOut : laidOutB Try.prog = true := by kernel_rfl

theorem refs_le (nm : ByteArray) (xs : List InsD) : (funRefs nm xs).length ≤ 10 := by
  unfold funRefs
  cases h : funOkB nm xs
  · simp
  · exact Nat.le_trans (refs_len xs) (fun_le h)
/-- How many instructions of a body name something. -/
def cnt (xs : List InsD) : Nat := (xs.filter (fun x => refsB x.o)).length
theorem cnt_step {xs : List InsD} {k : Nat} (hk : k < xs.length) : cnt (xs.take (k + 1)) = if refsB xs[k].o then cnt (xs.take k) + 1 else cnt (xs.take k) := by
  unfold cnt
  rw [List.take_succ_eq_append_getElem hk, List.filter_append]
  cases h : refsB xs[k].o <;> simp [h]
theorem has_append (l : List ByteArray) (s t : ByteArray) : hasB (l ++ [s]) t = (hasB l t || (s.toList == t.toList)) := by simp [hasB]
theorem has_mono (xs : List InsD) : ∀ (acc : List ByteArray) (s : ByteArray), hasB acc s = true → hasB (xs.foldl refStep acc) s = true := by
  induction xs with
  | nil => intro acc s h; exact h
  | cons x r ih =>
    intro acc s h
    refine ih _ s ?_
    unfold refStep
    split
    · rw [has_append, h]; rfl
    · exact h
theorem refs_has {xs : List InsD} {k : Nat} (hk : k < xs.length) (h : refsB xs[k].o = true) : hasB (refsOf xs) xs[k].s = true := by
  have e : xs = xs.take k ++ xs[k] :: xs.drop (k + 1) := by rw [← List.drop_eq_getElem_cons hk, List.take_append_drop]
  have : refsOf xs = (xs.drop (k + 1)).foldl refStep (refStep (refsOf (xs.take k)) xs[k]) := by
    conv => lhs; rw [e]
    unfold refsOf
    rw [List.foldl_append]
    rfl
  rw [this]
  refine has_mono _ _ _ ?_
  unfold refStep
  rw [h]
  cases hh : hasB (refsOf (xs.take k)) xs[k].s
  · simp [has_append]
  · simpa using hh
theorem cnt_acc (xs : List InsD) : ∀ acc : List ByteArray, (xs.foldl refStep acc).length ≤ acc.length + cnt xs ∧ (cnt xs = 0 → xs.foldl refStep acc = acc) := by
  induction xs with
  | nil => intro acc; simp [cnt]
  | cons x r ih =>
    intro acc
    have hc : cnt (x :: r) = (if refsB x.o then 1 else 0) + cnt r := by unfold cnt; cases h : refsB x.o <;> simp [h]; omega
    obtain ⟨h1, h2⟩ := ih (refStep acc x)
    rw [List.foldl_cons, hc]
    cases h : refsB x.o
    · have e : refStep acc x = acc := by unfold refStep; rw [h]; rfl
      rw [e] at h1 h2 ⊢
      simpa using ⟨h1, h2⟩
    · have e : (refStep acc x).length ≤ acc.length + 1 := by unfold refStep; split <;> simp
      simp
      omega
theorem refs_cnt (xs : List InsD) : (refsOf xs).length ≤ cnt xs ∧ (cnt xs = 0 ↔ (refsOf xs).length = 0) := by
  obtain ⟨h1, h2⟩ := cnt_acc xs []
  refine ⟨by simpa [refsOf] using h1, fun h => by unfold refsOf; rw [h2 h]; rfl, fun h => ?_⟩
  by_cases hc : cnt xs = 0
  · exact hc
  · exfalso
    unfold cnt at hc
    obtain ⟨x, hx⟩ := List.exists_mem_of_length_pos (Nat.pos_of_ne_zero hc)
    obtain ⟨hm, hr⟩ := List.mem_filter.1 hx
    obtain ⟨k, hk, rfl⟩ := List.getElem_of_mem hm
    have := refs_has hk hr
    rw [List.length_eq_zero_iff.1 h] at this
    simp [hasB] at this

theorem other_refs {nm : ByteArray} {xs : List InsD} (h : funOkB nm xs = true) : funRefs ⟨#[111, 116, 104, 101, 114]⟩ xs = refsOf xs := by
  have : funOkB ⟨#[111, 116, 104, 101, 114]⟩ xs = true := by
    unfold funOkB at h ⊢
    simp only [Bool.and_eq_true] at h ⊢
    exact ⟨⟨⟨by decide, h.1.1.2⟩, h.1.2⟩, h.2⟩
  simp [funRefs, this]
theorem str_cell {w : World} {a : Option Addr} {n cap q : Nat} {ss : List ByteArray} (h : StrAt w (.slice a n cap) ss) (hq : q < ss.length) : ∃ g o, a = some ⟨g, o, none⟩ ∧ w.cell? ⟨g, o + q, none⟩ = some (.string ss[q]) := by
  obtain ⟨a', cap', e, _, _, hc⟩ := h
  simp only [Value.slice.injEq] at e
  obtain ⟨rfl, _, _⟩ := e
  obtain h0 | ⟨g, o, ha, hg⟩ := hc
  · rw [h0] at hq; simp at hq
  · exact ⟨g, o, ha, hg q hq⟩

set_option maxHeartbeats 4000000 in
theorem walk (a : Option Addr) (len cap : Nat) (zs : List Int) (W : World) (hrow : IsRow .u8 W a len cap zs) :
    Calls Try.prog 5 #[.slice a len cap] W fun e w' => e = .returned (.bool true) ∧ Below W.heap.size W w' := by
  obtain ⟨hl, hm, hb⟩ := isRow_bytes hrow
  by_cases hlt : (1048576 : Int) < len
  · go_enter Try.func5, Try.ntmps5
    go_wp2
    go_ret
    exact ⟨rfl, Below.refl _ _⟩
  have Hb := hide hb
  clear hb hrow
  go_enter Try.func5, Try.ntmps5
  go_wp2_with fail
  refine (drawRefsU_any _ _ _ _ hl hm (unhide Hb)).mono ?_
  rintro e w1 ⟨f, b, c, rfl, hnm, h1, h2, hrow, hb1⟩
  obtain ⟨nm, wk, xs⟩ := f
  simp only [] at hnm h1 hrow ⊢
  have hrl := refs_le nm xs
  obtain ⟨ss, hss⟩ : ∃ ss, ss = funRefs nm xs := ⟨_, rfl⟩
  have HSS := hide hss
  rw [← hss] at hrl
  have HST : Hid (Stable (fun w' => InsRow w' b xs ∧ w'.heap[w1.heap.size]? = some (.cells #[.string nm, .bool wk, .slice b xs.length c] 30) ∧ Below W.heap.size W w')) := (Stable.row _ _).and ((Stable.box _ _).and (Stable.below W))
  have HS1 : Hid ((fun w' => InsRow w' b xs ∧ w'.heap[w1.heap.size]? = some (.cells #[.string nm, .bool wk, .slice b xs.length c] 30) ∧ Below W.heap.size W w') (w1.alloc (.cells #[.string nm, .bool wk, .slice b xs.length c] 30))) := ⟨hrow.below (below_alloc1 _ _), new_block w1 _, bl_alloc hb1 _⟩
  clear hss hrow hb1 Hb
  go_wp2_with fail
  refine (implFunRefs_any nm wk b c xs _ hnm h1 h2 (unhide HS1).1).mono ?_
  rintro e w2 ⟨v1, rfl, hV1, hb2⟩
  rw [← unhide HSS] at hV1
  have HS2 := hide ((unhide HST).1 _ _ hb2 (unhide HS1))
  have HV1 := hide hV1.at
  clear hV1 hb2 HS1
  obtain ⟨⟨d0, d1, d2⟩, _⟩ := box3 (unhide HS2).2.1
  go_wp2_with fail
  refine (specFunRefs_any nm wk b c xs _ hnm h1 h2 (unhide HS2).1).mono ?_
  rintro e w3 ⟨v2, rfl, hV2, hb3⟩
  rw [← unhide HSS] at hV2
  have HS3 := hide ((unhide HST).1 _ _ hb3 (unhide HS2))
  have HV1' := hide ((unhide HV1).below hb3)
  have HV2 := hide hV2.at
  clear hV2 hb3 HS2 HV1 d0 d1 d2
  obtain ⟨⟨d0, d1, d2⟩, _⟩ := box3 (unhide HS3).2.1
  obtain ⟨a1, cap1, rfl, hq1, hq2, hc1⟩ := unhide HV1'
  obtain ⟨a2, cap2, rfl, hq3, hq4, hc2⟩ := unhide HV2
  clear hc1 hc2
  have hrl' : (ss.length : Int) ≤ 10 := by omega
  cases hok : funOkB nm xs
  · go_wp2_with fail
    refine (specFunOk_any nm wk b c xs _ hnm h1 h2 (unhide HS3).1).mono ?_
    rintro e w4 ⟨rfl, hb4⟩
    rw [hok]
    have hB4 := bl_trans (unhide HS3).2.2 hb4
    clear d0 d1 d2
    go_wp2_with fail
    go_ret
    exact ⟨rfl, hB4⟩
  · have HRF : Hid (ss = refsOf xs) := by show ss = refsOf xs; rw [unhide HSS]; simp [funRefs, hok]
    have hpos := fun_pos hok
    have hle := fun_le hok
    go_wp2_with fail
    refine (specFunOk_any nm wk b c xs _ hnm h1 h2 (unhide HS3).1).mono ?_
    rintro e w4 ⟨rfl, hb4⟩
    rw [hok]
    have HS4 := hide ((unhide HST).1 _ _ hb4 (unhide HS3))
    have HV1 := hide ((unhide HV1').below hb4)
    have HV2' := hide ((unhide HV2).below hb4)
    clear HS3 HV1' HV2 hb4 d0 d1 d2
    have HSI : Hid (Stable (fun w' => StrAt w' (.slice a1 ss.length cap1) ss ∧ StrAt w' (.slice a2 ss.length cap2) ss ∧ InsRow w' b xs ∧ w'.heap[w1.heap.size]? = some (.cells #[.string nm, .bool wk, .slice b xs.length c] 30) ∧ Below W.heap.size W w')) := (Stable.strAt _ _).and ((Stable.strAt _ _).and (unhide HST))
    have HI4 : Hid ((fun w' => StrAt w' (.slice a1 ss.length cap1) ss ∧ StrAt w' (.slice a2 ss.length cap2) ss ∧ InsRow w' b xs ∧ w'.heap[w1.heap.size]? = some (.cells #[.string nm, .bool wk, .slice b xs.length c] 30) ∧ Below W.heap.size W w') w4) := ⟨unhide HV1, unhide HV2', unhide HS4⟩
    clear HV1 HV2' HS4 HST
    have HCN := hide (refs_cnt xs)
    rw [← unhide HRF] at HCN
    obtain ⟨bb, off, rfl⟩ := (unhide HI4).2.2.1.get (by omega)
    go_wp2_with fail
    go_loopw [6, 7] (fun nn i w' => ∃ k : Nat, k ≤ xs.length ∧ i = .int .i64 k ∧ nn = .int .i64 (cnt (xs.take k) : Nat) ∧ cnt (xs.take k) ≤ k ∧ StrAt w' (.slice a1 ss.length cap1) ss ∧ StrAt w' (.slice a2 ss.length cap2) ss ∧ InsRow w' (some ⟨bb, off, none⟩) xs ∧ w'.heap[w1.heap.size]? = some (.cells #[.string nm, .bool wk, .slice (some ⟨bb, off, none⟩) xs.length c] 30) ∧ Below W.heap.size W w') (fun _ i _ => xs.length - (intOf i).toNat)
    case atStart => exact ⟨0, Nat.zero_le _, rfl, by simp [cnt], by simp [cnt], unhide HI4⟩
    case round =>
      obtain ⟨k, hk, rfl, rfl, hcn, hI⟩ := hrel
      have HI := hide hI
      clear hI HI4
      obtain ⟨⟨d0, d1, d2⟩, _⟩ := box3 (unhide HI).2.2.2.1
      by_cases hkl : k < xs.length
      · obtain ⟨c0, c1, c2, hks⟩ := (unhide HI).2.2.1.cells hkl
        have hkl' : (k : Int) < (xs.length : Int) := by omega
        have HCS := hide (cnt_step hkl)
        have HRH := hide (refs_has hkl)
        rw [← unhide HRF] at HRH
        generalize xs[k] = x at *
        generalize cnt (xs.take k) = n at *
        cases hrf : refsB x.o
        · have hn' : cnt (xs.take (k + 1)) = n := by have := unhide HCS; rw [hrf] at this; simpa using this
          go_wp2_with fail
          refine (implRefs_any _ _ _ _).mono ?_
          rintro e w5 ⟨rfl, hb5⟩
          rw [hrf]
          have HI5 := hide ((unhide HSI).1 _ _ hb5 (unhide HI))
          clear hb5 HI c0 c1 c2 d0 d1 d2
          go_wp2_with fail
          exact ⟨⟨k + 1, by omega, by go_num, by rw [hn'], by omega, unhide HI5⟩, by simp [intOf]; omega⟩
        · have hn' : cnt (xs.take (k + 1)) = n + 1 := by have := unhide HCS; rw [hrf] at this; simpa using this
          have hhas := unhide HRH hrf
          go_wp2_with fail
          refine (implRefs_any _ _ _ _).mono ?_
          rintro e w5 ⟨rfl, hb5⟩
          rw [hrf]
          have HI5 := hide ((unhide HSI).1 _ _ hb5 (unhide HI))
          have HC := hide ((Stable.cell ⟨bb, off + k * 3 + 2, none⟩ (.string x.s)).1 _ _ hb5 c2)
          clear hb5 HI c0 c1 c2 d0 d1 d2
          go_wp2_with fail
          go_loopw [8, 9] (fun so j w' => ∃ q : Nat, q ≤ ss.length ∧ j = .int .i64 q ∧ so = .bool (hasB (ss.take q) x.s) ∧ w'.cell? ⟨bb, off + k * 3 + 2, none⟩ = some (.string x.s) ∧ StrAt w' (.slice a1 ss.length cap1) ss ∧ StrAt w' (.slice a2 ss.length cap2) ss ∧ InsRow w' (some ⟨bb, off, none⟩) xs ∧ w'.heap[w1.heap.size]? = some (.cells #[.string nm, .bool wk, .slice (some ⟨bb, off, none⟩) xs.length c] 30) ∧ Below W.heap.size W w') (fun _ j _ => ss.length - (intOf j).toNat)
          case atStart => exact ⟨0, Nat.zero_le _, rfl, rfl, unhide HC, unhide HI5⟩
          case round =>
            obtain ⟨q, hq, rfl, rfl, hc0, hI⟩ := hrel
            have HI := hide hI
            clear hI HI5 HC
            obtain ⟨⟨d0, d1, d2⟩, _⟩ := box3 (unhide HI).2.2.2.1
            by_cases hql : q < ss.length
            · obtain ⟨a1', cap1', e1, _, _, hcc⟩ := (unhide HI).1
              obtain ⟨rfl, rfl⟩ : a1 = a1' ∧ cap1 = cap1' := by simpa using e1
              obtain h0 | ⟨g1, o1, rfl, hg1⟩ := hcc
              · rw [h0] at hql; simp at hql
              have r0 := hg1 q hql
              have hql' : (q : Int) < (ss.length : Int) := by omega
              have HHS : Hid (hasB (ss.take (q + 1)) x.s = (hasB (ss.take q) x.s || (ss[q].toList == x.s.toList))) := by
                show hasB _ _ = _
                rw [List.take_succ_eq_append_getElem hql, has_append]
              clear hg1 e1
              generalize ss[q] = t at *
              generalize hasB (ss.take q) x.s = so at *
              have hkl2 : (k : Int) < (xs.length : Int) := hkl'
              cases so
              · go_wp2_with fail
                go_quiet (fail)
                go_wp2
                exact ⟨⟨q + 1, by omega, by go_num, by rw [unhide HHS]; rfl, hc0, (unhide HSI).1 _ _ (below_draws _ _ _) (unhide HI)⟩, by simp [intOf]; omega⟩
              · go_wp2_with fail
                go_quiet (fail)
                go_wp2
                exact ⟨⟨q + 1, by omega, by go_num, by rw [unhide HHS]; rfl, hc0, (unhide HSI).1 _ _ (below_draws _ _ _) (unhide HI)⟩, by simp [intOf]; omega⟩
            · have hqe : q = ss.length := by omega
              subst hqe
              rw [List.take_length, hhas]
              go_wp2_with fail
              exact ⟨⟨k + 1, by omega, by go_num, by rw [hn']; go_num, by omega, unhide HI⟩, by simp [intOf]; omega⟩
      · have hke : k = xs.length := by omega
        subst hke
        rw [List.take_length]
        go_wp2_with fail
        refine (implFunRefs_any ⟨#[111, 116, 104, 101, 114]⟩ wk _ c xs _ (by decide) h1 h2 ((unhide HI).2.2.1.below (below_alloc1 _ _))).mono ?_
        rintro e w6 ⟨v3, rfl, hV3, hb6⟩
        rw [other_refs hok, ← unhide HRF] at hV3
        have hb6' := bl_trans (below_alloc1 wr _) hb6
        have HI6 := hide ((unhide HSI).1 _ _ hb6' (unhide HI))
        have HV3 := hide hV3.at
        clear hV3 hb6 hb6' HI d0 d1 d2
        obtain ⟨a3, cap3, rfl, hq5, hq6, hc3⟩ := unhide HV3
        clear hc3
        obtain ⟨hcl, hc0⟩ := unhide HCN
        have hcx : cnt xs ≤ 10 := by rw [List.take_length] at hcn; omega
        generalize cnt xs = n at *
        go_wp2_with fail
        go_loopw [12] (fun i w' => ∃ q : Nat, q ≤ ss.length ∧ i = .int .i64 q ∧ StrAt w' (.slice a3 ss.length cap3) ss ∧ StrAt w' (.slice a1 ss.length cap1) ss ∧ StrAt w' (.slice a2 ss.length cap2) ss ∧ Below W.heap.size W w') (fun i _ => ss.length - (intOf i).toNat)
        case atStart => exact ⟨0, Nat.zero_le _, rfl, unhide HV3, (unhide HI6).1, (unhide HI6).2.1, (unhide HI6).2.2.2.2⟩
        case round =>
          obtain ⟨q, hq, rfl, h3, hi1, hi2, hB⟩ := hrel
          have HJ := hide (And.intro h3 (And.intro hi1 (And.intro hi2 hB)))
          have HSJ : Hid (Stable (fun w' => StrAt w' (.slice a3 ss.length cap3) ss ∧ StrAt w' (.slice a1 ss.length cap1) ss ∧ StrAt w' (.slice a2 ss.length cap2) ss ∧ Below W.heap.size W w')) := (Stable.strAt _ _).and ((Stable.strAt _ _).and ((Stable.strAt _ _).and (Stable.below W)))
          clear h3 hi1 hi2 HI6 HV3
          by_cases hql : q < ss.length
          · obtain ⟨g3, o3, rfl, r3⟩ := str_cell (unhide HJ).1 hql
            obtain ⟨g1, o1, rfl, r1⟩ := str_cell (unhide HJ).2.1 hql
            obtain ⟨g2, o2, rfl, r2⟩ := str_cell (unhide HJ).2.2.1 hql
            have hql' : (q : Int) < (ss.length : Int) := by omega
            generalize ss[q] = t at *
            go_wp2_with fail
            go_quiet (fail)
            go_wp2
            exact ⟨⟨q + 1, by omega, by go_num, (unhide HSJ).1 _ _ (below_draws _ _ _) (unhide HJ)⟩, by simp [intOf]; omega⟩
          · have hql' : ¬ (q : Int) < (ss.length : Int) := by omega
            have hle1 : (ss.length : Int) ≤ (n : Int) := by omega
            clear hcn
            by_cases hn0 : n = 0
            · have hs0 : ss.length = 0 := hc0.1 hn0
              subst hn0
              rw [hs0] at hql' hle1 ⊢
              go_wp2_with fail
              go_ret
              exact ⟨rfl, hB⟩
            · have hs0 : ¬ ss.length = 0 := fun h => hn0 (hc0.2 h)
              have hn0' : ((n : Int) == 0) = false := beq_eq_false_iff_ne.2 (by omega)
              have hs0' : ((ss.length : Int) == 0) = false := beq_eq_false_iff_ne.2 (by omega)
              clear hc0
              go_wp2_with fail
              go_ret
              exact ⟨rfl, hB⟩

set_option maxRecDepth 100000 in
theorem lifted (os : Os) (started : os.Started) (H : Type) (enc : TypeId × Value → H) :
    ReturnsInHanded {} Try.checked os 5 .any (Rows.fnFunRefsSpec.pre6 enc Try.prog Try.f5 Rows.fnFunRefsRow.domain false) (Rows.fnFunRefsSpec.post enc Try.prog Try.f5 false true false false) := by
  refine returnsInHanded_of_change (C := Try.checked) own started (by kernel_rfl) Try.func5
    (ChangeSpec.witness6 (enc := enc) (C := Try.checked) false ⟨#[], #[.slice none 0 0], []⟩ 8 (by kernel_rfl) (by kernel_rfl) (by kernel_rfl) (by kernel_rfl)) ?_
  intro W base args ds gs before hval0 hW hcnd _
  have hval : ∀ (j : Nat) t v, Try.f5.params[j]? = some t → args[j]? = some v → Value.okWide Try.prog W .any base t v := hval0
  have hW' := hW
  obtain ⟨p, q, hA0, hV, rfl, hfz, hnd⟩ := hW
  have hA : DataW.TrodAll enc Try.prog W 0 (fun _ => true) true Try.f5.params.toList args.toList ds p := hA0
  rw [Try.params5] at hA hval
  obtain ⟨v0, vs0, d0, ds0, p0, q0, hargs, rfl, rfl, h0, r0⟩ := trodAll_cons hA
  obtain ⟨rfl, rfl, rfl⟩ := trodAll_nil r0
  obtain rfl : args = #[v0] := by cases args; simp_all
  obtain ⟨rfl, rfl⟩ := trodVars_none hV
  have k0 := h0
  have lt0 : ∀ x ∈ p0, x.block < W.heap.size := by obtain ⟨m, hm⟩ := k0; exact DataW.trod_lt m _ _ _ hm
  obtain ⟨a0, len0, cap0, hv0⟩ := okWide_slice Try.underlying22 (hval 0 22 v0 rfl rfl)
  obtain ⟨z0, w0⟩ : ∃ zs, IsRow .u8 W a0 len0 cap0 zs := by
    subst hv0
    obtain ⟨fuel, hf⟩ := h0
    rcases open_ints Try.underlying22 Try.underlying5 (by kernel_rfl) hf with ⟨hcs, _⟩ | ⟨x, l, c, zs, hcs, _, hl, hm, hz, _, hcell, hwz⟩
    · simp [Value.cells] at hcs
      obtain ⟨rfl, rfl, rfl⟩ := hcs
      exact ⟨[], .inl ⟨rfl, rfl, rfl, rfl⟩⟩
    · simp [Value.cells] at hcs
      obtain ⟨rfl, rfl, rfl⟩ := hcs
      exact ⟨zs, .inr ⟨_, rfl, hl, hm, by simpa using hz, hcell, hwz⟩⟩
  clear hA0 hval0
  subst hv0
  refine (walk a0 len0 cap0 z0 W w0).mono fun e W' ⟨he, bel⟩ => ?_
  subst he
  exact ⟨_, rfl, _, _, _, [], _, [], hW', trodAll_mk1 (shut_bool Try.underlying4 _), (trodAll_cons_mk (Below.trod laidOut (by kernel_rfl) (of_decide_eq_true (by kernel_rfl)) k0 bel lt0) trodAll_mk0), rfl, bel.frame _, fun h => by cases h⟩

theorem proved : Rows.FnFunRefsSaid :=
  OpenClaim.holds_of_wide 5 Try.f5 rfl rfl rfl rfl rfl rfl rfl ⟨rfl, rfl, rfl, rfl, rfl⟩ rfl rfl rfl rfl rfl (by kernel_rfl) Try.func5 (by kernel_rfl)
    (of_decide_eq_true (by kernel_rfl)) (by unfold Func.isWrapper; first | (rw [if_pos (by decide +kernel)]; kernel_rfl) | (rw [if_neg (by decide +kernel)]; exact ⟨rfl, rfl⟩))
    (fun os started H enc _ => lifted os started H enc)
#print axioms proved
end Go.Proofs.Ytdiaepjchcmelab.fnFunRefs
