/- For every slice of bytes the law FnUnitFind answers true, and the bytes read afterwards as they did. No condition. -/
import Derived.Test.YtdiaepjchcmelabBase
import Derived.WalkKit
import Derived.ProofKit
import Derived.OpenShut
import Derived.ShutString
import Derived.ChangeOld
import Derived.Below
import Derived.Lib.SmallJoins
import Derived.Test.YtdiaepjchcmelabFuns
import Derived.Test.YtdiaepjchcmelabOpen
import Derived.Test.YtdiaepjchcmelabFunS
import Derived.Test.YtdiaepjchcmelabKeep
import Derived.Test.YtdiaepjchcmelabUnitS
import Derived.Test.YtdiaepjchcmelabUnitM
import Derived.Test.YtdiaepjchcmelabRd
import Derived.Test.YtdiaepjchcmelabDrawsU
namespace Go.Proofs.Ytdiaepjchcmelab.fnUnitFind
open Go.ChangeShapes Go.WideShapes Go.ChangeAt Go.RowKit Go.Joins
open Go.ChangeMaps (open_string shut_string)
open Go.Proofs.Ytdiaepjchcmelab.Base
open Go.Proofs.Ytdiaepjchcmelab.Funs
open Go.Proofs.Ytdiaepjchcmelab.Open
open Go.Proofs.Ytdiaepjchcmelab.FunS
open Go.Proofs.Ytdiaepjchcmelab.Keep
open Go.Proofs.Ytdiaepjchcmelab.UnitS
open Go.Proofs.Ytdiaepjchcmelab.UnitM
open Go.Proofs.Ytdiaepjchcmelab.Rd
open Go.Proofs.Ytdiaepjchcmelab.DrawsU
set_option linter.unusedVariables false
set_option maxRecDepth 100000
theorem own : ownKnob Try.prog.godebug = none := by kernel_rfl
theorem laidOut : laidOutB Try.prog = true := by kernel_rfl

theorem ok_find {fs : List FunD} (h : unitOkB fs = true) {i : Nat} (hi : i < fs.length) : findI fs fs[i].nm = (i : Int) := by
  unfold unitOkB at h
  simp only [Bool.and_eq_true] at h
  have ha := (apartF_iff fs).1 h.2
  obtain ⟨j, hj, e, hji, hn⟩ := find_self hi
  rw [e]
  by_cases hlt : j < i
  · exact absurd hn (ha j i hj hi hlt)
  · have : j = i := by omega
    rw [this]
theorem find_same {fs : List FunD} {s t : ByteArray} (h : s.toList = t.toList) : findI fs s = findI fs t := by
  have : isNm s = isNm t := by funext f; simp [isNm, h]
  unfold findI
  rw [this]
theorem find_back {fs : List FunD} {s : ByteArray} (h : findI fs s ≠ -1) : ∃ k, ∃ hk : k < fs.length, findI fs s = (k : Int) ∧ (fs[k].nm.toList == s.toList) = true := by
  unfold findI at *
  by_cases hlt : fs.findIdx (isNm s) < fs.length
  · rw [if_pos hlt] at h ⊢
    exact ⟨_, hlt, rfl, List.findIdx_getElem (w := hlt)⟩
  · rw [if_neg hlt] at h
    exact absurd rfl h

set_option maxHeartbeats 2000000 in
theorem walk (a : Option Addr) (len cap : Nat) (zs : List Int) (W : World) (hrow : IsRow .u8 W a len cap zs) :
    Calls Try.prog 3 #[.slice a len cap] W fun e w' => e = .returned (.bool true) ∧ Below W.heap.size W w' := by
  obtain ⟨hl, hm, hb⟩ := isRow_bytes hrow
  by_cases hlt : (1048576 : Int) < len
  · go_enter Try.func3, Try.ntmps3
    go_wp2
    go_ret
    exact ⟨rfl, Below.refl _ _⟩
  have Hb := hide hb
  clear hb hrow
  go_enter Try.func3, Try.ntmps3
  go_wp2_with fail
  refine (drawFind_any _ _ _ _ hl hm (unhide Hb)).mono ?_
  rintro e w1 ⟨b, c, fs, x, rfl, hx, h1, h2, h3, h4, hrow, hb1⟩
  have HR := hide hrow
  clear hrow
  have hxm : x.size ≤ maxLen := by unfold maxLen; omega
  go_wp2_with fail
  refine (implUnitFind_any b c fs x _ hxm h1 h2 (unhide HR)).mono ?_
  rintro e w2 ⟨rfl, hb2⟩
  have hB2 := bl_trans hb1 hb2
  have HR2 := hide ((unhide HR).below hb2)
  clear hb1 hb2 HR
  go_wp2_with fail
  refine (specUnitFind_any b c fs x _ hxm h1 h2 (unhide HR2)).mono ?_
  rintro e w3 ⟨rfl, hb3⟩
  have hB3 := bl_trans hB2 hb3
  have HR3 := hide ((unhide HR2).below hb3)
  clear hb3 HR2 hB2
  cases hu : unitOkB fs
  · have hk : unitFindI fs x = -1 := by simp [unitFindI, hu]
    rw [hk]
    go_wp2_with fail
    refine (specUnitOk_any b c fs _ h1 h2 (unhide HR3)).mono ?_
    rintro e w4 ⟨rfl, hb4⟩
    rw [hu]
    have hB4 := bl_trans hB3 hb4
    go_wp2_with fail
    go_ret
    exact ⟨rfl, hB4⟩
  · have hk : unitFindI fs x = findI fs x := by simp [unitFindI, hu]
    have HKS : Hid (∀ i (hi : i < fs.length), unitFindI fs fs[i].nm = (i : Int)) := fun i hi => by
      have := ok_find hu hi
      simp [unitFindI, hu, this]
    have HKH : Hid (∀ i (hi : i < fs.length), (fs[i].nm.toList == x.toList) = true → findI fs x = (i : Int)) := fun i hi he => by
      rw [find_same (beq_iff_eq.1 he).symm]; exact ok_find hu hi
    have HBK : Hid (findI fs x ≠ -1 → ∃ k, ∃ hk : k < fs.length, findI fs x = (k : Int) ∧ (fs[k].nm.toList == x.toList) = true) := find_back
    rw [hk]
    clear hk
    generalize findI fs x = fi at *
    go_wp2_with fail
    refine (specUnitOk_any b c fs _ h1 h2 (unhide HR3)).mono ?_
    rintro e w4 ⟨rfl, hb4⟩
    rw [hu]
    have hB4 := bl_trans hB3 hb4
    have HR4 := hide ((unhide HR3).below hb4)
    clear hb4 HR3 hB3
    go_wp2_with fail
    go_loopw [6] (fun i w' => ∃ k : Nat, k ≤ fs.length ∧ i = .int .i64 k ∧ FunRow w' b fs ∧ Below W.heap.size W w') (fun i _ => fs.length - (intOf i).toNat)
    case atStart => exact ⟨0, Nat.zero_le _, rfl, unhide HR4, hB4⟩
    case round =>
      obtain ⟨k, hk, rfl, hrow, hB⟩ := hrel
      have HRk := hide hrow
      clear hrow HR4 hB4
      obtain ⟨bb, off, rfl⟩ := (unhide HRk).get (by omega)
      by_cases hkl : k < fs.length
      · obtain ⟨ai, ci, c0, c1, c2, hn, k4, k5, k6⟩ := (unhide HRk).at hkl
        have hkl' : (k : Int) < (fs.length : Int) := by omega
        have hks := unhide HKS k hkl
        have HKk := hide (unhide HKH k hkl)
        clear c1 c2 k6
        generalize fs[k] = f at *
        go_wp2_with fail
        refine (implUnitFind_any _ c fs f.nm _ hn h1 h2 (unhide HRk)).mono ?_
        rintro e w5 ⟨rfl, hb5⟩
        rw [hks]
        have hB5 := bl_trans hB hb5
        have HR5 := hide ((unhide HRk).below hb5)
        replace c0 := (Stable.cell ⟨bb, off + k * 3, none⟩ (.string f.nm)).1 _ _ hb5 c0
        clear hb5 HRk hB hks
        cases hq : (f.nm.toList == x.toList)
        · go_wp2_with fail
          exact ⟨⟨k + 1, by omega, by go_num, unhide HR5, hB5⟩, by simp [intOf]; omega⟩
        · have hfi : (fi == (k : Int)) = true := beq_iff_eq.2 (unhide HKk hq)
          go_wp2_with fail
          exact ⟨⟨k + 1, by omega, by go_num, unhide HR5, hB5⟩, by simp [intOf]; omega⟩
      · have hkl' : ¬ (k : Int) < (fs.length : Int) := by omega
        by_cases hm1 : fi = -1
        · subst hm1
          go_wp2_with fail
          go_ret
          exact ⟨rfl, hB⟩
        · obtain ⟨j, hj, hfj, hq⟩ := unhide HBK hm1
          obtain ⟨ai, ci, c0, c1, c2, hn, k4, k5, k6⟩ := (unhide HRk).at hj
          have hj' : (j : Int) < (fs.length : Int) := by omega
          clear c1 c2 k6
          generalize fs[j] = f at *
          subst hfj
          have hm1' : ((j : Int) == -1) = false := beq_eq_false_iff_ne.2 (by omega)
          go_wp2_with fail
          go_ret
          exact ⟨rfl, hB⟩

set_option maxRecDepth 100000 in
theorem lifted (os : Os) (started : os.Started) (H : Type) (enc : TypeId × Value → H) :
    ReturnsInHanded {} Try.checked os 3 .any (Rows.fnUnitFindSpec.pre6 enc Try.prog Try.f3 Rows.fnUnitFindRow.domain false) (Rows.fnUnitFindSpec.post enc Try.prog Try.f3 false true false false) := by
  refine returnsInHanded_of_change (C := Try.checked) own started (by kernel_rfl) Try.func3
    (ChangeSpec.witness6 (enc := enc) (C := Try.checked) false ⟨#[], #[.slice none 0 0], []⟩ 8 (by kernel_rfl) (by kernel_rfl) (by kernel_rfl) (by kernel_rfl)) ?_
  intro W base args ds gs before hval0 hW hcnd _
  have hval : ∀ (j : Nat) t v, Try.f3.params[j]? = some t → args[j]? = some v → Value.okWide Try.prog W .any base t v := hval0
  have hW' := hW
  obtain ⟨p, q, hA0, hV, rfl, hfz, hnd⟩ := hW
  have hA : DataW.TrodAll enc Try.prog W 0 (fun _ => true) true Try.f3.params.toList args.toList ds p := hA0
  rw [Try.params3] at hA hval
  obtain ⟨v0, vs0, d0, ds0, p0, q0, hargs, rfl, rfl, h0, r0⟩ := trodAll_cons hA
  obtain ⟨rfl, rfl, rfl⟩ := trodAll_nil r0
  obtain rfl : args = #[v0] := by cases args; simp_all
  obtain ⟨rfl, rfl⟩ := trodVars_none hV
  have k0 := h0
  have lt0 : ∀ x ∈ p0, x.block < W.heap.size := by obtain ⟨m, hm⟩ := k0; exact DataW.trod_lt m _ _ _ hm
  obtain ⟨a0, len0, cap0, hv0⟩ := okWide_slice Try.underlying22 (hval 0 22 v0 rfl rfl)
  obtain ⟨z0, w0⟩ : ∃ zs, IsRow .u8 W a0 len0 cap0 zs := by
    subst hv0
    obtain ⟨fuel, hf⟩ := h0
    rcases open_ints Try.underlying22 Try.underlying5 (by kernel_rfl) hf with ⟨hcs, _⟩ | ⟨x, l, c, zs, hcs, _, hl, hm, hz, _, hcell, hwz⟩
    · simp [Value.cells] at hcs
      obtain ⟨rfl, rfl, rfl⟩ := hcs
      exact ⟨[], .inl ⟨rfl, rfl, rfl, rfl⟩⟩
    · simp [Value.cells] at hcs
      obtain ⟨rfl, rfl, rfl⟩ := hcs
      exact ⟨zs, .inr ⟨_, rfl, hl, hm, by simpa using hz, hcell, hwz⟩⟩
  clear hA0 hval0
  subst hv0
  refine (walk a0 len0 cap0 z0 W w0).mono fun e W' ⟨he, bel⟩ => ?_
  subst he
  exact ⟨_, rfl, _, _, _, [], _, [], hW', trodAll_mk1 (shut_bool Try.underlying4 _), (trodAll_cons_mk (Below.trod laidOut (by kernel_rfl) (of_decide_eq_true (by kernel_rfl)) k0 bel lt0) trodAll_mk0), rfl, bel.frame _, fun h => by cases h⟩

theorem proved : Rows.FnUnitFindSaid :=
  OpenClaim.holds_of_wide 3 Try.f3 rfl rfl rfl rfl rfl rfl rfl ⟨rfl, rfl, rfl, rfl, rfl⟩ rfl rfl rfl rfl rfl (by kernel_rfl) Try.func3 (by kernel_rfl)
    (of_decide_eq_true (by kernel_rfl)) (by unfold Func.isWrapper; first | (rw [if_pos (by decide +kernel)]; kernel_rfl) | (rw [if_neg (by decide +kernel)]; exact ⟨rfl, rfl⟩))
    (fun os started H enc _ => lifted os started H enc)
#print axioms proved
end Go.Proofs.Ytdiaepjchcmelab.fnUnitFind
