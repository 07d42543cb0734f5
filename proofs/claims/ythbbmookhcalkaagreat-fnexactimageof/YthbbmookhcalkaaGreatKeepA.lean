/- The contracts of KeepOk of both sides: whether functions are a program. -/
import Derived.Test.YthbbmookhcalkaaGreatKeepD
import Derived.Test.YthbbmookhcalkaaGreatWantsM
namespace Go.Proofs.YthbbmookhcalkaaGreat.KeepA
open Go.ChangeShapes Go.WideShapes Go.ChangeAt Go.RowKit Go.Joins Go.WideMaps Go.Maps Go.Sort Go.Shelf
open Go.Proofs.YthbbmookhcalkaaGreat.Base Go.Proofs.YthbbmookhcalkaaGreat.InsA Go.Proofs.YthbbmookhcalkaaGreat.InsB Go.Proofs.YthbbmookhcalkaaGreat.Funs Go.Proofs.YthbbmookhcalkaaGreat.Open Go.Proofs.YthbbmookhcalkaaGreat.FunS Go.Proofs.YthbbmookhcalkaaGreat.Keep Go.Proofs.YthbbmookhcalkaaGreat.UnitS Go.Proofs.YthbbmookhcalkaaGreat.UnitM Go.Proofs.YthbbmookhcalkaaGreat.Refs Go.Proofs.YthbbmookhcalkaaGreat.Mark Go.Proofs.YthbbmookhcalkaaGreat.WantsS Go.Proofs.YthbbmookhcalkaaGreat.WantsI Go.Proofs.YthbbmookhcalkaaGreat.WantsL Go.Proofs.YthbbmookhcalkaaGreat.WantsK Go.Proofs.YthbbmookhcalkaaGreat.WantsM Go.Proofs.YthbbmookhcalkaaGreat.KeepD
set_option linter.unusedVariables false
set_option maxRecDepth 100000

def refsIn (fs : List FunD) (f : FunD) : Bool := (refsOf f.body).all fun r => decide (0 ≤ findI fs r)
theorem keep_is (fs : List FunD) : keepOkB fs = ((decide (1 ≤ fs.length) && decide (fs.length ≤ 40)) && fs.all okD && apartF fs && fs.all (refsIn fs)) := rfl
theorem keep_len {fs : List FunD} (h : ¬ (1 ≤ fs.length ∧ fs.length ≤ 40)) : false = keepOkB fs := by
  have : (decide (1 ≤ fs.length) && decide (fs.length ≤ 40)) = false := by rw [Bool.and_eq_false_iff, decide_eq_false_iff_not, decide_eq_false_iff_not]; omega
  rw [keep_is, this]; rfl
theorem keep_bad {fs : List FunD} {k : Nat} (hk : k < fs.length) (h : okD fs[k] = false) : false = keepOkB fs := by
  have : fs.all okD = false := by rw [List.all_eq_false]; exact ⟨fs[k], List.getElem_mem _, by simp [h]⟩
  rw [keep_is, this]; simp
theorem keep_twice {fs : List FunD} {k : Nat} (hk : k < fs.length) (h : findI fs fs[k].nm ≠ (k : Int)) : false = keepOkB fs := by
  rw [keep_is, apartF_bad hk h]; simp
theorem keep_ref {fs : List FunD} {k j : Nat} (hk : k < fs.length) (hj : j < (refsOf fs[k].body).length) (h : findI fs (refsOf fs[k].body)[j] < 0) : false = keepOkB fs := by
  have h1 : refsIn fs fs[k] = false := by
    unfold refsIn
    rw [List.all_eq_false]
    exact ⟨_, List.getElem_mem hj, by simp; omega⟩
  have : fs.all (refsIn fs) = false := by rw [List.all_eq_false]; exact ⟨fs[k], List.getElem_mem _, by simp [h1]⟩
  rw [keep_is, this]; simp
theorem refs_in {fs : List FunD} {f : FunD} (h : ∀ j (hj : j < (refsOf f.body).length), 0 ≤ findI fs (refsOf f.body)[j]) : refsIn fs f = true := by
  unfold refsIn
  rw [List.all_eq_true]
  intro r hr
  obtain ⟨j, hj, rfl⟩ := List.getElem_of_mem hr
  have := h j hj
  simp
  omega
theorem keep_end {fs : List FunD} (h0 : 1 ≤ fs.length ∧ fs.length ≤ 40) (h : ∀ i (hi : i < fs.length), okD fs[i] = true ∧ findI fs fs[i].nm = (i : Int)) (hr : ∀ i (hi : i < fs.length), refsIn fs fs[i] = true) : true = keepOkB fs := by
  have h1 : fs.all okD = true := by rw [List.all_eq_true]; intro f hf; obtain ⟨i, hi, rfl⟩ := List.getElem_of_mem hf; exact (h i hi).1
  have h2 : fs.all (refsIn fs) = true := by rw [List.all_eq_true]; intro f hf; obtain ⟨i, hi, rfl⟩ := List.getElem_of_mem hf; exact hr i hi
  rw [keep_is, h1, h2, apartF_all (fun i hi => (h i hi).2), decide_eq_true h0.1, decide_eq_true h0.2]; rfl
theorem keep_parts {fs : List FunD} (h : keepOkB fs = true) : 1 ≤ fs.length ∧ fs.length ≤ 40 ∧ (∀ f ∈ fs, funOkB f.nm f.body = true) ∧ apartF fs = true ∧ ∀ f ∈ fs, ∀ r ∈ refsOf f.body, 0 ≤ findI fs r := by
  rw [keep_is] at h
  simp only [Bool.and_eq_true, decide_eq_true_iff, List.all_eq_true] at h
  obtain ⟨⟨⟨⟨h1, h2⟩, h3⟩, h4⟩, h5⟩ := h
  refine ⟨h1, h2, h3, h4, fun f hf r hr => ?_⟩
  have := h5 f hf
  unfold refsIn at this
  rw [List.all_eq_true] at this
  simpa using this r hr

set_option maxHeartbeats 2000000 in
theorem specKeepOk_any (a : Option Addr) (cap : Nat) (fs : List FunD) (w : World) (hcap : fs.length ≤ cap) (hcm : cap ≤ maxLen) (hR : FunRow w a fs) :
    Calls Tryz.prog 53 #[.slice a fs.length cap] w fun e w' => e = .returned (.bool (keepOkB fs)) ∧ Below w.heap.size w w' := by
  have HR := hide hR
  have HZ := hide hR.sizes
  clear hR
  have hcm' := hcm
  unfold maxLen at hcm
  have hlen : (fs.length : Int) ≤ 9223372036854775807 := by omega
  by_cases hl1 : fs.length < 1
  · have hl1' : (fs.length : Int) < 1 := by omega
    have HE := hide (keep_len (fs := fs) (by omega))
    go_enter Tryz.func53, Tryz.ntmps53
    go_wp2_with fail
    go_ret
    exact ⟨ret_bool (unhide HE), Below.refl _ _⟩
  have hl1' : ¬ (fs.length : Int) < 1 := by omega
  by_cases hl40 : 40 < fs.length
  · have hl40' : (40 : Int) < (fs.length : Int) := by omega
    have HE := hide (keep_len (fs := fs) (by omega))
    go_enter Tryz.func53, Tryz.ntmps53
    go_wp2_with fail
    go_ret
    exact ⟨ret_bool (unhide HE), Below.refl _ _⟩
  have hl40' : ¬ (40 : Int) < (fs.length : Int) := by omega
  have HKE := hide (keep_end (fs := fs) ⟨by omega, by omega⟩)
  go_enter Tryz.func53, Tryz.ntmps53
  go_wp2_with fail
  go_loopw [3] (fun i w' => ∃ k : Nat, k ≤ fs.length ∧ i = .int .i64 k ∧ Hid (∀ i (h : i < fs.length), i < k → okD fs[i] = true ∧ findI fs fs[i].nm = (i : Int)) ∧ Below w.heap.size w w') (fun i _ => fs.length - (intOf i).toNat)
  case atStart => exact ⟨0, Nat.zero_le _, rfl, fun i h h0 => by omega, Below.refl _ _⟩
  case round =>
    obtain ⟨k, hk, rfl, HN, hB⟩ := hrel
    by_cases hkl : k < fs.length
    · obtain ⟨b, off, rfl⟩ := (unhide HR).get (by omega)
      have HW := hide ((unhide HR).below hB)
      obtain ⟨ai, ci, c0, c1, c2, hn, h4, h5, h6⟩ := (unhide HW).at hkl
      have H6 := hide h6
      clear h6
      have hkl' : (k : Int) < (fs.length : Int) := by omega
      have HB1 := hide (keep_bad hkl)
      have HB2 := hide (keep_twice hkl)
      have HD : Hid (okD fs[k] = funOkB fs[k].nm fs[k].body) := rfl
      have HX : Hid (okD fs[k] = true → findI fs fs[k].nm = (k : Int) → ∀ i (h : i < fs.length), i < k + 1 → okD fs[i] = true ∧ findI fs fs[i].nm = (i : Int)) := fun h1 h2 i hi hlt => by
        by_cases e : i = k
        · subst e; exact ⟨h1, h2⟩
        · exact unhide HN i hi (by omega)
      clear HKE
      generalize fs[k] = f at *
      cases hok : funOkB f.nm f.body
      · go_wp2_with fail
        refine (specFunOk_any f.nm f.wk ai ci f.body _ hn h4 h5 (unhide H6)).mono ?_
        rintro e w1 ⟨rfl, hb1⟩
        rw [hok]
        go_wp2_with fail
        go_ret
        exact ⟨ret_bool (unhide HB1 ((unhide HD).trans hok)), bl_trans hB hb1⟩
      · go_wp2_with fail
        refine (specFunOk_any f.nm f.wk ai ci f.body _ hn h4 h5 (unhide H6)).mono ?_
        rintro e w1 ⟨rfl, hb1⟩
        rw [hok]
        have HW1 := hide ((unhide HW).below hb1)
        replace c0 := ((Stable.cell ⟨b, off + k * 3, none⟩ (.string f.nm)).1 _ _ hb1 c0)
        have hB1 := bl_trans hB hb1
        clear c1 c2 hb1 hB
        by_cases hfi : findI fs f.nm = (k : Int)
        · go_wp2_with fail
          refine (specFind_any _ _ fs f.nm _ hn hcap hcm' (unhide HW1)).mono ?_
          rintro e w2 ⟨rfl, hb2⟩
          rw [hfi]
          go_wp2_with fail
          exact ⟨⟨k + 1, by omega, by go_num, unhide HX ((unhide HD).trans hok) hfi, bl_trans hB1 hb2⟩, by simp [intOf]; omega⟩
        · go_wp2_with fail
          refine (specFind_any _ _ fs f.nm _ hn hcap hcm' (unhide HW1)).mono ?_
          rintro e w2 ⟨rfl, hb2⟩
          go_wp2_with fail
          go_ret
          exact ⟨ret_bool (unhide HB2 hfi), bl_trans hB1 hb2⟩
    · have HALL : Hid (∀ i (h : i < fs.length), okD fs[i] = true ∧ findI fs fs[i].nm = (i : Int)) := fun i h => unhide HN i h (by omega)
      have hk' : ¬ (k : Int) < (fs.length : Int) := by omega
      clear HN
      go_wp2_with fail
      go_loopw [4] (fun i w' => ∃ k : Nat, k ≤ fs.length ∧ i = .int .i64 k ∧ Hid (∀ i (h : i < fs.length), i < k → refsIn fs fs[i] = true) ∧ Below w.heap.size w w') (fun i _ => fs.length - (intOf i).toNat)
      case atStart => exact ⟨0, Nat.zero_le _, rfl, fun i h h0 => by omega, hB⟩
      case round =>
        obtain ⟨k, hk, rfl, HN, hB⟩ := hrel
        by_cases hkl : k < fs.length
        · obtain ⟨b, off, rfl⟩ := (unhide HR).get (by omega)
          have HW := hide ((unhide HR).below hB)
          obtain ⟨ai, ci, c0, c1, c2, hn, h4, h5, h6⟩ := (unhide HW).at hkl
          have H6 := hide h6
          have hkl' : (k : Int) < (fs.length : Int) := by omega
          have h10 : fs[k].body.length ≤ 10 := fun_le (unhide HALL k hkl).1
          have HS := hide (refs_sized (xs := fs[k].body) (m := maxLen) h6.sizes)
          have hrl := refs_len fs[k].body
          have HRF := hide (fun j (hj : j < (refsOf fs[k].body).length) => keep_ref hkl hj)
          have HRI := hide (refs_in (fs := fs) (f := fs[k]))
          have HX : Hid (refsIn fs fs[k] = true → ∀ i (h : i < fs.length), i < k + 1 → refsIn fs fs[i] = true) := fun h1 i hi hlt => by
            by_cases e : i = k
            · subst e; exact h1
            · exact unhide HN i hi (by omega)
          clear h6 HKE HALL
          generalize fs[k] = f at *
          go_wp2_with fail
          refine (specRefsOf_any ai ci f.body _ (by omega) h4 h5 (unhide H6)).mono ?_
          rintro e w1 ⟨v, rfl, hV, hb1⟩
          have hB1 := bl_trans hB hb1
          have HV := hide hV.at
          clear hV hb1 hB c0 c1 c2 HW
          generalize refsOf f.body = rs at *
          obtain ⟨av, cv, rfl, hvc, hvm, hvr⟩ := unhide HV
          have HVR := hide hvr
          clear hvr
          go_wp2_with fail
          go_loopw [6] (fun i w' => ∃ j : Nat, j ≤ rs.length ∧ i = .int .i64 j ∧ Hid (∀ i (h : i < rs.length), i < j → 0 ≤ findI fs rs[i]) ∧ Below w1.heap.size w1 w') (fun i _ => rs.length - (intOf i).toNat)
          case atStart => exact ⟨0, Nat.zero_le _, rfl, fun i h h0 => by omega, Below.refl _ _⟩
          case round =>
            obtain ⟨j, hj, rfl, HJ, hBj⟩ := hrel
            by_cases hjl : j < rs.length
            · have hjl' : (j : Int) < (rs.length : Int) := by omega
              obtain h0 | ⟨b1, o1, rfl, hc⟩ := unhide HVR
              · rw [h0] at hjl; simp at hjl
              have r0 := (Stable.cell ⟨b1, o1 + j, none⟩ (.string rs[j])).1 _ _ hBj (hc j hjl)
              have hrs := unhide HS rs[j] (List.getElem_mem _)
              have HRJ := hide (unhide HRF j hjl)
              have HX2 : Hid (0 ≤ findI fs rs[j] → ∀ i (h : i < rs.length), i < j + 1 → 0 ≤ findI fs rs[i]) := fun h1 i hi hlt => by
                by_cases e : i = j
                · subst e; exact h1
                · exact unhide HJ i hi (by omega)
              clear hc
              generalize rs[j] = r at *
              by_cases hf : findI fs r < 0
              · go_wp2_with fail
                refine (specFind_any _ _ fs r _ hrs hcap hcm' ((unhide HR).below (bl_trans hB1 hBj))).mono ?_
                rintro e w2 ⟨rfl, hb2⟩
                go_wp2_with fail
                go_ret
                exact ⟨ret_bool (unhide HRJ hf), bl_trans hB1 (bl_trans hBj hb2)⟩
              · have HF0 := hide (unhide HX2 (by omega))
                go_wp2_with fail
                refine (specFind_any _ _ fs r _ hrs hcap hcm' ((unhide HR).below (bl_trans hB1 hBj))).mono ?_
                rintro e w2 ⟨rfl, hb2⟩
                go_wp2_with fail
                exact ⟨⟨j + 1, by omega, by go_num, unhide HF0, bl_trans hBj hb2⟩, by simp [intOf]; omega⟩
            · have hjl' : ¬ (j : Int) < (rs.length : Int) := by omega
              have HRK := hide (unhide HX (unhide HRI (fun i hi => unhide HJ i hi (by omega))))
              go_wp2_with fail
              exact ⟨⟨k + 1, by omega, by go_num, unhide HRK, bl_trans hB1 hBj⟩, by simp [intOf]; omega⟩
        · have hk' : ¬ (k : Int) < (fs.length : Int) := by omega
          have HE := hide (unhide HKE (unhide HALL) (fun i h => unhide HN i h (by omega)))
          go_wp2_with fail
          go_ret
          exact ⟨ret_bool (unhide HE), hB⟩

/-- What the program's way tells: as many names as functions, and nothing that is wanted. -/
theorem keep_wants {fs : List FunD} {out : List ByteArray} (h0 : 1 ≤ fs.length ∧ fs.length ≤ 40) (hok : ∀ i (hi : i < fs.length), okD fs[i] = true) (hap : apartF fs = true) (hw : Wants fs (bodyRefs fs fs.length) out) : (out.length == 0) = keepOkB fs := by
  have h1 : fs.all okD = true := by rw [List.all_eq_true]; intro f hf; obtain ⟨i, hi, rfl⟩ := List.getElem_of_mem hf; exact hok i hi
  have e : keepOkB fs = fs.all (refsIn fs) := by rw [keep_is, h1, hap, decide_eq_true h0.1, decide_eq_true h0.2]; simp
  rw [e, Bool.eq_iff_iff, beq_iff_eq, List.length_eq_zero_iff, List.all_eq_true]
  have hm : ∀ r, r ∈ bodyRefs fs fs.length ↔ ∃ f ∈ fs, r ∈ refsOf f.body := fun r => by
    unfold bodyRefs
    rw [List.take_length, List.mem_flatMap]
  constructor
  · intro h f hf
    unfold refsIn
    rw [List.all_eq_true]
    intro r hr
    rw [decide_eq_true_iff]
    refine Int.not_lt.1 fun hlt => ?_
    have := (hw.2 r.toList).2 ⟨r, (hm r).2 ⟨f, hf, hr⟩, rfl, hlt⟩
    rw [h] at this
    cases this
  · intro h
    cases ho : out with
    | nil => rfl
    | cons x t =>
      exfalso
      have hx : x.toList ∈ bl out := by rw [ho]; exact List.mem_cons_self ..
      obtain ⟨r, hr, _, hlt⟩ := (hw.2 x.toList).1 hx
      obtain ⟨f, hf, hr⟩ := (hm r).1 hr
      have h1 := h f hf
      unfold refsIn at h1
      rw [List.all_eq_true] at h1
      have := h1 r hr
      rw [decide_eq_true_iff] at this
      omega
theorem places_few {fs : List FunD} (h : Maps.size (PD fs fs.length) ≠ fs.length) : apartF fs = false := by
  have h2 := (PD_size fs (Nat.le_refl _)).2
  rw [List.take_length] at h2
  rw [← Bool.not_eq_true, ← h2]
  exact h
theorem places_all {fs : List FunD} (h : Maps.size (PD fs fs.length) = fs.length) : apartF fs = true := by
  have h2 := (PD_size fs (Nat.le_refl _)).2
  rw [List.take_length] at h2
  exact h2.1 h
theorem keep_apart {fs : List FunD} (h : apartF fs = false) : false = keepOkB fs := by rw [keep_is, h]; simp

set_option maxHeartbeats 2000000 in
theorem implKeepOk_any (a : Option Addr) (cap : Nat) (fs : List FunD) (w : World) (hcap : fs.length ≤ cap) (hcm : cap ≤ maxLen) (hR : FunRow w a fs) :
    Calls Tryz.prog 57 #[.slice a fs.length cap] w fun e w' => e = .returned (.bool (keepOkB fs)) ∧ Below w.heap.size w w' := by
  have HR := hide hR
  clear hR
  have hcm' := hcm
  unfold maxLen at hcm
  have hlen : (fs.length : Int) ≤ 9223372036854775807 := by omega
  by_cases hl1 : fs.length < 1
  · have hl1' : (fs.length : Int) < 1 := by omega
    have HE := hide (keep_len (fs := fs) (by omega))
    go_enter Tryz.func57, Tryz.ntmps57
    go_wp2_with fail
    go_ret
    exact ⟨ret_bool (unhide HE), Below.refl _ _⟩
  have hl1' : ¬ (fs.length : Int) < 1 := by omega
  by_cases hl40 : 40 < fs.length
  · have hl40' : (40 : Int) < (fs.length : Int) := by omega
    have HE := hide (keep_len (fs := fs) (by omega))
    go_enter Tryz.func57, Tryz.ntmps57
    go_wp2_with fail
    go_ret
    exact ⟨ret_bool (unhide HE), Below.refl _ _⟩
  have hl40' : ¬ (40 : Int) < (fs.length : Int) := by omega
  go_enter Tryz.func57, Tryz.ntmps57
  go_wp2_with fail
  go_loopw [15] (fun i w' => ∃ k : Nat, k ≤ fs.length ∧ i = .int .i64 k ∧ Hid (∀ i (h : i < fs.length), i < k → okD fs[i] = true) ∧ Below w.heap.size w w') (fun i _ => fs.length - (intOf i).toNat)
  case atStart => exact ⟨0, Nat.zero_le _, rfl, fun i h h0 => by omega, Below.refl _ _⟩
  case round =>
    obtain ⟨k, hk, rfl, HN, hB⟩ := hrel
    by_cases hkl : k < fs.length
    · obtain ⟨b, off, rfl⟩ := (unhide HR).get (by omega)
      obtain ⟨ai, ci, c0, c1, c2, hn, h4, h5, h6⟩ := ((unhide HR).below hB).at hkl
      have H6 := hide h6
      clear h6
      have hkl' : (k : Int) < (fs.length : Int) := by omega
      have HB1 := hide (keep_bad hkl)
      have HD : Hid (okD fs[k] = funOkB fs[k].nm fs[k].body) := rfl
      have HX : Hid (okD fs[k] = true → ∀ i (h : i < fs.length), i < k + 1 → okD fs[i] = true) := fun h1 i hi hlt => by
        by_cases e : i = k
        · subst e; exact h1
        · exact unhide HN i hi (by omega)
      generalize fs[k] = f at *
      cases hok : funOkB f.nm f.body
      · go_wp2_with fail
        refine (implFunOk_any f.nm f.wk ai ci f.body _ hn h4 h5 ((unhide H6).below (below_alloc1 _ _))).mono ?_
        rintro e w1 ⟨rfl, hb1⟩
        rw [hok]
        go_wp2_with fail
        go_ret
        exact ⟨ret_bool (unhide HB1 ((unhide HD).trans hok)), bl_trans (bl_alloc hB _) hb1⟩
      · go_wp2_with fail
        refine (implFunOk_any f.nm f.wk ai ci f.body _ hn h4 h5 ((unhide H6).below (below_alloc1 _ _))).mono ?_
        rintro e w1 ⟨rfl, hb1⟩
        rw [hok]
        go_wp2_with fail
        exact ⟨⟨k + 1, by omega, by go_num, unhide HX ((unhide HD).trans hok), bl_trans (bl_alloc hB _) hb1⟩, by simp [intOf]; omega⟩
    · have HALL : Hid (∀ i (h : i < fs.length), okD fs[i] = true) := fun i h => unhide HN i h (by omega)
      have HOK : Hid (∀ f ∈ fs, funOkB f.nm f.body = true) := fun f hf => by obtain ⟨i, hi, rfl⟩ := List.getElem_of_mem hf; exact unhide HALL i hi
      have hk' : ¬ (k : Int) < (fs.length : Int) := by omega
      clear HN
      go_wp2_with fail
      refine (places_any a cap fs _ hcap hcm' (by omega) ((unhide HR).below hB)).mono ?_
      rintro e w1 ⟨rfl, hown, hb1⟩
      have hB1 := bl_trans hB hb1
      have hsz := hown.size_le
      by_cases hpl : Maps.size (PD fs fs.length) = fs.length
      · have HAP := hide (places_all hpl)
        have HKW := hide (fun out => keep_wants (fs := fs) (out := out) ⟨by omega, by omega⟩ (unhide HALL) (unhide HAP))
        have hpl' : ((Maps.size (PD fs fs.length) : Nat) : Int) = (fs.length : Int) := by omega
        go_wp2_with (first | (at_len; refine wpList_len_own _ rfl _ 55 rfl 9 3 Tryz.underlying55 _ wr.heap.size fs.length _ rfl hown ?_))
        refine (wantsOf_any (fun v w' => ∃ out, Wants fs (bodyRefs fs fs.length) out ∧ StrOwn w' w1.heap.size v out ∧ Below w1.heap.size w1 w') a cap fs _ hcap hcm' (by omega) ((unhide HR).below hB1) (fun w2 hown hb2 => (inOrder_any _ _ _ _ hown (Nat.le_trans (map_size hown) (by omega))).mono ?_)).mono ?_
        · rintro e w3 ⟨v, ss, rfl, hS, hrow, hb3⟩
          refine ⟨v, rfl, _, keys_wants (unhide HOK) hown hS, ?_, bl_trans hb2 hb3⟩
          unfold StrOwn
          rw [← enc_mk, List.length_map, (List.mergeSort_perm ss leB).length_eq]
          exact ownsRow_base_a hrow hb2.size
        · rintro e w2 ⟨v, rfl, out, hW, hO, hb2⟩
          have HW := hide (unhide HKW out hW)
          obtain ⟨av, cv, rfl, _, _, _⟩ := hO.at
          have hB2 := bl_trans hB1 hb2
          clear hW hO hb2
          go_wp2_with fail
          go_ret
          exact ⟨ret_bool (by rw [← unhide HW, Bool.eq_iff_iff, beq_iff_eq, beq_iff_eq]; omega), hB2⟩
      · have HE := hide (keep_apart (places_few hpl))
        have hpl' : ¬ ((Maps.size (PD fs fs.length) : Nat) : Int) = (fs.length : Int) := by omega
        go_wp2_with (first | (at_len; refine wpList_len_own _ rfl _ 55 rfl 9 3 Tryz.underlying55 _ wr.heap.size fs.length _ rfl hown ?_) | go_in)
        go_ret
        exact ⟨ret_bool (unhide HE), hB1⟩
end Go.Proofs.YthbbmookhcalkaaGreat.KeepA
