/- The contract of the specification's FunOk. -/
import Derived.Test.YthbbmookhcalkaaGreatInsB
import Derived.Test.YthbbmookhcalkaaGreatFuns
namespace Go.Proofs.YthbbmookhcalkaaGreat.FunS
open Go.ChangeShapes Go.WideShapes Go.ChangeAt Go.RowKit Go.Joins
open Go.Proofs.YthbbmookhcalkaaGreat.Base Go.Proofs.YthbbmookhcalkaaGreat.InsA Go.Proofs.YthbbmookhcalkaaGreat.InsB Go.Proofs.YthbbmookhcalkaaGreat.Funs
open Go.Proofs.YthbbmookhcalkaaGreat.Name (nameB specName_any)
set_option linter.unusedVariables false
set_option maxRecDepth 100000

def insOkD (x : InsD) : Bool := insOkB x.o x.n x.s
def allOk (xs : List InsD) : Bool := xs.all insOkD
def lastD (xs : List InsD) : Bool := match xs.getLast? with | some x => lastB x.o | none => false
def funOkB (nm : ByteArray) (xs : List InsD) : Bool := nameB nm && (decide (1 ≤ xs.length) && decide (xs.length ≤ 10)) && lastD xs && allOk xs

theorem lastD_at {xs : List InsD} (h : 0 < xs.length) : lastD xs = lastB (xs[xs.length - 1]'(by omega)).o := by
  unfold lastD
  rw [List.getLast?_eq_getElem?, List.getElem?_eq_getElem (by omega)]
theorem all_bad {xs : List InsD} {k : Nat} (hk : k < xs.length) (h : insOkD xs[k] = false) : allOk xs = false := by
  unfold allOk
  rw [List.all_eq_false]
  exact ⟨xs[k], List.getElem_mem _, by simp [h]⟩
theorem all_step {xs : List InsD} {k : Nat} (hk : k < xs.length) (ha : allOk (xs.take k) = true) (h : insOkD xs[k] = true) : allOk (xs.take (k + 1)) = true := by
  unfold allOk at *
  rw [List.take_succ_eq_append_getElem hk, List.all_append, ha]
  simp [h]

theorem fun_len (nm : ByteArray) {xs : List InsD} (h : xs.length < 1 ∨ 10 < xs.length) : false = funOkB nm xs := by
  unfold funOkB
  have : (decide (1 ≤ xs.length) && decide (xs.length ≤ 10)) = false := by
    rw [Bool.and_eq_false_iff, decide_eq_false_iff_not, decide_eq_false_iff_not]; omega
  rw [this]; simp
theorem fun_eq {nm : ByteArray} {xs : List InsD} (hn : nameB nm = true) (h1 : 1 ≤ xs.length) (h2 : xs.length ≤ 10) : funOkB nm xs = (lastD xs && allOk xs) := by
  unfold funOkB
  rw [hn, decide_eq_true h1, decide_eq_true h2]
  simp

set_option maxHeartbeats 1000000 in
theorem specFunOk_any (nm : ByteArray) (wk : Bool) (a : Option Addr) (cap : Nat) (xs : List InsD) (w : World) (hnm : nm.size ≤ maxLen) (hcap : xs.length ≤ cap) (hcm : cap ≤ maxLen) (hR : InsRow w a xs) :
    Calls Tryz.prog 64 #[.agg #[.string nm, .bool wk, .slice a xs.length cap]] w fun e w' => e = .returned (.bool (funOkB nm xs)) ∧ Below w.heap.size w w' := by
  have HR := hide (hR.below (below_alloc1 w (.cells #[.string nm, .bool wk, .slice a xs.length cap] 51)))
  clear hR
  unfold maxLen at hcm
  have hl' : (xs.length : Int) ≤ 9223372036854775807 := by omega
  cases hn : nameB nm
  · go_enter Tryz.func64, Tryz.ntmps64
    go_wp2_with (go_at_call 71; refine (specName_any _ _ hnm).mono ?_; rintro e w1 ⟨rfl, rfl⟩)
    go_ret
    exact ⟨ret_bool (by simp [funOkB, hn]), below_alloc1 _ _⟩
  by_cases h1 : xs.length < 1
  · have h1' : (xs.length : Int) < 1 := by omega
    have HF := hide (fun_len nm (xs := xs) (by omega))
    go_enter Tryz.func64, Tryz.ntmps64
    go_wp2_with (go_at_call 71; refine (specName_any _ _ hnm).mono ?_; rintro e w1 ⟨rfl, rfl⟩)
    go_ret
    exact ⟨ret_bool (unhide HF), below_alloc1 _ _⟩
  have h1' : ¬ (xs.length : Int) < 1 := by omega
  by_cases h10 : 10 < xs.length
  · have h10' : (10 : Int) < (xs.length : Int) := by omega
    have HF := hide (fun_len nm (xs := xs) (by omega))
    go_enter Tryz.func64, Tryz.ntmps64
    go_wp2_with (go_at_call 71; refine (specName_any _ _ hnm).mono ?_; rintro e w1 ⟨rfl, rfl⟩)
    go_ret
    exact ⟨ret_bool (unhide HF), below_alloc1 _ _⟩
  have h10' : ¬ (10 : Int) < (xs.length : Int) := by omega
  obtain ⟨b, off, rfl⟩ := (unhide HR).get (by omega)
  obtain ⟨m, hm⟩ : ∃ m : Nat, m + 1 = xs.length := ⟨xs.length - 1, by omega⟩
  have hmi : (xs.length : Int) - 1 = (m : Int) := by omega
  have hml : (m : Int) < (xs.length : Int) := by omega
  obtain ⟨c0, c1, c2, _⟩ := (unhide HR).cells (k := m) (by omega)
  have hla : lastD xs = lastB (xs[m]'(by omega)).o := by
    rw [lastD_at (by omega)]
    have e : xs.length - 1 = m := by omega
    simp only [e]
  go_enter Tryz.func64, Tryz.ntmps64
  go_wp2_with (go_at_call 71; refine (specName_any _ _ hnm).mono ?_; rintro e w1 ⟨rfl, rfl⟩)
  refine (specLast_any _ _ _ _).mono ?_
  rintro e w2 ⟨rfl, hb2⟩
  have hB2 := bl_trans (below_alloc1 _ _) hb2
  have HR2 := hide ((unhide HR).below hb2)
  have HX2 := hide (box_below (new_block w _) hb2)
  clear c0 c1 c2 hb2
  rw [← hla]
  have HF := hide (fun_eq (nm := nm) (xs := xs) hn (by omega) (by omega))
  clear hla
  cases hL : lastD xs
  · go_wp2_with fail
    go_ret
    exact ⟨ret_bool (by rw [unhide HF, hL]; rfl), hB2⟩
  · go_wp2_with fail
    go_loopw [4] (fun i w' => ∃ k : Nat, k ≤ xs.length ∧ i = .int .i64 k ∧ allOk (xs.take k) = true ∧ InsRow w' (some ⟨b, off, none⟩) xs ∧ w'.heap[w.heap.size]? = some (.cells #[.string nm, .bool wk, .slice (some ⟨b, off, none⟩) xs.length cap] 51) ∧ Below w.heap.size w w') (fun i _ => xs.length - (intOf i).toNat)
    case atStart => exact ⟨0, Nat.zero_le _, rfl, rfl, unhide HR2, unhide HX2, hB2⟩
    case round =>
      obtain ⟨k, hk, rfl, ha, hO, hbx, hB⟩ := hrel
      have HA := hide ha
      have HO := hide hO
      have HX := hide hbx
      clear ha hO hbx
      obtain ⟨⟨d0, d1, d2⟩, _⟩ := box3 (unhide HX)
      by_cases hkl : k < xs.length
      · obtain ⟨c0, c1, c2, hks⟩ := (unhide HO).cells hkl
        have hkl' : (k : Int) < (xs.length : Int) := by omega
        have HK : Hid (insOkD xs[k] = insOkB xs[k].o xs[k].n xs[k].s) := rfl
        have HB1 := hide (all_bad hkl)
        have HB2 := hide (fun h => all_step hkl (unhide HA) h)
        generalize xs[k] = x at *
        cases hok : insOkB x.o x.n x.s
        · go_wp2_with (go_at_call 73; refine (specOk_any _ _ _ _ hks).mono ?_; rintro e w3 ⟨rfl, hb3⟩)
          go_ret
          exact ⟨ret_bool (by rw [unhide HF, unhide HB1 ((unhide HK).trans hok)]; simp), bl_trans hB hb3⟩
        · go_wp2_with (go_at_call 73; refine (specOk_any _ _ _ _ hks).mono ?_; rintro e w3 ⟨rfl, hb3⟩)
          exact ⟨⟨k + 1, by omega, by go_num, unhide HB2 ((unhide HK).trans hok), (unhide HO).below hb3, box_below (unhide HX) hb3, bl_trans hB hb3⟩, by simp [intOf]; omega⟩
      · go_wp2_with fail
        go_ret
        exact ⟨ret_bool (by rw [unhide HF, hL]; have h := unhide HA; rw [List.take_of_length_le (by omega)] at h; rw [h]; rfl), hB⟩
open Go.Proofs.YthbbmookhcalkaaGreat.Name (implName_any)
theorem all_take {xs : List InsD} {k : Nat} (hk : ¬ k < xs.length) (h : allOk (xs.take k) = true) : allOk xs = true := by
  rwa [List.take_of_length_le (by omega)] at h

set_option maxHeartbeats 1000000 in
theorem implFunOk_any (nm : ByteArray) (wk : Bool) (a : Option Addr) (cap : Nat) (xs : List InsD) (w : World) (hnm : nm.size ≤ maxLen) (hcap : xs.length ≤ cap) (hcm : cap ≤ maxLen) (hR : InsRow w a xs) :
    Calls Tryz.prog 68 #[.agg #[.string nm, .bool wk, .slice a xs.length cap]] w fun e w' => e = .returned (.bool (funOkB nm xs)) ∧ Below w.heap.size w w' := by
  have HR := hide (hR.below (below_alloc1 w (.cells #[.string nm, .bool wk, .slice a xs.length cap] 51)))
  clear hR
  unfold maxLen at hcm
  have hl' : (xs.length : Int) ≤ 9223372036854775807 := by omega
  cases hn : nameB nm
  · go_enter Tryz.func68, Tryz.ntmps68
    go_wp2_with (go_at_call 76; refine (implName_any _ _ hnm).mono ?_; rintro e w1 ⟨rfl, hb1⟩)
    go_ret
    exact ⟨ret_bool (by simp [funOkB, hn]), bl_trans (below_alloc1 _ _) hb1⟩
  by_cases h1 : xs.length < 1
  · have h1' : (xs.length : Int) < 1 := by omega
    have HF := hide (fun_len nm (xs := xs) (by omega))
    go_enter Tryz.func68, Tryz.ntmps68
    go_wp2_with (go_at_call 76; refine (implName_any _ _ hnm).mono ?_; rintro e w1 ⟨rfl, hb1⟩; obtain ⟨⟨d0, d1, d2⟩, _⟩ := box3 (box_below (new_block w _) hb1))
    go_ret
    exact ⟨ret_bool (unhide HF), bl_trans (below_alloc1 _ _) hb1⟩
  have h1' : ¬ (xs.length : Int) < 1 := by omega
  by_cases h10 : 10 < xs.length
  · have h10' : (10 : Int) < (xs.length : Int) := by omega
    have HF := hide (fun_len nm (xs := xs) (by omega))
    go_enter Tryz.func68, Tryz.ntmps68
    go_wp2_with (go_at_call 76; refine (implName_any _ _ hnm).mono ?_; rintro e w1 ⟨rfl, hb1⟩; obtain ⟨⟨d0, d1, d2⟩, _⟩ := box3 (box_below (new_block w _) hb1))
    go_ret
    exact ⟨ret_bool (unhide HF), bl_trans (below_alloc1 _ _) hb1⟩
  have h10' : ¬ (10 : Int) < (xs.length : Int) := by omega
  obtain ⟨b, off, rfl⟩ := (unhide HR).get (by omega)
  obtain ⟨m, hm⟩ : ∃ m : Nat, m + 1 = xs.length := ⟨xs.length - 1, by omega⟩
  have hmi : (xs.length : Int) - 1 = (m : Int) := by omega
  have hml : (m : Int) < (xs.length : Int) := by omega
  have HF := hide (fun_eq (nm := nm) (xs := xs) hn (by omega) (by omega))
  have hla : lastD xs = lastB (xs[m]'(by omega)).o := by
    rw [lastD_at (by omega)]
    have e : xs.length - 1 = m := by omega
    simp only [e]
  have HL := hide hla
  clear hla
  go_enter Tryz.func68, Tryz.ntmps68
  go_wp2_with (go_at_call 76; refine (implName_any _ _ hnm).mono ?_; rintro e w1 ⟨rfl, hb1⟩; obtain ⟨⟨d0, d1, d2⟩, _⟩ := box3 (box_below (new_block w _) hb1))
  have HR1 := hide ((unhide HR).below hb1)
  have HX1 := hide (box_below (new_block w _) hb1)
  have hB1 := bl_trans (below_alloc1 _ _) hb1
  clear hb1 d0 d1 d2
  go_loopw [24] (fun i w' => ∃ k : Nat, k ≤ xs.length ∧ i = .int .i64 k ∧ allOk (xs.take k) = true ∧ InsRow w' (some ⟨b, off, none⟩) xs ∧ w'.heap[w.heap.size]? = some (.cells #[.string nm, .bool wk, .slice (some ⟨b, off, none⟩) xs.length cap] 51) ∧ Below w.heap.size w w') (fun i _ => xs.length - (intOf i).toNat)
  case atStart => exact ⟨0, Nat.zero_le _, rfl, rfl, unhide HR1, unhide HX1, hB1⟩
  case round =>
    obtain ⟨k, hk, rfl, ha, hO, hbx, hB⟩ := hrel
    have HA := hide ha
    have HO := hide hO
    have HX := hide hbx
    clear ha hO hbx
    obtain ⟨⟨d0, d1, d2⟩, _⟩ := box3 (unhide HX)
    by_cases hkl : k < xs.length
    · obtain ⟨c0, c1, c2, hks⟩ := (unhide HO).cells hkl
      have hkl' : (k : Int) < (xs.length : Int) := by omega
      have HK : Hid (insOkD xs[k] = insOkB xs[k].o xs[k].n xs[k].s) := rfl
      have HB1 := hide (all_bad hkl)
      have HB2 := hide (fun h => all_step hkl (unhide HA) h)
      generalize xs[k] = x at *
      cases hok : insOkB x.o x.n x.s
      · go_wp2_with (go_at_call 77; refine (implOk_any _ _ _ _ hks).mono ?_; rintro e w3 ⟨rfl, hb3⟩)
        go_ret
        exact ⟨ret_bool (by rw [unhide HF, unhide HB1 ((unhide HK).trans hok)]; simp), bl_trans (bl_alloc hB _) hb3⟩
      · go_wp2_with (go_at_call 77; refine (implOk_any _ _ _ _ hks).mono ?_; rintro e w3 ⟨rfl, hb3⟩)
        exact ⟨⟨k + 1, by omega, by go_num, unhide HB2 ((unhide HK).trans hok), ((unhide HO).below (below_alloc1 _ _)).below hb3, box_below (box_below (unhide HX) (below_alloc1 _ _)) hb3, bl_trans (bl_alloc hB _) hb3⟩, by simp [intOf]; omega⟩
    · obtain ⟨c0, c1, c2, _⟩ := (unhide HO).cells (k := m) (by omega)
      have hA := hide (all_take hkl (unhide HA))
      go_wp2_with (go_at_call 78; refine (implLast_any _ _ _ _).mono ?_; rintro e w3 ⟨rfl, hb3⟩)
      go_ret
      exact ⟨ret_bool (by rw [unhide HF, unhide hA, unhide HL]; simp), bl_trans hB hb3⟩
end Go.Proofs.YthbbmookhcalkaaGreat.FunS
