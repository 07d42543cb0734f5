/- The contract of the specification's FunOk. -/
import Derived.Test.YthbbmookhcalkaaGreatDoorPkbd044065
import Derived.Test.YthbbmookhcalkaaGreatDoorFuns
namespace Go.Proofs.YthbbmookhcalkaaGreatDoor.FunS
open Go.ChangeShapes Go.WideShapes Go.ChangeAt Go.RowKit Go.Joins
open Go.Proofs.YthbbmookhcalkaaGreatDoor.Base Go.Proofs.YthbbmookhcalkaaGreatDoor.InsA Go.Proofs.YthbbmookhcalkaaGreatDoor.InsB Go.Proofs.YthbbmookhcalkaaGreatDoor.Funs
open Go.Proofs.YthbbmookhcalkaaGreatDoor.Name (nameB specName_any)
set_option linter.unusedVariables false
set_option maxRecDepth 100000

def insOkD (x : InsD) : Bool := insOkB x.o x.n x.s
def allOk (xs : List InsD) : Bool := xs.all insOkD
def lastD (xs : List InsD) : Bool := match xs.getLast? with | some x => lastB x.o | none => false
def funOkB (nm : ByteArray) (xs : List InsD) : Bool := nameB nm && (decide (1 ≤ xs.length) && decide (xs.length ≤ 10)) && lastD xs && allOk xs

theorem lastD_at {xs : List InsD} (h : 0 < xs.length) : lastD xs = lastB (xs[xs.length - 1]'(by omega)).o := by
  unfold lastD
  rw [List.getLast?_eq_getElem?, List.getElem?_eq_getElem (by omega)]
theorem all_bad {xs : List InsD} {k : Nat} (hk : k < xs.length) (h : insOkD xs[k] = false) : allOk xs = false := by
  unfold allOk
  rw [List.all_eq_false]
  exact ⟨xs[k], List.getElem_mem _, by simp [h]⟩
theorem all_step {xs : List InsD} {k : Nat} (hk : k < xs.length) (ha : allOk (xs.take k) = true) (h : insOkD xs[k] = true) : allOk (xs.take (k + 1)) = true := by
  unfold allOk at *
  rw [List.take_succ_eq_append_getElem hk, List.all_append, ha]
  simp [h]

theorem fun_len (nm : ByteArray) {xs : List InsD} (h : xs.length < 1 ∨ 10 < xs.length) : false = funOkB nm xs := by
  unfold funOkB
  have : (decide (1 ≤ xs.length) && decide (xs.length ≤ 10)) = false := by
    rw [Bool.and_eq_false_iff, decide_eq_false_iff_not, decide_eq_false_iff_not]; omega
  rw [this]; simp
theorem fun_eq {nm : ByteArray} {xs : List InsD} (hn : nameB nm = true) (h1 : 1 ≤ xs.length) (h2 : xs.length ≤ 10) : funOkB nm xs = (lastD xs && allOk xs) := by
  unfold funOkB
  rw [hn, decide_eq_true h1, decide_eq_true h2]
  simp

set_option maxHeartbeats 1000000 in
theorem specFunOk_any (nm : ByteArray) (wk : Bool) (a : Option Addr) (cap : Nat) (xs : List InsD) (w : World) (hnm : nm.size ≤ maxLen) (hcap : xs.length ≤ cap) (hcm : cap ≤ maxLen) (hR : InsRow w a xs) :
    Calls Tryz.prog 33 #[.agg #[.string nm, .bool wk, .slice a xs.length cap]] w fun e w' => e = .returned (.bool (funOkB nm xs)) ∧ Below w.heap.size w w' := by
  have HR := hide (hR.below (below_alloc1 w (.cells #[.string nm, .bool wk, .slice a xs.length cap] 28)))
  clear hR
  unfold maxLen at hcm
  have hl' : (xs.length : Int) ≤ 9223372036854775807 := by omega
  cases hn : nameB nm
  · go_enter Tryz.func33, Tryz.ntmps33
    go_wp2_with (go_at_call 70; refine (specName_any _ _ hnm).mono ?_; rintro e w1 ⟨rfl, rfl⟩)
    go_ret
    exact ⟨ret_bool (by simp [funOkB, hn]), below_alloc1 _ _⟩
  by_cases h1 : xs.length < 1
  · have h1' : (xs.length : Int) < 1 := by omega
    have HF := hide (fun_len nm (xs := xs) (by omega))
    go_enter Tryz.func33, Tryz.ntmps33
    go_wp2_with (go_at_call 70; refine (specName_any _ _ hnm).mono ?_; rintro e w1 ⟨rfl, rfl⟩)
    go_ret
    exact ⟨ret_bool (unhide HF), below_alloc1 _ _⟩
  have h1' : ¬ (xs.length : Int) < 1 := by omega
  by_cases h10 : 10 < xs.length
  · have h10' : (10 : Int) < (xs.length : Int) := by omega
    have HF := hide (fun_len nm (xs := xs) (by omega))
    go_enter Tryz.func33, Tryz.ntmps33
    go_wp2_with (go_at_call 70; refine (specName_any _ _ hnm).mono ?_; rintro e w1 ⟨rfl, rfl⟩)
    go_ret
    exact ⟨ret_bool (unhide HF), below_alloc1 _ _⟩
  have h10' : ¬ (10 : Int) < (xs.length : Int) := by omega
  obtain ⟨b, off, rfl⟩ := (unhide HR).get (by omega)
  obtain ⟨m, hm⟩ : ∃ m : Nat, m + 1 = xs.length := ⟨xs.length - 1, by omega⟩
  have hmi : (xs.length : Int) - 1 = (m : Int) := by omega
  have hml : (m : Int) < (xs.length : Int) := by omega
  obtain ⟨c0, c1, c2, _⟩ := (unhide HR).cells (k := m) (by omega)
  have hla : lastD xs = lastB (xs[m]'(by omega)).o := by
    rw [lastD_at (by omega)]
    have e : xs.length - 1 = m := by omega
    simp only [e]
  go_enter Tryz.func33, Tryz.ntmps33
  go_wp2_with (go_at_call 70; refine (specName_any _ _ hnm).mono ?_; rintro e w1 ⟨rfl, rfl⟩)
  refine (specLast_any _ _ _ _).mono ?_
  rintro e w2 ⟨rfl, hb2⟩
  have hB2 := bl_trans (below_alloc1 _ _) hb2
  have HR2 := hide ((unhide HR).below hb2)
  have HX2 := hide (box_below (new_block w _) hb2)
  clear c0 c1 c2 hb2
  rw [← hla]
  have HF := hide (fun_eq (nm := nm) (xs := xs) hn (by omega) (by omega))
  clear hla
  cases hL : lastD xs
  · go_wp2_with fail
    go_ret
    exact ⟨ret_bool (by rw [unhide HF, hL]; rfl), hB2⟩
  · go_wp2_with fail
    go_loopw [4] (fun i w' => ∃ k : Nat, k ≤ xs.length ∧ i = .int .i64 k ∧ allOk (xs.take k) = true ∧ InsRow w' (some ⟨b, off, none⟩) xs ∧ w'.heap[w.heap.size]? = some (.cells #[.string nm, .bool wk, .slice (some ⟨b, off, none⟩) xs.length cap] 28) ∧ Below w.heap.size w w') (fun i _ => xs.length - (intOf i).toNat)
    case atStart => exact ⟨0, Nat.zero_le _, rfl, rfl, unhide HR2, unhide HX2, hB2⟩
    case round =>
      obtain ⟨k, hk, rfl, ha, hO, hbx, hB⟩ := hrel
      have HA := hide ha
      have HO := hide hO
      have HX := hide hbx
      clear ha hO hbx
      obtain ⟨⟨d0, d1, d2⟩, _⟩ := box3 (unhide HX)
      by_cases hkl : k < xs.length
      · obtain ⟨c0, c1, c2, hks⟩ := (unhide HO).cells hkl
        have hkl' : (k : Int) < (xs.length : Int) := by omega
        have HK : Hid (insOkD xs[k] = insOkB xs[k].o xs[k].n xs[k].s) := rfl
        have HB1 := hide (all_bad hkl)
        have HB2 := hide (fun h => all_step hkl (unhide HA) h)
        generalize xs[k] = x at *
        cases hok : insOkB x.o x.n x.s
        · go_wp2_with (go_at_call 72; refine (specOk_any _ _ _ _ hks).mono ?_; rintro e w3 ⟨rfl, hb3⟩)
          go_ret
          exact ⟨ret_bool (by rw [unhide HF, unhide HB1 ((unhide HK).trans hok)]; simp), bl_trans hB hb3⟩
        · go_wp2_with (go_at_call 72; refine (specOk_any _ _ _ _ hks).mono ?_; rintro e w3 ⟨rfl, hb3⟩)
          exact ⟨⟨k + 1, by omega, by go_num, unhide HB2 ((unhide HK).trans hok), (unhide HO).below hb3, box_below (unhide HX) hb3, bl_trans hB hb3⟩, by simp [intOf]; omega⟩
      · go_wp2_with fail
        go_ret
        exact ⟨ret_bool (by rw [unhide HF, hL]; have h := unhide HA; rw [List.take_of_length_le (by omega)] at h; rw [h]; rfl), hB⟩
open Go.Proofs.YthbbmookhcalkaaGreatDoor.Name (implName_any)
theorem all_take {xs : List InsD} {k : Nat} (hk : ¬ k < xs.length) (h : allOk (xs.take k) = true) : allOk xs = true := by
  rwa [List.take_of_length_le (by omega)] at h

set_option maxHeartbeats 1000000 in
theorem implFunOk_any (nm : ByteArray) (wk : Bool) (a : Option Addr) (cap : Nat) (xs : List InsD) (w : World) (hnm : nm.size ≤ maxLen) (hcap : xs.length ≤ cap) (hcm : cap ≤ maxLen) (hR : InsRow w a xs) :
    Calls Tryz.prog 30 #[.agg #[.string nm, .bool wk, .slice a xs.length cap]] w fun e w' => e = .returned (.bool (funOkB nm xs)) ∧ Below w.heap.size w w' := by
  have HR := hide (hR.below (below_alloc1 w (.cells #[.string nm, .bool wk, .slice a xs.length cap] 28)))
  clear hR
  unfold maxLen at hcm
  have hl' : (xs.length : Int) ≤ 9223372036854775807 := by omega
  cases hn : nameB nm
  · go_enter Tryz.func30, Tryz.ntmps30
    go_wp2_with (go_at_call 36; refine (implName_any _ _ hnm).mono ?_; rintro e w1 ⟨rfl, hb1⟩)
    go_ret
    exact ⟨ret_bool (by simp [funOkB, hn]), bl_trans (below_alloc1 _ _) hb1⟩
  by_cases h1 : xs.length < 1
  · have h1' : (xs.length : Int) < 1 := by omega
    have HF := hide (fun_len nm (xs := xs) (by omega))
    go_enter Tryz.func30, Tryz.ntmps30
    go_wp2_with (go_at_call 36; refine (implName_any _ _ hnm).mono ?_; rintro e w1 ⟨rfl, hb1⟩; obtain ⟨⟨d0, d1, d2⟩, _⟩ := box3 (box_below (new_block w _) hb1))
    go_ret
    exact ⟨ret_bool (unhide HF), bl_trans (below_alloc1 _ _) hb1⟩
  have h1' : ¬ (xs.length : Int) < 1 := by omega
  by_cases h10 : 10 < xs.length
  · have h10' : (10 : Int) < (xs.length : Int) := by omega
    have HF := hide (fun_len nm (xs := xs) (by omega))
    go_enter Tryz.func30, Tryz.ntmps30
    go_wp2_with (go_at_call 36; refine (implName_any _ _ hnm).mono ?_; rintro e w1 ⟨rfl, hb1⟩; obtain ⟨⟨d0, d1, d2⟩, _⟩ := box3 (box_below (new_block w _) hb1))
    go_ret
    exact ⟨ret_bool (unhide HF), bl_trans (below_alloc1 _ _) hb1⟩
  have h10' : ¬ (10 : Int) < (xs.length : Int) := by omega
  obtain ⟨b, off, rfl⟩ := (unhide HR).get (by omega)
  obtain ⟨m, hm⟩ : ∃ m : Nat, m + 1 = xs.length := ⟨xs.length - 1, by omega⟩
  have hmi : (xs.length : Int) - 1 = (m : Int) := by omega
  have hml : (m : Int) < (xs.length : Int) := by omega
  have HF := hide (fun_eq (nm := nm) (xs := xs) hn (by omega) (by omega))
  have hla : lastD xs = lastB (xs[m]'(by omega)).o := by
    rw [lastD_at (by omega)]
    have e : xs.length - 1 = m := by omega
    simp only [e]
  have HL := hide hla
  clear hla
  go_enter Tryz.func30, Tryz.ntmps30
  go_wp2_with (go_at_call 36; refine (implName_any _ _ hnm).mono ?_; rintro e w1 ⟨rfl, hb1⟩; obtain ⟨⟨d0, d1, d2⟩, _⟩ := box3 (box_below (new_block w _) hb1))
  have HR1 := hide ((unhide HR).below hb1)
  have HX1 := hide (box_below (new_block w _) hb1)
  have hB1 := bl_trans (below_alloc1 _ _) hb1
  clear hb1 d0 d1 d2
  go_loopw [24] (fun i w' => ∃ k : Nat, k ≤ xs.length ∧ i = .int .i64 k ∧ allOk (xs.take k) = true ∧ InsRow w' (some ⟨b, off, none⟩) xs ∧ w'.heap[w.heap.size]? = some (.cells #[.string nm, .bool wk, .slice (some ⟨b, off, none⟩) xs.length cap] 28) ∧ Below w.heap.size w w') (fun i _ => xs.length - (intOf i).toNat)
  case atStart => exact ⟨0, Nat.zero_le _, rfl, rfl, unhide HR1, unhide HX1, hB1⟩
  case round =>
    obtain ⟨k, hk, rfl, ha, hO, hbx, hB⟩ := hrel
    have HA := hide ha
    have HO := hide hO
    have HX := hide hbx
    clear ha hO hbx
    obtain ⟨⟨d0, d1, d2⟩, _⟩ := box3 (unhide HX)
    by_cases hkl : k < xs.length
    · obtain ⟨c0, c1, c2, hks⟩ := (unhide HO).cells hkl
      have hkl' : (k : Int) < (xs.length : Int) := by omega
      have HK : Hid (insOkD xs[k] = insOkB xs[k].o xs[k].n xs[k].s) := rfl
      have HB1 := hide (all_bad hkl)
      have HB2 := hide (fun h => all_step hkl (unhide HA) h)
      generalize xs[k] = x at *
      cases hok : insOkB x.o x.n x.s
      · go_wp2_with (go_at_call 65; refine (implOk_any _ _ _ _ hks).mono ?_; rintro e w3 ⟨rfl, hb3⟩)
        go_ret
        exact ⟨ret_bool (by rw [unhide HF, unhide HB1 ((unhide HK).trans hok)]; simp), bl_trans (bl_alloc hB _) hb3⟩
      · go_wp2_with (go_at_call 65; refine (implOk_any _ _ _ _ hks).mono ?_; rintro e w3 ⟨rfl, hb3⟩)
        exact ⟨⟨k + 1, by omega, by go_num, unhide HB2 ((unhide HK).trans hok), ((unhide HO).below (below_alloc1 _ _)).below hb3, box_below (box_below (unhide HX) (below_alloc1 _ _)) hb3, bl_trans (bl_alloc hB _) hb3⟩, by simp [intOf]; omega⟩
    · obtain ⟨c0, c1, c2, _⟩ := (unhide HO).cells (k := m) (by omega)
      have hA := hide (all_take hkl (unhide HA))
      go_wp2_with (go_at_call 66; refine (implLast_any _ _ _ _).mono ?_; rintro e w3 ⟨rfl, hb3⟩)
      go_ret
      exact ⟨ret_bool (by rw [unhide HF, unhide hA, unhide HL]; simp), bl_trans hB hb3⟩
end Go.Proofs.YthbbmookhcalkaaGreatDoor.FunS
/- The contracts of the specification's l2Find, UnitOk, UnitFind. -/
namespace Go.Proofs.YthbbmookhcalkaaGreatDoor.UnitS
open Go.ChangeShapes Go.WideShapes Go.ChangeAt Go.RowKit Go.Joins
open Go.Proofs.YthbbmookhcalkaaGreatDoor.Base Go.Proofs.YthbbmookhcalkaaGreatDoor.InsA Go.Proofs.YthbbmookhcalkaaGreatDoor.InsB Go.Proofs.YthbbmookhcalkaaGreatDoor.Funs Go.Proofs.YthbbmookhcalkaaGreatDoor.Open Go.Proofs.YthbbmookhcalkaaGreatDoor.FunS Go.Proofs.YthbbmookhcalkaaGreatDoor.Keep
set_option linter.unusedVariables false
set_option maxRecDepth 100000

def isNm (s : ByteArray) (f : FunD) : Bool := f.nm.toList == s.toList
def findI (fs : List FunD) (s : ByteArray) : Int := if fs.findIdx (isNm s) < fs.length then (fs.findIdx (isNm s) : Nat) else -1
def okD (f : FunD) : Bool := funOkB f.nm f.body
def apartF : List FunD → Bool
  | [] => true
  | f :: r => !r.any (isNm f.nm) && apartF r
def unitOkB (fs : List FunD) : Bool := decide (fs.length ≤ 5) && fs.all okD && apartF fs

theorem find_hit {fs : List FunD} {s : ByteArray} {k : Nat} (hk : k < fs.length) (hb : ∀ i (h : i < k), isNm s (fs[i]'(by omega)) = false) (h : isNm s fs[k] = true) : (k : Int) = findI fs s := by
  have e : fs.findIdx (isNm s) = k := by
    rw [List.findIdx_eq hk]
    exact ⟨h, hb⟩
  unfold findI
  rw [e, if_pos hk]
theorem find_miss {fs : List FunD} {s : ByteArray} (hb : ∀ i (h : i < fs.length), isNm s fs[i] = false) : -1 = findI fs s := by
  have e : ¬ fs.findIdx (isNm s) < fs.length := by
    intro hlt
    have := List.findIdx_getElem (w := hlt)
    rw [hb _ hlt] at this
    cases this
  unfold findI
  rw [if_neg e]

set_option maxHeartbeats 1000000 in
theorem specFind_any (a : Option Addr) (cap : Nat) (fs : List FunD) (s : ByteArray) (w : World) (hs : s.size ≤ maxLen) (hcap : fs.length ≤ cap) (hcm : cap ≤ maxLen) (hR : FunRow w a fs) :
    Calls Tryz.prog 34 #[.slice a fs.length cap, .string s] w fun e w' => e = .returned (.int .i64 (findI fs s)) ∧ Below w.heap.size w w' := by
  have HR := hide hR
  clear hR
  unfold maxLen at hcm
  have hlen : (fs.length : Int) ≤ 9223372036854775807 := by omega
  go_enter Tryz.func34, Tryz.ntmps34
  go_wp2_with fail
  go_loopw [5] (fun i w' => ∃ k : Nat, k ≤ fs.length ∧ i = .int .i64 k ∧ Hid (∀ i (h : i < fs.length), i < k → isNm s fs[i] = false) ∧ Below w.heap.size w w') (fun i _ => fs.length - (intOf i).toNat)
  case atStart => exact ⟨0, Nat.zero_le _, rfl, fun i h h0 => by omega, Below.refl _ _⟩
  case round =>
    obtain ⟨k, hk, rfl, HN, hB⟩ := hrel
    by_cases hkl : k < fs.length
    · obtain ⟨b, off, rfl⟩ := (unhide HR).get (by omega)
      obtain ⟨ai, ci, c0, c1, c2, hn, h4, h5, h6⟩ := ((unhide HR).below hB).at hkl
      clear h6 c1 c2
      have hkl' : (k : Int) < (fs.length : Int) := by omega
      have HH := hide (find_hit (s := s) hkl (fun i h => unhide HN i (by omega) h))
      have HD : Hid (isNm s fs[k] = (fs[k].nm.toList == s.toList)) := rfl
      have HX : Hid (isNm s fs[k] = false → ∀ i (h : i < fs.length), i < k + 1 → isNm s fs[i] = false) := fun h i hi hlt => by
        by_cases e : i = k
        · subst e; exact h
        · exact unhide HN i hi (by omega)
      generalize fs[k] = f at *
      cases hq : (f.nm.toList == s.toList)
      · go_wp2_with fail
        exact ⟨⟨k + 1, by omega, by go_num, unhide HX ((unhide HD).trans hq), hB⟩, by simp [intOf]; omega⟩
      · go_wp2_with fail
        go_ret
        exact ⟨ret_int (unhide HH ((unhide HD).trans hq)), hB⟩
    · have HE := hide (find_miss (fun i h => unhide HN i h (by omega)))
      go_wp2_with fail
      go_ret
      exact ⟨ret_int (unhide HE), hB⟩

theorem isNm_iff {s : ByteArray} {f : FunD} : isNm s f = true ↔ f.nm.toList = s.toList := by simp [isNm]
theorem apartF_iff (fs : List FunD) : apartF fs = true ↔ ∀ i j (hi : i < fs.length) (hj : j < fs.length), i < j → fs[i].nm.toList ≠ fs[j].nm.toList := by
  induction fs with
  | nil => simp [apartF]
  | cons f r ih =>
    simp only [apartF, Bool.and_eq_true, Bool.not_eq_true', List.any_eq_false, ih]
    constructor
    · rintro ⟨h1, h2⟩ i j hi hj hij
      match i, j with
      | 0, 0 => omega
      | 0, j + 1 =>
        have := h1 _ (List.getElem_mem (show j < r.length by simpa using hj))
        rw [isNm_iff] at this
        exact fun e => this e.symm
      | i + 1, 0 => omega
      | i + 1, j + 1 => exact h2 i j (by simpa using hi) (by simpa using hj) (by omega)
    · intro h
      refine ⟨fun x hx => ?_, fun i j hi hj hij => h (i + 1) (j + 1) (by simpa using hi) (by simpa using hj) (by omega)⟩
      obtain ⟨j, hj, rfl⟩ := List.getElem_of_mem hx
      rw [isNm_iff]
      exact fun e => h 0 (j + 1) (by simp) (by simpa using hj) (by omega) e.symm
theorem find_self {fs : List FunD} {k : Nat} (hk : k < fs.length) : ∃ j, ∃ hj : j < fs.length, findI fs fs[k].nm = (j : Int) ∧ j ≤ k ∧ fs[j].nm.toList = fs[k].nm.toList := by
  have hlt : fs.findIdx (isNm fs[k].nm) < fs.length := List.findIdx_lt_length_of_exists ⟨fs[k], List.getElem_mem _, by simp [isNm]⟩
  refine ⟨_, hlt, by unfold findI; rw [if_pos hlt], ?_, ?_⟩
  · refine Nat.le_of_not_lt fun h => ?_
    have := List.not_of_lt_findIdx h
    simp [isNm] at this
  · exact isNm_iff.1 (List.findIdx_getElem (w := hlt))
theorem apartF_bad {fs : List FunD} {k : Nat} (hk : k < fs.length) (h : findI fs fs[k].nm ≠ (k : Int)) : apartF fs = false := by
  obtain ⟨j, hj, e, hjk, hn⟩ := find_self hk
  rw [e] at h
  rw [← Bool.not_eq_true, apartF_iff]
  exact fun hd => hd j k hj hk (by omega) hn
theorem apartF_all {fs : List FunD} (h : ∀ i (hi : i < fs.length), findI fs fs[i].nm = (i : Int)) : apartF fs = true := by
  rw [apartF_iff]
  intro i j hi hj hij hn
  have hf := h j hj
  unfold findI at hf
  by_cases hlt : fs.findIdx (isNm fs[j].nm) < fs.length
  · rw [if_pos hlt] at hf
    have := List.not_of_lt_findIdx (p := isNm fs[j].nm) (xs := fs) (i := i) (by omega)
    simp [isNm, hn] at this
  · rw [if_neg hlt] at hf; omega

theorem unit_bad {fs : List FunD} {k : Nat} (hk : k < fs.length) (h : okD fs[k] = false) : false = unitOkB fs := by
  have : fs.all okD = false := by rw [List.all_eq_false]; exact ⟨fs[k], List.getElem_mem _, by simp [h]⟩
  simp [unitOkB, this]
theorem unit_twice {fs : List FunD} {k : Nat} (hk : k < fs.length) (h : findI fs fs[k].nm ≠ (k : Int)) : false = unitOkB fs := by simp [unitOkB, apartF_bad hk h]
theorem unit_end {fs : List FunD} (h : ∀ i (hi : i < fs.length), okD fs[i] = true ∧ findI fs fs[i].nm = (i : Int)) : unitOkB fs = decide (fs.length ≤ 5) := by
  have h1 : fs.all okD = true := by rw [List.all_eq_true]; intro f hf; obtain ⟨i, hi, rfl⟩ := List.getElem_of_mem hf; exact (h i hi).1
  simp [unitOkB, h1, apartF_all (fun i hi => (h i hi).2)]

def unitFindI (fs : List FunD) (s : ByteArray) : Int := if unitOkB fs then findI fs s else -1
end Go.Proofs.YthbbmookhcalkaaGreatDoor.UnitS
