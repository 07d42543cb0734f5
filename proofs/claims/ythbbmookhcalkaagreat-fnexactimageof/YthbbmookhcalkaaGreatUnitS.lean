/- The contracts of the specification's l2Find, UnitOk, UnitFind. -/
import Derived.Test.YthbbmookhcalkaaGreatFunS
import Derived.Test.YthbbmookhcalkaaGreatKeep
namespace Go.Proofs.YthbbmookhcalkaaGreat.UnitS
open Go.ChangeShapes Go.WideShapes Go.ChangeAt Go.RowKit Go.Joins
open Go.Proofs.YthbbmookhcalkaaGreat.Base Go.Proofs.YthbbmookhcalkaaGreat.InsA Go.Proofs.YthbbmookhcalkaaGreat.InsB Go.Proofs.YthbbmookhcalkaaGreat.Funs Go.Proofs.YthbbmookhcalkaaGreat.Open Go.Proofs.YthbbmookhcalkaaGreat.FunS Go.Proofs.YthbbmookhcalkaaGreat.Keep
set_option linter.unusedVariables false
set_option maxRecDepth 100000

def isNm (s : ByteArray) (f : FunD) : Bool := f.nm.toList == s.toList
def findI (fs : List FunD) (s : ByteArray) : Int := if fs.findIdx (isNm s) < fs.length then (fs.findIdx (isNm s) : Nat) else -1
def okD (f : FunD) : Bool := funOkB f.nm f.body
def apartF : List FunD → Bool
  | [] => true
  | f :: r => !r.any (isNm f.nm) && apartF r
def unitOkB (fs : List FunD) : Bool := decide (fs.length ≤ 5) && fs.all okD && apartF fs

theorem find_hit {fs : List FunD} {s : ByteArray} {k : Nat} (hk : k < fs.length) (hb : ∀ i (h : i < k), isNm s (fs[i]'(by omega)) = false) (h : isNm s fs[k] = true) : (k : Int) = findI fs s := by
  have e : fs.findIdx (isNm s) = k := by
    rw [List.findIdx_eq hk]
    exact ⟨h, hb⟩
  unfold findI
  rw [e, if_pos hk]
theorem find_miss {fs : List FunD} {s : ByteArray} (hb : ∀ i (h : i < fs.length), isNm s fs[i] = false) : -1 = findI fs s := by
  have e : ¬ fs.findIdx (isNm s) < fs.length := by
    intro hlt
    have := List.findIdx_getElem (w := hlt)
    rw [hb _ hlt] at this
    cases this
  unfold findI
  rw [if_neg e]

set_option maxHeartbeats 1000000 in
theorem specFind_any (a : Option Addr) (cap : Nat) (fs : List FunD) (s : ByteArray) (w : World) (hs : s.size ≤ maxLen) (hcap : fs.length ≤ cap) (hcm : cap ≤ maxLen) (hR : FunRow w a fs) :
    Calls Tryz.prog 41 #[.slice a fs.length cap, .string s] w fun e w' => e = .returned (.int .i64 (findI fs s)) ∧ Below w.heap.size w w' := by
  have HR := hide hR
  clear hR
  unfold maxLen at hcm
  have hlen : (fs.length : Int) ≤ 9223372036854775807 := by omega
  go_enter Tryz.func41, Tryz.ntmps41
  go_wp2_with fail
  go_loopw [5] (fun i w' => ∃ k : Nat, k ≤ fs.length ∧ i = .int .i64 k ∧ Hid (∀ i (h : i < fs.length), i < k → isNm s fs[i] = false) ∧ Below w.heap.size w w') (fun i _ => fs.length - (intOf i).toNat)
  case atStart => exact ⟨0, Nat.zero_le _, rfl, fun i h h0 => by omega, Below.refl _ _⟩
  case round =>
    obtain ⟨k, hk, rfl, HN, hB⟩ := hrel
    by_cases hkl : k < fs.length
    · obtain ⟨b, off, rfl⟩ := (unhide HR).get (by omega)
      obtain ⟨ai, ci, c0, c1, c2, hn, h4, h5, h6⟩ := ((unhide HR).below hB).at hkl
      clear h6 c1 c2
      have hkl' : (k : Int) < (fs.length : Int) := by omega
      have HH := hide (find_hit (s := s) hkl (fun i h => unhide HN i (by omega) h))
      have HD : Hid (isNm s fs[k] = (fs[k].nm.toList == s.toList)) := rfl
      have HX : Hid (isNm s fs[k] = false → ∀ i (h : i < fs.length), i < k + 1 → isNm s fs[i] = false) := fun h i hi hlt => by
        by_cases e : i = k
        · subst e; exact h
        · exact unhide HN i hi (by omega)
      generalize fs[k] = f at *
      cases hq : (f.nm.toList == s.toList)
      · go_wp2_with fail
        exact ⟨⟨k + 1, by omega, by go_num, unhide HX ((unhide HD).trans hq), hB⟩, by simp [intOf]; omega⟩
      · go_wp2_with fail
        go_ret
        exact ⟨ret_int (unhide HH ((unhide HD).trans hq)), hB⟩
    · have HE := hide (find_miss (fun i h => unhide HN i h (by omega)))
      go_wp2_with fail
      go_ret
      exact ⟨ret_int (unhide HE), hB⟩

theorem isNm_iff {s : ByteArray} {f : FunD} : isNm s f = true ↔ f.nm.toList = s.toList := by simp [isNm]
theorem apartF_iff (fs : List FunD) : apartF fs = true ↔ ∀ i j (hi : i < fs.length) (hj : j < fs.length), i < j → fs[i].nm.toList ≠ fs[j].nm.toList := by
  induction fs with
  | nil => simp [apartF]
  | cons f r ih =>
    simp only [apartF, Bool.and_eq_true, Bool.not_eq_true', List.any_eq_false, ih]
    constructor
    · rintro ⟨h1, h2⟩ i j hi hj hij
      match i, j with
      | 0, 0 => omega
      | 0, j + 1 =>
        have := h1 _ (List.getElem_mem (show j < r.length by simpa using hj))
        rw [isNm_iff] at this
        exact fun e => this e.symm
      | i + 1, 0 => omega
      | i + 1, j + 1 => exact h2 i j (by simpa using hi) (by simpa using hj) (by omega)
    · intro h
      refine ⟨fun x hx => ?_, fun i j hi hj hij => h (i + 1) (j + 1) (by simpa using hi) (by simpa using hj) (by omega)⟩
      obtain ⟨j, hj, rfl⟩ := List.getElem_of_mem hx
      rw [isNm_iff]
      exact fun e => h 0 (j + 1) (by simp) (by simpa using hj) (by omega) e.symm
theorem find_self {fs : List FunD} {k : Nat} (hk : k < fs.length) : ∃ j, ∃ hj : j < fs.length, findI fs fs[k].nm = (j : Int) ∧ j ≤ k ∧ fs[j].nm.toList = fs[k].nm.toList := by
  have hlt : fs.findIdx (isNm fs[k].nm) < fs.length := List.findIdx_lt_length_of_exists ⟨fs[k], List.getElem_mem _, by simp [isNm]⟩
  refine ⟨_, hlt, by unfold findI; rw [if_pos hlt], ?_, ?_⟩
  · refine Nat.le_of_not_lt fun h => ?_
    have := List.not_of_lt_findIdx h
    simp [isNm] at this
  · exact isNm_iff.1 (List.findIdx_getElem (w := hlt))
theorem apartF_bad {fs : List FunD} {k : Nat} (hk : k < fs.length) (h : findI fs fs[k].nm ≠ (k : Int)) : apartF fs = false := by
  obtain ⟨j, hj, e, hjk, hn⟩ := find_self hk
  rw [e] at h
  rw [← Bool.not_eq_true, apartF_iff]
  exact fun hd => hd j k hj hk (by omega) hn
theorem apartF_all {fs : List FunD} (h : ∀ i (hi : i < fs.length), findI fs fs[i].nm = (i : Int)) : apartF fs = true := by
  rw [apartF_iff]
  intro i j hi hj hij hn
  have hf := h j hj
  unfold findI at hf
  by_cases hlt : fs.findIdx (isNm fs[j].nm) < fs.length
  · rw [if_pos hlt] at hf
    have := List.not_of_lt_findIdx (p := isNm fs[j].nm) (xs := fs) (i := i) (by omega)
    simp [isNm, hn] at this
  · rw [if_neg hlt] at hf; omega

theorem unit_bad {fs : List FunD} {k : Nat} (hk : k < fs.length) (h : okD fs[k] = false) : false = unitOkB fs := by
  have : fs.all okD = false := by rw [List.all_eq_false]; exact ⟨fs[k], List.getElem_mem _, by simp [h]⟩
  simp [unitOkB, this]
theorem unit_twice {fs : List FunD} {k : Nat} (hk : k < fs.length) (h : findI fs fs[k].nm ≠ (k : Int)) : false = unitOkB fs := by simp [unitOkB, apartF_bad hk h]
theorem unit_end {fs : List FunD} (h : ∀ i (hi : i < fs.length), okD fs[i] = true ∧ findI fs fs[i].nm = (i : Int)) : unitOkB fs = decide (fs.length ≤ 5) := by
  have h1 : fs.all okD = true := by rw [List.all_eq_true]; intro f hf; obtain ⟨i, hi, rfl⟩ := List.getElem_of_mem hf; exact (h i hi).1
  simp [unitOkB, h1, apartF_all (fun i hi => (h i hi).2)]

def unitFindI (fs : List FunD) (s : ByteArray) : Int := if unitOkB fs then findI fs s else -1
end Go.Proofs.YthbbmookhcalkaaGreat.UnitS
