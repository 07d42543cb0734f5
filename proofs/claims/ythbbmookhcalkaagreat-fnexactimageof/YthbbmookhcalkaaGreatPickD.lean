/- What is taken, as plain data: where a name is in units, and how many strong functions have it. -/
import Derived.Test.YthbbmookhcalkaaGreatUnitS
namespace Go.Proofs.YthbbmookhcalkaaGreat.PickD
open Go.ChangeShapes Go.WideShapes Go.ChangeAt Go.RowKit Go.Joins
open Go.Proofs.YthbbmookhcalkaaGreat.Base Go.Proofs.YthbbmookhcalkaaGreat.Funs Go.Proofs.YthbbmookhcalkaaGreat.Open Go.Proofs.YthbbmookhcalkaaGreat.FunS Go.Proofs.YthbbmookhcalkaaGreat.UnitS
set_option linter.unusedVariables false
set_option maxRecDepth 100000

/-- A function with its unit's place and its own. -/
abbrev Ent := Nat × Nat × FunD
def unitsOkB (us : List (List FunD)) (m : Nat) : Bool := us.all unitOkB && decide (us.length ≤ m)
/-- What a unit has of a name: its first function of it. -/
def hitU (s : ByteArray) (u : List FunD) (i : Nat) : List Ent := if findI u s < 0 then [] else [(i, (findI u s).toNat, u.getD (findI u s).toNat default)]
def hitsTo (us : List (List FunD)) (s : ByteArray) : Nat → List Ent
  | 0 => []
  | n + 1 => hitsTo us s n ++ hitU s (us.getD n []) n
def hits (us : List (List FunD)) (s : ByteArray) : List Ent := hitsTo us s us.length
def strong (l : List Ent) : List Ent := l.filter fun x => !x.2.2.wk
/-- Where a name is, among those that have it. -/
def bestOf (l : List Ent) : Option Ent := ((strong l).head?).or l.head?
def atOf (o : Option Ent) : Int × Int × Bool := match o with | some x => (x.1, x.2.1, true) | none => (0, 0, false)
def pickAt (us : List (List FunD)) (s : ByteArray) : Int × Int × Bool := atOf (bestOf (hits us s))

theorem getD_at {us : List (List FunD)} {n : Nat} (h : n < us.length) : us.getD n [] = us[n] := by simp [List.getD, List.getElem?_eq_getElem h]
theorem getF_at {u : List FunD} {n : Nat} (h : n < u.length) : u.getD n default = u[n] := by simp [List.getD, List.getElem?_eq_getElem h]
theorem hits_miss {us : List (List FunD)} {s : ByteArray} {n : Nat} (hn : n < us.length) (h : findI us[n] s < 0) : hitsTo us s (n + 1) = hitsTo us s n := by
  rw [hitsTo, getD_at hn, hitU, if_pos h, List.append_nil]
theorem find_lt {u : List FunD} {s : ByteArray} (h : ¬ findI u s < 0) : (findI u s).toNat < u.length ∧ ((findI u s).toNat : Int) = findI u s := by
  unfold findI at *
  by_cases hl : u.findIdx (isNm s) < u.length
  · rw [if_pos hl] at h ⊢; omega
  · rw [if_neg hl] at h; omega
theorem find_at {u : List FunD} {s : ByteArray} (h : ¬ findI u s < 0) : ∃ j, ∃ hj : j < u.length, findI u s = (j : Int) := ⟨_, (find_lt h).1, (find_lt h).2.symm⟩
theorem hits_hit {us : List (List FunD)} {s : ByteArray} {n j : Nat} (hn : n < us.length) (hj : j < us[n].length) (h : findI us[n] s = (j : Int)) : hitsTo us s (n + 1) = hitsTo us s n ++ [(n, j, us[n][j])] := by
  rw [hitsTo, getD_at hn, hitU, if_neg (by omega), h, Int.toNat_natCast, getF_at hj]
theorem strong_append (l r : List Ent) : strong (l ++ r) = strong l ++ strong r := by simp [strong]
theorem strong_one {x : Ent} (h : x.2.2.wk = false) : strong [x] = [x] := by simp [strong, h]
theorem strong_none {x : Ent} (h : x.2.2.wk = true) : strong [x] = [] := by simp [strong, h]

/-- The first n units, flat. -/
def rowE (i : Nat) (u : List FunD) : Nat → List Ent
  | 0 => []
  | k + 1 => rowE i u k ++ [(i, k, u.getD k default)]
def flatTo (us : List (List FunD)) : Nat → List Ent
  | 0 => []
  | n + 1 => flatTo us n ++ rowE n (us.getD n []) (us.getD n []).length
def flat (us : List (List FunD)) : List Ent := flatTo us us.length
def ofName (s : ByteArray) (l : List Ent) : List Ent := l.filter fun x => isNm s x.2.2
theorem ofName_append (s : ByteArray) (l r : List Ent) : ofName s (l ++ r) = ofName s l ++ ofName s r := by simp [ofName]
theorem rowE_len (i : Nat) (u : List FunD) : ∀ k, (rowE i u k).length = k
  | 0 => rfl
  | k + 1 => by rw [rowE, List.length_append, rowE_len i u k]; rfl

theorem rowE_before {u : List FunD} {s : ByteArray} (i : Nat) : ∀ k, k ≤ u.length → (∀ j (h : j < u.length), j < k → isNm s u[j] = false) → ofName s (rowE i u k) = []
  | 0, _, _ => rfl
  | k + 1, hk, h => by
    rw [rowE, ofName_append, rowE_before i k (by omega) (fun j hj hlt => h j hj (by omega)), getF_at (by omega)]
    simp [ofName, h k (by omega) (by omega)]
/-- In a unit in which no two are of one name a name has at most one. -/
theorem rowE_name {u : List FunD} (ha : apartF u = true) (s : ByteArray) (i : Nat) : ofName s (rowE i u u.length) = hitU s u i := by
  unfold hitU
  by_cases h : findI u s < 0
  · rw [if_pos h]
    refine rowE_before i _ (Nat.le_refl _) fun j hj _ => ?_
    cases hj' : isNm s u[j]
    · rfl
    · exfalso
      have hlt : u.findIdx (isNm s) < u.length := List.findIdx_lt_length_of_exists ⟨u[j], List.getElem_mem _, hj'⟩
      unfold findI at h
      rw [if_pos hlt] at h
      omega
  · rw [if_neg h]
    obtain ⟨hlt, hk⟩ := find_lt h
    have hlt' : u.findIdx (isNm s) < u.length := by
      unfold findI at h
      by_cases hl : u.findIdx (isNm s) < u.length
      · exact hl
      · rw [if_neg hl] at h; omega
    have hfe : (findI u s).toNat = u.findIdx (isNm s) := by unfold findI; rw [if_pos hlt']; omega
    have hyes : isNm s (u[(findI u s).toNat]) = true := by
      have := List.findIdx_getElem (w := hlt')
      simpa only [hfe] using this
    have hno : ∀ j (hj : j < u.length), j ≠ (findI u s).toNat → isNm s u[j] = false := fun j hj hne => by
      cases hj' : isNm s u[j]
      · rfl
      · exfalso
        have e : u[j].nm.toList = (u[(findI u s).toNat]).nm.toList := (isNm_iff.1 hj').trans (isNm_iff.1 hyes).symm
        rcases Nat.lt_or_gt_of_ne hne with h1 | h1
        · exact (apartF_iff u).1 ha j _ hj hlt h1 e
        · exact (apartF_iff u).1 ha _ j hlt hj h1 e.symm
    generalize (findI u s).toNat = k at *
    have : ∀ n, k < n → n ≤ u.length → ofName s (rowE i u n) = [(i, k, u.getD k default)] := by
      intro n
      induction n with
      | zero => intro h; omega
      | succ n ih =>
        intro hn hl
        rw [rowE, ofName_append]
        by_cases he : n = k
        · subst he
          rw [rowE_before i n (by omega) (fun j hj hjn => hno j hj (by omega)), getF_at hlt]
          simp [ofName, hyes]
        · rw [ih (by omega) (by omega), getF_at (u := u) (n := n) (by omega)]
          simp [ofName, hno n (by omega) he]
    exact this _ hlt (Nat.le_refl _)
theorem flat_hits {us : List (List FunD)} (h : ∀ u ∈ us, apartF u = true) (s : ByteArray) : ∀ n, n ≤ us.length → ofName s (flatTo us n) = hitsTo us s n
  | 0, _ => rfl
  | n + 1, hn => by
    rw [flatTo, hitsTo, ofName_append, flat_hits h s n (by omega), rowE_name (h _ (by rw [getD_at (by omega)]; exact List.getElem_mem _))]

/-- A row of the program's map: where the one is that goes ahead, and how many strong ones there are. -/
abbrev Row := Nat × Nat × Nat
def rowStep (o : Option Row) (x : Ent) : Row :=
  match o with
  | none => (x.1, x.2.1, if x.2.2.wk then 0 else 1)
  | some r => if x.2.2.wk then r else if r.2.2 = 0 then (x.1, x.2.1, 1) else (r.1, r.2.1, r.2.2 + 1)
def rowFold (l : List Ent) : Option Row := l.foldl (fun o x => some (rowStep o x)) none
def rowOf (l : List Ent) (s : ByteArray) : Option Row := rowFold (ofName s l)
theorem rowOf_snoc (l : List Ent) (x : Ent) (s : ByteArray) : rowOf (l ++ [x]) s = if isNm s x.2.2 then some (rowStep (rowOf l s) x) else rowOf l s := by
  unfold rowOf
  rw [ofName_append]
  cases h : isNm s x.2.2
  · simp [ofName, h]
  · have : ofName s [x] = [x] := by simp [ofName, h]
    rw [this, if_pos rfl]
    simp [rowFold, List.foldl_append]
theorem snoc_cases (l : List Ent) : l = [] ∨ ∃ r x, l = r ++ [x] := by
  cases h : l.reverse with
  | nil => exact .inl (by simpa using h)
  | cons x r => exact .inr ⟨r.reverse, x, by rw [← List.reverse_reverse l, h]; simp⟩
/-- What the fold over those of one name gives. -/
theorem rowFold_is (n : Nat) : ∀ l : List Ent, l.length = n → rowFold l = (bestOf l).map fun x => (x.1, x.2.1, (strong l).length) := by
  induction n with
  | zero => intro l h; rw [List.length_eq_zero_iff.1 h]; rfl
  | succ n ih =>
    intro l hl
    rcases snoc_cases l with rfl | ⟨r, x, rfl⟩
    · rfl
    · have ih := ih r (by simpa using hl)
      have e : rowFold (r ++ [x]) = some (rowStep (rowFold r) x) := by simp [rowFold, List.foldl_append]
      rw [e, ih]
      unfold bestOf
      rw [strong_append]
      cases hw : x.2.2.wk
      · rw [strong_one hw]
        cases hs : strong r with
        | nil =>
          cases hr : r with
          | nil => simp [rowStep, hw]
          | cons y t => simp [rowStep, hw]
        | cons y t => simp [rowStep, hw]
      · rw [strong_none hw]
        cases hs : strong r with
        | nil =>
          cases hr : r with
          | nil => simp [rowStep, hw]
          | cons y t => simp [rowStep, hw]
        | cons y t => simp [rowStep, hw]
theorem rowOf_is (l : List Ent) (s : ByteArray) : rowOf l s = (bestOf (ofName s l)).map fun x => (x.1, x.2.1, (strong (ofName s l)).length) := rowFold_is _ _ rfl
theorem rowOf_hits {us : List (List FunD)} (h : ∀ u ∈ us, apartF u = true) (s : ByteArray) : rowOf (flat us) s = (bestOf (hits us s)).map fun x => (x.1, x.2.1, (strong (hits us s)).length) := by
  rw [rowOf_is]; unfold flat hits; rw [flat_hits h s _ (Nat.le_refl _)]
theorem unit_apart {fs : List FunD} (h : unitOkB fs = true) : apartF fs = true := by
  unfold unitOkB at h
  simp only [Bool.and_eq_true] at h
  exact h.2
theorem units_apart {us : List (List FunD)} {m : Nat} (h : unitsOkB us m = true) : ∀ u ∈ us, apartF u = true := by
  unfold unitsOkB at h
  simp only [Bool.and_eq_true, List.all_eq_true] at h
  exact fun u hu => unit_apart (h.1 u hu)
theorem units_len {us : List (List FunD)} {m : Nat} (h : unitsOkB us m = true) : us.length ≤ m := by
  unfold unitsOkB at h
  simp only [Bool.and_eq_true, decide_eq_true_iff] at h
  exact h.2
theorem units_each {us : List (List FunD)} {m : Nat} (h : unitsOkB us m = true) : ∀ u ∈ us, unitOkB u = true := by
  unfold unitsOkB at h
  simp only [Bool.and_eq_true, List.all_eq_true] at h
  exact h.1
theorem units_bad {us : List (List FunD)} {m k : Nat} (hk : k < us.length) (h : unitOkB us[k] = false) : false = unitsOkB us m := by
  have : us.all unitOkB = false := by rw [List.all_eq_false]; exact ⟨us[k], List.getElem_mem _, by simp [h]⟩
  simp [unitsOkB, this]
theorem units_end {us : List (List FunD)} {m : Nat} (h : ∀ i (hi : i < us.length), unitOkB us[i] = true) : unitsOkB us m = decide (us.length ≤ m) := by
  have h1 : us.all unitOkB = true := by rw [List.all_eq_true]; intro f hf; obtain ⟨i, hi, rfl⟩ := List.getElem_of_mem hf; exact h i hi
  simp [unitsOkB, h1]
theorem units_long {us : List (List FunD)} {m : Nat} (h : m < us.length) : false = unitsOkB us m := by
  have : decide (us.length ≤ m) = false := decide_eq_false (by omega)
  simp [unitsOkB, this]
end Go.Proofs.YthbbmookhcalkaaGreat.PickD
