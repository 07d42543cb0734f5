/- The contracts of the specification's l3Ok, l3At, PickAt, l3Strong, l3Two, PickTwo. -/
import Derived.Test.YthbbmookhcalkaaGreatPickD
import Derived.Test.YthbbmookhcalkaaGreatUU
import Derived.OwnWalk
namespace Go.Proofs.YthbbmookhcalkaaGreat.PickS
open Go.ChangeShapes Go.WideShapes Go.ChangeAt Go.RowKit Go.Joins
open Go.Proofs.YthbbmookhcalkaaGreat.Base Go.Proofs.YthbbmookhcalkaaGreat.InsA Go.Proofs.YthbbmookhcalkaaGreat.Funs Go.Proofs.YthbbmookhcalkaaGreat.Open Go.Proofs.YthbbmookhcalkaaGreat.FunS Go.Proofs.YthbbmookhcalkaaGreat.Keep Go.Proofs.YthbbmookhcalkaaGreat.UnitS Go.Proofs.YthbbmookhcalkaaGreat.UU Go.Proofs.YthbbmookhcalkaaGreat.PickD
set_option linter.unusedVariables false
set_option maxRecDepth 100000


/-- Three answers as one value. -/
def tup3 (t : Int × Int × Bool) : Value := .tuple #[.int .i64 t.1, .int .i64 t.2.1, .bool t.2.2]
/-- What the loop keeps: the first that has the name, if there is one. -/
def FirstIs (l : List Ent) (a b : Int) : Prop := (l = [] ∧ a = -1 ∧ b = -1) ∨ ∃ x, l.head? = some x ∧ a = (x.1 : Int) ∧ b = (x.2.1 : Int)
theorem first_put {l : List Ent} {a b : Int} (h : FirstIs l a b) (ha : a < 0) (x : Ent) : FirstIs (l ++ [x]) (x.1 : Int) (x.2.1 : Int) := by
  rcases h with ⟨rfl, _, _⟩ | ⟨y, _, e, _⟩
  · exact .inr ⟨x, rfl, rfl, rfl⟩
  · omega
theorem first_keep {l : List Ent} {a b : Int} (h : FirstIs l a b) (ha : ¬ a < 0) (x : Ent) : FirstIs (l ++ [x]) a b := by
  rcases h with ⟨rfl, e, _⟩ | ⟨y, hy, e, e'⟩
  · omega
  · exact .inr ⟨y, by cases l <;> simp_all, e, e'⟩
theorem at_strong {us : List (List FunD)} {s : ByteArray} {k j : Nat} (hk : k < us.length) (hst : strong (hitsTo us s k) = []) (hj : j < us[k].length) (h : findI us[k] s = (j : Int)) (hw : us[k][j].wk = false) :
    ((k : Int), (j : Int), true) = pickAt us s := by
  have e : ∀ n, k < n → n ≤ us.length → (strong (hitsTo us s n)).head? = some (k, j, us[k][j]) := by
    intro n
    induction n with
    | zero => intro h; omega
    | succ n ih =>
      intro hn hl
      by_cases hkn : n = k
      · subst hkn
        rw [hits_hit hk hj h, strong_append, hst, strong_one hw]
        rfl
      · rw [hitsTo, strong_append, List.head?_append, ih (by omega) (by omega)]
        rfl
  unfold pickAt bestOf hits
  rw [e _ hk (Nat.le_refl _)]
  rfl
theorem at_end {us : List (List FunD)} {s : ByteArray} {a b : Int} (hst : strong (hitsTo us s us.length) = []) (h : FirstIs (hitsTo us s us.length) a b) : pickAt us s = if a < 0 then (0, 0, false) else (a, b, true) := by
  unfold pickAt bestOf hits
  rw [hst]
  rcases h with ⟨e, ha, hb⟩ | ⟨x, e, ha, hb⟩
  · rw [e, if_pos (by omega)]; rfl
  · rw [e, if_neg (by omega), ha, hb]; rfl


def pickAtB (us : List (List FunD)) (s : ByteArray) : Int × Int × Bool := if unitsOkB us 8 then pickAt us s else (0, 0, false)

theorem strong_hit {us : List (List FunD)} {s : ByteArray} {k j : Nat} (hk : k < us.length) (hj : j < us[k].length) (h : findI us[k] s = (j : Int)) : (strong (hitsTo us s (k + 1))).length = (strong (hitsTo us s k)).length + if us[k][j].wk then 0 else 1 := by
  rw [hits_hit hk hj h, strong_append, List.length_append]
  cases hw : us[k][j].wk
  · rw [strong_one hw]; rfl
  · rw [strong_none hw]; rfl
theorem strong_le (us : List (List FunD)) (s : ByteArray) : ∀ n, (strong (hitsTo us s n)).length ≤ n
  | 0 => Nat.le_refl _
  | n + 1 => by
    have := strong_le us s n
    rw [hitsTo, strong_append, List.length_append]
    have h1 : (strong (hitU s (us.getD n []) n)).length ≤ 1 := by
      refine Nat.le_trans (List.length_filter_le _ _) ?_
      unfold hitU
      split <;> simp
    omega
def strongN (us : List (List FunD)) (s : ByteArray) : Nat := (strong (hits us s)).length


/-- The first name, by units and in these by functions, that more than one strong function has. -/
def twice (us : List (List FunD)) (x : Ent) : Bool := decide (1 < strongN us x.2.2.nm)
def twoOf (us : List (List FunD)) : Option Ent := (flat us).find? (twice us)
def twoB (o : Option Ent) : ByteArray × Bool := match o with | some x => (x.2.2.nm, true) | none => (⟨#[]⟩, false)
def tup2 (t : ByteArray × Bool) : Value := .tuple #[.string t.1, .bool t.2]
theorem flat_succ {us : List (List FunD)} {n : Nat} (h : n < us.length) : flatTo us (n + 1) = flatTo us n ++ rowE n us[n] us[n].length := by rw [flatTo, getD_at h]
theorem rowE_succ {u : List FunD} {k : Nat} (i : Nat) (h : k < u.length) : rowE i u (k + 1) = rowE i u k ++ [(i, k, u[k])] := by rw [rowE, getF_at h]
theorem flat_has {us : List (List FunD)} {n k : Nat} (hn : n < us.length) (hk : k < us[n].length) : ∃ r, flat us = (flatTo us n ++ rowE n us[n] k) ++ (n, k, us[n][k]) :: r := by
  have h1 : ∀ m, k < m → m ≤ us[n].length → ∃ r, rowE n us[n] m = rowE n us[n] k ++ (n, k, us[n][k]) :: r := by
    intro m
    induction m with
    | zero => intro h; omega
    | succ m ih =>
      intro hm hl
      by_cases e : m = k
      · subst e; exact ⟨[], by rw [rowE_succ n hk]⟩
      · obtain ⟨r, hr⟩ := ih (by omega) (by omega)
        exact ⟨r ++ [(n, m, us[n][m])], by rw [rowE_succ n (by omega), hr]; simp⟩
  have h2 : ∀ m, n < m → m ≤ us.length → ∃ r, flatTo us m = (flatTo us n ++ rowE n us[n] k) ++ (n, k, us[n][k]) :: r := by
    intro m
    induction m with
    | zero => intro h; omega
    | succ m ih =>
      intro hm hl
      by_cases e : m = n
      · subst e
        obtain ⟨r, hr⟩ := h1 _ hk (Nat.le_refl _)
        exact ⟨r, by rw [flat_succ hn, hr]; simp⟩
      · obtain ⟨r, hr⟩ := ih (by omega) (by omega)
        exact ⟨r ++ rowE m (us.getD m []) (us.getD m []).length, by rw [flatTo, hr]; simp⟩
  exact h2 _ hn (Nat.le_refl _)
theorem two_hit {us : List (List FunD)} {n k : Nat} (hn : n < us.length) (hk : k < us[n].length) (hno : (flatTo us n ++ rowE n us[n] k).find? (twice us) = none) (h : 1 < strongN us us[n][k].nm) : (us[n][k].nm, true) = twoB (twoOf us) := by
  obtain ⟨r, hr⟩ := flat_has hn hk
  unfold twoOf
  rw [hr, List.find?_append, hno]
  have : twice us (n, k, us[n][k]) = true := decide_eq_true h
  simp [this, twoB]
theorem two_step {us : List (List FunD)} {n k : Nat} (hn : n < us.length) (hk : k < us[n].length) (hno : (flatTo us n ++ rowE n us[n] k).find? (twice us) = none) (h : ¬ 1 < strongN us us[n][k].nm) : (flatTo us n ++ rowE n us[n] (k + 1)).find? (twice us) = none := by
  have : twice us (n, k, us[n][k]) = false := decide_eq_false h
  rw [rowE_succ n hk, ← List.append_assoc, List.find?_append, hno]
  simp [this]


def pickTwoB (us : List (List FunD)) : ByteArray × Bool := if unitsOkB us 8 then twoB (twoOf us) else (⟨#[]⟩, false)
end Go.Proofs.YthbbmookhcalkaaGreat.PickS
