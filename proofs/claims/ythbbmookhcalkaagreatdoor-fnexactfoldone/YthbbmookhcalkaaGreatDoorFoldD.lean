/- What is twice, plain data: the first two functions with one body. -/
import Derived.Test.YthbbmookhcalkaaGreatDoorFunS
import Derived.Test.YthbbmookhcalkaaGreatDoorSame
import Derived.Test.YthbbmookhcalkaaGreatDoorKeepA
namespace Go.Proofs.YthbbmookhcalkaaGreatDoor.FoldD
open Go.Proofs.YthbbmookhcalkaaGreatDoor.InsA Go.Proofs.YthbbmookhcalkaaGreatDoor.Name Go.Proofs.YthbbmookhcalkaaGreatDoor.InsB Go.Proofs.YthbbmookhcalkaaGreatDoor.Funs Go.Proofs.YthbbmookhcalkaaGreatDoor.Open Go.Proofs.YthbbmookhcalkaaGreatDoor.FunS Go.Proofs.YthbbmookhcalkaaGreatDoor.Same Go.Proofs.YthbbmookhcalkaaGreatDoor.UnitS Go.Proofs.YthbbmookhcalkaaGreatDoor.Refs Go.Proofs.YthbbmookhcalkaaGreatDoor.KeepD Go.Proofs.YthbbmookhcalkaaGreatDoor.KeepA
set_option linter.unusedVariables false
set_option maxRecDepth 100000

/-- Two functions have one body. -/
def OneB (fs : List FunD) (i k : Nat) : Prop := (fs.getD i default).body = (fs.getD k default).body
/-- The first two functions with one body, of those from j on. -/
def TwoIs (fs : List FunD) (j : Nat) : Option (Nat × Nat) → Prop
  | none => ∀ i k, j ≤ i → i < k → k < fs.length → ¬ OneB fs i k
  | some (i, k) => j ≤ i ∧ i < k ∧ k < fs.length ∧ OneB fs i k ∧ (∀ i' k', j ≤ i' → i' < i → i' < k' → k' < fs.length → ¬ OneB fs i' k') ∧ ∀ k', i < k' → k' < k → ¬ OneB fs i k'
theorem two_one {fs : List FunD} {j : Nat} {r q : Option (Nat × Nat)} (h : TwoIs fs j r) (h' : TwoIs fs j q) : r = q := by
  match r, q, h, h' with
  | none, none, _, _ => rfl
  | none, some (i, k), h, ⟨h1, h2, h3, h4, _⟩ => exact absurd h4 (h i k h1 h2 h3)
  | some (i, k), none, ⟨h1, h2, h3, h4, _⟩, h => exact absurd h4 (h i k h1 h2 h3)
  | some (i, k), some (a, b), ⟨h1, h2, h3, h4, h5, h6⟩, ⟨g1, g2, g3, g4, g5, g6⟩ =>
    have e : i = a := by
      rcases Nat.lt_trichotomy i a with h | h | h
      · exact absurd h4 (g5 i k h1 h h2 h3)
      · exact h
      · exact absurd g4 (h5 a b g1 h g2 g3)
    subst e
    have e : k = b := by
      rcases Nat.lt_trichotomy k b with h | h | h
      · exact absurd h4 (g6 k h2 h)
      · exact h
      · exact absurd g4 (h6 b g2 h)
    rw [e]
open Classical in
noncomputable def twoN (fs : List FunD) : Option (Nat × Nat) := if h : ∃ r, TwoIs fs 0 r then h.choose else none
theorem twoN_of {fs : List FunD} {r : Option (Nat × Nat)} (h : TwoIs fs 0 r) : twoN fs = r := by
  unfold twoN
  rw [dif_pos ⟨r, h⟩]
  exact two_one (Exists.choose_spec ⟨r, h⟩) h
/-- What FoldTwo answers. -/
noncomputable def twoE (fs : List FunD) : Int × Int × Bool := if keepOkB fs then (match twoN fs with | none => (0, 0, false) | some (i, k) => ((i : Int), (k : Int), true)) else (0, 0, false)
theorem twoE_no {fs : List FunD} (h : keepOkB fs = false) : twoE fs = (0, 0, false) := by simp [twoE, h]
theorem twoE_none {fs : List FunD} (h : TwoIs fs 0 none) : twoE fs = (0, 0, false) := by
  unfold twoE
  split
  · rw [twoN_of h]
  · rfl
theorem twoE_some {fs : List FunD} {i k : Nat} (hk : keepOkB fs = true) (h : TwoIs fs 0 (some (i, k))) : twoE fs = ((i : Int), (k : Int), true) := by
  unfold twoE
  rw [if_pos hk, twoN_of h]
theorem two_end (fs : List FunD) : TwoIs fs fs.length none := fun i k h1 h2 h3 => by omega
theorem two_hit {fs : List FunD} {j k : Nat} (h1 : j < k) (h2 : k < fs.length) (h3 : OneB fs j k) (h4 : ∀ k', j < k' → k' < k → ¬ OneB fs j k') : TwoIs fs j (some (j, k)) := ⟨Nat.le_refl _, h1, h2, h3, fun i' k' a b => by omega, h4⟩
theorem two_miss {fs : List FunD} {j : Nat} {r : Option (Nat × Nat)} (h : TwoIs fs (j + 1) r) (h4 : ∀ k', j < k' → k' < fs.length → ¬ OneB fs j k') : TwoIs fs j r := by
  match r, h with
  | none, h =>
    intro i k a b c
    by_cases e : i = j
    · subst e; exact h4 k b c
    · exact h i k (by omega) b c
  | some (i, k), ⟨h1, h2, h3, h5, h6, h7⟩ =>
    refine ⟨by omega, h2, h3, h5, fun i' k' a b c d => ?_, h7⟩
    by_cases e : i' = j
    · subst e; exact h4 k' c d
    · exact h6 i' k' (by omega) b c d
/-- .. of those ahead of j, none: the first that is found. -/
theorem two_first {fs : List FunD} {i k : Nat} (h0 : ∀ i' k', i' < i → i' < k' → k' < fs.length → ¬ OneB fs i' k') (h1 : i < k) (h2 : k < fs.length) (h3 : OneB fs i k) (h4 : ∀ k', i < k' → k' < k → ¬ OneB fs i k') : TwoIs fs 0 (some (i, k)) := ⟨Nat.zero_le _, h1, h2, h3, fun i' k' _ b c d => h0 i' k' b c d, h4⟩
theorem oneB_is {fs : List FunD} {i k : Nat} (hi : i < fs.length) (hk : k < fs.length) : OneB fs i k ↔ bodyEqB fs[i].body fs[k].body = true := by
  unfold OneB
  rw [bodyEqB_iff]
  simp [List.getD, List.getElem?_eq_getElem hi, List.getElem?_eq_getElem hk]
end Go.Proofs.YthbbmookhcalkaaGreatDoor.FoldD
