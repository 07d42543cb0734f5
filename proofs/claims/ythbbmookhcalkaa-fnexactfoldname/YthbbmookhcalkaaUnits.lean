/- The contracts of the laws' helpers on slices of functions. -/
import Derived.Test.YthbbmookhcalkaaKeep
import Derived.Deep.RegionHeld3
namespace Go.Proofs.Ythbbmookhcalkaa.Units
open Go.ChangeShapes Go.WideShapes Go.ChangeAt Go.RowKit Go.Joins
open Go.Proofs.Ythbbmookhcalkaa.Base Go.Proofs.Ythbbmookhcalkaa.InsA Go.Proofs.Ythbbmookhcalkaa.Funs Go.Proofs.Ythbbmookhcalkaa.Open Go.Proofs.Ythbbmookhcalkaa.Keep
set_option linter.unusedVariables false
set_option maxRecDepth 100000


/-- The first k functions lie in these cells, their instructions in blocks of their own. -/
def FilledF (w : World) (C : Array Value) (R : Nat) (Rs : Nat → Nat) (fs : List FunD) (k : Nat) : Prop :=
  C.size = fs.length * 3 ∧ ∀ i (h : i < fs.length), i < k → C[i * 3]? = some (.string fs[i].nm) ∧ C[i * 3 + 1]? = some (.bool fs[i].wk) ∧ C[i * 3 + 2]? = some (.slice (some ⟨Rs i, 0, none⟩) fs[i].body.length fs[i].body.length) ∧ R < Rs i ∧ OwnIns w (Rs i) fs[i].body fs[i].body.length
/-- A slice of functions of the program's own. -/
def OwnFuns (w : World) (R : Nat) (fs : List FunD) (k : Nat) : Prop := ∃ C Rs, w.heap[R]? = some (.cells C 28) ∧ FilledF w C R Rs fs k

theorem OwnFuns.row {w : World} {R : Nat} {fs : List FunD} (h : OwnFuns w R fs fs.length) (hs : ∀ f ∈ fs, f.nm.size ≤ maxLen ∧ f.body.length ≤ maxLen ∧ ∀ x ∈ f.body, x.s.size ≤ maxLen) : FunRow w (some ⟨R, 0, none⟩) fs := by
  obtain ⟨C, Rs, hC, hF⟩ := h
  refine .inr ⟨R, 0, rfl, fun i hi => ?_⟩
  obtain ⟨h0, h1, h2, h3, h4⟩ := hF.2 i hi hi
  obtain ⟨k1, k2, k3⟩ := hs _ (List.getElem_mem hi)
  simp only [Nat.zero_add]
  exact ⟨_, _, by rw [cell_of_block hC]; exact h0, by rw [cell_of_block hC]; exact h1, by rw [cell_of_block hC]; exact h2, k1, Nat.le_refl _, k2, h4.row k3⟩


end Go.Proofs.Ythbbmookhcalkaa.Units
