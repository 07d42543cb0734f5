/- Rows of units: reading them as an argument, and the contracts of the laws' helpers on them. -/
import Derived.Test.YthbbmookhcalkaaGreatUnits
import Derived.Deep.RegionHeld3
namespace Go.Proofs.YthbbmookhcalkaaGreat.UU
open Go.ChangeShapes Go.WideShapes Go.ChangeAt Go.RowKit Go.Joins Go.Deep
open Go.Proofs.YthbbmookhcalkaaGreat.Base Go.Proofs.YthbbmookhcalkaaGreat.InsA Go.Proofs.YthbbmookhcalkaaGreat.Funs Go.Proofs.YthbbmookhcalkaaGreat.Open Go.Proofs.YthbbmookhcalkaaGreat.Keep Go.Proofs.YthbbmookhcalkaaGreat.Units
set_option linter.unusedVariables false
set_option maxRecDepth 100000

/-- The cell of a unit, and the row of its functions. -/
def UnitAt (w : World) (b o : Nat) (fs : List FunD) : Prop :=
  ∃ ai ci, w.cell? ⟨b, o, none⟩ = some (.slice ai fs.length ci) ∧ fs.length ≤ ci ∧ ci ≤ maxLen ∧ FunRow w ai fs
/-- These units lie in a row of memory. -/
def UnitRow (w : World) (a : Option Addr) (us : List (List FunD)) : Prop :=
  us = [] ∨ ∃ b off, a = some ⟨b, off, none⟩ ∧ ∀ i (h : i < us.length), UnitAt w b (off + i) us[i]

theorem UnitAt.below {w w' : World} {b o : Nat} {fs : List FunD} (h : UnitAt w b o fs) (hb : Below w.heap.size w w') : UnitAt w' b o fs := by
  obtain ⟨ai, ci, h0, h1, h2, h3⟩ := h
  exact ⟨ai, ci, (hb.cell (p := ⟨b, o, none⟩) (World.block_lt_of_cell? w _ h0)).trans h0, h1, h2, h3.below hb⟩
theorem UnitRow.below {w w' : World} {a : Option Addr} {us : List (List FunD)} (h : UnitRow w a us) (hb : Below w.heap.size w w') : UnitRow w' a us := by
  rcases h with h | ⟨b, off, ha, h⟩
  · exact .inl h
  · exact .inr ⟨b, off, ha, fun i hi => (h i hi).below hb⟩
theorem UnitRow.get {w : World} {a : Option Addr} {us : List (List FunD)} (h : UnitRow w a us) (h0 : 0 < us.length) : ∃ b off, a = some ⟨b, off, none⟩ := by
  rcases h with h | ⟨b, off, ha, _⟩
  · rw [h] at h0; simp at h0
  · exact ⟨b, off, ha⟩
theorem UnitRow.at {w : World} {b off k : Nat} {us : List (List FunD)} (h : UnitRow w (some ⟨b, off, none⟩) us) (hk : k < us.length) : UnitAt w b (off + k) us[k] := by
  rcases h with h | ⟨b', off', ha, h⟩
  · subst h; simp at hk
  · simp only [Option.some.injEq, Addr.mk.injEq, and_true] at ha
    obtain ⟨rfl, rfl⟩ := ha
    exact h k hk
/-- The sizes of all that is in functions. -/
def Fits (fs : List FunD) : Prop := fs.length ≤ maxLen ∧ ∀ f ∈ fs, f.nm.size ≤ maxLen ∧ f.body.length ≤ maxLen ∧ ∀ x ∈ f.body, x.s.size ≤ maxLen
theorem UnitRow.sizes {w : World} {a : Option Addr} {us : List (List FunD)} (h : UnitRow w a us) : ∀ u ∈ us, Fits u := by
  intro u hu
  obtain ⟨i, hi, rfl⟩ := List.getElem_of_mem hu
  rcases h with h | ⟨b, off, ha, h⟩
  · subst h; simp at hi
  · obtain ⟨ai, ci, _, h4, h5, h6⟩ := h i hi
    exact ⟨by omega, h6.sizes⟩
theorem Stable.urow (a : Option Addr) (us : List (List FunD)) : Stable (fun w => UnitRow w a us) := ⟨fun w w' hb hs => hs.below hb, fun w hs => hs⟩


/-- A slice of functions of the program's own, its blocks from R up to E. -/
def OwnFE (w : World) (R E : Nat) (fs : List FunD) : Prop := ∃ C Rs, w.heap[R]? = some (.cells C 51) ∧ FilledF w C R Rs fs fs.length ∧ R < E ∧ ∀ i, i < fs.length → Rs i < E
theorem OwnFE.funs {w : World} {R E : Nat} {fs : List FunD} (h : OwnFE w R E fs) : OwnFuns w R fs fs.length := by
  obtain ⟨C, Rs, hC, hF, _⟩ := h
  exact ⟨C, Rs, hC, hF⟩
theorem OwnFE.of {w : World} {R : Nat} {fs : List FunD} (h : OwnFuns w R fs fs.length) : OwnFE w R w.heap.size fs := by
  obtain ⟨C, Rs, hC, hF⟩ := h
  refine ⟨C, Rs, hC, hF, (Array.getElem?_eq_some_iff.1 hC).1, fun i hi => ?_⟩
  obtain ⟨_, _, _, _, D, hD, _⟩ := hF.2 i hi hi
  exact (Array.getElem?_eq_some_iff.1 hD).1
theorem filledF_below {w w' : World} {C : Array Value} {R k : Nat} {Rs : Nat → Nat} {fs : List FunD} (h : FilledF w C R Rs fs k) (hb : Below w.heap.size w w') : FilledF w' C R Rs fs k :=
  ⟨h.1, fun i hi hk => by obtain ⟨h0, h1, h2, h3, h4⟩ := h.2 i hi hk; exact ⟨h0, h1, h2, h3, h4.below hb⟩⟩
theorem OwnFE.below {w w' : World} {R E : Nat} {fs : List FunD} (h : OwnFE w R E fs) (hb : Below w.heap.size w w') : OwnFE w' R E fs := by
  obtain ⟨C, Rs, hC, hF, hr⟩ := h
  exact ⟨C, Rs, box_below hC hb, filledF_below hF hb, hr⟩
theorem OwnFE.set {w : World} {R E B o : Nat} {fs : List FunD} (h : OwnFE w R E fs) (hB : B < R) (v : Value) : OwnFE (w.setCell ⟨B, o, none⟩ v) R E fs := by
  obtain ⟨C, Rs, hC, hF, hr⟩ := h
  refine ⟨C, Rs, (Below.heap_setCell w ⟨B, o, none⟩ v R (by show R ≠ B; omega)).trans hC, ⟨hF.1, fun i hi hk => ?_⟩, hr⟩
  obtain ⟨h0, h1, h2, h3, h4⟩ := hF.2 i hi hk
  exact ⟨h0, h1, h2, h3, own_set h4 (by omega) v⟩
/-- The first k units lie in these cells, each in blocks of its own, one behind the other. -/
def FilledU (w : World) (C : Array Value) (R : Nat) (Rs Es : Nat → Nat) (us : List (List FunD)) (k : Nat) : Prop :=
  C.size = us.length ∧ (∀ i (h : i < us.length), i < k → C[i]? = some (.slice (some ⟨Rs i, 0, none⟩) us[i].length us[i].length) ∧ R < Rs i ∧ Es i ≤ w.heap.size ∧ OwnFE w (Rs i) (Es i) us[i]) ∧ ∀ i j, i < j → j < k → Es i ≤ Rs j
/-- A slice of units of the program's own. -/
def OwnUnits (w : World) (R : Nat) (us : List (List FunD)) (k : Nat) : Prop := ∃ C Rs Es, w.heap[R]? = some (.cells C 31) ∧ FilledU w C R Rs Es us k
theorem OwnUnits.row {w : World} {R : Nat} {us : List (List FunD)} (h : OwnUnits w R us us.length) (hs : ∀ u ∈ us, Fits u) : UnitRow w (some ⟨R, 0, none⟩) us := by
  obtain ⟨C, Rs, Es, hC, hF⟩ := h
  refine .inr ⟨R, 0, rfl, fun i hi => ?_⟩
  obtain ⟨h0, h3, _, h4⟩ := hF.2.1 i hi hi
  obtain ⟨k1, k2⟩ := hs _ (List.getElem_mem hi)
  simp only [Nat.zero_add]
  exact ⟨_, _, by rw [cell_of_block hC]; exact h0, Nat.le_refl _, k1, h4.funs.row k2⟩


end Go.Proofs.YthbbmookhcalkaaGreat.UU
