/- Slices of numbers: reading them as an argument, sizes, copies, comparisons of both sides. -/
import Derived.Test.YthbbmookhcalkaaDoorKeep
import Derived.Deep.RegionHeld3
import Derived.Deep.Strs
import Derived.Deep.QuietTactic
import Derived.BigQuiet
namespace Go.Proofs.YthbbmookhcalkaaDoor.LayN
open Go.ChangeShapes Go.WideShapes Go.ChangeAt Go.RowKit Go.Joins Go.Deep
open Go.Proofs.YthbbmookhcalkaaDoor.Base Go.Proofs.YthbbmookhcalkaaDoor.Funs Go.Proofs.YthbbmookhcalkaaDoor.Open Go.Proofs.YthbbmookhcalkaaDoor.Keep
set_option linter.unusedVariables false
set_option maxRecDepth 100000

/-- These numbers lie in a row of memory. -/
def NumRow (w : World) (a : Option Addr) (l : List Int) : Prop :=
  l = [] ∨ ∃ b off, a = some ⟨b, off, none⟩ ∧ ∀ i (h : i < l.length), w.cell? ⟨b, off + i, none⟩ = some (.int .i64 l[i])
theorem cell_below {w w' : World} {p : Addr} {v : Value} (hb : Below w.heap.size w w') (hc : w.cell? p = some v) : w'.cell? p = some v := (hb.cell (p := p) (World.block_lt_of_cell? w _ hc)).trans hc
theorem NumRow.below {w w' : World} {a : Option Addr} {l : List Int} (h : NumRow w a l) (hb : Below w.heap.size w w') : NumRow w' a l := by
  rcases h with h | ⟨b, off, ha, h⟩
  · exact .inl h
  · exact .inr ⟨b, off, ha, fun i hi => cell_below hb (h i hi)⟩
theorem NumRow.get {w : World} {a : Option Addr} {l : List Int} (h : NumRow w a l) (h0 : 0 < l.length) : ∃ b off, a = some ⟨b, off, none⟩ := by
  rcases h with h | ⟨b, off, ha, _⟩
  · rw [h] at h0; simp at h0
  · exact ⟨b, off, ha⟩
theorem NumRow.cells {w : World} {b off k : Nat} {l : List Int} (h : NumRow w (some ⟨b, off, none⟩) l) (hk : k < l.length) :
    w.cell? ⟨b, off + k, none⟩ = some (.int .i64 l[k]) := by
  rcases h with h | ⟨b', off', ha, h⟩
  · subst h; simp at hk
  · simp only [Option.some.injEq, Addr.mk.injEq, and_true] at ha
    obtain ⟨rfl, rfl⟩ := ha
    exact h k hk
theorem Stable.nrow (a : Option Addr) (l : List Int) : Stable (fun w => NumRow w a l) := ⟨fun w w' hb hs => hs.below hb, fun w hs => hs⟩
def FilledN (C : Array Value) (l : List Int) (k : Nat) : Prop :=
  C.size = l.length ∧ ∀ i (h : i < l.length), i < k → C[i]? = some (.int .i64 l[i])
def OwnNums (w : World) (R : Nat) (l : List Int) (k : Nat) : Prop := ∃ C, w.heap[R]? = some (.cells C 3) ∧ FilledN C l k
theorem OwnNums.row {w : World} {R : Nat} {l : List Int} (h : OwnNums w R l l.length) : NumRow w (some ⟨R, 0, none⟩) l := by
  obtain ⟨C, hC, hF⟩ := h
  refine .inr ⟨R, 0, rfl, fun i hi => ?_⟩
  simp only [Nat.zero_add]
  rw [cell_of_block hC]
  exact hF.2 i hi hi
theorem OwnNums.below {w w' : World} {R k : Nat} {l : List Int} (h : OwnNums w R l k) (hb : Below w.heap.size w w') : OwnNums w' R l k := by
  obtain ⟨C, hC, hF⟩ := h
  exact ⟨C, box_below hC hb, hF⟩
theorem OwnNums.set {w : World} {R k B o : Nat} {l : List Int} (h : OwnNums w R l k) (hB : B ≠ R) (v : Value) : OwnNums (w.setCell ⟨B, o, none⟩ v) R l k := by
  obtain ⟨C, hC, hF⟩ := h
  exact ⟨C, (Below.heap_setCell w ⟨B, o, none⟩ v R (Ne.symm hB)).trans hC, hF⟩
theorem infoInt : (Tryd.prog.info? 3).map (fun i => (i.zero, i.size, i.bytes)) = some (some (.int .i64 0), 1, 8) := by kernel_rfl
theorem nums_step {w : World} {R k : Nat} {C : Array Value} {l : List Int} (hC : w.heap[R]? = some (.cells C 3)) (hF : FilledN C l k) (hk : k < l.length) :
    OwnNums (w.setCell ⟨R, k, none⟩ (.int .i64 l[k])) R l (k + 1) := by
  refine ⟨_, block_setCell hC _, ?_, ?_⟩
  · simp [hF.1]
  · intro i hi hlt
    have hs := hF.1
    by_cases hik : i = k
    · subst hik
      rw [Array.getElem?_setIfInBounds_self_of_lt (by omega)]
    · rw [Array.getElem?_setIfInBounds_ne (by omega)]; exact hF.2 i hi (by omega)
theorem set_other {w : World} {B R o : Nat} {v : Value} {ob : Obj} (h : w.heap[R]? = some ob) (hB : B ≠ R) : (w.setCell ⟨B, o, none⟩ v).heap[R]? = some ob := (Below.heap_setCell w ⟨B, o, none⟩ v R (Ne.symm hB)).trans h
theorem cellsNum : Tryd.prog.cellsOf 3 = 1 := by kernel_rfl
theorem one {W : World} {base : Nat} {a : Addr} {i : Nat} {cs : List Value} (h : W.cells? base (a.add (i * 1)) 1 = some cs) :
    ∃ v0, cs = [v0] ∧ W.cell? (a.add i) = some v0 := by
  obtain ⟨_, hlen, hcell⟩ := World.cells?_some h
  match cs, hlen with
  | [v0], _ =>
    have e0 := hcell 0 (by omega)
    rw [add_add] at e0
    exact ⟨v0, rfl, by simpa using e0⟩
theorem open2 {H : Type} {enc : TypeId × Value → H} {P : Program} {W : World} {base : Nat} {spare : Nat → Bool} {held : Bool} {t : TypeId} {f0 f1 : Field} {v0 v1 : Value} {n : Nat} {x : DataW H × List MemPlace} (hs : P.underlying t = some (.struct #[f0, f1])) (hone : oneCellFields P #[f0, f1] = true)
    (h : DataW.trod enc P W base spare held n t [v0, v1] = some x) :
    ∃ y0 y1 k, DataW.trod enc P W base spare held k f0.type [v0] = some y0 ∧ DataW.trod enc P W base spare held k f1.type [v1] = some y1 := by
  obtain ⟨y0, y1, k, hx, _, h0, h1⟩ := trod_struct2 hs h
  obtain ⟨o0, k0⟩ := hone_of hone 0 f0 rfl
  obtain ⟨o1, k1⟩ := hone_of hone 1 f1 rfl
  exact ⟨y0, y1, k, by simpa [o0, k0] using h0, by simpa [o1, k1] using h1⟩
theorem list_ne {α : Type} [DecidableEq α] {xs ys : List α} {k : Nat} (hx : k < xs.length) (hy : k < ys.length) (h : xs[k] ≠ ys[k]) : false = decide (xs = ys) := by
  symm; rw [decide_eq_false_iff_not]
  intro e; subst e; exact h rfl
theorem list_len {α : Type} [DecidableEq α] {xs ys : List α} (h : xs.length ≠ ys.length) : false = decide (xs = ys) := by
  symm; rw [decide_eq_false_iff_not]
  intro e; subst e; exact h rfl
/-- The first k are the same. -/
def AlikeN {α : Type} (xs ys : List α) (k : Nat) : Prop := ∀ i (h : i < xs.length) (h' : i < ys.length), i < k → xs[i] = ys[i]
theorem list_eq {α : Type} [DecidableEq α] {xs ys : List α} {k : Nat} (hx : xs.length = k) (hy : ys.length = k) (h : AlikeN xs ys k) : true = decide (xs = ys) := by
  symm; rw [decide_eq_true_iff]
  exact List.ext_getElem (by omega) fun i h1 h2 => h i h1 h2 (by omega)
theorem AlikeN.step {α : Type} {xs ys : List α} {k : Nat} (h : AlikeN xs ys k) (hx : k < xs.length) (hy : k < ys.length) (e : xs[k] = ys[k]) : AlikeN xs ys (k + 1) := fun i h1 h2 hk => by
  by_cases hik : i = k
  · subst hik; exact e
  · exact h i h1 h2 (by omega)
theorem AlikeN.zero {α : Type} (xs ys : List α) : AlikeN xs ys 0 := fun i _ _ h => by omega
end Go.Proofs.YthbbmookhcalkaaDoor.LayN
