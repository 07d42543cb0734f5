/- What a world keeps through calls that make memory alone and through draws, as one word for many facts. -/
import Derived.Test.YtnmgeaonhbhbkaaOpen
import Derived.Deep.RegionHeld3
namespace Go.Proofs.Ytnmgeaonhbhbkaa.Keep
open Go.ChangeShapes Go.WideShapes Go.ChangeAt Go.RowKit Go.Joins
open Go.Proofs.Ytnmgeaonhbhbkaa.Base Go.Proofs.Ytnmgeaonhbhbkaa.InsA Go.Proofs.Ytnmgeaonhbhbkaa.Funs Go.Proofs.Ytnmgeaonhbhbkaa.Open
set_option linter.unusedVariables false
set_option maxRecDepth 100000

/-- A fact on worlds that stands where only new memory is made or a draw is made. -/
def Stable (S : World → Prop) : Prop := (∀ w w', Below w.heap.size w w' → S w → S w') ∧ ∀ w, S w → S w.drew
theorem Stable.and {S T : World → Prop} (h : Stable S) (k : Stable T) : Stable (fun w => S w ∧ T w) := ⟨fun w w' hb hs => ⟨h.1 w w' hb hs.1, k.1 w w' hb hs.2⟩, fun w hs => ⟨h.2 w hs.1, k.2 w hs.2⟩⟩
theorem Stable.cell (p : Addr) (v : Value) : Stable (fun w => w.cell? p = some v) := ⟨fun w w' hb hs => (hb.cell (p := p) (World.block_lt_of_cell? w _ hs)).trans hs, fun w hs => hs⟩
theorem Stable.box (B : Nat) (o : Obj) : Stable (fun w => w.heap[B]? = some o) := ⟨fun w w' hb hs => box_below hs hb, fun w hs => hs⟩
theorem Stable.row (a : Option Addr) (xs : List InsD) : Stable (fun w => InsRow w a xs) := ⟨fun w w' hb hs => hs.below hb, fun w hs => hs⟩
theorem Stable.frow (a : Option Addr) (fs : List FunD) : Stable (fun w => FunRow w a fs) := ⟨fun w w' hb hs => hs.below hb, fun w hs => hs⟩
theorem Stable.below (W : World) : Stable (fun w => Below W.heap.size W w) := ⟨fun w w' hb hs => bl_trans hs hb, fun w hs => hs.drew⟩
theorem Stable.alloc {S : World → Prop} (h : Stable S) {w : World} (hs : S w) (o : Obj) : S (w.alloc o) := h.1 w _ (below_alloc1 w o) hs

theorem s0 {a r : Prop} (h : a ∧ r) : a := h.1
theorem s1 {p1 a r : Prop} (h : p1 ∧ a ∧ r) : a := h.2.1
theorem s2 {p1 p2 a r : Prop} (h : p1 ∧ p2 ∧ a ∧ r) : a := h.2.2.1
theorem s3 {p1 p2 p3 a r : Prop} (h : p1 ∧ p2 ∧ p3 ∧ a ∧ r) : a := h.2.2.2.1
theorem s4 {p1 p2 p3 p4 a r : Prop} (h : p1 ∧ p2 ∧ p3 ∧ p4 ∧ a ∧ r) : a := h.2.2.2.2.1
theorem s5 {p1 p2 p3 p4 p5 a r : Prop} (h : p1 ∧ p2 ∧ p3 ∧ p4 ∧ p5 ∧ a ∧ r) : a := h.2.2.2.2.2.1
theorem s6 {p1 p2 p3 p4 p5 p6 a r : Prop} (h : p1 ∧ p2 ∧ p3 ∧ p4 ∧ p5 ∧ p6 ∧ a ∧ r) : a := h.2.2.2.2.2.2.1
theorem s7 {p1 p2 p3 p4 p5 p6 p7 a r : Prop} (h : p1 ∧ p2 ∧ p3 ∧ p4 ∧ p5 ∧ p6 ∧ p7 ∧ a ∧ r) : a := h.2.2.2.2.2.2.2.1
end Go.Proofs.Ytnmgeaonhbhbkaa.Keep
/- The contracts of the laws' helpers on slices of functions. -/
namespace Go.Proofs.Ytnmgeaonhbhbkaa.Units
open Go.ChangeShapes Go.WideShapes Go.ChangeAt Go.RowKit Go.Joins
open Go.Proofs.Ytnmgeaonhbhbkaa.Base Go.Proofs.Ytnmgeaonhbhbkaa.InsA Go.Proofs.Ytnmgeaonhbhbkaa.Funs Go.Proofs.Ytnmgeaonhbhbkaa.Open Go.Proofs.Ytnmgeaonhbhbkaa.Keep
set_option linter.unusedVariables false
set_option maxRecDepth 100000


/-- The first k functions lie in these cells, their instructions in blocks of their own. -/
def FilledF (w : World) (C : Array Value) (R : Nat) (Rs : Nat → Nat) (fs : List FunD) (k : Nat) : Prop :=
  C.size = fs.length * 3 ∧ ∀ i (h : i < fs.length), i < k → C[i * 3]? = some (.string fs[i].nm) ∧ C[i * 3 + 1]? = some (.bool fs[i].wk) ∧ C[i * 3 + 2]? = some (.slice (some ⟨Rs i, 0, none⟩) fs[i].body.length fs[i].body.length) ∧ R < Rs i ∧ OwnIns w (Rs i) fs[i].body fs[i].body.length
/-- A slice of functions of the program's own. -/
def OwnFuns (w : World) (R : Nat) (fs : List FunD) (k : Nat) : Prop := ∃ C Rs, w.heap[R]? = some (.cells C 31) ∧ FilledF w C R Rs fs k

theorem OwnFuns.row {w : World} {R : Nat} {fs : List FunD} (h : OwnFuns w R fs fs.length) (hs : ∀ f ∈ fs, f.nm.size ≤ maxLen ∧ f.body.length ≤ maxLen ∧ ∀ x ∈ f.body, x.s.size ≤ maxLen) : FunRow w (some ⟨R, 0, none⟩) fs := by
  obtain ⟨C, Rs, hC, hF⟩ := h
  refine .inr ⟨R, 0, rfl, fun i hi => ?_⟩
  obtain ⟨h0, h1, h2, h3, h4⟩ := hF.2 i hi hi
  obtain ⟨k1, k2, k3⟩ := hs _ (List.getElem_mem hi)
  simp only [Nat.zero_add]
  exact ⟨_, _, by rw [cell_of_block hC]; exact h0, by rw [cell_of_block hC]; exact h1, by rw [cell_of_block hC]; exact h2, k1, Nat.le_refl _, k2, h4.row k3⟩


end Go.Proofs.Ytnmgeaonhbhbkaa.Units
