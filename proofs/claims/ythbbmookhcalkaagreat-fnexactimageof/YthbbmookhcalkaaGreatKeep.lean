/- What a world keeps through calls that make memory alone and through draws, as one word for many facts. -/
import Derived.Test.YthbbmookhcalkaaGreatOpen
namespace Go.Proofs.YthbbmookhcalkaaGreat.Keep
open Go.ChangeShapes Go.WideShapes Go.ChangeAt Go.RowKit Go.Joins
open Go.Proofs.YthbbmookhcalkaaGreat.Base Go.Proofs.YthbbmookhcalkaaGreat.InsA Go.Proofs.YthbbmookhcalkaaGreat.Funs Go.Proofs.YthbbmookhcalkaaGreat.Open
set_option linter.unusedVariables false
set_option maxRecDepth 100000

/-- A fact on worlds that stands where only new memory is made or a draw is made. -/
def Stable (S : World → Prop) : Prop := (∀ w w', Below w.heap.size w w' → S w → S w') ∧ ∀ w, S w → S w.drew
theorem Stable.and {S T : World → Prop} (h : Stable S) (k : Stable T) : Stable (fun w => S w ∧ T w) := ⟨fun w w' hb hs => ⟨h.1 w w' hb hs.1, k.1 w w' hb hs.2⟩, fun w hs => ⟨h.2 w hs.1, k.2 w hs.2⟩⟩
theorem Stable.cell (p : Addr) (v : Value) : Stable (fun w => w.cell? p = some v) := ⟨fun w w' hb hs => (hb.cell (p := p) (World.block_lt_of_cell? w _ hs)).trans hs, fun w hs => hs⟩
theorem Stable.box (B : Nat) (o : Obj) : Stable (fun w => w.heap[B]? = some o) := ⟨fun w w' hb hs => box_below hs hb, fun w hs => hs⟩
theorem Stable.row (a : Option Addr) (xs : List InsD) : Stable (fun w => InsRow w a xs) := ⟨fun w w' hb hs => hs.below hb, fun w hs => hs⟩
theorem Stable.frow (a : Option Addr) (fs : List FunD) : Stable (fun w => FunRow w a fs) := ⟨fun w w' hb hs => hs.below hb, fun w hs => hs⟩
theorem Stable.below (W : World) : Stable (fun w => Below W.heap.size W w) := ⟨fun w w' hb hs => bl_trans hs hb, fun w hs => hs.drew⟩
theorem Stable.alloc {S : World → Prop} (h : Stable S) {w : World} (hs : S w) (o : Obj) : S (w.alloc o) := h.1 w _ (below_alloc1 w o) hs

theorem s0 {a r : Prop} (h : a ∧ r) : a := h.1
theorem s1 {p1 a r : Prop} (h : p1 ∧ a ∧ r) : a := h.2.1
theorem s2 {p1 p2 a r : Prop} (h : p1 ∧ p2 ∧ a ∧ r) : a := h.2.2.1
theorem s3 {p1 p2 p3 a r : Prop} (h : p1 ∧ p2 ∧ p3 ∧ a ∧ r) : a := h.2.2.2.1
theorem s4 {p1 p2 p3 p4 a r : Prop} (h : p1 ∧ p2 ∧ p3 ∧ p4 ∧ a ∧ r) : a := h.2.2.2.2.1
theorem s5 {p1 p2 p3 p4 p5 a r : Prop} (h : p1 ∧ p2 ∧ p3 ∧ p4 ∧ p5 ∧ a ∧ r) : a := h.2.2.2.2.2.1
theorem s6 {p1 p2 p3 p4 p5 p6 a r : Prop} (h : p1 ∧ p2 ∧ p3 ∧ p4 ∧ p5 ∧ p6 ∧ a ∧ r) : a := h.2.2.2.2.2.2.1
theorem s7 {p1 p2 p3 p4 p5 p6 p7 a r : Prop} (h : p1 ∧ p2 ∧ p3 ∧ p4 ∧ p5 ∧ p6 ∧ p7 ∧ a ∧ r) : a := h.2.2.2.2.2.2.2.1
end Go.Proofs.YthbbmookhcalkaaGreat.Keep
