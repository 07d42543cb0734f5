/- Rows of cells, machines of an image: sizes, copies, comparisons, and as arguments (written by mk_cell.py out of Mach.t). -/
import Derived.Test.YthbbmookhcalkaaGreatLayN
import Derived.Test.YthbbmookhcalkaaGreatKeep
import Derived.Deep.RegionHeld3
import Derived.Deep.Strs
import Derived.Deep.QuietTactic
import Derived.BigQuiet
namespace Go.Proofs.YthbbmookhcalkaaGreat.CellA
open Go.ChangeShapes Go.WideShapes Go.ChangeAt Go.RowKit Go.Joins Go.Deep
open Go.Proofs.YthbbmookhcalkaaGreat.Base Go.Proofs.YthbbmookhcalkaaGreat.Funs Go.Proofs.YthbbmookhcalkaaGreat.Open Go.Proofs.YthbbmookhcalkaaGreat.Keep Go.Proofs.YthbbmookhcalkaaGreat.LayN
set_option linter.unusedVariables false
set_option maxRecDepth 100000
/-- A cell as plain data: what is done (f), and the number (p). -/
structure CellD where
  f : Int
  p : Int
  deriving DecidableEq
instance : Inhabited CellD := ⟨⟨0, 0⟩⟩
/-- These cells lie in a row of memory. -/
def CellRow (w : World) (a : Option Addr) (l : List CellD) : Prop :=
  l = [] ∨ ∃ b off, a = some ⟨b, off, none⟩ ∧ ∀ i (h : i < l.length), w.cell? ⟨b, off + i * 2, none⟩ = some (.int .i64 l[i].f) ∧ w.cell? ⟨b, off + i * 2 + 1, none⟩ = some (.int .i64 l[i].p)
theorem CellRow.below {w w' : World} {a : Option Addr} {l : List CellD} (h : CellRow w a l) (hb : Below w.heap.size w w') : CellRow w' a l := by
  rcases h with h | ⟨b, off, ha, h⟩
  · exact .inl h
  · exact .inr ⟨b, off, ha, fun i hi => ⟨cell_below hb (h i hi).1, cell_below hb (h i hi).2⟩⟩
theorem CellRow.get {w : World} {a : Option Addr} {l : List CellD} (h : CellRow w a l) (h0 : 0 < l.length) : ∃ b off, a = some ⟨b, off, none⟩ := by
  rcases h with h | ⟨b, off, ha, _⟩
  · rw [h] at h0; simp at h0
  · exact ⟨b, off, ha⟩
theorem CellRow.cells {w : World} {b off k : Nat} {l : List CellD} (h : CellRow w (some ⟨b, off, none⟩) l) (hk : k < l.length) :
    w.cell? ⟨b, off + k * 2, none⟩ = some (.int .i64 l[k].f) ∧ w.cell? ⟨b, off + k * 2 + 1, none⟩ = some (.int .i64 l[k].p) := by
  rcases h with h | ⟨b', off', ha, h⟩
  · subst h; simp at hk
  · simp only [Option.some.injEq, Addr.mk.injEq, and_true] at ha
    obtain ⟨rfl, rfl⟩ := ha
    exact h k hk
theorem Stable.crow (a : Option Addr) (l : List CellD) : Stable (fun w => CellRow w a l) := ⟨fun w w' hb hs => hs.below hb, fun w hs => hs⟩
/-- The first k cells lie in these cells. -/
def FilledC (C : Array Value) (l : List CellD) (k : Nat) : Prop :=
  C.size = l.length * 2 ∧ ∀ i (h : i < l.length), i < k → C[i * 2]? = some (.int .i64 l[i].f) ∧ C[i * 2 + 1]? = some (.int .i64 l[i].p)
def OwnCells (w : World) (R : Nat) (l : List CellD) (k : Nat) : Prop := ∃ C, w.heap[R]? = some (.cells C 63) ∧ FilledC C l k
theorem OwnCells.row {w : World} {R : Nat} {l : List CellD} (h : OwnCells w R l l.length) : CellRow w (some ⟨R, 0, none⟩) l := by
  obtain ⟨C, hC, hF⟩ := h
  refine .inr ⟨R, 0, rfl, fun i hi => ?_⟩
  simp only [Nat.zero_add]
  rw [cell_of_block hC, cell_of_block hC]
  exact hF.2 i hi hi
theorem OwnCells.below {w w' : World} {R k : Nat} {l : List CellD} (h : OwnCells w R l k) (hb : Below w.heap.size w w') : OwnCells w' R l k := by
  obtain ⟨C, hC, hF⟩ := h
  exact ⟨C, box_below hC hb, hF⟩
theorem OwnCells.set {w : World} {R k B o : Nat} {l : List CellD} (h : OwnCells w R l k) (hB : B ≠ R) (v : Value) : OwnCells (w.setCell ⟨B, o, none⟩ v) R l k := by
  obtain ⟨C, hC, hF⟩ := h
  exact ⟨C, (Below.heap_setCell w ⟨B, o, none⟩ v R (Ne.symm hB)).trans hC, hF⟩
theorem infoCell : (Tryz.prog.info? 63).map (fun i => (i.zero, i.size, i.bytes)) = some (some (.agg #[.int .i64 0, .int .i64 0]), 2, 16) := by kernel_rfl
theorem makeCells (n : Nat) (hn : n ≤ 1048576) (w : World) : (Instr.makeSlice 29 (.int .i64 (n : Int)) (.int .i64 (n : Int))).run Tryz.prog w = .ok (.slice (some ⟨w.heap.size, 0, none⟩) n n) (w.alloc (.cells (madeCells #[.int .i64 0, .int .i64 0] (n * 2)) 63)) := by
  obtain ⟨i, hi, h⟩ := Option.map_eq_some_iff.1 infoCell
  simp only [Prod.mk.injEq] at h
  obtain ⟨h1, h2, h3⟩ := h
  have := run_make (P := Tryz.prog) w 29 63 i _ Tryz.underlying29 hi h1 .i64 .i64 (n : Int) (n : Int) (by omega) (Int.le_refl _) (by rw [h3]; omega) (by omega)
  rw [h2] at this
  simpa [Value.cells] using this
theorem cells_step {w : World} {R k : Nat} {C : Array Value} {l : List CellD} (hC : w.heap[R]? = some (.cells C 63)) (hF : FilledC C l k) (hk : k < l.length) :
    OwnCells ((w.setCell ⟨R, k * 2, none⟩ (.int .i64 l[k].f)).setCell ⟨R, k * 2 + 1, none⟩ (.int .i64 l[k].p)) R l (k + 1) := by
  refine ⟨_, block_setCell (block_setCell hC _) _, ?_, ?_⟩
  · simp [hF.1]
  · intro i hi hlt
    have hs := hF.1
    by_cases hik : i = k
    · subst hik
      refine ⟨?_, ?_⟩
      · rw [Array.getElem?_setIfInBounds_ne (by omega), Array.getElem?_setIfInBounds_self_of_lt (by omega)]
      · rw [Array.getElem?_setIfInBounds_self_of_lt (by simp; omega)]
    · obtain ⟨h0, h1⟩ := hF.2 i hi (by omega)
      refine ⟨?_, ?_⟩
      · rw [Array.getElem?_setIfInBounds_ne (by omega), Array.getElem?_setIfInBounds_ne (by omega), h0]
      · rw [Array.getElem?_setIfInBounds_ne (by omega), Array.getElem?_setIfInBounds_ne (by omega), h1]
/-- What is left of a number when a length is taken off, -1 when it is not enough. -/
def sz1 (n : Nat) (l : Int) : Int := if l - n < 0 then -1 else l - n
theorem sz1_bd (n : Nat) {l : Int} (h : l ≤ 1048576) : sz1 n l ≤ 1048576 := by unfold sz1; split <;> omega
theorem sz1_len {n : Nat} {l : Int} (h : 0 ≤ sz1 n l) (h1 : l ≤ 1048576) : n ≤ 1048576 := by
  unfold sz1 at h
  by_cases h2 : l - n < 0
  · rw [if_pos h2] at h; omega
  · omega
set_option maxHeartbeats 400000 in
theorem eqCell_same (f p : Int) (w : World) :
    Calls Tryz.prog 28 #[.agg #[.int .i64 f, .int .i64 p], .agg #[.int .i64 f, .int .i64 p]] w fun e w' => e = .returned (.bool true) ∧ Below w.heap.size w w' := by
  go_enter Tryz.func28, Tryz.ntmps28
  go_wp2
  go_ret
  exact ⟨rfl, below_alloc2 _ _ _⟩
theorem keep4 {W w w' : World} {p0 p1 q0 q1 : Addr} {v0 v1 u0 u1 : Value} (h : (w.cell? p0 = some v0 ∧ w.cell? p1 = some v1) ∧ (w.cell? q0 = some u0 ∧ w.cell? q1 = some u1) ∧ Below W.heap.size W w) (hb : Below w.heap.size w w') :
    (w'.cell? p0 = some v0 ∧ w'.cell? p1 = some v1) ∧ (w'.cell? q0 = some u0 ∧ w'.cell? q1 = some u1) ∧ Below W.heap.size W w' :=
  ⟨⟨cell_below hb h.1.1, cell_below hb h.1.2⟩, ⟨cell_below hb h.2.1.1, cell_below hb h.2.1.2⟩, bl_trans h.2.2 hb⟩
theorem keep4_drew {W w : World} {p0 p1 q0 q1 : Addr} {v0 v1 u0 u1 : Value} (h : (w.cell? p0 = some v0 ∧ w.cell? p1 = some v1) ∧ (w.cell? q0 = some u0 ∧ w.cell? q1 = some u1) ∧ Below W.heap.size W w) :
    (w.drew.cell? p0 = some v0 ∧ w.drew.cell? p1 = some v1) ∧ (w.drew.cell? q0 = some u0 ∧ w.drew.cell? q1 = some u1) ∧ Below W.heap.size W w.drew := ⟨h.1, h.2.1, h.2.2.drew⟩
set_option maxHeartbeats 1000000 in
theorem eqCellS_same (a a' : Option Addr) (cap cap' : Nat) (xs : List CellD) (w : World) (hcap : xs.length ≤ cap) (hcm : cap ≤ maxLen) (hR : CellRow w a xs) (hQ : CellRow w a' xs) :
    Calls Tryz.prog 10 #[.slice a xs.length cap, .slice a' xs.length cap'] w fun e w' => e = .returned (.bool true) ∧ Below w.heap.size w w' := by
  have HR := hide hR
  have HQ := hide hQ
  clear hR hQ
  unfold maxLen at hcm
  have hlen : (xs.length : Int) ≤ 9223372036854775807 := by omega
  go_enter Tryz.func10, Tryz.ntmps10
  go_wp2_with fail
  go_loopw [5] (fun i w' => ∃ k : Nat, k ≤ xs.length ∧ i = .int .i64 k ∧ Below w.heap.size w w') (fun i _ => xs.length - (intOf i).toNat)
  case atStart => exact ⟨0, Nat.zero_le _, rfl, Below.refl _ _⟩
  case round =>
    obtain ⟨k, hk, rfl, hB⟩ := hrel
    by_cases hkl : k < xs.length
    · obtain ⟨b, off, rfl⟩ := (unhide HR).get (by omega)
      obtain ⟨b', off', rfl⟩ := (unhide HQ).get (by omega)
      obtain ⟨c0, c1⟩ := ((unhide HR).below hB).cells hkl
      obtain ⟨d0, d1⟩ := ((unhide HQ).below hB).cells hkl
      have hkl' : (k : Int) < (xs.length : Int) := by omega
      have hk0 : (0 : Int) ≤ (k : Int) := by omega
      have hS0 := And.intro (And.intro c0 c1) (And.intro (And.intro d0 d1) hB)
      generalize xs[k] = x at *
      clear c0 c1 d0 d1 hB
      go_wp2_with fail
      go_region_held3 (fun w' => (w'.cell? ⟨b, off + k * 2, none⟩ = some (.int .i64 x.f) ∧ w'.cell? ⟨b, off + k * 2 + 1, none⟩ = some (.int .i64 x.p)) ∧ (w'.cell? ⟨b', off' + k * 2, none⟩ = some (.int .i64 x.f) ∧ w'.cell? ⟨b', off' + k * 2 + 1, none⟩ = some (.int .i64 x.p)) ∧ Below w.heap.size w w') (first | assumption | (refine keep4 ?_ hbk; assumption) | (refine keep4_drew ?_; assumption)) (first | (go_at_call 28; refine (eqCell_same _ _ _).mono ?_; rintro e wk ⟨rfl, hbk⟩))
      have hS1 : (fun w' => (w'.cell? ⟨b, off + k * 2, none⟩ = some (.int .i64 x.f) ∧ w'.cell? ⟨b, off + k * 2 + 1, none⟩ = some (.int .i64 x.p)) ∧ (w'.cell? ⟨b', off' + k * 2, none⟩ = some (.int .i64 x.f) ∧ w'.cell? ⟨b', off' + k * 2 + 1, none⟩ = some (.int .i64 x.p)) ∧ Below w.heap.size w w') wk := by assumption
      have hB1 := hS1.2.2
      go_wp2_with fail
      exact ⟨⟨k + 1, by omega, by go_num, hB1⟩, by simp [intOf]; omega⟩
    · go_wp2_with fail
      go_ret
      exact ⟨rfl, hB⟩
theorem box5 {w : World} {B : Nat} {v0 v1 v2 v3 v4 : Value} {t : TypeId} (h : w.heap[B]? = some (.cells #[v0, v1, v2, v3, v4] t)) :
    (w.cell? ⟨B, 0, none⟩ = some v0 ∧ w.cell? ⟨B, 1, none⟩ = some v1 ∧ w.cell? ⟨B, 2, none⟩ = some v2 ∧ w.cell? ⟨B, 3, none⟩ = some v3 ∧ w.cell? ⟨B, 4, none⟩ = some v4) ∧ (w.frozen? ⟨B, 0, none⟩ = false ∧ w.frozen? ⟨B, 1, none⟩ = false ∧ w.frozen? ⟨B, 2, none⟩ = false ∧ w.frozen? ⟨B, 3, none⟩ = false ∧ w.frozen? ⟨B, 4, none⟩ = false) :=
  ⟨⟨by rw [cell_of_block h]; rfl, by rw [cell_of_block h]; rfl, by rw [cell_of_block h]; rfl, by rw [cell_of_block h]; rfl, by rw [cell_of_block h]; rfl⟩, unfrozen_of_block h 0, unfrozen_of_block h 1, unfrozen_of_block h 2, unfrozen_of_block h 3, unfrozen_of_block h 4⟩
/-- What is left of a number when two lengths are taken off, -1 when it is not enough. -/
def szM (n m : Nat) (l : Int) : Int := if l - n < 0 then -1 else if l - n - m < 0 then -1 else l - n - m
theorem szM_bd (n m : Nat) {l : Int} (h : l ≤ 1048576) : szM n m l ≤ 1048576 := by unfold szM; split <;> (try split) <;> omega
theorem szM_len {n m : Nat} {l : Int} (h : 0 ≤ szM n m l) (h1 : l ≤ 1048576) : n ≤ 1048576 ∧ m ≤ 1048576 := by
  unfold szM at h
  by_cases h2 : l - n < 0
  · rw [if_pos h2] at h; omega
  · rw [if_neg h2] at h
    by_cases h3 : l - n - m < 0
    · rw [if_pos h3] at h; omega
    · omega
end Go.Proofs.YthbbmookhcalkaaGreat.CellA
