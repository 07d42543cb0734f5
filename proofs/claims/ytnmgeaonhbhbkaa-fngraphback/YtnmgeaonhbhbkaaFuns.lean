/- The contracts of the laws' helpers on slices of instructions and on functions. -/
import Derived.Test.YtnmgeaonhbhbkaaPk3b7a8e77
import Derived.Deep.RegionHeld3
namespace Go.Proofs.Ytnmgeaonhbhbkaa.Funs
open Go.ChangeShapes Go.WideShapes Go.ChangeAt Go.RowKit Go.Joins
open Go.Proofs.Ytnmgeaonhbhbkaa.Base Go.Proofs.Ytnmgeaonhbhbkaa.InsA
set_option linter.unusedVariables false
set_option maxRecDepth 100000

/-- An instruction as plain data. -/
structure InsD where
  o : Int
  n : Int
  s : ByteArray

/-- These instructions lie in a row of memory. -/
def InsRow (w : World) (a : Option Addr) (l : List InsD) : Prop :=
  l = [] ∨ ∃ b off, a = some ⟨b, off, none⟩ ∧ ∀ i (h : i < l.length), w.cell? ⟨b, off + i * 3, none⟩ = some (.int .i64 l[i].o) ∧ w.cell? ⟨b, off + i * 3 + 1, none⟩ = some (.int .i64 l[i].n) ∧ w.cell? ⟨b, off + i * 3 + 2, none⟩ = some (.string l[i].s) ∧ l[i].s.size ≤ maxLen

theorem InsRow.below {w w' : World} {a : Option Addr} {l : List InsD} (h : InsRow w a l) (hb : Below w.heap.size w w') : InsRow w' a l := by
  rcases h with h | ⟨b, off, ha, h⟩
  · exact .inl h
  · refine .inr ⟨b, off, ha, fun i hi => ?_⟩
    obtain ⟨h0, h1, h2, h3⟩ := h i hi
    have t : ∀ o v, w.cell? ⟨b, o, none⟩ = some v → w'.cell? ⟨b, o, none⟩ = some v := fun o v hc => (hb.cell (p := ⟨b, o, none⟩) (World.block_lt_of_cell? w _ hc)).trans hc
    exact ⟨t _ _ h0, t _ _ h1, t _ _ h2, h3⟩

/-- What is left of a number when the sizes are taken off, -1 when it is not enough. -/
def szL : List InsD → Int → Int
  | [], l => l
  | x :: r, l => if szI l x.s.size < 0 then -1 else szL r (szI l x.s.size)
def szLs (xs : List InsD) (l : Int) : Int := if l - xs.length < 0 then -1 else szL xs (l - xs.length)


/-- The first k instructions lie in these cells. -/
def Filled (C : Array Value) (xs : List InsD) (k : Nat) : Prop :=
  C.size = xs.length * 3 ∧ ∀ i (h : i < xs.length), i < k → C[i * 3]? = some (.int .i64 xs[i].o) ∧ C[i * 3 + 1]? = some (.int .i64 xs[i].n) ∧ C[i * 3 + 2]? = some (.string xs[i].s)
/-- A slice of instructions of the program's own, in a block of its own. -/
def OwnIns (w : World) (R : Nat) (xs : List InsD) (k : Nat) : Prop := ∃ C, w.heap[R]? = some (.cells C 28) ∧ Filled C xs k

theorem infoIns : (Try.prog.info? 28).map (fun i => (i.zero, i.size, i.bytes)) = some (some (.agg #[.int .i64 0, .int .i64 0, .string ⟨#[]⟩]), 3, 32) := by kernel_rfl
theorem makeIns (n : Nat) (hn : n ≤ 1048576) (w : World) : (Instr.makeSlice 29 (.int .i64 (n : Int)) (.int .i64 (n : Int))).run Try.prog w = .ok (.slice (some ⟨w.heap.size, 0, none⟩) n n) (w.alloc (.cells (madeCells #[.int .i64 0, .int .i64 0, .string ⟨#[]⟩] (n * 3)) 28)) := by
  obtain ⟨i, hi, h⟩ := Option.map_eq_some_iff.1 infoIns
  simp only [Prod.mk.injEq] at h
  obtain ⟨h1, h2, h3⟩ := h
  have := run_make (P := Try.prog) w 29 28 i _ Try.underlying29 hi h1 .i64 .i64 (n : Int) (n : Int) (by omega) (Int.le_refl _) (by rw [h3]; omega) (by omega)
  rw [h2] at this
  simpa [Value.cells] using this

theorem own_step {w : World} {R k : Nat} {C : Array Value} {xs : List InsD} (hC : w.heap[R]? = some (.cells C 28)) (hF : Filled C xs k) (hk : k < xs.length) :
    OwnIns (((w.setCell ⟨R, k * 3, none⟩ (.int .i64 xs[k].o)).setCell ⟨R, k * 3 + 1, none⟩ (.int .i64 xs[k].n)).setCell ⟨R, k * 3 + 2, none⟩ (.string xs[k].s)) R xs (k + 1) := by
  refine ⟨_, block_setCell (block_setCell (block_setCell hC _) _) _, ?_, ?_⟩
  · simp [hF.1]
  · intro i hi hlt
    have hs := hF.1
    by_cases hik : i = k
    · subst hik
      refine ⟨?_, ?_, ?_⟩
      · rw [Array.getElem?_setIfInBounds_ne (by omega), Array.getElem?_setIfInBounds_ne (by omega), Array.getElem?_setIfInBounds_self_of_lt (by omega)]
      · rw [Array.getElem?_setIfInBounds_ne (by omega), Array.getElem?_setIfInBounds_self_of_lt (by simp; omega)]
      · rw [Array.getElem?_setIfInBounds_self_of_lt (by simp; omega)]
    · obtain ⟨h0, h1, h2⟩ := hF.2 i hi (by omega)
      refine ⟨?_, ?_, ?_⟩
      · rw [Array.getElem?_setIfInBounds_ne (by omega), Array.getElem?_setIfInBounds_ne (by omega), Array.getElem?_setIfInBounds_ne (by omega), h0]
      · rw [Array.getElem?_setIfInBounds_ne (by omega), Array.getElem?_setIfInBounds_ne (by omega), Array.getElem?_setIfInBounds_ne (by omega), h1]
      · rw [Array.getElem?_setIfInBounds_ne (by omega), Array.getElem?_setIfInBounds_ne (by omega), Array.getElem?_setIfInBounds_ne (by omega), h2]


theorem szL_bd (xs : List InsD) : ∀ l : Int, 0 ≤ l → l ≤ 1048576 → szL xs l ≤ 1048576 ∧ -1 ≤ szL xs l := by
  induction xs with
  | nil => intro l h0 h1; exact ⟨h1, by simp only [szL]; omega⟩
  | cons x r ih =>
    intro l h0 h1
    simp only [szL]
    by_cases h : szI l x.s.size < 0
    · rw [if_pos h]; omega
    · rw [if_neg h]
      refine ih _ (by omega) ?_
      unfold szI at *
      split <;> omega
theorem szLs_len {xs : List InsD} {l : Int} (h : 0 ≤ szLs xs l) (hl : l ≤ 1048576) : xs.length ≤ 1048576 := by
  unfold szLs at h
  by_cases hn : l - xs.length < 0
  · rw [if_pos hn] at h; omega
  · omega

theorem szL_neg (xs : List InsD) : ∀ l : Int, 0 ≤ l → szL xs l < 0 → szL xs l = -1 := by
  induction xs with
  | nil => intro l h0 h; simp only [szL] at h; omega
  | cons x r ih =>
    intro l h0 h
    simp only [szL] at h ⊢
    by_cases hn : szI l x.s.size < 0
    · rw [if_pos hn]
    · rw [if_neg hn] at h ⊢
      exact ih _ (by omega) h
theorem szLs_neg {xs : List InsD} {l : Int} (h : szLs xs l < 0) (h0 : 0 ≤ l) (h1 : l ≤ 1048576) : -1 = szLs xs l := by
  unfold szLs at h ⊢
  by_cases hn : l - xs.length < 0
  · rw [if_pos hn]
  · rw [if_neg hn] at h ⊢
    exact (szL_neg xs _ (by omega) h).symm

/-- What is left behind a function's size. -/
def szF (nm : ByteArray) (xs : List InsD) (l : Int) : Int := if szI l nm.size < 0 then -1 else szLs xs (szI l nm.size)


theorem szF_bd (nm : ByteArray) (xs : List InsD) {l : Int} (h0 : 0 ≤ l) (h1 : l ≤ 1048576) : szF nm xs l ≤ 1048576 := by
  unfold szF
  have hi : szI l nm.size ≤ 1048576 := by unfold szI; split <;> omega
  by_cases hn : szI l nm.size < 0
  · rw [if_pos hn]; omega
  · rw [if_neg hn]
    unfold szLs
    by_cases hm : szI l nm.size - xs.length < 0
    · rw [if_pos hm]; omega
    · rw [if_neg hm]; exact (szL_bd xs _ (by omega) (by omega)).1
theorem szF_len' {nm : ByteArray} {xs : List InsD} {l : Int} (h1 : l ≤ 1048576) (h : 0 ≤ szF nm xs l) : xs.length ≤ 1048576 := by
  unfold szF at h
  by_cases hn : szI l nm.size < 0
  · rw [if_pos hn] at h; omega
  · rw [if_neg hn] at h
    exact szLs_len h (by unfold szI; split <;> omega)
theorem szF_len {nm : ByteArray} {xs : List InsD} (h : 0 ≤ szF nm xs 1048576) : xs.length ≤ 1048576 := by
  unfold szF at h
  by_cases hn : szI 1048576 nm.size < 0
  · rw [if_pos hn] at h; omega
  · rw [if_neg hn] at h
    exact szLs_len h (by unfold szI; split <;> omega)

theorem own_set {w : World} {R k B o : Nat} {xs : List InsD} (h : OwnIns w R xs k) (hB : B ≠ R) (v : Value) : OwnIns (w.setCell ⟨B, o, none⟩ v) R xs k := by
  obtain ⟨C, hC, hF⟩ := h
  exact ⟨C, (Below.heap_setCell w ⟨B, o, none⟩ v R (Ne.symm hB)).trans hC, hF⟩


theorem OwnIns.below {w w' : World} {R k : Nat} {xs : List InsD} (h : OwnIns w R xs k) (hb : Below w.heap.size w w') : OwnIns w' R xs k := by
  obtain ⟨C, hC, hF⟩ := h
  exact ⟨C, box_below hC hb, hF⟩
/-- A slice of its own, read: its cells. -/
theorem OwnIns.cells {w : World} {R k : Nat} {xs : List InsD} (h : OwnIns w R xs xs.length) (hk : k < xs.length) :
    w.cell? ⟨R, k * 3, none⟩ = some (.int .i64 xs[k].o) ∧ w.cell? ⟨R, k * 3 + 1, none⟩ = some (.int .i64 xs[k].n) ∧ w.cell? ⟨R, k * 3 + 2, none⟩ = some (.string xs[k].s) := by
  obtain ⟨C, hC, hF⟩ := h
  obtain ⟨h0, h1, h2⟩ := hF.2 k hk hk
  exact ⟨by rw [cell_of_block hC]; exact h0, by rw [cell_of_block hC]; exact h1, by rw [cell_of_block hC]; exact h2⟩

theorem InsRow.get {w : World} {a : Option Addr} {xs : List InsD} (h : InsRow w a xs) (h0 : 0 < xs.length) : ∃ b off, a = some ⟨b, off, none⟩ := by
  rcases h with h | ⟨b, off, ha, _⟩
  · rw [h] at h0; simp at h0
  · exact ⟨b, off, ha⟩
theorem InsRow.cells {w : World} {b off k : Nat} {xs : List InsD} (h : InsRow w (some ⟨b, off, none⟩) xs) (hk : k < xs.length) :
    w.cell? ⟨b, off + k * 3, none⟩ = some (.int .i64 xs[k].o) ∧ w.cell? ⟨b, off + k * 3 + 1, none⟩ = some (.int .i64 xs[k].n) ∧ w.cell? ⟨b, off + k * 3 + 2, none⟩ = some (.string xs[k].s) ∧ xs[k].s.size ≤ maxLen := by
  rcases h with h | ⟨b', off', ha, h⟩
  · subst h; simp at hk
  · simp only [Option.some.injEq, Addr.mk.injEq, and_true] at ha
    obtain ⟨rfl, rfl⟩ := ha
    exact h k hk
theorem OwnIns.row {w : World} {R : Nat} {xs : List InsD} (h : OwnIns w R xs xs.length) (hs : ∀ x ∈ xs, x.s.size ≤ maxLen) : InsRow w (some ⟨R, 0, none⟩) xs := by
  refine .inr ⟨R, 0, rfl, fun i hi => ?_⟩
  obtain ⟨c0, c1, c2⟩ := h.cells hi
  simp only [Nat.zero_add]
  exact ⟨c0, c1, c2, hs _ (List.getElem_mem _)⟩
theorem InsRow.sizes {w : World} {a : Option Addr} {xs : List InsD} (h : InsRow w a xs) : ∀ x ∈ xs, x.s.size ≤ maxLen := by
  intro x hx
  obtain ⟨i, hi, rfl⟩ := List.getElem_of_mem hx
  rcases h with h | ⟨b, off, ha, h⟩
  · subst h; simp at hi
  · exact (h i hi).2.2.2


theorem keep6 {W w w' : World} {p0 p1 p2 q0 q1 q2 : Addr} {v0 v1 v2 u0 u1 u2 : Value} (h : (w.cell? p0 = some v0 ∧ w.cell? p1 = some v1 ∧ w.cell? p2 = some v2) ∧ (w.cell? q0 = some u0 ∧ w.cell? q1 = some u1 ∧ w.cell? q2 = some u2) ∧ Below W.heap.size W w) (hb : Below w.heap.size w w') :
    (w'.cell? p0 = some v0 ∧ w'.cell? p1 = some v1 ∧ w'.cell? p2 = some v2) ∧ (w'.cell? q0 = some u0 ∧ w'.cell? q1 = some u1 ∧ w'.cell? q2 = some u2) ∧ Below W.heap.size W w' := by
  obtain ⟨⟨a0, a1, a2⟩, ⟨b0, b1, b2⟩, hW⟩ := h
  have t : ∀ p v, w.cell? p = some v → w'.cell? p = some v := fun p v hc => (hb.cell (p := p) (World.block_lt_of_cell? w _ hc)).trans hc
  exact ⟨⟨t _ _ a0, t _ _ a1, t _ _ a2⟩, ⟨t _ _ b0, t _ _ b1, t _ _ b2⟩, bl_trans hW hb⟩
theorem keep6_drew {W w : World} {p0 p1 p2 q0 q1 q2 : Addr} {v0 v1 v2 u0 u1 u2 : Value} (h : (w.cell? p0 = some v0 ∧ w.cell? p1 = some v1 ∧ w.cell? p2 = some v2) ∧ (w.cell? q0 = some u0 ∧ w.cell? q1 = some u1 ∧ w.cell? q2 = some u2) ∧ Below W.heap.size W w) :
    (w.drew.cell? p0 = some v0 ∧ w.drew.cell? p1 = some v1 ∧ w.drew.cell? p2 = some v2) ∧ (w.drew.cell? q0 = some u0 ∧ w.drew.cell? q1 = some u1 ∧ w.drew.cell? q2 = some u2) ∧ Below W.heap.size W w.drew :=
  ⟨h.1, h.2.1, h.2.2.drew⟩

end Go.Proofs.Ytnmgeaonhbhbkaa.Funs
