/- The contracts of the laws' helpers on slices of instructions and on functions. -/
import Derived.Test.YtnmgeaonhbhbkaaPk5024f70b
import Derived.Deep.RegionHeld3
import Derived.Deep.Strs
namespace Go.Proofs.Ytnmgeaonhbhbkaa.Funs
open Go.ChangeShapes Go.WideShapes Go.ChangeAt Go.RowKit Go.Joins
open Go.Proofs.Ytnmgeaonhbhbkaa.Base Go.Proofs.Ytnmgeaonhbhbkaa.InsA
set_option linter.unusedVariables false
set_option maxRecDepth 100000

/-- An instruction as plain data. -/
structure InsD where
  o : Int
  n : Int
  s : ByteArray

/-- These instructions lie in a row of memory. -/
def InsRow (w : World) (a : Option Addr) (l : List InsD) : Prop :=
  l = [] ∨ ∃ b off, a = some ⟨b, off, none⟩ ∧ ∀ i (h : i < l.length), w.cell? ⟨b, off + i * 3, none⟩ = some (.int .i64 l[i].o) ∧ w.cell? ⟨b, off + i * 3 + 1, none⟩ = some (.int .i64 l[i].n) ∧ w.cell? ⟨b, off + i * 3 + 2, none⟩ = some (.string l[i].s) ∧ l[i].s.size ≤ maxLen

theorem InsRow.below {w w' : World} {a : Option Addr} {l : List InsD} (h : InsRow w a l) (hb : Below w.heap.size w w') : InsRow w' a l := by
  rcases h with h | ⟨b, off, ha, h⟩
  · exact .inl h
  · refine .inr ⟨b, off, ha, fun i hi => ?_⟩
    obtain ⟨h0, h1, h2, h3⟩ := h i hi
    have t : ∀ o v, w.cell? ⟨b, o, none⟩ = some v → w'.cell? ⟨b, o, none⟩ = some v := fun o v hc => (hb.cell (p := ⟨b, o, none⟩) (World.block_lt_of_cell? w _ hc)).trans hc
    exact ⟨t _ _ h0, t _ _ h1, t _ _ h2, h3⟩

/-- What is left of a number when the sizes are taken off, -1 when it is not enough. -/
def szL : List InsD → Int → Int
  | [], l => l
  | x :: r, l => if szI l x.s.size < 0 then -1 else szL r (szI l x.s.size)
def szLs (xs : List InsD) (l : Int) : Int := if l - xs.length < 0 then -1 else szL xs (l - xs.length)


/-- The first k instructions lie in these cells. -/
def Filled (C : Array Value) (xs : List InsD) (k : Nat) : Prop :=
  C.size = xs.length * 3 ∧ ∀ i (h : i < xs.length), i < k → C[i * 3]? = some (.int .i64 xs[i].o) ∧ C[i * 3 + 1]? = some (.int .i64 xs[i].n) ∧ C[i * 3 + 2]? = some (.string xs[i].s)
/-- A slice of instructions of the program's own, in a block of its own. -/
def OwnIns (w : World) (R : Nat) (xs : List InsD) (k : Nat) : Prop := ∃ C, w.heap[R]? = some (.cells C 28) ∧ Filled C xs k

theorem infoIns : (Try.prog.info? 28).map (fun i => (i.zero, i.size, i.bytes)) = some (some (.agg #[.int .i64 0, .int .i64 0, .string ⟨#[]⟩]), 3, 32) := by kernel_rfl
theorem makeIns (n : Nat) (hn : n ≤ 1048576) (w : World) : (Instr.makeSlice 29 (.int .i64 (n : Int)) (.int .i64 (n : Int))).run Try.prog w = .ok (.slice (some ⟨w.heap.size, 0, none⟩) n n) (w.alloc (.cells (madeCells #[.int .i64 0, .int .i64 0, .string ⟨#[]⟩] (n * 3)) 28)) := by
  obtain ⟨i, hi, h⟩ := Option.map_eq_some_iff.1 infoIns
  simp only [Prod.mk.injEq] at h
  obtain ⟨h1, h2, h3⟩ := h
  have := run_make (P := Try.prog) w 29 28 i _ Try.underlying29 hi h1 .i64 .i64 (n : Int) (n : Int) (by omega) (Int.le_refl _) (by rw [h3]; omega) (by omega)
  rw [h2] at this
  simpa [Value.cells] using this

theorem own_step {w : World} {R k : Nat} {C : Array Value} {xs : List InsD} (hC : w.heap[R]? = some (.cells C 28)) (hF : Filled C xs k) (hk : k < xs.length) :
    OwnIns (((w.setCell ⟨R, k * 3, none⟩ (.int .i64 xs[k].o)).setCell ⟨R, k * 3 + 1, none⟩ (.int .i64 xs[k].n)).setCell ⟨R, k * 3 + 2, none⟩ (.string xs[k].s)) R xs (k + 1) := by
  refine ⟨_, block_setCell (block_setCell (block_setCell hC _) _) _, ?_, ?_⟩
  · simp [hF.1]
  · intro i hi hlt
    have hs := hF.1
    by_cases hik : i = k
    · subst hik
      refine ⟨?_, ?_, ?_⟩
      · rw [Array.getElem?_setIfInBounds_ne (by omega), Array.getElem?_setIfInBounds_ne (by omega), Array.getElem?_setIfInBounds_self_of_lt (by omega)]
      · rw [Array.getElem?_setIfInBounds_ne (by omega), Array.getElem?_setIfInBounds_self_of_lt (by simp; omega)]
      · rw [Array.getElem?_setIfInBounds_self_of_lt (by simp; omega)]
    · obtain ⟨h0, h1, h2⟩ := hF.2 i hi (by omega)
      refine ⟨?_, ?_, ?_⟩
      · rw [Array.getElem?_setIfInBounds_ne (by omega), Array.getElem?_setIfInBounds_ne (by omega), Array.getElem?_setIfInBounds_ne (by omega), h0]
      · rw [Array.getElem?_setIfInBounds_ne (by omega), Array.getElem?_setIfInBounds_ne (by omega), Array.getElem?_setIfInBounds_ne (by omega), h1]
      · rw [Array.getElem?_setIfInBounds_ne (by omega), Array.getElem?_setIfInBounds_ne (by omega), Array.getElem?_setIfInBounds_ne (by omega), h2]


theorem szL_bd (xs : List InsD) : ∀ l : Int, 0 ≤ l → l ≤ 1048576 → szL xs l ≤ 1048576 ∧ -1 ≤ szL xs l := by
  induction xs with
  | nil => intro l h0 h1; exact ⟨h1, by simp only [szL]; omega⟩
  | cons x r ih =>
    intro l h0 h1
    simp only [szL]
    by_cases h : szI l x.s.size < 0
    · rw [if_pos h]; omega
    · rw [if_neg h]
      refine ih _ (by omega) ?_
      unfold szI at *
      split <;> omega
theorem szLs_len {xs : List InsD} {l : Int} (h : 0 ≤ szLs xs l) (hl : l ≤ 1048576) : xs.length ≤ 1048576 := by
  unfold szLs at h
  by_cases hn : l - xs.length < 0
  · rw [if_pos hn] at h; omega
  · omega

theorem szL_neg (xs : List InsD) : ∀ l : Int, 0 ≤ l → szL xs l < 0 → szL xs l = -1 := by
  induction xs with
  | nil => intro l h0 h; simp only [szL] at h; omega
  | cons x r ih =>
    intro l h0 h
    simp only [szL] at h ⊢
    by_cases hn : szI l x.s.size < 0
    · rw [if_pos hn]
    · rw [if_neg hn] at h ⊢
      exact ih _ (by omega) h
theorem szLs_neg {xs : List InsD} {l : Int} (h : szLs xs l < 0) (h0 : 0 ≤ l) (h1 : l ≤ 1048576) : -1 = szLs xs l := by
  unfold szLs at h ⊢
  by_cases hn : l - xs.length < 0
  · rw [if_pos hn]
  · rw [if_neg hn] at h ⊢
    exact (szL_neg xs _ (by omega) h).symm

/-- What is left behind a function's size. -/
def szF (nm : ByteArray) (xs : List InsD) (l : Int) : Int := if szI l nm.size < 0 then -1 else szLs xs (szI l nm.size)


theorem szF_bd (nm : ByteArray) (xs : List InsD) {l : Int} (h0 : 0 ≤ l) (h1 : l ≤ 1048576) : szF nm xs l ≤ 1048576 := by
  unfold szF
  have hi : szI l nm.size ≤ 1048576 := by unfold szI; split <;> omega
  by_cases hn : szI l nm.size < 0
  · rw [if_pos hn]; omega
  · rw [if_neg hn]
    unfold szLs
    by_cases hm : szI l nm.size - xs.length < 0
    · rw [if_pos hm]; omega
    · rw [if_neg hm]; exact (szL_bd xs _ (by omega) (by omega)).1
theorem szF_len' {nm : ByteArray} {xs : List InsD} {l : Int} (h1 : l ≤ 1048576) (h : 0 ≤ szF nm xs l) : xs.length ≤ 1048576 := by
  unfold szF at h
  by_cases hn : szI l nm.size < 0
  · rw [if_pos hn] at h; omega
  · rw [if_neg hn] at h
    exact szLs_len h (by unfold szI; split <;> omega)
theorem szF_len {nm : ByteArray} {xs : List InsD} (h : 0 ≤ szF nm xs 1048576) : xs.length ≤ 1048576 := by
  unfold szF at h
  by_cases hn : szI 1048576 nm.size < 0
  · rw [if_pos hn] at h; omega
  · rw [if_neg hn] at h
    exact szLs_len h (by unfold szI; split <;> omega)

theorem own_set {w : World} {R k B o : Nat} {xs : List InsD} (h : OwnIns w R xs k) (hB : B ≠ R) (v : Value) : OwnIns (w.setCell ⟨B, o, none⟩ v) R xs k := by
  obtain ⟨C, hC, hF⟩ := h
  exact ⟨C, (Below.heap_setCell w ⟨B, o, none⟩ v R (Ne.symm hB)).trans hC, hF⟩


theorem OwnIns.below {w w' : World} {R k : Nat} {xs : List InsD} (h : OwnIns w R xs k) (hb : Below w.heap.size w w') : OwnIns w' R xs k := by
  obtain ⟨C, hC, hF⟩ := h
  exact ⟨C, box_below hC hb, hF⟩
/-- A slice of its own, read: its cells. -/
theorem OwnIns.cells {w : World} {R k : Nat} {xs : List InsD} (h : OwnIns w R xs xs.length) (hk : k < xs.length) :
    w.cell? ⟨R, k * 3, none⟩ = some (.int .i64 xs[k].o) ∧ w.cell? ⟨R, k * 3 + 1, none⟩ = some (.int .i64 xs[k].n) ∧ w.cell? ⟨R, k * 3 + 2, none⟩ = some (.string xs[k].s) := by
  obtain ⟨C, hC, hF⟩ := h
  obtain ⟨h0, h1, h2⟩ := hF.2 k hk hk
  exact ⟨by rw [cell_of_block hC]; exact h0, by rw [cell_of_block hC]; exact h1, by rw [cell_of_block hC]; exact h2⟩

theorem InsRow.get {w : World} {a : Option Addr} {xs : List InsD} (h : InsRow w a xs) (h0 : 0 < xs.length) : ∃ b off, a = some ⟨b, off, none⟩ := by
  rcases h with h | ⟨b, off, ha, _⟩
  · rw [h] at h0; simp at h0
  · exact ⟨b, off, ha⟩
theorem InsRow.cells {w : World} {b off k : Nat} {xs : List InsD} (h : InsRow w (some ⟨b, off, none⟩) xs) (hk : k < xs.length) :
    w.cell? ⟨b, off + k * 3, none⟩ = some (.int .i64 xs[k].o) ∧ w.cell? ⟨b, off + k * 3 + 1, none⟩ = some (.int .i64 xs[k].n) ∧ w.cell? ⟨b, off + k * 3 + 2, none⟩ = some (.string xs[k].s) ∧ xs[k].s.size ≤ maxLen := by
  rcases h with h | ⟨b', off', ha, h⟩
  · subst h; simp at hk
  · simp only [Option.some.injEq, Addr.mk.injEq, and_true] at ha
    obtain ⟨rfl, rfl⟩ := ha
    exact h k hk
theorem OwnIns.row {w : World} {R : Nat} {xs : List InsD} (h : OwnIns w R xs xs.length) (hs : ∀ x ∈ xs, x.s.size ≤ maxLen) : InsRow w (some ⟨R, 0, none⟩) xs := by
  refine .inr ⟨R, 0, rfl, fun i hi => ?_⟩
  obtain ⟨c0, c1, c2⟩ := h.cells hi
  simp only [Nat.zero_add]
  exact ⟨c0, c1, c2, hs _ (List.getElem_mem _)⟩
theorem InsRow.sizes {w : World} {a : Option Addr} {xs : List InsD} (h : InsRow w a xs) : ∀ x ∈ xs, x.s.size ≤ maxLen := by
  intro x hx
  obtain ⟨i, hi, rfl⟩ := List.getElem_of_mem hx
  rcases h with h | ⟨b, off, ha, h⟩
  · subst h; simp at hi
  · exact (h i hi).2.2.2


theorem keep6 {W w w' : World} {p0 p1 p2 q0 q1 q2 : Addr} {v0 v1 v2 u0 u1 u2 : Value} (h : (w.cell? p0 = some v0 ∧ w.cell? p1 = some v1 ∧ w.cell? p2 = some v2) ∧ (w.cell? q0 = some u0 ∧ w.cell? q1 = some u1 ∧ w.cell? q2 = some u2) ∧ Below W.heap.size W w) (hb : Below w.heap.size w w') :
    (w'.cell? p0 = some v0 ∧ w'.cell? p1 = some v1 ∧ w'.cell? p2 = some v2) ∧ (w'.cell? q0 = some u0 ∧ w'.cell? q1 = some u1 ∧ w'.cell? q2 = some u2) ∧ Below W.heap.size W w' := by
  obtain ⟨⟨a0, a1, a2⟩, ⟨b0, b1, b2⟩, hW⟩ := h
  have t : ∀ p v, w.cell? p = some v → w'.cell? p = some v := fun p v hc => (hb.cell (p := p) (World.block_lt_of_cell? w _ hc)).trans hc
  exact ⟨⟨t _ _ a0, t _ _ a1, t _ _ a2⟩, ⟨t _ _ b0, t _ _ b1, t _ _ b2⟩, bl_trans hW hb⟩
theorem keep6_drew {W w : World} {p0 p1 p2 q0 q1 q2 : Addr} {v0 v1 v2 u0 u1 u2 : Value} (h : (w.cell? p0 = some v0 ∧ w.cell? p1 = some v1 ∧ w.cell? p2 = some v2) ∧ (w.cell? q0 = some u0 ∧ w.cell? q1 = some u1 ∧ w.cell? q2 = some u2) ∧ Below W.heap.size W w) :
    (w.drew.cell? p0 = some v0 ∧ w.drew.cell? p1 = some v1 ∧ w.drew.cell? p2 = some v2) ∧ (w.drew.cell? q0 = some u0 ∧ w.drew.cell? q1 = some u1 ∧ w.drew.cell? q2 = some u2) ∧ Below W.heap.size W w.drew :=
  ⟨h.1, h.2.1, h.2.2.drew⟩

end Go.Proofs.Ytnmgeaonhbhbkaa.Funs
/- From the reading of an argument to the rows of memory that the walks speak of: instructions, functions, units. -/
namespace Go.Proofs.Ytnmgeaonhbhbkaa.Open
open Go.ChangeShapes Go.WideShapes Go.ChangeAt Go.RowKit Go.Joins Go.Deep
open Go.Proofs.Ytnmgeaonhbhbkaa.Base Go.Proofs.Ytnmgeaonhbhbkaa.InsA Go.Proofs.Ytnmgeaonhbhbkaa.Funs
set_option linter.unusedVariables false
set_option maxRecDepth 100000

theorem addr_of {w : World} {x : Addr} {v : Value} (h : w.cell? (x.add 0) = some v) : x = ⟨x.block, x.off, none⟩ := by
  obtain ⟨b, off, spot⟩ := x
  have hspot : spot = none := by simpa [Addr.add] using World.cell?_spot h
  rw [hspot]

instance : Inhabited InsD := ⟨⟨0, 0, ⟨#[]⟩⟩⟩

/-- Three cells of one element, by their reading. -/
theorem three {W : World} {base : Nat} {a : Addr} {i : Nat} {cs : List Value} (h : W.cells? base (a.add (i * 3)) 3 = some cs) :
    ∃ v0 v1 v2, cs = [v0, v1, v2] ∧ W.cell? (a.add (i * 3)) = some v0 ∧ W.cell? (a.add (i * 3 + 1)) = some v1 ∧ W.cell? (a.add (i * 3 + 2)) = some v2 := by
  obtain ⟨_, hlen, hcell⟩ := World.cells?_some h
  match cs, hlen with
  | [v0, v1, v2], _ =>
    have e0 := hcell 0 (by omega)
    have e1 := hcell 1 (by omega)
    have e2 := hcell 2 (by omega)
    rw [add_add] at e0 e1 e2
    exact ⟨v0, v1, v2, rfl, by simpa using e0, by simpa using e1, by simpa using e2⟩

theorem open3 {H : Type} {enc : TypeId × Value → H} {P : Program} {W : World} {base : Nat} {spare : Nat → Bool} {held : Bool} {t : TypeId} {f0 f1 f2 : Field} {v0 v1 v2 : Value} {n : Nat} {x : DataW H × List MemPlace} (hs : P.underlying t = some (.struct #[f0, f1, f2])) (hone : oneCellFields P #[f0, f1, f2] = true)
    (h : DataW.trod enc P W base spare held n t [v0, v1, v2] = some x) :
    ∃ y0 y1 y2 k, DataW.trod enc P W base spare held k f0.type [v0] = some y0 ∧ DataW.trod enc P W base spare held k f1.type [v1] = some y1 ∧ DataW.trod enc P W base spare held k f2.type [v2] = some y2 := by
  obtain ⟨y0, y1, y2, k, hx, _, h0, h1, h2⟩ := trod_struct3 hs h
  obtain ⟨o0, k0⟩ := hone_of hone 0 f0 rfl
  obtain ⟨o1, k1⟩ := hone_of hone 1 f1 rfl
  obtain ⟨o2, k2⟩ := hone_of hone 2 f2 rfl
  exact ⟨y0, y1, y2, k, by simpa [o0, k0] using h0, by simpa [o1, k1] using h1, by simpa [o2, k2] using h2⟩


/-- A function as plain data. -/
structure FunD where
  nm : ByteArray
  wk : Bool
  body : List InsD
instance : Inhabited FunD := ⟨⟨⟨#[]⟩, false, []⟩⟩

/-- The three cells of a function, and the row of its instructions. -/
def FunAt (w : World) (b o : Nat) (f : FunD) : Prop :=
  ∃ ai ci, w.cell? ⟨b, o, none⟩ = some (.string f.nm) ∧ w.cell? ⟨b, o + 1, none⟩ = some (.bool f.wk) ∧ w.cell? ⟨b, o + 2, none⟩ = some (.slice ai f.body.length ci) ∧ f.nm.size ≤ maxLen ∧ f.body.length ≤ ci ∧ ci ≤ maxLen ∧ InsRow w ai f.body
/-- These functions lie in a row of memory. -/
def FunRow (w : World) (a : Option Addr) (l : List FunD) : Prop :=
  l = [] ∨ ∃ b off, a = some ⟨b, off, none⟩ ∧ ∀ i (h : i < l.length), FunAt w b (off + i * 3) l[i]

theorem FunAt.below {w w' : World} {b o : Nat} {f : FunD} (h : FunAt w b o f) (hb : Below w.heap.size w w') : FunAt w' b o f := by
  obtain ⟨ai, ci, h0, h1, h2, h3, h4, h5, h6⟩ := h
  have t : ∀ o v, w.cell? ⟨b, o, none⟩ = some v → w'.cell? ⟨b, o, none⟩ = some v := fun o v hc => (hb.cell (p := ⟨b, o, none⟩) (World.block_lt_of_cell? w _ hc)).trans hc
  exact ⟨ai, ci, t _ _ h0, t _ _ h1, t _ _ h2, h3, h4, h5, h6.below hb⟩
theorem FunRow.below {w w' : World} {a : Option Addr} {l : List FunD} (h : FunRow w a l) (hb : Below w.heap.size w w') : FunRow w' a l := by
  rcases h with h | ⟨b, off, ha, h⟩
  · exact .inl h
  · exact .inr ⟨b, off, ha, fun i hi => (h i hi).below hb⟩

theorem FunRow.get {w : World} {a : Option Addr} {fs : List FunD} (h : FunRow w a fs) (h0 : 0 < fs.length) : ∃ b off, a = some ⟨b, off, none⟩ := by
  rcases h with h | ⟨b, off, ha, _⟩
  · rw [h] at h0; simp at h0
  · exact ⟨b, off, ha⟩
theorem FunRow.at {w : World} {b off k : Nat} {fs : List FunD} (h : FunRow w (some ⟨b, off, none⟩) fs) (hk : k < fs.length) : FunAt w b (off + k * 3) fs[k] := by
  rcases h with h | ⟨b', off', ha, h⟩
  · subst h; simp at hk
  · simp only [Option.some.injEq, Addr.mk.injEq, and_true] at ha
    obtain ⟨rfl, rfl⟩ := ha
    exact h k hk
theorem FunRow.sizes {w : World} {a : Option Addr} {fs : List FunD} (h : FunRow w a fs) : ∀ f ∈ fs, f.nm.size ≤ maxLen ∧ f.body.length ≤ maxLen ∧ ∀ x ∈ f.body, x.s.size ≤ maxLen := by
  intro f hf
  obtain ⟨i, hi, rfl⟩ := List.getElem_of_mem hf
  rcases h with h | ⟨b, off, ha, h⟩
  · subst h; simp at hi
  · obtain ⟨ai, ci, _, _, _, h3, h4, h5, h6⟩ := h i hi
    exact ⟨h3, by omega, h6.sizes⟩

theorem keep8 {W w w' : World} {p0 p1 p2 q0 q1 q2 : Addr} {v0 v1 v2 u0 u1 u2 : Value} {a b : Option Addr} {xs ys : List InsD} (h : (w.cell? p0 = some v0 ∧ w.cell? p1 = some v1 ∧ w.cell? p2 = some v2) ∧ (w.cell? q0 = some u0 ∧ w.cell? q1 = some u1 ∧ w.cell? q2 = some u2) ∧ InsRow w a xs ∧ InsRow w b ys ∧ Below W.heap.size W w) (hb : Below w.heap.size w w') :
    (w'.cell? p0 = some v0 ∧ w'.cell? p1 = some v1 ∧ w'.cell? p2 = some v2) ∧ (w'.cell? q0 = some u0 ∧ w'.cell? q1 = some u1 ∧ w'.cell? q2 = some u2) ∧ InsRow w' a xs ∧ InsRow w' b ys ∧ Below W.heap.size W w' := by
  obtain ⟨⟨a0, a1, a2⟩, ⟨b0, b1, b2⟩, hr, hs, hW⟩ := h
  have t : ∀ p v, w.cell? p = some v → w'.cell? p = some v := fun p v hc => (hb.cell (p := p) (World.block_lt_of_cell? w _ hc)).trans hc
  exact ⟨⟨t _ _ a0, t _ _ a1, t _ _ a2⟩, ⟨t _ _ b0, t _ _ b1, t _ _ b2⟩, hr.below hb, hs.below hb, bl_trans hW hb⟩
theorem row8a {W w : World} {p0 p1 p2 q0 q1 q2 : Addr} {v0 v1 v2 u0 u1 u2 : Value} {a b : Option Addr} {xs ys : List InsD} (h : (w.cell? p0 = some v0 ∧ w.cell? p1 = some v1 ∧ w.cell? p2 = some v2) ∧ (w.cell? q0 = some u0 ∧ w.cell? q1 = some u1 ∧ w.cell? q2 = some u2) ∧ InsRow w a xs ∧ InsRow w b ys ∧ Below W.heap.size W w) : InsRow w a xs := h.2.2.1
theorem row8b {W w : World} {p0 p1 p2 q0 q1 q2 : Addr} {v0 v1 v2 u0 u1 u2 : Value} {a b : Option Addr} {xs ys : List InsD} (h : (w.cell? p0 = some v0 ∧ w.cell? p1 = some v1 ∧ w.cell? p2 = some v2) ∧ (w.cell? q0 = some u0 ∧ w.cell? q1 = some u1 ∧ w.cell? q2 = some u2) ∧ InsRow w a xs ∧ InsRow w b ys ∧ Below W.heap.size W w) : InsRow w b ys := h.2.2.2.1
theorem bel8 {W w : World} {p0 p1 p2 q0 q1 q2 : Addr} {v0 v1 v2 u0 u1 u2 : Value} {a b : Option Addr} {xs ys : List InsD} (h : (w.cell? p0 = some v0 ∧ w.cell? p1 = some v1 ∧ w.cell? p2 = some v2) ∧ (w.cell? q0 = some u0 ∧ w.cell? q1 = some u1 ∧ w.cell? q2 = some u2) ∧ InsRow w a xs ∧ InsRow w b ys ∧ Below W.heap.size W w) : Below W.heap.size W w := h.2.2.2.2
theorem keep8_drew {W w : World} {p0 p1 p2 q0 q1 q2 : Addr} {v0 v1 v2 u0 u1 u2 : Value} {a b : Option Addr} {xs ys : List InsD} (h : (w.cell? p0 = some v0 ∧ w.cell? p1 = some v1 ∧ w.cell? p2 = some v2) ∧ (w.cell? q0 = some u0 ∧ w.cell? q1 = some u1 ∧ w.cell? q2 = some u2) ∧ InsRow w a xs ∧ InsRow w b ys ∧ Below W.heap.size W w) :
    (w.drew.cell? p0 = some v0 ∧ w.drew.cell? p1 = some v1 ∧ w.drew.cell? p2 = some v2) ∧ (w.drew.cell? q0 = some u0 ∧ w.drew.cell? q1 = some u1 ∧ w.drew.cell? q2 = some u2) ∧ InsRow w.drew a xs ∧ InsRow w.drew b ys ∧ Below W.heap.size W w.drew :=
  ⟨h.1, h.2.1, h.2.2.1, h.2.2.2.1, h.2.2.2.2.drew⟩

end Go.Proofs.Ytnmgeaonhbhbkaa.Open
