/- Layings as arguments: rows of names and rows of such rows, read; the laws' helpers on them: sizes, copies, comparisons. -/
import Derived.Test.YthbbmookhcalkaaGreatDoorLayN
import Derived.Test.YthbbmookhcalkaaGreatDoorPk3f82c290
namespace Go.Proofs.YthbbmookhcalkaaGreatDoor.LayA
open Go.ChangeShapes Go.WideShapes Go.ChangeAt Go.RowKit Go.Joins Go.Deep
open Go.Proofs.YthbbmookhcalkaaGreatDoor.Base Go.Proofs.YthbbmookhcalkaaGreatDoor.Funs Go.Proofs.YthbbmookhcalkaaGreatDoor.Open Go.Proofs.YthbbmookhcalkaaGreatDoor.Keep Go.Proofs.YthbbmookhcalkaaGreatDoor.Refs Go.Proofs.YthbbmookhcalkaaGreatDoor.Mark Go.Proofs.YthbbmookhcalkaaGreatDoor.LayN
set_option linter.unusedVariables false
set_option maxRecDepth 100000

/-- These texts lie in a row of memory. -/
def TextRow (w : World) (a : Option Addr) (ss : List ByteArray) : Prop :=
  ss = [] ∨ ∃ b off, a = some ⟨b, off, none⟩ ∧ ∀ i (h : i < ss.length), w.cell? ⟨b, off + i, none⟩ = some (.string ss[i]) ∧ ss[i].size ≤ maxLen
/-- The cell of a list of texts, and their row. -/
def TextAt (w : World) (b o : Nat) (ss : List ByteArray) : Prop :=
  ∃ ai ci, w.cell? ⟨b, o, none⟩ = some (.slice ai ss.length ci) ∧ ss.length ≤ ci ∧ ci ≤ maxLen ∧ TextRow w ai ss
/-- These lists of texts lie in a row of memory. -/
def TextsRow (w : World) (a : Option Addr) (st : List (List ByteArray)) : Prop :=
  st = [] ∨ ∃ b off, a = some ⟨b, off, none⟩ ∧ ∀ i (h : i < st.length), TextAt w b (off + i) st[i]
theorem TextRow.below {w w' : World} {a : Option Addr} {ss : List ByteArray} (h : TextRow w a ss) (hb : Below w.heap.size w w') : TextRow w' a ss := by
  rcases h with h | ⟨b, off, ha, h⟩
  · exact .inl h
  · exact .inr ⟨b, off, ha, fun i hi => ⟨cell_below hb (h i hi).1, (h i hi).2⟩⟩
theorem TextRow.get {w : World} {a : Option Addr} {ss : List ByteArray} (h : TextRow w a ss) (h0 : 0 < ss.length) : ∃ b off, a = some ⟨b, off, none⟩ := by
  rcases h with h | ⟨b, off, ha, _⟩
  · rw [h] at h0; simp at h0
  · exact ⟨b, off, ha⟩
theorem TextRow.cells {w : World} {b off k : Nat} {ss : List ByteArray} (h : TextRow w (some ⟨b, off, none⟩) ss) (hk : k < ss.length) :
    w.cell? ⟨b, off + k, none⟩ = some (.string ss[k]) ∧ ss[k].size ≤ maxLen := by
  rcases h with h | ⟨b', off', ha, h⟩
  · subst h; simp at hk
  · simp only [Option.some.injEq, Addr.mk.injEq, and_true] at ha
    obtain ⟨rfl, rfl⟩ := ha
    exact h k hk
theorem TextRow.str {w : World} {a : Option Addr} {cap : Nat} {ss : List ByteArray} (h : TextRow w a ss) (hl : ss.length ≤ cap) (hm : cap ≤ maxLen) : StrAt w (.slice a ss.length cap) ss := by
  refine ⟨a, cap, rfl, hl, hm, ?_⟩
  rcases h with h | ⟨b, off, ha, h⟩
  · exact .inl h
  · exact .inr ⟨b, off, ha, fun i hi => (h i hi).1⟩
theorem TextRow.sizes {w : World} {a : Option Addr} {ss : List ByteArray} (h : TextRow w a ss) : ∀ s ∈ ss, s.size ≤ maxLen := by
  intro s hs
  obtain ⟨i, hi, rfl⟩ := List.getElem_of_mem hs
  rcases h with h | ⟨b, off, ha, h⟩
  · subst h; simp at hi
  · exact (h i hi).2
theorem TextAt.below {w w' : World} {b o : Nat} {ss : List ByteArray} (h : TextAt w b o ss) (hb : Below w.heap.size w w') : TextAt w' b o ss := by
  obtain ⟨ai, ci, h0, h1, h2, h3⟩ := h
  exact ⟨ai, ci, cell_below hb h0, h1, h2, h3.below hb⟩
theorem TextsRow.below {w w' : World} {a : Option Addr} {st : List (List ByteArray)} (h : TextsRow w a st) (hb : Below w.heap.size w w') : TextsRow w' a st := by
  rcases h with h | ⟨b, off, ha, h⟩
  · exact .inl h
  · exact .inr ⟨b, off, ha, fun i hi => (h i hi).below hb⟩
theorem TextsRow.get {w : World} {a : Option Addr} {st : List (List ByteArray)} (h : TextsRow w a st) (h0 : 0 < st.length) : ∃ b off, a = some ⟨b, off, none⟩ := by
  rcases h with h | ⟨b, off, ha, _⟩
  · rw [h] at h0; simp at h0
  · exact ⟨b, off, ha⟩
theorem TextsRow.at {w : World} {b off k : Nat} {st : List (List ByteArray)} (h : TextsRow w (some ⟨b, off, none⟩) st) (hk : k < st.length) : TextAt w b (off + k) st[k] := by
  rcases h with h | ⟨b', off', ha, h⟩
  · subst h; simp at hk
  · simp only [Option.some.injEq, Addr.mk.injEq, and_true] at ha
    obtain ⟨rfl, rfl⟩ := ha
    exact h k hk
/-- The sizes of all that is in such rows. -/
def FitT (st : List (List ByteArray)) : Prop := ∀ ss ∈ st, ss.length ≤ maxLen ∧ ∀ s ∈ ss, s.size ≤ maxLen
theorem TextsRow.sizes {w : World} {a : Option Addr} {st : List (List ByteArray)} (h : TextsRow w a st) : FitT st := by
  intro ss hs
  obtain ⟨i, hi, rfl⟩ := List.getElem_of_mem hs
  rcases h with h | ⟨b, off, ha, h⟩
  · subst h; simp at hi
  · obtain ⟨ai, ci, _, h1, h2, h3⟩ := h i hi
    exact ⟨by omega, h3.sizes⟩
theorem Stable.trow (a : Option Addr) (ss : List ByteArray) : Stable (fun w => TextRow w a ss) := ⟨fun w w' hb hs => hs.below hb, fun w hs => hs⟩
theorem Stable.tsrow (a : Option Addr) (st : List (List ByteArray)) : Stable (fun w => TextsRow w a st) := ⟨fun w w' hb hs => hs.below hb, fun w hs => hs⟩

theorem textRow_of {H : Type} {enc : TypeId × Value → H} {W : World} {base : Nat} {spare : Nat → Bool} {held : Bool} {n : Nat} {v : Value} {y : DataW H × List MemPlace} (h : DataW.trod enc Tryz.prog W base spare held n 60 [v] = some y) :
    ∃ (a : Option Addr) (cap : Nat) (xs : List ByteArray), v = .slice a xs.length cap ∧ xs.length ≤ cap ∧ cap ≤ maxLen ∧ TextRow W a xs := by
  rcases open_slice Tryz.underlying60 h with ⟨hcs, _⟩ | ⟨a, len, cap, m, n', D, Pl, hcs, hb, hl, hm, hmm, hy, hx⟩
  · exact ⟨none, 0, [], by simpa using hcs, Nat.le_refl _, Nat.zero_le _, .inl rfl⟩
  · have hlm : len ≤ m := by rw [hmm]; split <;> omega
    rw [show Tryz.prog.cellsOf 9 = 1 by kernel_rfl] at hx
    have each : ∀ i, i < len → ∃ x : ByteArray, W.cell? (a.add i) = some (.string x) ∧ x.size ≤ maxLen := fun i hi => by
      obtain ⟨cs', h1, h2⟩ := hx i (by omega)
      obtain ⟨v0, rfl, c0⟩ := one h1
      obtain ⟨ss, e0, _, ws⟩ := DataW.trod_string Tryz.underlying9 h2
      simp at e0
      subst e0
      exact ⟨ss, c0, ws⟩
    obtain ⟨f, hf⟩ := choose_lt each
    refine ⟨some a, cap, (List.range len).map f, by simpa using hcs, by simpa using hl, hm, ?_⟩
    by_cases h0 : len = 0
    · subst h0; exact .inl rfl
    · have ha := addr_of (by simpa using (hf 0 (by omega)).1)
      refine .inr ⟨a.block, a.off, by rw [← ha], fun i hi => ?_⟩
      have hi' : i < len := by simpa using hi
      have c0 := hf i hi'
      rw [ha, add_plain] at c0
      simp only [List.getElem_map, List.getElem_range]
      exact c0
theorem textsRow_of {H : Type} {enc : TypeId × Value → H} {W : World} {base : Nat} {spare : Nat → Bool} {held : Bool} {n : Nat} {v : Value} {y : DataW H × List MemPlace} (h : DataW.trod enc Tryz.prog W base spare held n 45 [v] = some y) :
    ∃ (a : Option Addr) (cap : Nat) (st : List (List ByteArray)), v = .slice a st.length cap ∧ st.length ≤ cap ∧ cap ≤ maxLen ∧ TextsRow W a st := by
  rcases open_slice Tryz.underlying45 h with ⟨hcs, _⟩ | ⟨a, len, cap, m, n', D, Pl, hcs, hb, hl, hm, hmm, hy, hx⟩
  · exact ⟨none, 0, [], by simpa using hcs, Nat.le_refl _, Nat.zero_le _, .inl rfl⟩
  · have hlm : len ≤ m := by rw [hmm]; split <;> omega
    rw [show Tryz.prog.cellsOf 60 = 1 by kernel_rfl] at hx
    have each : ∀ i, i < len → ∃ xs : List ByteArray, ∃ ai ci, W.cell? (a.add i) = some (.slice ai xs.length ci) ∧ xs.length ≤ ci ∧ ci ≤ maxLen ∧ TextRow W ai xs := fun i hi => by
      obtain ⟨cs', h1, h2⟩ := hx i (by omega)
      obtain ⟨v0, rfl, c0⟩ := one h1
      obtain ⟨ai, ci, xs, rfl, hl, hm, hr⟩ := textRow_of h2
      exact ⟨xs, ai, ci, c0, hl, hm, hr⟩
    obtain ⟨f, hf⟩ := choose_lt each
    refine ⟨some a, cap, (List.range len).map f, by simpa using hcs, by simpa using hl, hm, ?_⟩
    by_cases h0 : len = 0
    · subst h0; exact .inl rfl
    · obtain ⟨_, _, c00, _⟩ := hf 0 (by omega)
      have ha := addr_of (by simpa using c00)
      refine .inr ⟨a.block, a.off, by rw [← ha], fun i hi => ?_⟩
      have hi' : i < len := by simpa using hi
      obtain ⟨ai, ci, c0, hs⟩ := hf i hi'
      rw [ha, add_plain] at c0
      simp only [List.getElem_map, List.getElem_range]
      exact ⟨ai, ci, c0, hs⟩

/-- What is left of a number when the sizes are taken off, -1 when it is not enough. -/
def szT : List ByteArray → Int → Int
  | [], l => l
  | x :: r, l => if l - (x.size : Int) < 0 then -1 else szT r (l - (x.size : Int))
def szTs (ss : List ByteArray) (l : Int) : Int := if l - ss.length < 0 then -1 else szT ss (l - ss.length)
def szTL : List (List ByteArray) → Int → Int
  | [], l => l
  | x :: r, l => if szTs x l < 0 then -1 else szTL r (szTs x l)
def szTLs (st : List (List ByteArray)) (l : Int) : Int := if l - st.length < 0 then -1 else szTL st (l - st.length)
def szN (n : Nat) (l : Int) : Int := if l - n < 0 then -1 else l - n
def szLayI (n : Nat) (st : List (List ByteArray)) (l : Int) : Int := if l - n < 0 then -1 else szTLs st (l - n)
theorem szT_bd (ss : List ByteArray) : ∀ l : Int, l ≤ 1048576 → szT ss l ≤ 1048576 := by
  induction ss with
  | nil => intro l h1; exact h1
  | cons x r ih =>
    intro l h1
    simp only [szT]
    by_cases h : l - (x.size : Int) < 0
    · rw [if_pos h]; omega
    · rw [if_neg h]; exact ih _ (by omega)
theorem szTs_bd (ss : List ByteArray) {l : Int} (h1 : l ≤ 1048576) : szTs ss l ≤ 1048576 := by
  unfold szTs
  by_cases h : l - ss.length < 0
  · rw [if_pos h]; omega
  · rw [if_neg h]; exact szT_bd _ _ (by omega)
theorem szTs_len {ss : List ByteArray} {l : Int} (h1 : l ≤ 1048576) (h : 0 ≤ szTs ss l) : ss.length ≤ 1048576 := by
  unfold szTs at h
  by_cases hn : l - ss.length < 0
  · rw [if_pos hn] at h; omega
  · omega
theorem szTL_bd (st : List (List ByteArray)) : ∀ l : Int, l ≤ 1048576 → szTL st l ≤ 1048576 := by
  induction st with
  | nil => intro l h1; exact h1
  | cons x r ih =>
    intro l h1
    simp only [szTL]
    by_cases h : szTs x l < 0
    · rw [if_pos h]; omega
    · rw [if_neg h]; exact ih _ (szTs_bd _ h1)
/-- Few enough for the helpers. -/
def FewT (st : List (List ByteArray)) : Prop := st.length ≤ 1048576 ∧ ∀ ss ∈ st, ss.length ≤ 1048576
theorem szTL_len {st : List (List ByteArray)} : ∀ {l : Int}, l ≤ 1048576 → 0 ≤ szTL st l → ∀ ss ∈ st, ss.length ≤ 1048576 := by
  induction st with
  | nil => intro l _ _ f hf; cases hf
  | cons g r ih =>
    intro l h1 h f hf
    simp only [szTL] at h
    by_cases hn : szTs g l < 0
    · rw [if_pos hn] at h; omega
    · rw [if_neg hn] at h
      rcases List.mem_cons.1 hf with rfl | hf
      · exact szTs_len h1 (by omega)
      · exact ih (szTs_bd _ h1) h f hf
theorem szLay_few {n : Nat} {st : List (List ByteArray)} {l : Int} (h1 : l ≤ 1048576) (h : 0 ≤ szLayI n st l) : n ≤ 1048576 ∧ FewT st := by
  unfold szLayI at h
  by_cases hn : l - n < 0
  · rw [if_pos hn] at h; omega
  · rw [if_neg hn] at h
    unfold szTLs at h
    by_cases hm : l - n - st.length < 0
    · rw [if_pos hm] at h; omega
    · rw [if_neg hm] at h
      exact ⟨by omega, by omega, szTL_len (by omega) h⟩
theorem szLay_bd {n : Nat} {st : List (List ByteArray)} {l : Int} (h1 : l ≤ 1048576) : szLayI n st l ≤ 1048576 := by
  unfold szLayI
  by_cases hn : l - n < 0
  · rw [if_pos hn]; omega
  · rw [if_neg hn]
    unfold szTLs
    by_cases hm : l - n - st.length < 0
    · rw [if_pos hm]; omega
    · rw [if_neg hm]; exact szTL_bd _ _ (by omega)

theorem box2 {w : World} {B : Nat} {v0 v1 : Value} {t : TypeId} (h : w.heap[B]? = some (.cells #[v0, v1] t)) :
    (w.cell? ⟨B, 0, none⟩ = some v0 ∧ w.cell? ⟨B, 1, none⟩ = some v1) ∧ (w.frozen? ⟨B, 0, none⟩ = false ∧ w.frozen? ⟨B, 1, none⟩ = false) :=
  ⟨⟨by rw [cell_of_block h]; rfl, by rw [cell_of_block h]; rfl⟩, unfrozen_of_block h 0, unfrozen_of_block h 1⟩

/-- The first k texts lie in these cells. -/
def FilledT (C : Array Value) (ss : List ByteArray) (k : Nat) : Prop :=
  C.size = ss.length ∧ ∀ i (h : i < ss.length), i < k → C[i]? = some (.string ss[i])
def OwnText (w : World) (R : Nat) (ss : List ByteArray) (k : Nat) : Prop := ∃ C, w.heap[R]? = some (.cells C 9) ∧ FilledT C ss k
theorem OwnText.row {w : World} {R : Nat} {ss : List ByteArray} (h : OwnText w R ss ss.length) (hs : ∀ s ∈ ss, s.size ≤ maxLen) : TextRow w (some ⟨R, 0, none⟩) ss := by
  obtain ⟨C, hC, hF⟩ := h
  refine .inr ⟨R, 0, rfl, fun i hi => ?_⟩
  simp only [Nat.zero_add]
  rw [cell_of_block hC]
  exact ⟨hF.2 i hi hi, hs _ (List.getElem_mem _)⟩
theorem OwnText.below {w w' : World} {R k : Nat} {ss : List ByteArray} (h : OwnText w R ss k) (hb : Below w.heap.size w w') : OwnText w' R ss k := by
  obtain ⟨C, hC, hF⟩ := h
  exact ⟨C, box_below hC hb, hF⟩
theorem OwnText.set {w : World} {R k B o : Nat} {ss : List ByteArray} (h : OwnText w R ss k) (hB : B ≠ R) (v : Value) : OwnText (w.setCell ⟨B, o, none⟩ v) R ss k := by
  obtain ⟨C, hC, hF⟩ := h
  exact ⟨C, (Below.heap_setCell w ⟨B, o, none⟩ v R (Ne.symm hB)).trans hC, hF⟩
theorem text_step {w : World} {R k : Nat} {C : Array Value} {ss : List ByteArray} (hC : w.heap[R]? = some (.cells C 9)) (hF : FilledT C ss k) (hk : k < ss.length) :
    OwnText (w.setCell ⟨R, k, none⟩ (.string ss[k])) R ss (k + 1) := by
  refine ⟨_, block_setCell hC _, ?_, ?_⟩
  · simp [hF.1]
  · intro i hi hlt
    have hs := hF.1
    by_cases hik : i = k
    · subst hik
      rw [Array.getElem?_setIfInBounds_self_of_lt (by omega)]
    · rw [Array.getElem?_setIfInBounds_ne (by omega)]; exact hF.2 i hi (by omega)
theorem makeTexts (n : Nat) (hn : n ≤ 1048576) (w : World) : (Instr.makeSlice 60 (.int .i64 (n : Int)) (.int .i64 (n : Int))).run Tryz.prog w = .ok (.slice (some ⟨w.heap.size, 0, none⟩) n n) (w.alloc (.cells (madeCells #[.string ⟨#[]⟩] n) 9)) := by
  obtain ⟨i, hi, h⟩ := Option.map_eq_some_iff.1 infoStr
  simp only [Prod.mk.injEq] at h
  obtain ⟨h1, h2, h3⟩ := h
  have := run_make (P := Tryz.prog) w 60 9 i _ Tryz.underlying60 hi h1 .i64 .i64 (n : Int) (n : Int) (by omega) (Int.le_refl _) (by rw [h3]; omega) (by omega)
  rw [h2] at this
  simpa [Value.cells] using this

/-- The first k lists lie in these cells, their texts in blocks of their own. -/
def FilledTs (w : World) (C : Array Value) (R : Nat) (Rs : Nat → Nat) (st : List (List ByteArray)) (k : Nat) : Prop :=
  C.size = st.length ∧ ∀ i (h : i < st.length), i < k → C[i]? = some (.slice (some ⟨Rs i, 0, none⟩) st[i].length st[i].length) ∧ R < Rs i ∧ OwnText w (Rs i) st[i] st[i].length
def OwnTexts (w : World) (R : Nat) (st : List (List ByteArray)) (k : Nat) : Prop := ∃ C Rs, w.heap[R]? = some (.cells C 60) ∧ FilledTs w C R Rs st k
theorem OwnTexts.row {w : World} {R : Nat} {st : List (List ByteArray)} (h : OwnTexts w R st st.length) (hs : FitT st) : TextsRow w (some ⟨R, 0, none⟩) st := by
  obtain ⟨C, Rs, hC, hF⟩ := h
  refine .inr ⟨R, 0, rfl, fun i hi => ?_⟩
  obtain ⟨h0, h3, h4⟩ := hF.2 i hi hi
  obtain ⟨k1, k2⟩ := hs _ (List.getElem_mem hi)
  simp only [Nat.zero_add]
  exact ⟨_, _, by rw [cell_of_block hC]; exact h0, Nat.le_refl _, k1, h4.row k2⟩
theorem FilledTs.below {w w' : World} {C : Array Value} {R k : Nat} {Rs : Nat → Nat} {st : List (List ByteArray)} (h : FilledTs w C R Rs st k) (hb : Below w.heap.size w w') : FilledTs w' C R Rs st k :=
  ⟨h.1, fun i hi hk => by obtain ⟨h0, h3, h4⟩ := h.2 i hi hk; exact ⟨h0, h3, h4.below hb⟩⟩
theorem OwnTexts.below {w w' : World} {R k : Nat} {st : List (List ByteArray)} (h : OwnTexts w R st k) (hb : Below w.heap.size w w') : OwnTexts w' R st k := by
  obtain ⟨C, Rs, hC, hF⟩ := h
  exact ⟨C, Rs, box_below hC hb, hF.below hb⟩
theorem OwnTexts.set {w : World} {R k B o : Nat} {st : List (List ByteArray)} (h : OwnTexts w R st k) (hB : B < R) (v : Value) : OwnTexts (w.setCell ⟨B, o, none⟩ v) R st k := by
  obtain ⟨C, Rs, hC, hF⟩ := h
  refine ⟨C, Rs, (Below.heap_setCell w ⟨B, o, none⟩ v R (show R ≠ B by omega)).trans hC, hF.1, fun i hi hk => ?_⟩
  obtain ⟨h0, h3, h4⟩ := hF.2 i hi hk
  exact ⟨h0, h3, h4.set (by omega) _⟩
theorem texts_step {w : World} {R k Q : Nat} {C : Array Value} {Rs : Nat → Nat} {st : List (List ByteArray)} (hC : w.heap[R]? = some (.cells C 60)) (hF : FilledTs w C R Rs st k) (hk : k < st.length) (hQ : R < Q) (hO : OwnText w Q st[k] st[k].length) :
    OwnTexts (w.setCell ⟨R, k, none⟩ (.slice (some ⟨Q, 0, none⟩) st[k].length st[k].length)) R st (k + 1) := by
  refine ⟨_, fun i => if i = k then Q else Rs i, block_setCell hC _, ?_, ?_⟩
  · simp [hF.1]
  · intro i hi hlt
    have hs := hF.1
    by_cases hik : i = k
    · subst hik
      refine ⟨?_, ?_, ?_⟩
      · rw [Array.getElem?_setIfInBounds_self_of_lt (by omega)]; simp
      · simpa using hQ
      · simpa using hO.set (by omega) _
    · obtain ⟨h0, h3, h4⟩ := hF.2 i hi (by omega)
      refine ⟨?_, ?_, ?_⟩
      · rw [Array.getElem?_setIfInBounds_ne (by omega), h0]; simp [hik]
      · simpa [hik] using h3
      · simpa [hik] using h4.set (by omega) _
end Go.Proofs.YthbbmookhcalkaaGreatDoor.LayA
