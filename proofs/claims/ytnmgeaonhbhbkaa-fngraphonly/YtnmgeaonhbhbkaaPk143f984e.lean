/- The contracts of the specification's l6Deeper and GraphDeep. -/
import Derived.Test.YtnmgeaonhbhbkaaGraphK
import Derived.Deep.QuietTactic
import Derived.BigQuiet
import Derived.Test.YtnmgeaonhbhbkaaWayD
namespace Go.Proofs.Ytnmgeaonhbhbkaa.GraphN
open Go.ChangeShapes Go.WideShapes Go.ChangeAt Go.RowKit Go.Joins Go.WideMaps Go.Maps Go.Sort Go.Shelf Go.Deep
open Go.Proofs.Ytnmgeaonhbhbkaa.Base Go.Proofs.Ytnmgeaonhbhbkaa.InsA Go.Proofs.Ytnmgeaonhbhbkaa.InsB Go.Proofs.Ytnmgeaonhbhbkaa.Funs Go.Proofs.Ytnmgeaonhbhbkaa.Open Go.Proofs.Ytnmgeaonhbhbkaa.FunS Go.Proofs.Ytnmgeaonhbhbkaa.Keep Go.Proofs.Ytnmgeaonhbhbkaa.UnitS Go.Proofs.Ytnmgeaonhbhbkaa.UnitM Go.Proofs.Ytnmgeaonhbhbkaa.Refs Go.Proofs.Ytnmgeaonhbhbkaa.Mark Go.Proofs.Ytnmgeaonhbhbkaa.PickD Go.Proofs.Ytnmgeaonhbhbkaa.PickP Go.Proofs.Ytnmgeaonhbhbkaa.WantsS Go.Proofs.Ytnmgeaonhbhbkaa.WantsL Go.Proofs.Ytnmgeaonhbhbkaa.WantsI Go.Proofs.Ytnmgeaonhbhbkaa.KeepC Go.Proofs.Ytnmgeaonhbhbkaa.KeepD Go.Proofs.Ytnmgeaonhbhbkaa.KeepA Go.Proofs.Ytnmgeaonhbhbkaa.KeepR Go.Proofs.Ytnmgeaonhbhbkaa.KeepI Go.Proofs.Ytnmgeaonhbhbkaa.WayD Go.Proofs.Ytnmgeaonhbhbkaa.GraphD Go.Proofs.Ytnmgeaonhbhbkaa.GraphI Go.Proofs.Ytnmgeaonhbhbkaa.GraphJ Go.Proofs.Ytnmgeaonhbhbkaa.GraphS Go.Proofs.Ytnmgeaonhbhbkaa.GraphK
set_option linter.unusedVariables false
set_option maxRecDepth 100000

/-- Numbers in a block. -/
def NumsAt (w : World) (M n : Nat) (D : Nat → Int) : Prop := ∃ C, w.heap[M]? = some (.cells C 3) ∧ C.size = n ∧ ∀ u, u < n → C[u]? = some (.int .i64 (D u))
theorem NumsAt.below {w w' : World} {M n : Nat} {D : Nat → Int} (h : NumsAt w M n D) (hb : Below w.heap.size w w') : NumsAt w' M n D := by
  obtain ⟨C, h1, h2⟩ := h
  exact ⟨C, box_below h1 hb, h2⟩
theorem NumsAt.cell {w : World} {M n u : Nat} {D : Nat → Int} (h : NumsAt w M n D) (hu : u < n) : w.cell? ⟨M, u, none⟩ = some (.int .i64 (D u)) := by
  obtain ⟨C, h1, h2, h3⟩ := h
  rw [cell_of_block h1]; exact h3 u hu
theorem NumsAt.thaw {w : World} {M n : Nat} {D : Nat → Int} (h : NumsAt w M n D) (u : Nat) : w.frozen? ⟨M, u, none⟩ = false := by
  obtain ⟨C, h1, h2, h3⟩ := h
  exact unfrozen_of_block h1 u
theorem NumsAt.lt {w : World} {M n : Nat} {D : Nat → Int} (h : NumsAt w M n D) : M < w.heap.size := by
  obtain ⟨C, h1, h2, h3⟩ := h
  exact (Array.getElem?_eq_some_iff.1 h1).1
theorem NumsAt.congr {w : World} {M n : Nat} {D D' : Nat → Int} (h : NumsAt w M n D) (e : ∀ u, u < n → D u = D' u) : NumsAt w M n D' := by
  obtain ⟨C, h1, h2, h3⟩ := h
  exact ⟨C, h1, h2, fun u hu => by rw [← e u hu]; exact h3 u hu⟩
def setD (D : Nat → Int) (k : Nat) (z : Int) (u : Nat) : Int := if u = k then z else D u
theorem NumsAt.set {w : World} {M n k : Nat} {D : Nat → Int} (h : NumsAt w M n D) (hk : k < n) (z : Int) : NumsAt (w.setCell ⟨M, k, none⟩ (.int .i64 z)) M n (setD D k z) := by
  obtain ⟨C, h1, h2, h3⟩ := h
  refine ⟨_, block_setCell h1 _, by simpa using h2, fun u hu => ?_⟩
  unfold setD
  by_cases e : u = k
  · subst e
    rw [if_pos rfl, Array.getElem?_setIfInBounds_self_of_lt (by omega)]
  · rw [if_neg e, Array.getElem?_setIfInBounds_ne (fun e' => e e'.symm)]
    exact h3 u hu
theorem infoIntN : (Try.prog.info? 3).map (fun i => (i.zero, i.size, i.bytes)) = some (some (.int .i64 0), 1, 8) := by kernel_rfl
theorem makeInts (n : Nat) (hn : n ≤ 1048576) (w : World) : (Instr.makeSlice 66 (.int .i64 (n : Int)) (.int .i64 (n : Int))).run Try.prog w = .ok (.slice (some ⟨w.heap.size, 0, none⟩) n n) (w.alloc (.cells (madeCells #[.int .i64 0] n) 3)) := by
  obtain ⟨i, hi, h⟩ := Option.map_eq_some_iff.1 infoIntN
  simp only [Prod.mk.injEq] at h
  obtain ⟨h1, h2, h3⟩ := h
  have := run_make (P := Try.prog) w 66 3 i _ Try.underlying66 hi h1 .i64 .i64 (n : Int) (n : Int) (by omega) (Int.le_refl _) (by rw [h3]; omega) (by omega)
  rw [h2] at this
  simpa [Value.cells] using this
theorem nums_made (w : World) (n : Nat) : NumsAt (w.alloc (.cells (madeCells #[.int .i64 0] n) 3)) w.heap.size n (fun _ => 0) := ⟨_, new_block w _, by simp [size_madeCells], fun u hu => made_at hu⟩

/-- How many calls within one another, a round on. -/
def cst (D : Nat → Nat) (s : Nat × Bool) : Nat := wt s.2 + D s.1
def nextD (fs : List FunD) (D : Nat → Nat) (u : Nat) : Nat := most (cst D) (steps fs u) 0
theorem nextD_deep (fs : List FunD) (i u : Nat) : nextD fs (deep (steps fs) i) u = deep (steps fs) (i + 1) u := rfl
theorem most_snoc (f : Nat × Bool → Nat) (l : List (Nat × Bool)) (s : Nat × Bool) : most f (l ++ [s]) 0 = max (most f l 0) (f s) := by
  unfold most
  rw [List.foldl_append]; rfl
theorem most_le {f : Nat × Bool → Nat} {m : Nat} : ∀ {l : List (Nat × Bool)}, (∀ s ∈ l, f s ≤ m) → most f l 0 ≤ m := fun {l} h => by
  rcases most_is f l 0 with e | ⟨s, hs, e⟩
  · rw [e]; exact Nat.zero_le _
  · rw [e]; exact h s hs
/-- .. of the first k functions, and of the first j instructions of the next one. -/
def outK (fs : List FunD) (D : Nat → Nat) (k : Nat) (u : Nat) : Int := if u < k then (nextD fs D u : Int) else 0
def outJ (fs : List FunD) (D : Nat → Nat) (k : Nat) (xs : List InsD) (j : Nat) (u : Nat) : Int := if u = k then (most (cst D) (stpL fs (xs.take j)) 0 : Nat) else outK fs D k u
theorem outJ_zero {fs : List FunD} {D : Nat → Nat} {k : Nat} {xs : List InsD} {u : Nat} : outK fs D k u = outJ fs D k xs 0 u := by
  unfold outJ
  split
  · rename_i h; subst h; simp [outK, stpL, most]
  · rfl
theorem outJ_end {fs : List FunD} {D : Nat → Nat} {k : Nat} (hk : k < fs.length) {u : Nat} : outJ fs D k fs[k].body fs[k].body.length u = outK fs D (k + 1) u := by
  unfold outJ
  rw [List.take_length]
  split
  · rename_i h; subst h; unfold outK nextD; rw [if_pos (by omega), steps_at hk]; rfl
  · unfold outK
    by_cases h : u < k
    · rw [if_pos h, if_pos (by omega)]
    · rw [if_neg h, if_neg (by omega)]
theorem outJ_skip {fs : List FunD} {D : Nat → Nat} {k j : Nat} {xs : List InsD} (hj : j < xs.length) (h : refsB xs[j].o = false) (u : Nat) : outJ fs D k xs j u = outJ fs D k xs (j + 1) u := by
  unfold outJ
  rw [stpL_snoc fs hj, h]; rfl
theorem outJ_put {fs : List FunD} {D : Nat → Nat} {k j : Nat} {xs : List InsD} (hj : j < xs.length) (h : refsB xs[j].o = true) (u : Nat) : setD (outJ fs D k xs j) k ((max (most (cst D) (stpL fs (xs.take j)) 0) (cst D (stepOf fs xs[j])) : Nat) : Int) u = outJ fs D k xs (j + 1) u := by
  unfold outJ setD
  rw [stpL_snoc fs hj, h, if_pos rfl, most_snoc]
  by_cases e : u = k
  · rw [if_pos e, if_pos e]
  · rw [if_neg e, if_neg e]; exact if_neg e


theorem way_calls {E : StepF} : ∀ {k u c v : Nat}, WayG E k u c v → c ≤ k
  | 0, u, c, v, h => by obtain ⟨rfl, _⟩ := h; exact Nat.le_refl _
  | k + 1, u, c, v, h => by
    obtain ⟨t, b, c', _, h2, rfl⟩ := h
    have := way_calls h2
    have : wt b ≤ 1 := by unfold wt; split <;> omega
    omega
theorem deep_bound (E : StepF) (i u : Nat) : deep E i u ≤ i := by
  obtain ⟨k, v, hk, hw⟩ := deep_way E i u
  have := way_calls hw
  omega
/-- What GraphDeep answers. -/
def DeepR (fs : List FunD) (r : Int) : Prop := (keepOkB fs = false ∧ r = -1) ∨ (keepOkB fs = true ∧ Deepest (steps fs) r)
theorem deepR_one {fs : List FunD} {r r' : Int} (h : DeepR fs r) (h' : DeepR fs r') : r = r' := by
  rcases h with ⟨h1, rfl⟩ | ⟨h1, h2⟩ <;> rcases h' with ⟨h1', rfl⟩ | ⟨h1', h2'⟩
  · rfl
  · rw [h1] at h1'; cases h1'
  · rw [h1] at h1'; cases h1'
  · exact deepest_one h2 h2'
/-- Whether two rows of numbers are the same. -/
def IntsEnd (w : World) (n : Nat) (A B : Nat → Int) (e : Ending) (w' : World) : Prop := ∃ b : Bool, e = .returned (.bool b) ∧ (b = true ↔ ∀ u, u < n → A u = B u) ∧ Below w.heap.size w w'
/-- What a call of GraphDeep leaves. -/
def DeepEnd (w : World) (fs : List FunD) (e : Ending) (w' : World) : Prop := ∃ r : Int, e = .returned (.int .i64 r) ∧ DeepR fs r ∧ Below w.heap.size w w'
end Go.Proofs.Ytnmgeaonhbhbkaa.GraphN
/- Plain facts on calls that are raised, step by step, till none grows. -/
namespace Go.Proofs.Ytnmgeaonhbhbkaa.DeepD
open Go.Proofs.Ytnmgeaonhbhbkaa.WayD
set_option linter.unusedVariables false

def setZ (C : Nat → Int) (k : Nat) (z : Int) (u : Nat) : Int := if u = k then z else C u
/-- How a function is reached: not yet, or by a way of so many calls. -/
def Got (E : StepF) (C : Nat → Int) (u : Nat) : Prop := C u = -1 ∨ (0 ≤ C u ∧ ∃ len, WayG E len 0 (C u).toNat u)
/-- What stands along a turn: the first k functions are gone, and of the next one j steps. -/
structure DInv (E : StepF) (n : Nat) (B : Int) (C0 C : Nat → Int) (more : Bool) (k j : Nat) : Prop where
  ge : ∀ u, u < n → C0 u ≤ C u
  got : ∀ u, u < n → Got E C u
  same : more = false → ∀ u, u < n → C u = C0 u
  grew : more = true → ∃ u, u < n ∧ C0 u < C u
  clos : more = false → ∀ u, u < k → 0 ≤ C0 u → ∀ s ∈ E u, C0 u + wt s.2 ≤ C0 s.1
  row : more = false → ∀ s ∈ (E k).take j, C0 k + wt s.2 ≤ C0 s.1
  few : ∀ u, u < n → C u ≤ B + (10 * k + j : Nat)
theorem wt_le (b : Bool) : wt b ≤ 1 := by unfold wt; split <;> omega
theorem dinv_start {E : StepF} {n : Nat} {B : Int} {C : Nat → Int} (hg : ∀ u, u < n → Got E C u) (hB : ∀ u, u < n → C u ≤ B) : DInv E n B C C false 0 0 :=
  ⟨fun _ _ => Int.le_refl _, hg, fun _ _ _ => rfl, (fun h => by cases h), fun _ u hu => by omega, (fun _ s hs => by simp at hs), fun u hu => by have := hB u hu; omega⟩
theorem dinv_skip {E : StepF} {n : Nat} {B : Int} {C0 C : Nat → Int} {more : Bool} {k : Nat} (h : DInv E n B C0 C more k 0) (hk : k < n) (hC : C k = -1) : DInv E n B C0 C more (k + 1) 0 := by
  refine ⟨h.ge, h.got, h.same, h.grew, fun hm u hu h0 => ?_, (fun _ s hs => by simp at hs), fun u hu => by have := h.few u hu; omega⟩
  by_cases e : u = k
  · subst e
    have := h.same hm u hk
    omega
  · exact h.clos hm u (by omega) h0
theorem dinv_row {E : StepF} {n : Nat} {B : Int} {C0 C : Nat → Int} {more : Bool} {k j : Nat} (h : DInv E n B C0 C more k j) (hj : j = (E k).length) (h10 : (E k).length ≤ 10) : DInv E n B C0 C more (k + 1) 0 := by
  subst hj
  refine ⟨h.ge, h.got, h.same, h.grew, fun hm u hu h0 => ?_, (fun _ s hs => by simp at hs), fun u hu => by have := h.few u hu; omega⟩
  by_cases e : u = k
  · subst e
    have := h.row hm
    rw [List.take_length] at this
    exact this
  · exact h.clos hm u (by omega) h0
theorem dinv_stay {E : StepF} {n : Nat} {B : Int} {C0 C : Nat → Int} {more : Bool} {k j : Nat} (h : DInv E n B C0 C more k j) (hk : k < n) (hj : j < (E k).length) (ht : (E k)[j].1 < n) (hle : C k + wt (E k)[j].2 ≤ C (E k)[j].1) : DInv E n B C0 C more k (j + 1) := by
  refine ⟨h.ge, h.got, h.same, h.grew, h.clos, fun hm s hs => ?_, fun u hu => by have := h.few u hu; omega⟩
  rw [List.take_succ_eq_append_getElem hj] at hs
  rcases List.mem_append.1 hs with hs | hs
  · exact h.row hm s hs
  · rw [List.mem_singleton.1 hs]
    have h1 := h.same hm k hk
    have h2 := h.same hm _ ht
    omega
theorem dinv_more {E : StepF} {n : Nat} {B : Int} {C0 C : Nat → Int} {more : Bool} {k j : Nat} (h : DInv E n B C0 C more k j) (hk : k < n) (hj : j < (E k).length) (ht : (E k)[j].1 < n) (h0 : 0 ≤ C k) (hlt : C (E k)[j].1 < C k + wt (E k)[j].2) : DInv E n B C0 (setZ C (E k)[j].1 (C k + wt (E k)[j].2)) true k (j + 1) := by
  have hw := wt_le (E k)[j].2
  refine ⟨fun u hu => ?_, fun u hu => ?_, (fun hm => by cases hm), fun _ => ⟨_, ht, ?_⟩, (fun hm => by cases hm), (fun hm => by cases hm), fun u hu => ?_⟩
  · have := h.ge u hu
    unfold setZ
    split
    · rename_i e; rw [e] at this ⊢; omega
    · exact this
  · unfold Got setZ
    split
    · rename_i e
      refine .inr ⟨by omega, ?_⟩
      rcases h.got k hk with h1 | ⟨_, len, h1⟩
      · omega
      · refine ⟨len + 1, ?_⟩
        have h2 := way_snoc h1 (show ((E k)[j].1, (E k)[j].2) ∈ E k from List.getElem_mem hj)
        rw [e]
        have e2 : (C k + (wt (E k)[j].2 : Nat)).toNat = (C k).toNat + wt (E k)[j].2 := by omega
        rw [e2]; exact h2
    · exact h.got u hu
  · have := h.ge _ ht
    unfold setZ
    rw [if_pos rfl]; omega
  · have h1 := h.few u hu
    have h2 := h.few k hk
    unfold setZ
    split <;> omega
theorem set_kept {C : Nat → Int} {t k : Nat} {z : Int} (h : 0 ≤ C k) (hz : 0 ≤ z) : 0 ≤ setZ C t z k := by
  unfold setZ
  split
  · exact hz
  · exact h
/-- The turn's end. -/
theorem dinv_far {E : StepF} {n : Nat} {B : Int} {C0 C : Nat → Int} {more : Bool} {k j : Nat} (hc : ∀ u, u < n → ∀ s ∈ E u, s.1 < n) (h0 : 0 < n) (h : DInv E n B C0 C more k j) {u : Nat} (hu : u < n) (hn : (n : Int) ≤ C u) : Deepest E (-1) := by
  rcases h.got u hu with h1 | ⟨_, len, h1⟩
  · omega
  · exact deepest_far hc h0 h1 (by omega)
theorem dinv_calls {E : StepF} {n : Nat} {B : Int} {C0 C : Nat → Int} (hc : ∀ u, u < n → ∀ s ∈ E u, s.1 < n) (h0 : 0 < n) (h : DInv E n B C0 C false n 0) (hz : 0 ≤ C0 0) {z : Int} {u : Nat} (hu : u < n) (hm : C u = z) (hle : ∀ v, v < n → C v ≤ z) : Deepest E z := by
  have hs := h.same rfl
  have hz0 : 0 ≤ z := by have := hle 0 h0; have := hs 0 h0; omega
  obtain ⟨m, rfl⟩ : ∃ m : Nat, z = m := ⟨z.toNat, (Int.toNat_of_nonneg hz0).symm⟩
  refine deepest_calls (n := n) (calls := C0) hc h0 hz (fun v hv h1 s hs' => h.clos rfl v hv h1 s hs') (fun v hv => by rw [← hs v hv]; exact hle v hv) ?_
  rcases h.got u hu with h1 | ⟨_, len, h1⟩
  · omega
  · rw [hm, Int.toNat_natCast] at h1
    exact ⟨len, u, h1⟩
/-- How much there still is to grow. -/
def room (C : Nat → Int) (n : Nat) : Nat := sumTo (fun u => ((n : Int) - C u).toNat) n
theorem room_less {n : Nat} {C0 C : Nat → Int} (hge : ∀ u, u < n → C0 u ≤ C u) (hg : ∃ u, u < n ∧ C0 u < C u) (hlt : ∀ u, u < n → C u < n) : room C n < room C0 n := by
  have := sum_lt (f := fun u => ((n : Int) - C u).toNat) (g := fun u => ((n : Int) - C0 u).toNat) (n := n) (fun u hu => by have := hge u hu; omega) (by
    obtain ⟨u, hu, h⟩ := hg
    exact ⟨u, hu, by have := hlt u hu; omega⟩)
  unfold room
  omega
def first0 (u : Nat) : Int := if u = 0 then 0 else -1
theorem got_first (E : StepF) (u : Nat) : Got E first0 u := by
  unfold Got
  by_cases h : u = 0
  · have e : first0 u = 0 := by unfold first0; rw [if_pos h]
    rw [e]; exact .inr ⟨Int.le_refl _, 0, by rw [h]; exact way_nil E 0⟩
  · exact .inl (by unfold first0; rw [if_neg h])
end Go.Proofs.Ytnmgeaonhbhbkaa.DeepD
