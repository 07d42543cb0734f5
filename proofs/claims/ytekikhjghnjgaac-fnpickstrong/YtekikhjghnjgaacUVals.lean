/- Units as values: rows of slices of functions, taken apart and put together. -/
import Derived.Test.YtekikhjghnjgaacUU
import Derived.Lib.AppendZeros
import Derived.Deep.AppendSrc
import Derived.Deep.Upon
import Derived.OwnWalk
import Derived.Maps.AppendAt
namespace Go.Proofs.Ytekikhjghnjgaac.UVals
open Go.ChangeShapes Go.WideShapes Go.ChangeAt Go.RowKit Go.Joins Go.Deep
open Go.Proofs.Ytekikhjghnjgaac.Base Go.Proofs.Ytekikhjghnjgaac.InsA Go.Proofs.Ytekikhjghnjgaac.Funs Go.Proofs.Ytekikhjghnjgaac.Open Go.Proofs.Ytekikhjghnjgaac.Keep Go.Proofs.Ytekikhjghnjgaac.UU
set_option linter.unusedVariables false
set_option maxRecDepth 100000

abbrev UV := List FunD × Value
def UnitVal (w : World) (x : UV) : Prop := ∃ ai ci, x.2 = .slice ai x.1.length ci ∧ x.1.length ≤ ci ∧ ci ≤ maxLen ∧ FunRow w ai x.1
theorem UnitVal.below {w w' : World} {x : UV} (h : UnitVal w x) (hb : Below w.heap.size w w') : UnitVal w' x := by
  obtain ⟨ai, ci, h0, h1, h2, h3⟩ := h
  exact ⟨ai, ci, h0, h1, h2, h3.below hb⟩
theorem uval_one {w : World} {xs : List UV} (h : ∀ x ∈ xs, UnitVal w x) : ∀ v ∈ xs.map Prod.snd, v.oneCell' = true := by
  intro v hv
  obtain ⟨x, hx, rfl⟩ := List.mem_map.1 hv
  obtain ⟨ai, ci, e, _⟩ := h x hx
  rw [e]; rfl
/-- The values of units in a row. -/
theorem uvals_of {w : World} {a : Option Addr} {us : List (List FunD)} (h : UnitRow w a us) : ∃ xs : List UV, xs.map Prod.fst = us ∧ (∀ x ∈ xs, UnitVal w x) ∧ ∀ ad, a = some ad → ∀ j v, (xs.map Prod.snd)[j]? = some v → w.cell? (ad.add j) = some v := by
  rcases h with rfl | ⟨b, off, rfl, h⟩
  · exact ⟨[], rfl, (fun u hu => by cases hu), fun ad _ j v hj => by simp at hj⟩
  · have each : ∀ i, i < us.length → ∃ v : Value, w.cell? ⟨b, off + i, none⟩ = some v ∧ UnitVal w (us.getD i [], v) := fun i hi => by
      obtain ⟨ai, ci, h0, h1, h2, h3⟩ := h i hi
      have e : us.getD i [] = us[i] := by simp [List.getD, List.getElem?_eq_getElem hi]
      rw [e]
      exact ⟨_, h0, ai, ci, rfl, h1, h2, h3⟩
    obtain ⟨f, hf⟩ := choose_lt each
    refine ⟨(List.range us.length).map fun i => (us.getD i [], f i), ?_, ?_, ?_⟩
    · refine List.ext_getElem (by simp) fun i h1 h2 => ?_
      simp [List.getD, List.getElem?_eq_getElem (show i < us.length by simpa using h1)]
    · intro x hx
      obtain ⟨i, hi, rfl⟩ := List.mem_map.1 hx
      exact (hf i (by simpa using hi)).2
    · rintro ad e j v hj
      cases e
      have hj' : j < us.length := by have := (List.getElem?_eq_some_iff.1 hj).1; simpa using this
      rw [add_plain, (hf j hj').1]
      simpa [hj'] using hj
/-- A row of one's own that holds units' values. -/
theorem uvals_row {w : World} {B : Nat} {v : Value} {xs : List UV} (h : w.ownsRow B 31 1 v xs.length (xs.map Prod.snd)) (hb : ∀ x ∈ xs, UnitVal w x) : ∃ a cap, v = .slice a (xs.map Prod.fst).length cap ∧ (xs.map Prod.fst).length ≤ cap ∧ cap ≤ maxLen ∧ UnitRow w a (xs.map Prod.fst) := by
  obtain ⟨hl, ⟨rfl, h0⟩ | ⟨g, cap, cur, rfl, hB, hg, hn, hm, hs, ht⟩⟩ := h
  · have : xs = [] := List.length_eq_zero_iff.1 h0
    subst this
    exact ⟨none, 0, rfl, Nat.le_refl _, Nat.zero_le _, .inl rfl⟩
  · refine ⟨_, cap, by rw [List.length_map], by rw [List.length_map]; exact hn, hm, .inr ⟨g, 0, rfl, fun i hi => ?_⟩⟩
    have hi' : i < xs.length := by simpa using hi
    obtain ⟨ai, ci, e, k1, k2, k3⟩ := hb xs[i] (List.getElem_mem _)
    have hc : w.cell? ⟨g, 0 + i, none⟩ = some xs[i].2 := by
      rw [cell_of_block hg]
      have e : (cur.toList.take (xs.length * 1))[i]? = some xs[i].2 := by rw [ht]; simp [hi']
      rw [List.getElem?_take_of_lt (by omega)] at e
      simpa using e
    simp only [List.getElem_map]
    exact ⟨ai, ci, by rw [hc, e], k1, k2, k3⟩
theorem infoUnitQ : (Try.prog.info? 31).map (fun i => (i.zero, i.size, i.bytes)) = some (some (.slice none 0 0), 1, 24) := by kernel_rfl
theorem info_unit : ∃ i, Try.prog.info? 31 = some i ∧ i.zero = some (.slice none 0 0) ∧ i.size = 1 ∧ i.bytes = 24 := by
  obtain ⟨i, hi, h⟩ := Option.map_eq_some_iff.1 infoUnitQ
  simp only [Prod.mk.injEq] at h
  exact ⟨i, hi, h⟩
/-- The units of a row behind those of a row of one's own. -/
theorem append_uvals {w0 w : World} (h0w : Below w0.heap.size w0 w) {B : Nat} {v : Value} {xs : List UV} (ty : TypeId) (hB : B ≤ w.heap.size) (h : w.ownsRow B 31 1 v xs.length (xs.map Prod.snd)) {a : Option Addr} {ci : Nat} {us : List (List FunD)} (hr : UnitRow w0 a us) (hsz : xs.length + us.length ≤ 1000000) :
    ∃ ys v' w', ys.map Prod.fst = us ∧ (∀ y ∈ ys, UnitVal w0 y) ∧ (Builtin.append_ #[23, 23] ty #[v, .slice a us.length ci]).run Try.prog w = .ok v' w' ∧ w'.ownsRow B 31 1 v' (xs ++ ys).length ((xs ++ ys).map Prod.snd) ∧ w.grownBy w' v.ownBlock ∧ (v'.ownBlock = v.ownBlock ∨ v'.ownBlock = some w.heap.size) := by
  obtain ⟨ys, rfl, hb, hc⟩ := uvals_of hr
  obtain ⟨i, hi, hz0, hz1, hz2⟩ := info_unit
  rw [List.length_map] at hsz ⊢
  cases a with
  | none =>
    have hnil : ys = [] := by
      rcases hr with hr | ⟨b, off, e, _⟩
      · simpa using hr
      · cases e
    subst hnil
    refine ⟨[], v, w, rfl, hb, ?_, by simpa using h, World.grownBy.refl _ _, .inl rfl⟩
    obtain ⟨_, ⟨rfl, h0⟩ | ⟨g, cap, cur, rfl, _, _, hn, _⟩⟩ := h
    · exact run_append_nothing w _ _ ty _ i Try.underlying23 hi _ _ _ (Nat.le_refl _) _ (Src.ofNil w Try.underlying23 ci)
    · exact run_append_nothing w _ _ ty _ i Try.underlying23 hi _ _ _ hn _ (Src.ofNil w Try.underlying23 ci)
  | some ad =>
    obtain ⟨v', w', hr', ho', hg', _, hat⟩ := run_append_own_at (P := Try.prog) w B 23 ty 31 i _ 1 24 Try.underlying23 hi hz0 hz1 hz2 rfl (by decide) v xs.length (xs.map Prod.snd) h ad ys.length ci (ys.map Prod.snd) (by simp) (fun j x hj => (Stable.cell _ _).1 _ _ h0w (hc ad rfl j x hj)) (uval_one hb) (by unfold maxLen; omega) (by omega) hB
    exact ⟨ys, v', w', rfl, hb, hr', by rw [List.length_append, List.map_append]; exact ho', hg', hat⟩
theorem uv_made (w : World) : (w.alloc (.cells #[] 31)).ownsRow w.heap.size 31 1 (.slice (some ⟨w.heap.size, 0, none⟩) 0 0) ([] : List UV).length (([] : List UV).map Prod.snd) :=
  ⟨by simp, .inr ⟨_, _, _, rfl, Nat.le_refl _, new_block w _, Nat.le_refl _, Nat.zero_le _, rfl, rfl⟩⟩
theorem uv_app {w : World} {B : Nat} {v : Value} {xs : List UV} {y : UV} (h : w.ownsRow B 31 1 v (xs.length + 1) (xs.map Prod.snd ++ [y.2])) : w.ownsRow B 31 1 v (xs ++ [y]).length ((xs ++ [y]).map Prod.snd) := by
  rw [List.length_append, List.map_append]
  exact h
theorem uvals_append {w : World} {xs ys : List UV} (h : ∀ x ∈ xs, UnitVal w x) (k : ∀ y ∈ ys, UnitVal w y) : ∀ z ∈ xs ++ ys, UnitVal w z := fun z hz => (List.mem_append.1 hz).elim (h z) (k z)
/-- A unit of one function with one instruction. -/
def loneU (nm : ByteArray) (wk : Bool) (o n : Int) (s : ByteArray) : List FunD := [⟨nm, wk, [⟨o, n, s⟩]⟩]
/-- .. laid out in two new blocks. -/
theorem lone_val {w : World} {P Q : Nat} {nm : ByteArray} {wk : Bool} {o n : Int} {s : ByteArray} (hP : w.heap[P]? = some (.cells #[.int .i64 o, .int .i64 n, .string s] 44)) (hQ : w.heap[Q]? = some (.cells #[.string nm, .bool wk, .slice (some ⟨P, 0, none⟩) 1 1] 30)) (hn : nm.size ≤ maxLen) (hs : s.size ≤ maxLen) : UnitVal w (loneU nm wk o n s, .slice (some ⟨Q, 0, none⟩) 1 1) := by
  have h1 : (1 : Nat) ≤ maxLen := by unfold maxLen; omega
  refine ⟨some ⟨Q, 0, none⟩, 1, rfl, Nat.le_refl _, h1, .inr ⟨Q, 0, rfl, fun i hi => ?_⟩⟩
  have hi0 : i = 0 := by simpa [loneU] using hi
  subst hi0
  refine ⟨some ⟨P, 0, none⟩, 1, by rw [cell_of_block hQ]; rfl, by rw [cell_of_block hQ]; rfl, by rw [cell_of_block hQ]; rfl, hn, Nat.le_refl _, h1, .inr ⟨P, 0, rfl, fun j hj => ?_⟩⟩
  have hj0 : j = 0 := by simpa [loneU] using hj
  subst hj0
  exact ⟨by rw [cell_of_block hP]; rfl, by rw [cell_of_block hP]; rfl, by rw [cell_of_block hP]; rfl, hs⟩
theorem cell_one_new3 (w : World) (o o2 : Obj) (x : Value) (t : TypeId) : ∀ j u, [x][j]? = some u → (((w.alloc o).alloc o2).alloc (.cells #[x] t)).cell? ((⟨w.heap.size + 1 + 1, 0, none⟩ : Addr).add j) = some u := by
  have := cell_one_new ((w.alloc o).alloc o2) x t
  rwa [World.size_alloc, World.size_alloc] at this
/-- Units, and one more of one function behind them, in a new row. -/
theorem more_row {w w' w4 : World} {v' v4 : Value} {ys : List UV} {x s : ByteArray} {wk : Bool} {o n : Int} {o0 o3 : Obj} (hbd : ∀ y ∈ ys, UnitVal w y) (hgr : (w.alloc o0).grownBy w' (some w.heap.size)) (hown : w'.ownsRow w.heap.size 31 1 v' ys.length (ys.map Prod.snd))
    (hown4 : w4.ownsRow w.heap.size 31 1 v4 (ys.length + 1) (ys.map Prod.snd ++ [.slice (some ⟨w'.heap.size + 1, 0, none⟩) 1 1])) (hg4 : (((w'.alloc (.cells #[.int .i64 o, .int .i64 n, .string s] 44)).alloc (.cells #[.string x, .bool wk, .slice (some ⟨w'.heap.size, 0, none⟩) 1 1] 30)).alloc o3).grownBy w4 v'.ownBlock) (hx : x.size ≤ maxLen) (hs : s.size ≤ maxLen) :
    ∃ a cap, v4 = .slice a (ys.map Prod.fst ++ [loneU x wk o n s]).length cap ∧ (ys.map Prod.fst ++ [loneU x wk o n s]).length ≤ cap ∧ cap ≤ maxLen ∧ UnitRow w4 a (ys.map Prod.fst ++ [loneU x wk o n s]) ∧ Below w.heap.size w w4 := by
  have hB1 : Below w.heap.size w w' := (below_alloc1 w o0).grown hgr (by simp) (fun j hj => by cases hj; exact Nat.le_refl _)
  have hB2 := bl_alloc (bl_alloc (bl_alloc hB1 (.cells #[.int .i64 o, .int .i64 n, .string s] 44)) (.cells #[.string x, .bool wk, .slice (some ⟨w'.heap.size, 0, none⟩) 1 1] 30)) o3
  have hB4 : Below w.heap.size w w4 := hB2.grown hg4 hB2.size (fun j hj => (World.ownsRow.lt hown j hj).1)
  have hlt : ∀ g, v'.ownBlock = some g → g < w'.heap.size := fun g hg => (World.ownsRow.lt hown g hg).2
  have hP : w4.heap[w'.heap.size]? = some (.cells #[.int .i64 o, .int .i64 n, .string s] 44) := by
    rw [hg4.block _ (by simp; omega) (fun e => by have := hlt _ e.symm; omega)]
    have e := box_below (box_below (new_block w' (.cells #[.int .i64 o, .int .i64 n, .string s] 44)) (below_alloc1 _ (.cells #[.string x, .bool wk, .slice (some ⟨w'.heap.size, 0, none⟩) 1 1] 30))) (below_alloc1 _ o3)
    exact e
  have hQ : w4.heap[w'.heap.size + 1]? = some (.cells #[.string x, .bool wk, .slice (some ⟨w'.heap.size, 0, none⟩) 1 1] 30) := by
    rw [hg4.block _ (by simp) (fun e => by have := hlt _ e.symm; omega)]
    have e := box_below (new_block (w'.alloc (.cells #[.int .i64 o, .int .i64 n, .string s] 44)) (.cells #[.string x, .bool wk, .slice (some ⟨w'.heap.size, 0, none⟩) 1 1] 30)) (below_alloc1 _ o3)
    rwa [World.size_alloc] at e
  have hv := lone_val hP hQ hx hs
  have hrow := uvals_row (xs := ys ++ [(loneU x wk o n s, .slice (some ⟨w'.heap.size + 1, 0, none⟩) 1 1)]) (uv_app hown4) (uvals_append (fun y hy => (hbd y hy).below hB4) (fun z hz => by rw [List.mem_singleton.1 hz]; exact hv))
  obtain ⟨a, cap, e, h1, h2, h3⟩ := hrow
  rw [List.map_append] at e h1 h3
  exact ⟨a, cap, e, h1, h2, h3, hB4⟩
end Go.Proofs.Ytekikhjghnjgaac.UVals
