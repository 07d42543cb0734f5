/- The contracts of slices.Grow and slices.Concat at functions: the functions of all units in one row. -/
import Derived.Test.YthbbmookhcalkaaGreatUU
import Derived.Lib.AppendZeros
import Derived.Deep.AppendSrc
import Derived.Deep.Upon
import Derived.OwnWalk
namespace Go.Proofs.YthbbmookhcalkaaGreat.Concat
open Go.ChangeShapes Go.WideShapes Go.ChangeAt Go.RowKit Go.Joins Go.Deep
open Go.Proofs.YthbbmookhcalkaaGreat.Base Go.Proofs.YthbbmookhcalkaaGreat.InsA Go.Proofs.YthbbmookhcalkaaGreat.Funs Go.Proofs.YthbbmookhcalkaaGreat.Open Go.Proofs.YthbbmookhcalkaaGreat.Keep Go.Proofs.YthbbmookhcalkaaGreat.UU
set_option linter.unusedVariables false
set_option maxRecDepth 100000

/-- A function's three cells: its body is a slice somewhere. -/
def encV (u : FunD × Value) : List Value := [.string u.1.nm, .bool u.1.wk, u.2]
def BodyAt (w : World) (u : FunD × Value) : Prop := ∃ ai ci, u.2 = .slice ai u.1.body.length ci ∧ u.1.nm.size ≤ maxLen ∧ u.1.body.length ≤ ci ∧ ci ≤ maxLen ∧ InsRow w ai u.1.body
theorem BodyAt.below {w w' : World} {u : FunD × Value} (h : BodyAt w u) (hb : Below w.heap.size w w') : BodyAt w' u := by
  obtain ⟨ai, ci, h0, h1, h2, h3, h4⟩ := h
  exact ⟨ai, ci, h0, h1, h2, h3, h4.below hb⟩
theorem body_append {w : World} {us vs : List (FunD × Value)} (h : ∀ u ∈ us, BodyAt w u) (k : ∀ u ∈ vs, BodyAt w u) : ∀ u ∈ us ++ vs, BodyAt w u := fun u hu => (List.mem_append.1 hu).elim (h u) (k u)
theorem encV_len (us : List (FunD × Value)) : (us.flatMap encV).length = us.length * 3 := by
  induction us with
  | nil => rfl
  | cons u r ih => rw [List.flatMap_cons, List.length_append, ih]; simp [encV]; omega
theorem flatV_at (us : List (FunD × Value)) : ∀ (i : Nat) (h : i < us.length), (us.flatMap encV)[i * 3]? = some (.string us[i].1.nm) ∧ (us.flatMap encV)[i * 3 + 1]? = some (.bool us[i].1.wk) ∧ (us.flatMap encV)[i * 3 + 2]? = some us[i].2 := by
  induction us with
  | nil => intro i h; simp at h
  | cons x r ih =>
    intro i h
    match i with
    | 0 => simp [encV]
    | i + 1 =>
      have hl : (encV x).length = 3 := rfl
      obtain ⟨h0, h1, h2⟩ := ih i (by simpa using h)
      rw [List.flatMap_cons]
      refine ⟨?_, ?_, ?_⟩
      · rw [List.getElem?_append_right (by rw [hl]; omega), hl, show (i + 1) * 3 - 3 = i * 3 by omega, h0]; simp
      · rw [List.getElem?_append_right (by rw [hl]; omega), hl, show (i + 1) * 3 + 1 - 3 = i * 3 + 1 by omega, h1]; simp
      · rw [List.getElem?_append_right (by rw [hl]; omega), hl, show (i + 1) * 3 + 2 - 3 = i * 3 + 2 by omega, h2]; simp
theorem encV_one (us : List (FunD × Value)) {w : World} (hb : ∀ u ∈ us, BodyAt w u) : ∀ v ∈ us.flatMap encV, v.oneCell' = true := by
  intro v hv
  obtain ⟨u, hu, hv⟩ := List.mem_flatMap.1 hv
  obtain ⟨ai, ci, h0, _⟩ := hb u hu
  simp only [encV, List.mem_cons, List.not_mem_nil, or_false] at hv
  rcases hv with rfl | rfl | rfl
  · rfl
  · rfl
  · rw [h0]; rfl
/-- The cells of functions in a row. -/
theorem vals_of {w : World} {a : Option Addr} {fs : List FunD} (h : FunRow w a fs) : ∃ us : List (FunD × Value), us.map Prod.fst = fs ∧ (∀ u ∈ us, BodyAt w u) ∧ ∀ ad, a = some ad → ∀ j v, (us.flatMap encV)[j]? = some v → w.cell? (ad.add j) = some v := by
  rcases h with rfl | ⟨b, off, rfl, h⟩
  · exact ⟨[], rfl, (fun u hu => by cases hu), fun ad _ j v hj => by simp at hj⟩
  · have each : ∀ i, i < fs.length → ∃ v : Value, (w.cell? ⟨b, off + i * 3, none⟩ = some (.string (fs.getD i default).nm) ∧ w.cell? ⟨b, off + i * 3 + 1, none⟩ = some (.bool (fs.getD i default).wk) ∧ w.cell? ⟨b, off + i * 3 + 2, none⟩ = some v) ∧ BodyAt w (fs.getD i default, v) := fun i hi => by
      obtain ⟨ai, ci, h0, h1, h2, h3, h4, h5, h6⟩ := h i hi
      have e : fs.getD i default = fs[i] := by simp [List.getD, List.getElem?_eq_getElem hi]
      rw [e]
      exact ⟨_, ⟨h0, h1, h2⟩, ai, ci, rfl, h3, h4, h5, h6⟩
    obtain ⟨f, hf⟩ := choose_lt each
    refine ⟨(List.range fs.length).map fun i => (fs.getD i default, f i), ?_, ?_, ?_⟩
    · refine List.ext_getElem (by simp) fun i h1 h2 => ?_
      simp [List.getD, List.getElem?_eq_getElem (show i < fs.length by simpa using h1)]
    · intro u hu
      obtain ⟨i, hi, rfl⟩ := List.mem_map.1 hu
      exact (hf i (by simpa using hi)).2
    · rintro ad e j v hj
      cases e
      have hj' : j < fs.length * 3 := by
        have := (List.getElem?_eq_some_iff.1 hj).1
        rw [encV_len] at this
        simpa using this
      have hi : j / 3 < fs.length := by omega
      obtain ⟨h0, h1, h2⟩ := flatV_at ((List.range fs.length).map fun i => (fs.getD i default, f i)) (j / 3) (by simpa using hi)
      obtain ⟨⟨c0, c1, c2⟩, _⟩ := hf (j / 3) hi
      have hr : j % 3 = 0 ∨ j % 3 = 1 ∨ j % 3 = 2 := by omega
      rw [add_plain]
      rcases hr with hr | hr | hr
      · have e : j = j / 3 * 3 := by omega
        rw [← e] at h0
        rw [h0] at hj
        cases hj
        rw [show off + j = off + j / 3 * 3 by omega, c0]
        simp
      · have e : j = j / 3 * 3 + 1 := by omega
        rw [← e] at h1
        rw [h1] at hj
        cases hj
        rw [show off + j = off + j / 3 * 3 + 1 by omega, c1]
        simp
      · have e : j = j / 3 * 3 + 2 := by omega
        rw [← e] at h2
        rw [h2] at hj
        cases hj
        rw [show off + j = off + j / 3 * 3 + 2 by omega, c2]
        simp
/-- A row of one's own that holds functions' cells. -/
theorem vals_row {w : World} {B : Nat} {v : Value} {us : List (FunD × Value)} (h : w.ownsRow B 51 3 v us.length (us.flatMap encV)) (hb : ∀ u ∈ us, BodyAt w u) : ∃ a cap, v = .slice a (us.map Prod.fst).length cap ∧ (us.map Prod.fst).length ≤ cap ∧ cap ≤ maxLen ∧ FunRow w a (us.map Prod.fst) := by
  obtain ⟨hl, ⟨rfl, h0⟩ | ⟨g, cap, cur, rfl, hB, hg, hn, hm, hs, ht⟩⟩ := h
  · have : us = [] := List.length_eq_zero_iff.1 h0
    subst this
    exact ⟨none, 0, rfl, Nat.le_refl _, Nat.zero_le _, .inl rfl⟩
  · refine ⟨_, cap, by rw [List.length_map], by rw [List.length_map]; exact hn, hm, .inr ⟨g, 0, rfl, fun i hi => ?_⟩⟩
    have hi' : i < us.length := by simpa using hi
    obtain ⟨h0, h1, h2⟩ := flatV_at us i hi'
    have t : ∀ j v, j < us.length * 3 → (us.flatMap encV)[j]? = some v → w.cell? ⟨g, j, none⟩ = some v := fun j v hj e => by
      rw [cell_of_block hg]
      rw [← ht, List.getElem?_take_of_lt hj] at e
      simpa using e
    obtain ⟨ai, ci, e2, k1, k2, k3, k4⟩ := hb us[i] (List.getElem_mem _)
    simp only [Nat.zero_add, List.getElem_map]
    exact ⟨ai, ci, t _ _ (by omega) h0, t _ _ (by omega) h1, by rw [t _ _ (by omega) h2, e2], k1, k2, k3, k4⟩

theorem infoFunP : (Tryz.prog.info? 51).map (fun i => (i.zero, i.size, i.bytes)) = some (some (.agg #[.string ⟨#[]⟩, .bool false, .slice none 0 0]), 3, 48) := by kernel_rfl
theorem info_fun : ∃ i, Tryz.prog.info? 51 = some i ∧ i.zero = some (.agg #[.string ⟨#[]⟩, .bool false, .slice none 0 0]) ∧ i.size = 3 ∧ i.bytes = 48 := by
  obtain ⟨i, hi, h⟩ := Option.map_eq_some_iff.1 infoFunP
  simp only [Prod.mk.injEq] at h
  exact ⟨i, hi, h⟩
/-- The functions of a row behind those of a row of one's own. -/
theorem append_vals {w0 w : World} (h0w : Below w0.heap.size w0 w) {B : Nat} {v : Value} {us : List (FunD × Value)} (ty : TypeId) (hB : B ≤ w.heap.size) (h : w.ownsRow B 51 3 v us.length (us.flatMap encV)) {a : Option Addr} {ci : Nat} {fs : List FunD} (hr : FunRow w0 a fs) (hsz : us.length + fs.length ≤ 1000000) :
    ∃ vs v' w', vs.map Prod.fst = fs ∧ (∀ u ∈ vs, BodyAt w0 u) ∧ (Builtin.append_ #[31, 31] ty #[v, .slice a fs.length ci]).run Tryz.prog w = .ok v' w' ∧ w'.ownsRow B 51 3 v' (us ++ vs).length ((us ++ vs).flatMap encV) ∧ w.grownBy w' v.ownBlock := by
  obtain ⟨vs, rfl, hb, hc⟩ := vals_of hr
  obtain ⟨i, hi, hz0, hz1, hz2⟩ := info_fun
  rw [List.length_map] at hsz ⊢
  cases a with
  | none =>
    have hnil : vs = [] := by
      rcases hr with hr | ⟨b, off, e, _⟩
      · simpa using hr
      · cases e
    subst hnil
    refine ⟨[], v, w, rfl, hb, ?_, by simpa using h, World.grownBy.refl _ _⟩
    obtain ⟨_, ⟨rfl, h0⟩ | ⟨g, cap, cur, rfl, _, _, hn, _⟩⟩ := h
    · exact run_append_nothing w _ _ ty _ i Tryz.underlying31 hi _ _ _ (Nat.le_refl _) _ (Src.ofNil w Tryz.underlying31 ci)
    · exact run_append_nothing w _ _ ty _ i Tryz.underlying31 hi _ _ _ hn _ (Src.ofNil w Tryz.underlying31 ci)
  | some ad =>
    obtain ⟨v', w', hr', ho', hg', _⟩ := run_append_own (P := Tryz.prog) w B 31 ty 51 i _ 3 48 Tryz.underlying31 hi hz0 hz1 hz2 rfl (by decide) v us.length (us.flatMap encV) h ad vs.length ci (vs.flatMap encV) (encV_len vs) (fun j x hj => (Stable.cell _ _).1 _ _ h0w (hc ad rfl j x hj)) (encV_one vs hb) (by unfold maxLen; omega) (by omega) hB
    exact ⟨vs, v', w', rfl, hb, hr', by rw [List.length_append, List.flatMap_append]; exact ho', hg'⟩


theorem flatten_succ {us : List (List FunD)} {k : Nat} (h : k < us.length) : (us.take (k + 1)).flatten = (us.take k).flatten ++ us[k] := by
  rw [List.take_succ_eq_append_getElem h, List.flatten_append]
  simp
theorem flatten_le {us : List (List FunD)} (h5 : ∀ u ∈ us, u.length ≤ 5) : ∀ k, k ≤ us.length → (us.take k).flatten.length ≤ k * 5
  | 0, _ => by simp
  | k + 1, hk => by
    have := flatten_le h5 k (by omega)
    have := h5 us[k] (List.getElem_mem _)
    rw [flatten_succ (by omega), List.length_append]
    omega

end Go.Proofs.YthbbmookhcalkaaGreat.Concat
