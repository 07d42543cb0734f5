/- Functions in memory of their own: what a copy leaves, and how marks are written there. -/
import Derived.Test.YthbbmookhcalkaaGreatConcat
import Derived.Maps.AppendAt
namespace Go.Proofs.YthbbmookhcalkaaGreat.KeepC
open Go.ChangeShapes Go.WideShapes Go.ChangeAt Go.RowKit Go.Joins Go.Deep
open Go.Proofs.YthbbmookhcalkaaGreat.Base Go.Proofs.YthbbmookhcalkaaGreat.InsA Go.Proofs.YthbbmookhcalkaaGreat.Funs Go.Proofs.YthbbmookhcalkaaGreat.Open Go.Proofs.YthbbmookhcalkaaGreat.Keep Go.Proofs.YthbbmookhcalkaaGreat.UU Go.Proofs.YthbbmookhcalkaaGreat.Concat
set_option linter.unusedVariables false
set_option maxRecDepth 100000

def encX (x : InsD) : List Value := [.int .i64 x.o, .int .i64 x.n, .string x.s]
/-- A slice of instructions of the call's own. -/
def InsO (w : World) (B : Nat) (v : Value) (xs : List InsD) : Prop := w.ownsRow B 61 3 v xs.length (xs.flatMap encX)
theorem encX_len (xs : List InsD) : (xs.flatMap encX).length = xs.length * 3 := by
  induction xs with
  | nil => rfl
  | cons x r ih => rw [List.flatMap_cons, List.length_append, ih]; simp [encX]; omega
theorem flatX_at (xs : List InsD) : ∀ (i : Nat) (h : i < xs.length), (xs.flatMap encX)[i * 3]? = some (.int .i64 xs[i].o) ∧ (xs.flatMap encX)[i * 3 + 1]? = some (.int .i64 xs[i].n) ∧ (xs.flatMap encX)[i * 3 + 2]? = some (.string xs[i].s) := by
  induction xs with
  | nil => intro i h; simp at h
  | cons x r ih =>
    intro i h
    rw [List.flatMap_cons]
    match i with
    | 0 => simp [encX]
    | i + 1 =>
      have hl : (encX x).length = 3 := rfl
      obtain ⟨h0, h1, h2⟩ := ih i (by simpa using h)
      refine ⟨?_, ?_, ?_⟩
      · rw [List.getElem?_append_right (by omega), hl, show (i + 1) * 3 - 3 = i * 3 by omega]; simpa using h0
      · rw [List.getElem?_append_right (by omega), hl, show (i + 1) * 3 + 1 - 3 = i * 3 + 1 by omega]; simpa using h1
      · rw [List.getElem?_append_right (by omega), hl, show (i + 1) * 3 + 2 - 3 = i * 3 + 2 by omega]; simpa using h2
theorem encX_one (xs : List InsD) : ∀ v ∈ xs.flatMap encX, v.oneCell' = true := by
  intro v hv
  obtain ⟨x, hx, hv⟩ := List.mem_flatMap.1 hv
  simp only [encX, List.mem_cons, List.not_mem_nil, or_false] at hv
  rcases hv with rfl | rfl | rfl <;> rfl
theorem InsO.row {w : World} {B : Nat} {v : Value} {xs : List InsD} (h : InsO w B v xs) (hs : ∀ x ∈ xs, x.s.size ≤ maxLen) : ∃ a cap, v = .slice a xs.length cap ∧ xs.length ≤ cap ∧ cap ≤ maxLen ∧ InsRow w a xs := by
  obtain ⟨_, ⟨rfl, h0⟩ | ⟨g, cap, cur, rfl, hB, hg, hn, hm, hsz, ht⟩⟩ := h
  · exact ⟨none, 0, by rw [h0], by omega, Nat.zero_le _, .inl (List.length_eq_zero_iff.1 h0)⟩
  · refine ⟨_, cap, rfl, hn, hm, .inr ⟨g, 0, rfl, fun i hi => ?_⟩⟩
    have t : ∀ j v, j < xs.length * 3 → (xs.flatMap encX)[j]? = some v → w.cell? ⟨g, j, none⟩ = some v := fun j v hj e => by
      rw [cell_of_block hg]
      rw [← ht, List.getElem?_take_of_lt hj] at e
      simpa using e
    obtain ⟨h0, h1, h2⟩ := flatX_at xs i hi
    simp only [Nat.zero_add]
    exact ⟨t _ _ (by omega) h0, t _ _ (by omega) h1, t _ _ (by omega) h2, hs _ (List.getElem_mem _)⟩
/-- The cells of instructions in a row. -/
theorem ins_cells {w : World} {ad : Addr} {xs : List InsD} (h : InsRow w (some ad) xs) : ∀ j v, (xs.flatMap encX)[j]? = some v → w.cell? (ad.add j) = some v := by
  rcases h with rfl | ⟨b, off, e, h⟩
  · intro j v hj; simp at hj
  · cases e
    intro j v hj
    have hj' : j < xs.length * 3 := by
      have := (List.getElem?_eq_some_iff.1 hj).1
      rwa [encX_len] at this
    have hi : j / 3 < xs.length := by omega
    obtain ⟨h0, h1, h2⟩ := flatX_at xs (j / 3) hi
    obtain ⟨c0, c1, c2, _⟩ := h (j / 3) hi
    have hr : j % 3 = 0 ∨ j % 3 = 1 ∨ j % 3 = 2 := by omega
    rw [add_plain]
    rcases hr with hr | hr | hr
    · rw [show j / 3 * 3 = j by omega] at h0
      rw [h0] at hj; cases hj
      rw [show off + j = off + j / 3 * 3 by omega, c0]
    · rw [show j / 3 * 3 + 1 = j by omega] at h1
      rw [h1] at hj; cases hj
      rw [show off + j = off + j / 3 * 3 + 1 by omega, c1]
    · rw [show j / 3 * 3 + 2 = j by omega] at h2
      rw [h2] at hj; cases hj
      rw [show off + j = off + j / 3 * 3 + 2 by omega, c2]
theorem infoInsQ : (Tryz.prog.info? 61).map (fun i => (i.zero, i.size, i.bytes)) = some (some (.agg #[.int .i64 0, .int .i64 0, .string ⟨#[]⟩]), 3, 32) := by kernel_rfl
theorem info_ins : ∃ i, Tryz.prog.info? 61 = some i ∧ i.zero = some (.agg #[.int .i64 0, .int .i64 0, .string ⟨#[]⟩]) ∧ i.size = 3 ∧ i.bytes = 32 := by
  obtain ⟨i, hi, h⟩ := Option.map_eq_some_iff.1 infoInsQ
  simp only [Prod.mk.injEq] at h
  exact ⟨i, hi, h⟩
/-- 'append(v, body...)' onto nothing. -/
theorem append_body {w : World} {B : Nat} {v : Value} (ty : TypeId) (hB : B ≤ w.heap.size) (h : w.ownsRow B 61 3 v 0 []) {a : Option Addr} {ci : Nat} {xs : List InsD} (hr : InsRow w a xs) (h1 : 0 < xs.length) (hl : xs.length ≤ 1000000) :
    ∃ v' w', (Builtin.append_ #[49, 49] ty #[v, .slice a xs.length ci]).run Tryz.prog w = .ok v' w' ∧ InsO w' B v' xs ∧ w.grownBy w' v.ownBlock ∧ v'.ownBlock ≠ none := by
  obtain ⟨i, hi, hz0, hz1, hz2⟩ := info_ins
  obtain ⟨b, off, rfl⟩ := hr.get h1
  obtain ⟨v', w', hr', ho', hg', _, _⟩ := run_append_own_at (P := Tryz.prog) w B 49 ty 61 i _ 3 32 Tryz.underlying49 hi hz0 hz1 hz2 rfl (by decide) v 0 [] h ⟨b, off, none⟩ xs.length ci (xs.flatMap encX) (encX_len xs) (ins_cells hr) (encX_one xs) (by unfold maxLen; omega) (by omega) hB
  rw [Nat.zero_add, List.nil_append] at ho'
  refine ⟨v', w', hr', ho', hg', fun e => ?_⟩
  obtain ⟨_, ⟨rfl, h0⟩ | ⟨g, cap, cur, rfl, _⟩⟩ := ho'
  · omega
  · cases e

theorem row_below {w w' : World} {B : Nat} {e : TypeId} {z n : Nat} {v : Value} {xs : List Value} (h : w.ownsRow B e z v n xs) (hb : Below w.heap.size w w') : w'.ownsRow B e z v n xs :=
  World.ownsRow.kept h (row := none) ⟨hb.os, hb.tape, hb.output, hb.size, fun k hk _ => hb.block k hk⟩ (by cases hv : v.ownBlock <;> simp)
theorem row_base {w : World} {B C : Nat} {e : TypeId} {z n : Nat} {v : Value} {xs : List Value} (h : w.ownsRow B e z v n xs) (hb : C ≤ B) : w.ownsRow C e z v n xs := by
  obtain ⟨h0, h1 | ⟨g, cap, cur, hv, hB, hr⟩⟩ := h
  · exact ⟨h0, .inl h1⟩
  · exact ⟨h0, .inr ⟨g, cap, cur, hv, by omega, hr⟩⟩
theorem row_ne {w : World} {B B' : Nat} {e e' : TypeId} {z z' n n' : Nat} {v v' : Value} {xs xs' : List Value} (h : w.ownsRow B e z v n xs) (h' : w.ownsRow B' e' z' v' n' xs') (he : e ≠ e') : v.ownBlock = none ∨ v.ownBlock ≠ v'.ownBlock := by
  obtain ⟨_, ⟨rfl, _⟩ | ⟨g, cap, cur, rfl, _, hb, _⟩⟩ := h
  · exact .inl rfl
  · refine .inr fun e => ?_
    obtain ⟨_, ⟨rfl, _⟩ | ⟨g', cap', cur', rfl, _, hb', _⟩⟩ := h'
    · cases e
    · cases e
      rw [hb] at hb'
      simp at hb'
      exact he hb'.2
/-- A function whose instructions lie in a block of their own. -/
def BodyO (w : World) (B : Nat) (u : FunD × Value) : Prop := InsO w B u.2 u.1.body ∧ u.1.nm.size ≤ maxLen ∧ (∀ x ∈ u.1.body, x.s.size ≤ maxLen) ∧ u.2.ownBlock ≠ none
/-- Functions in memory of their own. -/
def OwnFs (w : World) (B : Nat) (v : Value) (vs : List (FunD × Value)) : Prop :=
  w.ownsRow B 51 3 v vs.length (vs.flatMap encV) ∧ (∀ u ∈ vs, BodyO w B u) ∧ vs.Pairwise (fun u u' => u.2.ownBlock ≠ u'.2.ownBlock)
theorem BodyO.at {w : World} {B : Nat} {u : FunD × Value} (h : BodyO w B u) : BodyAt w u := by
  obtain ⟨h0, h1, h2, h3⟩ := h
  obtain ⟨a, cap, e, k1, k2, k3⟩ := h0.row h2
  exact ⟨a, cap, e, h1, k1, k2, k3⟩
theorem BodyO.below {w w' : World} {B : Nat} {u : FunD × Value} (h : BodyO w B u) (hb : Below w.heap.size w w') : BodyO w' B u := ⟨row_below h.1 hb, h.2⟩
theorem BodyO.base {w : World} {B C : Nat} {u : FunD × Value} (h : BodyO w B u) (hb : C ≤ B) : BodyO w C u := ⟨row_base h.1 hb, h.2⟩
theorem OwnFs.below {w w' : World} {B : Nat} {v : Value} {vs : List (FunD × Value)} (h : OwnFs w B v vs) (hb : Below w.heap.size w w') : OwnFs w' B v vs := ⟨row_below h.1 hb, fun u hu => (h.2.1 u hu).below hb, h.2.2⟩
theorem OwnFs.base {w : World} {B C : Nat} {v : Value} {vs : List (FunD × Value)} (h : OwnFs w B v vs) (hb : C ≤ B) : OwnFs w C v vs := ⟨row_base h.1 hb, fun u hu => (h.2.1 u hu).base hb, h.2.2⟩
theorem OwnFs.row {w : World} {B : Nat} {v : Value} {vs : List (FunD × Value)} (h : OwnFs w B v vs) : ∃ a cap, v = .slice a (vs.map Prod.fst).length cap ∧ (vs.map Prod.fst).length ≤ cap ∧ cap ≤ maxLen ∧ FunRow w a (vs.map Prod.fst) := vals_row h.1 (fun u hu => (h.2.1 u hu).at)
theorem OwnFs.nil (w : World) (B : Nat) : OwnFs w B (.slice none 0 0) [] := ⟨World.ownsRow_nil _ _ _ _, (fun u hu => by cases hu), List.Pairwise.nil⟩
theorem OwnFs.made (w : World) : OwnFs (w.alloc (.cells #[] 51)) w.heap.size (.slice (some ⟨w.heap.size, 0, none⟩) 0 0) [] :=
  ⟨⟨by simp, .inr ⟨_, _, _, rfl, Nat.le_refl _, new_block w _, Nat.le_refl _, Nat.zero_le _, rfl, rfl⟩⟩, (fun u hu => by cases hu), List.Pairwise.nil⟩
theorem funV_new (w : World) (u : FunD × Value) : ∀ j x, (encV u)[j]? = some x → (w.alloc (.cells #[.string u.1.nm, .bool u.1.wk, u.2] 51)).cell? ((⟨w.heap.size, 0, none⟩ : Addr).add j) = some x := by
  intro j x hj
  rw [add_plain, cell_of_block (new_block w _)]
  match j, hj with
  | 0, hj => simpa [encV] using hj
  | 1, hj => simpa [encV] using hj
  | 2, hj => simpa [encV] using hj
  | j + 3, hj => simp [encV] at hj
theorem vals_snoc {w : World} {B : Nat} {v : Value} {ys : List (FunD × Value)} {y : FunD × Value} (h : w.ownsRow B 51 3 v (ys.length + 1) (ys.flatMap encV ++ encV y)) : w.ownsRow B 51 3 v (ys ++ [y]).length ((ys ++ [y]).flatMap encV) := by
  rw [List.length_append, List.flatMap_append]
  simpa using h
/-- A function with a new body behind the others: what stands. -/
theorem OwnFs.snoc {w1 w2 w3 : World} {B : Nat} {v v3 : Value} {vs : List (FunD × Value)} {y : FunD × Value} (h : OwnFs w1 B v vs) (hb : Below w1.heap.size w1 w2) (hy : BodyO w2 w1.heap.size y) (hB : B ≤ w1.heap.size) (ho : w3.ownsRow B 51 3 v3 (vs.length + 1) (vs.flatMap encV ++ encV y)) (hg : w2.grownBy w3 v.ownBlock) : OwnFs w3 B v3 (vs ++ [y]) := by
  have h2 := h.below hb
  have keep : ∀ u, BodyO w2 B u → BodyO w3 B u := fun u hu => ⟨World.ownsRow.kept hu.1 hg (row_ne hu.1 h2.1 (by decide)), hu.2⟩
  refine ⟨vals_snoc ho, fun u hu => ?_, ?_⟩
  · rcases List.mem_append.1 hu with hu | hu
    · exact keep u (h2.2.1 u hu)
    · rw [List.mem_singleton.1 hu]; exact keep y (hy.base hB)
  · refine List.pairwise_append.2 ⟨h.2.2, List.pairwise_singleton _ _, fun a ha b hb' e => ?_⟩
    rw [List.mem_singleton.1 hb'] at e
    cases hg1 : y.2.ownBlock with
    | none => exact hy.2.2.2 hg1
    | some g =>
      rw [hg1] at e
      have l1 := (World.ownsRow.lt (h.2.1 a ha).1 g e).2
      have l2 := (World.ownsRow.lt hy.1 g hg1).1
      omega
end Go.Proofs.YthbbmookhcalkaaGreat.KeepC
