/- A laying in memory of the call's own: what each step of the specification's l7Copy leaves. -/
import Derived.Test.YthbbmookhcalkaaGreatDoorLayX
import Derived.Deep.AppendSrc
import Derived.Deep.Upon
namespace Go.Proofs.YthbbmookhcalkaaGreatDoor.LayY
open Go.ChangeShapes Go.WideShapes Go.ChangeAt Go.RowKit Go.Joins Go.Deep
open Go.Proofs.YthbbmookhcalkaaGreatDoor.Base Go.Proofs.YthbbmookhcalkaaGreatDoor.InsA Go.Proofs.YthbbmookhcalkaaGreatDoor.Funs Go.Proofs.YthbbmookhcalkaaGreatDoor.Open Go.Proofs.YthbbmookhcalkaaGreatDoor.FunS Go.Proofs.YthbbmookhcalkaaGreatDoor.Keep Go.Proofs.YthbbmookhcalkaaGreatDoor.UnitS Go.Proofs.YthbbmookhcalkaaGreatDoor.Refs Go.Proofs.YthbbmookhcalkaaGreatDoor.Mark Go.Proofs.YthbbmookhcalkaaGreatDoor.LayN Go.Proofs.YthbbmookhcalkaaGreatDoor.LayA Go.Proofs.YthbbmookhcalkaaGreatDoor.LayD Go.Proofs.YthbbmookhcalkaaGreatDoor.LayT Go.Proofs.YthbbmookhcalkaaGreatDoor.LayW Go.Proofs.YthbbmookhcalkaaGreatDoor.LayX
set_option linter.unusedVariables false
set_option maxRecDepth 100000

theorem txs_info : ∃ i, Tryz.prog.info? 60 = some i ∧ i.zero = some (.slice none 0 0) ∧ i.size = 1 ∧ i.bytes = 24 := by
  obtain ⟨i, hi, h⟩ := Option.map_eq_some_iff.1 infoTextsX
  simp only [Prod.mk.injEq] at h
  exact ⟨i, hi, h⟩
/-- Numbers and lists of names, each list in a row of its own, all of the call's own from block B on. -/
structure OL (w : World) (B : Nat) (nv sv : Value) (ns : List Int) (st : List (List ByteArray)) (vs : List Value) : Prop where
  num : w.ownsRow B 3 1 nv ns.length (ns.map (Value.int .i64))
  out : w.ownsRow B 60 1 sv st.length vs
  ent : ∀ i (h : i < st.length), ∃ v, vs[i]? = some v ∧ StrOwn w B v st[i]
  dis : ∀ (i j : Nat) (v u : Value), i ≠ j → vs[i]? = some v → vs[j]? = some u → v.ownBlock = none ∨ v.ownBlock ≠ u.ownBlock
theorem row_type {w : World} {B B' : Nat} {e e' : TypeId} {z z' n n' : Nat} {v v' : Value} {xs xs' : List Value} (h : w.ownsRow B e z v n xs) (h' : w.ownsRow B' e' z' v' n' xs') (he : e ≠ e') : v.ownBlock = none ∨ v.ownBlock ≠ v'.ownBlock := by
  obtain ⟨_, ⟨h1, h0⟩ | ⟨g, cap, cur, h1, hB, hg, hn, hm, hs, ht⟩⟩ := h
  · exact .inl (by rw [h1]; rfl)
  · obtain ⟨_, ⟨k1, k0⟩ | ⟨g', cap', cur', k1, kB, kg, kn, km, ks, kt⟩⟩ := h'
    · exact .inr (by rw [h1, k1]; simp [Value.ownBlock])
    · refine .inr (fun e1 => ?_)
      rw [h1, k1] at e1
      have : g = g' := Option.some.inj e1
      subst this
      rw [hg] at kg
      simp at kg
      exact he kg.2
theorem OL.next {w w' : World} {B : Nat} {nv sv : Value} {ns : List Int} {st : List (List ByteArray)} {vs : List Value} (h : OL w B nv sv ns st vs) (hb : Below w.heap.size w w') : OL w' B nv sv ns st vs := by
  have hn : ∀ v : Value, v.ownBlock = none ∨ v.ownBlock ≠ none := fun v => by cases v.ownBlock <;> simp
  exact ⟨h.num.kept (row := none) (grown_bel hb _) (hn _), h.out.kept (row := none) (grown_bel hb _) (hn _), fun i hi => by obtain ⟨v, k1, k2⟩ := h.ent i hi; exact ⟨v, k1, k2.below hb⟩, h.dis⟩
theorem OL.texts {w : World} {B c : Nat} {a : Option Addr} {nv : Value} {ns : List Int} {st : List (List ByteArray)} {vs : List Value} (h : OL w B nv (.slice a st.length c) ns st vs) (hz : ∀ ss ∈ st, ∀ s ∈ ss, s.size ≤ maxLen) : TextsRow w a st := by
  obtain ⟨q1, ⟨q2, q0⟩ | ⟨g, cap, cur, q2, hB, hgg, hn, hm, hs, ht⟩⟩ := h.out
  · exact .inl (List.length_eq_zero_iff.1 q0)
  · simp only [Value.slice.injEq] at q2
    obtain ⟨rfl, _, rfl⟩ := q2
    refine .inr ⟨g, 0, rfl, fun i hi => ?_⟩
    obtain ⟨v, k1, k2⟩ := h.ent i hi
    obtain ⟨a', c', rfl, e1, e2⟩ := form_of k2
    obtain ⟨a2, c2, e3, e4, e5, e6⟩ := k2.at
    simp only [Value.slice.injEq] at e3
    obtain ⟨rfl, _, rfl⟩ := e3
    have hc : w.cell? ⟨g, 0 + i, none⟩ = some (.slice a' st[i].length c') := by
      rw [Nat.zero_add, cell_of_block hgg]
      have e : (cur.toList.take (st.length * 1))[i]? = some (.slice a' st[i].length c') := by rw [ht]; exact k1
      rw [List.getElem?_take_of_lt (by omega)] at e
      simpa using e
    refine ⟨a', c', hc, e1, e2, ?_⟩
    have hzz := hz _ (List.getElem_mem hi)
    rcases e6 with e6 | ⟨b, o, e6, e7⟩
    · exact .inl e6
    · exact .inr ⟨b, o, e6, fun j hj => ⟨e7 j hj, hzz _ (List.getElem_mem _)⟩⟩
theorem ne_types : (3 : TypeId) ≠ 60 ∧ (9 : TypeId) ≠ 60 ∧ (9 : TypeId) ≠ 3 := by decide
theorem text_cells {w : World} {ad : Addr} {ss : List ByteArray} (h : TextRow w (some ad) ss) : ∀ j v, (ss.map Value.string)[j]? = some v → w.cell? (ad.add j) = some v := fun j v hj => by
  rcases h with h | ⟨b, off, e, h⟩
  · subst h; simp at hj
  · simp only [Option.some.injEq] at e
    subst e
    obtain ⟨hl, e2⟩ := List.getElem?_eq_some_iff.1 hj
    have hl' : j < ss.length := by simpa using hl
    rw [add_plain, (h j hl').1, ← e2]
    simp
theorem texts_onto {w : World} {B : Nat} {v : Value} (hB : B ≤ w.heap.size) (h : StrOwn w B v []) {a : Option Addr} {ci : Nat} {ss : List ByteArray} (hr : TextRow w a ss) (hl : ss.length ≤ 1048576) (ty : TypeId) :
    ∃ a' c' w', (Builtin.append_ #[60, 60] ty #[v, .slice a ss.length ci]).run Tryz.prog w = .ok (.slice a' ss.length c') w' ∧ StrOwn w' B (.slice a' ss.length c') ss ∧ w.grownBy w' v.ownBlock ∧ ((Value.slice a' ss.length c').ownBlock = v.ownBlock ∨ (Value.slice a' ss.length c').ownBlock = some w.heap.size) := by
  obtain ⟨i, hi, hz0, hz1, hz2⟩ := str_info
  cases a with
  | none =>
    have hnil : ss = [] := by
      rcases hr with hr | ⟨b, off, e, _⟩
      · exact hr
      · cases e
    subst hnil
    obtain ⟨va, vc, e, _⟩ := form_of h
    subst e
    refine ⟨va, vc, w, ?_, h, World.grownBy.refl _ _, .inl rfl⟩
    obtain ⟨_, ⟨e, h0⟩ | ⟨g, cap, cur, e, _, _, hn, _⟩⟩ := h
    · simp only [Value.slice.injEq] at e
      obtain ⟨rfl, _, rfl⟩ := e
      exact run_append_nothing w _ _ ty _ i Tryz.underlying60 hi _ _ _ (Nat.le_refl _) _ (Src.ofNil w Tryz.underlying60 ci)
    · simp only [Value.slice.injEq] at e
      obtain ⟨rfl, _, rfl⟩ := e
      exact run_append_nothing w _ _ ty _ i Tryz.underlying60 hi _ _ _ hn _ (Src.ofNil w Tryz.underlying60 ci)
  | some ad =>
    obtain ⟨v', w', hr', ho', hg', _, hat⟩ := run_append_own_at (P := Tryz.prog) w B 60 ty 9 i _ 1 16 Tryz.underlying60 hi hz0 hz1 hz2 rfl (by decide) v 0 [] h ad ss.length ci (ss.map Value.string) (by simp) (text_cells hr) (by simp [Value.oneCell']) (by unfold maxLen; omega) (by omega) hB
    have hO : StrOwn w' B v' ss := by
      show World.ownsRow _ _ _ _ _ _ _
      simpa using ho'
    obtain ⟨a', c', e, _⟩ := form_of hO
    subst e
    exact ⟨a', c', w', hr', hO, hg', hat⟩
/-- A list of names is copied and put behind the others. -/
theorem OL.more {w : World} {B c : Nat} {oa : Option Addr} {nv : Value} {ns : List Int} {st : List (List ByteArray)} {vs : List Value} (h : OL w B nv (.slice oa st.length c) ns st vs) (hB : B ≤ w.heap.size) (hl : st.length ≤ 1000) {a : Option Addr} {ci : Nat} {ss : List ByteArray} (hr : TextRow w a ss) (hc1 : ss.length ≤ ci) (hc2 : ci ≤ maxLen) (hsl : ss.length ≤ 1000000) (ty1 ty2 : TypeId) :
    ∃ a2 c2 w2, (Builtin.append_ #[60, 60] ty1 #[.slice (some ⟨w.heap.size, 0, none⟩) 0 0, .slice a ss.length ci]).run Tryz.prog (w.alloc (.cells #[] 9)) = .ok (.slice a2 ss.length c2) w2 ∧ OL w2 B nv (.slice oa st.length c) ns st vs ∧ StrOwn w2 B (.slice a2 ss.length c2) ss ∧ Below w.heap.size w w2 ∧
      ∃ a4 c4 w4, (Builtin.append_ #[45, 45] ty2 #[.slice oa st.length c, .slice (some ⟨w2.heap.size, 0, none⟩) 1 1]).run Tryz.prog (w2.alloc (.cells #[.slice a2 ss.length c2] 60)) = .ok (.slice a4 (st.length + 1) c4) w4 ∧ OL w4 B nv (.slice a4 (st.length + 1) c4) ns (st ++ [ss]) (vs ++ [.slice a2 ss.length c2]) ∧ (∀ q, q < B → w4.heap[q]? = w.heap[q]?) ∧ (∀ q, q < w.heap.size → (∃ C, w.heap[q]? = some (.cells C 47)) → w4.heap[q]? = w.heap[q]?) ∧ Below B w w4 := by
  have hOm : StrOwn (w.alloc (.cells #[] 9)) B (.slice (some ⟨w.heap.size, 0, none⟩) 0 0) [] := ⟨by simp, .inr ⟨_, _, _, rfl, hB, new_block w _, Nat.le_refl _, Nat.zero_le _, rfl, rfl⟩⟩
  have hb1 := below_alloc1 w (.cells #[] 9)
  obtain ⟨a2, c2, w2, r2, o2, g2, l2⟩ := texts_onto (ci := ci) (show B ≤ (w.alloc (.cells #[] 9)).heap.size by rw [World.size_alloc]; omega) hOm (hr.below hb1) (by omega) ty1
  have hb2 : Below w.heap.size w w2 := hb1.grown g2 hb1.size (fun j hj => by cases hj; exact Nat.le_refl _)
  have hOL2 := h.next hb2
  have hlo2 : ∀ q, (Value.slice a2 ss.length c2).ownBlock = some q → w.heap.size ≤ q := fun q hq => by
    rcases l2 with e | e
    · rw [e] at hq; cases hq; exact Nat.le_refl _
    · rw [e] at hq; simp at hq; omega
  refine ⟨a2, c2, w2, r2, hOL2, o2, hb2, ?_⟩
  have hb3 := below_alloc1 w2 (.cells #[.slice a2 ss.length c2] 60)
  have hOL3 := hOL2.next hb3
  have o3 := o2.below hb3
  obtain ⟨i, hi, hz0, hz1, hz2⟩ := txs_info
  obtain ⟨v4, w4, r4, o4, g4, _, l4⟩ := run_append_own_at (P := Tryz.prog) (w2.alloc (.cells #[.slice a2 ss.length c2] 60)) B 45 ty2 60 i _ 1 24 Tryz.underlying45 hi hz0 hz1 hz2 rfl (by decide) (.slice oa st.length c) st.length vs hOL3.out ⟨w2.heap.size, 0, none⟩ 1 1 [.slice a2 ss.length c2] rfl (cell_after _ _ _) (by simp [Value.oneCell']) (by unfold maxLen; omega) (by omega) (by rw [World.size_alloc]; have := hb2.size; omega)
  obtain ⟨a4, c4, rfl, _, _⟩ := form_of o4
  have hvl : vs.length = st.length := by have := h.out.1; omega
  have hrow : ∀ q, (Value.slice oa st.length c).ownBlock = some q → B ≤ q ∧ q < w.heap.size := fun q hq => World.ownsRow.lt h.out q hq
  have hs3 : w2.heap.size < (w2.alloc (.cells #[.slice a2 ss.length c2] 60)).heap.size := by simp
  refine ⟨a4, c4, w4, r4, ⟨hOL3.num.kept g4 (row_type hOL3.num hOL3.out ne_types.1), by rw [List.length_append]; exact o4, ?_, ?_⟩, ?_, ?_, ?_⟩
  · intro j hj
    rw [List.length_append] at hj
    by_cases hjl : j < st.length
    · obtain ⟨v, k1, k2⟩ := hOL3.ent j hjl
      refine ⟨v, by rw [List.getElem?_append_left (by omega)]; exact k1, ?_⟩
      rw [List.getElem_append_left hjl]
      exact str_kept k2 g4 (row_type k2 hOL3.out ne_types.2.1)
    · have hje : j = st.length := by simp at hj; omega
      subst hje
      refine ⟨.slice a2 ss.length c2, by rw [List.getElem?_append_right (by omega), hvl]; simp, ?_⟩
      rw [List.getElem_append_right (Nat.le_refl _)]
      simp only [Nat.sub_self, List.getElem_cons_zero]
      exact str_kept o3 g4 (row_type o3 hOL3.out ne_types.2.1)
  · have old : ∀ (p : Nat) (x : Value), vs[p]? = some x → x.ownBlock = none ∨ x.ownBlock ≠ (Value.slice a2 ss.length c2).ownBlock := fun p x hx => by
      have hp : p < st.length := by have := (List.getElem?_eq_some_iff.1 hx).1; omega
      obtain ⟨u, k1, k2⟩ := h.ent p hp
      rw [hx] at k1
      cases k1
      cases hxo : x.ownBlock with
      | none => exact .inl rfl
      | some g =>
        refine .inr (fun e => ?_)
        have := (World.ownsRow.lt k2 g hxo).2
        have := hlo2 g e.symm
        omega
    intro p q x y hpq hx hy
    by_cases hp : p < vs.length
    · rw [List.getElem?_append_left hp] at hx
      by_cases hq : q < vs.length
      · rw [List.getElem?_append_left hq] at hy
        exact h.dis p q x y hpq hx hy
      · rw [List.getElem?_append_right (by omega)] at hy
        have : y = .slice a2 ss.length c2 := by
          generalize q - vs.length = m at hy
          match m, hy with
          | 0, hy => simpa using hy.symm
          | m + 1, hy => simp at hy
        rw [this]
        exact old p x hx
    · rw [List.getElem?_append_right (by omega)] at hx
      have hpe : p = vs.length ∧ x = .slice a2 ss.length c2 := by
        generalize hm : p - vs.length = m at hx
        match m, hx with
        | 0, hx => exact ⟨by omega, by simpa using hx.symm⟩
        | m + 1, hx => simp at hx
      have hq : q < vs.length := by
        by_cases hq : q < vs.length
        · exact hq
        · rw [List.getElem?_append_right (by omega)] at hy
          have := (List.getElem?_eq_some_iff.1 hy).1
          simp at this
          omega
      rw [List.getElem?_append_left hq] at hy
      rw [hpe.2]
      rcases old q y hy with e | e
      · cases hxo : (Value.slice a2 ss.length c2).ownBlock with
        | none => exact .inl rfl
        | some g => exact .inr (by rw [e]; simp)
      · exact .inr (fun e' => e e'.symm)
  · intro q hq
    exact ((g4.block q (by have := hb2.size; omega) (fun e => by have := hrow q e.symm; omega)).trans (hb3.block q (by have := hb2.size; omega))).trans (hb2.block q (by omega))
  · rintro q hq ⟨C, hC⟩
    have hne : some q ≠ (Value.slice oa st.length c).ownBlock := fun e => by
      obtain ⟨_, ⟨h1, h0⟩ | ⟨g, cap, cur, h1, hB', hg, hn, hm, hs, ht⟩⟩ := h.out
      · rw [h1] at e; cases e
      · rw [h1] at e
        have e' : q = g := Option.some.inj e
        rw [e', hg] at hC
        simp at hC
    exact ((g4.block q (by have := hb2.size; omega) hne).trans (hb3.block q (by have := hb2.size; omega))).trans (hb2.block q hq)
  · have hbb := bl_trans hb2 hb3
    exact (hbb.mono hB).grown g4 (Nat.le_trans hB hbb.size) (fun j hj => (hrow j hj).1)
end Go.Proofs.YthbbmookhcalkaaGreatDoor.LayY
