/- Units that are drawn, and what keeps them readable: the blocks in which they lie. -/
import Derived.Test.YthbbmookhcalkaaGreatDoorDrawBent
import Derived.Test.YthbbmookhcalkaaGreatDoorPkb32a49b0
import Derived.Maps.AppendAt
namespace Go.Proofs.YthbbmookhcalkaaGreatDoor.DrawUU
open Go.ChangeShapes Go.WideShapes Go.ChangeAt Go.RowKit Go.Joins
open Go.Proofs.YthbbmookhcalkaaGreatDoor.Base Go.Proofs.YthbbmookhcalkaaGreatDoor.InsA Go.Proofs.YthbbmookhcalkaaGreatDoor.Funs Go.Proofs.YthbbmookhcalkaaGreatDoor.Open Go.Proofs.YthbbmookhcalkaaGreatDoor.FunS Go.Proofs.YthbbmookhcalkaaGreatDoor.Keep Go.Proofs.YthbbmookhcalkaaGreatDoor.UnitS Go.Proofs.YthbbmookhcalkaaGreatDoor.Rd Go.Proofs.YthbbmookhcalkaaGreatDoor.DrawIns Go.Proofs.YthbbmookhcalkaaGreatDoor.DrawFun Go.Proofs.YthbbmookhcalkaaGreatDoor.DrawUnit Go.Proofs.YthbbmookhcalkaaGreatDoor.DrawUnitB Go.Proofs.YthbbmookhcalkaaGreatDoor.DrawBent Go.Proofs.YthbbmookhcalkaaGreatDoor.UU
set_option linter.unusedVariables false
set_option maxRecDepth 100000

/-- A function whose instructions lie in blocks of S. -/
def FunIn (w : World) (S : Nat → Prop) (x : FunD × Value) : Prop :=
  ∃ ai ci, x.2 = .slice ai x.1.body.length ci ∧ x.1.nm.size ≤ maxLen ∧ x.1.body.length ≤ ci ∧ ci ≤ maxLen ∧ InsRow w ai x.1.body ∧ (x.1.body = [] ∨ ∃ b off, ai = some ⟨b, off, none⟩ ∧ S b)
/-- A block of functions or of instructions. -/
def IsFI (w : World) (k : Nat) : Prop := ∃ C, w.heap[k]? = some (.cells C 28 (0, 0)) ∨ w.heap[k]? = some (.cells C 105 (0, 0))
theorem IsFI.lt {w : World} {k : Nat} (h : IsFI w k) : k < w.heap.size := by
  obtain ⟨C, h | h⟩ := h
  · exact (Array.getElem?_eq_some_iff.1 h).1
  · exact (Array.getElem?_eq_some_iff.1 h).1
theorem IsFI.step {w w' : World} {k : Nat} (h : IsFI w k) (e : w'.heap[k]? = w.heap[k]?) : IsFI w' k := by
  obtain ⟨C, h⟩ := h
  exact ⟨C, by rw [e]; exact h⟩
theorem IsFI.ne {w : World} {k : Nat} {C : Array Value} {t : TypeId} {f : Nat × Nat} (h : IsFI w k) (hb : w.heap[k]? = some (.cells C t f)) : t = 28 ∨ t = 105 := by
  obtain ⟨D, h | h⟩ := h
  · rw [hb] at h; simp at h; exact .inl h.2.1
  · rw [hb] at h; simp at h; exact .inr h.2.1
/-- The blocks from B on that are of functions or of instructions. -/
def FI (w : World) (B : Nat) (k : Nat) : Prop := B ≤ k ∧ IsFI w k
/-- A unit that lies in blocks of S. -/
def UnitIn (w : World) (S : Nat → Prop) (xs : List (FunD × Value)) (v : Value) : Prop :=
  (∀ k, S k → IsFI w k) ∧ (∀ x ∈ xs, FunIn w S x) ∧ ∃ ai ci, v = .slice ai xs.length ci ∧ xs.length ≤ ci ∧ ci ≤ maxLen ∧ (xs = [] ∨ ∃ b off, ai = some ⟨b, off, none⟩ ∧ S b ∧ ∀ i (h : i < xs.length), w.cell? ⟨b, off + i * 3, none⟩ = some (.string xs[i].1.nm) ∧ w.cell? ⟨b, off + i * 3 + 1, none⟩ = some (.bool xs[i].1.wk) ∧ w.cell? ⟨b, off + i * 3 + 2, none⟩ = some xs[i].2)
theorem cell_agree {w w' : World} {b o : Nat} (h : w'.heap[b]? = w.heap[b]?) : w'.cell? ⟨b, o, none⟩ = w.cell? ⟨b, o, none⟩ := World.cell?_of_block (a := ⟨b, o, none⟩) h
theorem FunIn.step {w w' : World} {S : Nat → Prop} {x : FunD × Value} (h : FunIn w S x) (ha : ∀ k, S k → w'.heap[k]? = w.heap[k]?) : FunIn w' S x := by
  obtain ⟨ai, ci, h0, h1, h2, h3, h4, h5⟩ := h
  refine ⟨ai, ci, h0, h1, h2, h3, ?_, h5⟩
  rcases h5 with h5 | ⟨b, off, rfl, hS⟩
  · exact .inl h5
  · rcases h4 with h4 | ⟨b', off', e, h4⟩
    · exact .inl h4
    · simp only [Option.some.injEq, Addr.mk.injEq, and_true] at e
      obtain ⟨rfl, rfl⟩ := e
      refine .inr ⟨_, _, rfl, fun i hi => ?_⟩
      rw [cell_agree (ha _ hS), cell_agree (ha _ hS), cell_agree (ha _ hS)]
      exact h4 i hi
theorem FunIn.mono {w : World} {S T : Nat → Prop} {x : FunD × Value} (h : FunIn w S x) (hT : ∀ k, S k → T k) : FunIn w T x := by
  obtain ⟨ai, ci, h0, h1, h2, h3, h4, h5⟩ := h
  exact ⟨ai, ci, h0, h1, h2, h3, h4, h5.imp id fun ⟨b, off, e, hs⟩ => ⟨b, off, e, hT b hs⟩⟩
theorem UnitIn.step {w w' : World} {S : Nat → Prop} {xs : List (FunD × Value)} {v : Value} (h : UnitIn w S xs v) (ha : ∀ k, S k → w'.heap[k]? = w.heap[k]?) : UnitIn w' S xs v := by
  obtain ⟨h0, h1, ai, ci, h2, h3, h4, h5⟩ := h
  refine ⟨fun k hk => (h0 k hk).step (ha k hk), fun x hx => (h1 x hx).step ha, ai, ci, h2, h3, h4, ?_⟩
  rcases h5 with h5 | ⟨b, off, e, hS, h5⟩
  · exact .inl h5
  · refine .inr ⟨b, off, e, hS, fun i hi => ?_⟩
    rw [cell_agree (ha _ hS), cell_agree (ha _ hS), cell_agree (ha _ hS)]
    exact h5 i hi
theorem UnitIn.row {w : World} {S : Nat → Prop} {xs : List (FunD × Value)} {v : Value} (h : UnitIn w S xs v) : ∃ ai ci, v = .slice ai (xs.map Prod.fst).length ci ∧ (xs.map Prod.fst).length ≤ ci ∧ ci ≤ maxLen ∧ FunRow w ai (xs.map Prod.fst) := by
  obtain ⟨h0, h1, ai, ci, h2, h3, h4, h5⟩ := h
  refine ⟨ai, ci, by simpa using h2, by simpa using h3, h4, ?_⟩
  rcases h5 with rfl | ⟨b, off, rfl, hS, h5⟩
  · exact .inl rfl
  · refine .inr ⟨b, off, rfl, fun i hi => ?_⟩
    have hi' : i < xs.length := by simpa using hi
    obtain ⟨c0, c1, c2⟩ := h5 i hi'
    obtain ⟨ai', ci', e, k1, k2, k3, k4, _⟩ := h1 xs[i] (List.getElem_mem _)
    simp only [List.getElem_map]
    exact ⟨ai', ci', c0, c1, by rw [c2, e], k1, k2, k3, k4⟩
theorem own_box {w : World} {B g : Nat} {z n : Nat} {v : Value} {xs : List Value} (h : w.ownsRow B 105 z v n xs) (hg : v.ownBlock = some g) : IsFI w g := by
  obtain ⟨_, ⟨rfl, _⟩ | ⟨g', cap, cur, rfl, _, hb, _⟩⟩ := h
  · cases hg
  · cases hg; exact ⟨cur, .inr hb⟩
theorem insIn_of {w : World} {B : Nat} {u : FunD × Value} (h : InsOwn w B u.2 u.1.body) (hn : okN u.1.nm) (hs : short u.1.body) : FunIn w (FI w B) u := by
  obtain ⟨a, c, e, k1, k2, k3⟩ := InsOwn.row h (tame_max hs)
  refine ⟨a, c, e, hn.max, k1, k2, k3, ?_⟩
  rcases k3 with k3 | ⟨b, off, rfl, _⟩
  · exact .inl k3
  · exact .inr ⟨b, off, rfl, (World.ownsRow.lt h b (by rw [e]; rfl)).1, own_box h (by rw [e]; rfl)⟩
theorem unitIn_some {w : World} {B : Nat} {v : Value} {us : List (FunD × Value)} (h : UnitSome w B v us) (ht : mild us) : UnitIn w (FI w B) us v := by
  obtain ⟨g, cap, C, rfl, hB, hg, hn, hm, hc, hI⟩ := h
  refine ⟨fun k hk => hk.2, fun x hx => insIn_of (hI x hx) (ht x hx).1 (ht x hx).2, _, cap, rfl, hn, hm, .inr ⟨g, 0, rfl, ⟨hB, C, .inl hg⟩, fun i hi => ?_⟩⟩
  obtain ⟨h0, h1, h2⟩ := hc i hi
  simp only [Nat.zero_add]
  exact ⟨by rw [cell_of_block hg]; exact h0, by rw [cell_of_block hg]; exact h1, by rw [cell_of_block hg]; exact h2⟩
theorem unitIn_own {w : World} {B : Nat} {v : Value} {us : List (FunD × Value)} (h : UnitOwn w B v us) (ht : tame us) (hn : 1 ≤ us.length) : UnitIn w (FI w B) us v := unitIn_some (some_of h.1 h.2.1 hn) (mild_of ht)
theorem unitIn_nil (w : World) (ai : Option Addr) (ci : Nat) (h : ci ≤ maxLen) : UnitIn w (fun _ => False) [] (.slice ai 0 ci) :=
  ⟨fun k hk => hk.elim, (fun x hx => by cases hx), ai, ci, rfl, Nat.zero_le _, h, .inl rfl⟩

abbrev UnitV := List (FunD × Value) × Value
/-- A slice of units of the call's own, that lie in blocks ahead of E. -/
def UnitsOwn (w : World) (B E : Nat) (v : Value) (vs : List UnitV) : Prop :=
  w.ownsRow B 23 1 v vs.length (vs.map Prod.snd) ∧ ∀ u ∈ vs, ∃ S, UnitIn w S u.1 u.2 ∧ ∀ k, S k → k < E
def unitsD (vs : List UnitV) : List (List FunD) := vs.map fun u => u.1.map Prod.fst
theorem UnitsOwn.step {w w' : World} {B E : Nat} {v : Value} {vs : List UnitV} (h : UnitsOwn w B E v vs) (ho : w'.ownsRow B 23 1 v vs.length (vs.map Prod.snd)) (ha : ∀ k, k < E → IsFI w k → w'.heap[k]? = w.heap[k]?) : UnitsOwn w' B E v vs :=
  ⟨ho, fun u hu => by obtain ⟨S, h1, h2⟩ := h.2 u hu; exact ⟨S, h1.step (fun k hk => ha k (h2 k hk) (h1.1 k hk)), h2⟩⟩
theorem rd_notFI {w : World} {R p : Nat} (h : RdAt w R p) : ¬ IsFI w R := fun hf => by
  obtain ⟨a, len, cap, hh, _⟩ := h
  rcases hf.ne hh with e | e <;> exact absurd e (by decide)
theorem UnitsOwn.turns {w w' : World} {R p B E : Nat} {v : Value} {vs : List UnitV} (h : UnitsOwn w B E v vs) (ht : Turns R w w') (hR : R < B) (hr : RdAt w R p) : UnitsOwn w' B E v vs :=
  h.step (own_turns h.1 ht hR) (fun k _ hf => ht.block k hf.lt (fun e => rd_notFI hr (by rw [← e]; exact hf)))
theorem UnitsOwn.below {w w' : World} {B E : Nat} {v : Value} {vs : List UnitV} (h : UnitsOwn w B E v vs) (hb : Below w.heap.size w w') : UnitsOwn w' B E v vs :=
  h.step (World.ownsRow.kept h.1 (row := none) ⟨hb.os, hb.tape, hb.output, hb.size, fun k hk _ => hb.block k hk⟩ (by cases hv : v.ownBlock <;> simp)) (fun k _ hf => hb.block k hf.lt)
theorem UnitsOwn.wide {w : World} {B C E F : Nat} {v : Value} {vs : List UnitV} (h : UnitsOwn w B E v vs) (hb : C ≤ B) (hE : E ≤ F) : UnitsOwn w C F v vs :=
  ⟨own_base h.1 hb, fun u hu => by obtain ⟨S, h1, h2⟩ := h.2 u hu; exact ⟨S, h1, fun k hk => Nat.lt_of_lt_of_le (h2 k hk) hE⟩⟩
theorem UnitsOwn.all {w : World} {B E : Nat} {v : Value} {vs : List UnitV} (h : UnitsOwn w B E v vs) : UnitsOwn w B w.heap.size v vs :=
  ⟨h.1, fun u hu => by obtain ⟨S, h1, h2⟩ := h.2 u hu; exact ⟨S, h1, fun k hk => (h1.1 k hk).lt⟩⟩
theorem UnitsOwn.row {w : World} {B E : Nat} {v : Value} {vs : List UnitV} (h : UnitsOwn w B E v vs) : ∃ a cap, v = .slice a (unitsD vs).length cap ∧ (unitsD vs).length ≤ cap ∧ cap ≤ maxLen ∧ UnitRow w a (unitsD vs) := by
  obtain ⟨⟨_, ⟨rfl, h0⟩ | ⟨g, cap, cur, rfl, hB, hg, hn, hm, hs, ht⟩⟩, h2⟩ := h
  · have : vs = [] := List.length_eq_zero_iff.1 h0
    subst this
    exact ⟨none, 0, rfl, Nat.le_refl _, Nat.zero_le _, .inl rfl⟩
  · refine ⟨_, cap, by simp [unitsD], by simpa [unitsD] using hn, hm, .inr ⟨g, 0, rfl, fun i hi => ?_⟩⟩
    have hi' : i < vs.length := by simpa [unitsD] using hi
    obtain ⟨S, h3, _⟩ := h2 vs[i] (List.getElem_mem _)
    obtain ⟨ai, ci, e, k1, k2, k3⟩ := h3.row
    have hc : w.cell? ⟨g, 0 + i, none⟩ = some vs[i].2 := by
      rw [cell_of_block hg]
      have e : (cur.toList.take (vs.length * 1))[i]? = some vs[i].2 := by rw [ht]; simp [hi']
      rw [List.getElem?_take_of_lt (by omega)] at e
      simpa using e
    simp only [unitsD, List.getElem_map]
    exact ⟨ai, ci, by rw [hc, e], k1, k2, k3⟩
theorem infoUnitP : (Tryz.prog.info? 23).map (fun i => (i.zero, i.size, i.bytes)) = some (some (.slice none 0 0), 1, 24) := by kernel_rfl
theorem units_made (w : World) (E : Nat) : UnitsOwn (w.alloc (.cells #[] 23)) w.heap.size E (.slice (some ⟨w.heap.size, 0, none⟩) 0 0) [] :=
  ⟨⟨by simp, .inr ⟨_, _, _, rfl, Nat.le_refl _, new_block w _, Nat.le_refl _, Nat.zero_le _, rfl, rfl⟩⟩, fun u hu => by cases hu⟩
theorem own_notFI {w : World} {B g : Nat} {e : TypeId} {z n : Nat} {v : Value} {xs : List Value} (h : w.ownsRow B e z v n xs) (he : e ≠ 28 ∧ e ≠ 105) (hg : v.ownBlock = some g) : ¬ IsFI w g := fun hf => by
  obtain ⟨_, ⟨rfl, _⟩ | ⟨g', cap, cur, rfl, _, hb, _⟩⟩ := h
  · cases hg
  · cases hg
    rcases hf.ne hb with e1 | e1
    · exact he.1 e1
    · exact he.2 e1
/-- One more unit behind the others. -/
theorem units_app {w1 w2 : World} {B E : Nat} {v v' : Value} {vs : List UnitV} {u : UnitV} {S : Nat → Prop} {blk : Obj} (h : UnitsOwn w1 B E v vs) (hu : UnitIn w1 S u.1 u.2)
    (ho : w2.ownsRow B 23 1 v' (vs.length + 1) (vs.map Prod.snd ++ [u.2])) (hgr : (w1.alloc blk).grownBy w2 v.ownBlock) : UnitsOwn w2 B w2.heap.size v' (vs ++ [u]) := by
  have key : ∀ k, IsFI w1 k → w2.heap[k]? = w1.heap[k]? := fun k hf => by
    rw [hgr.block k (by have := hf.lt; simp; omega) (fun e => own_notFI h.1 (by decide) e.symm hf)]
    exact (below_alloc1 w1 blk).block k hf.lt
  refine ⟨by simpa using ho, fun x hx => ?_⟩
  rcases List.mem_append.1 hx with hx | hx
  · obtain ⟨T, h1, h2⟩ := h.2 x hx
    have h3 := h1.step (fun k hk => key k (h1.1 k hk))
    exact ⟨T, h3, fun k hk => (h3.1 k hk).lt⟩
  · rw [List.mem_singleton.1 hx]
    have h3 := hu.step (fun k hk => key k (hu.1 k hk))
    exact ⟨S, h3, fun k hk => (h3.1 k hk).lt⟩
theorem unit_one {w : World} {S : Nat → Prop} {xs : List (FunD × Value)} {v : Value} (h : UnitIn w S xs v) : ∀ u ∈ [v], u.oneCell' = true := by
  intro u hu
  rw [List.mem_singleton.1 hu]
  obtain ⟨_, _, ai, ci, e, _⟩ := h
  rw [e]; rfl
theorem grown_turns {R : Nat} {w w1 w2 : World} {v : Value} {B : Nat} {blk : Obj} (hT : Turns R w w1) (hgr : (w1.alloc blk).grownBy w2 v.ownBlock) (hB : ∀ g, v.ownBlock = some g → w.heap.size ≤ g) : Turns R w w2 := turns_grown (hT.alloc blk) hgr hB

theorem own_ne {w : World} {B B' : Nat} {e e' : TypeId} {z z' n n' : Nat} {v v' : Value} {xs xs' : List Value} (h : w.ownsRow B e z v n xs) (h' : w.ownsRow B' e' z' v' n' xs') (he : e ≠ e') : v.ownBlock = none ∨ v.ownBlock ≠ v'.ownBlock := by
  obtain ⟨_, ⟨rfl, _⟩ | ⟨g, cap, cur, rfl, _, hb, _⟩⟩ := h
  · exact .inl rfl
  · refine .inr fun e => ?_
    obtain ⟨_, ⟨rfl, _⟩ | ⟨g', cap', cur', rfl, _, hb', _⟩⟩ := h'
    · cases e
    · cases e
      rw [hb] at hb'
      simp at hb'
      exact he hb'.2
/-- One unit of a slice of units, as it is read. -/
theorem UnitsOwn.at {w : World} {B E i : Nat} {v : Value} {vs : List UnitV} (h : UnitsOwn w B E v vs) (hi : i < vs.length) : ∃ g c ai ci S, v = .slice (some ⟨g, 0, none⟩) vs.length c ∧ w.cell? ⟨g, i, none⟩ = some (.slice ai vs[i].1.length ci) ∧ vs[i].1.length ≤ ci ∧ ci ≤ maxLen ∧ (∀ x ∈ vs[i].1, FunIn w S x) ∧ (∀ k, S k → IsFI w k) ∧ (vs[i].1 = [] ∨ ∃ b off, ai = some ⟨b, off, none⟩ ∧ ∀ k (hk : k < vs[i].1.length), w.cell? ⟨b, off + k * 3, none⟩ = some (.string vs[i].1[k].1.nm) ∧ w.cell? ⟨b, off + k * 3 + 1, none⟩ = some (.bool vs[i].1[k].1.wk) ∧ w.cell? ⟨b, off + k * 3 + 2, none⟩ = some vs[i].1[k].2) := by
  obtain ⟨⟨_, ⟨rfl, h0⟩ | ⟨g, cap, cur, rfl, hB, hg, hn, hm, hs, ht⟩⟩, h2⟩ := h
  · omega
  · obtain ⟨S, ⟨h3, h4, ai, ci, e, k1, k2, k3⟩, _⟩ := h2 vs[i] (List.getElem_mem _)
    refine ⟨g, cap, ai, ci, S, rfl, ?_, k1, k2, h4, h3, k3.imp id fun ⟨b, off, e, _, hc⟩ => ⟨b, off, e, hc⟩⟩
    rw [← e, cell_of_block hg]
    have e : (cur.toList.take (vs.length * 1))[i]? = some vs[i].2 := by rw [ht]; simp [hi]
    rw [List.getElem?_take_of_lt (by omega)] at e
    simpa using e
/-- A row of functions of one's own, with bodies in S. -/
theorem unitIn_row {w : World} {B : Nat} {S : Nat → Prop} {v : Value} {ys : List (FunD × Value)} (h : w.ownsRow B 28 3 v ys.length (ys.flatMap encF)) (hF : ∀ y ∈ ys, FunIn w S y) (hS : ∀ k, S k → IsFI w k) : UnitIn w (fun k => S k ∨ v.ownBlock = some k) ys v := by
  obtain ⟨_, ⟨rfl, h0⟩ | ⟨g, cap, cur, rfl, hB, hg, hn, hm, hs, ht⟩⟩ := h
  · have : ys = [] := List.length_eq_zero_iff.1 h0
    subst this
    exact ⟨fun k hk => hk.elim (hS k) (fun e => by cases e), (fun x hx => by cases hx), none, 0, rfl, Nat.le_refl _, Nat.zero_le _, .inl rfl⟩
  · refine ⟨fun k hk => hk.elim (hS k) (fun e => by cases e; exact ⟨cur, .inl hg⟩), fun x hx => (hF x hx).mono (fun k hk => .inl hk), _, cap, rfl, hn, hm, .inr ⟨g, 0, rfl, .inr rfl, fun i hi => ?_⟩⟩
    obtain ⟨h0, h1, h2⟩ := flatF_at ys i hi
    have t : ∀ j v, j < ys.length * 3 → (ys.flatMap encF)[j]? = some v → w.cell? ⟨g, 0 + j, none⟩ = some v := fun j v hj e => by
      rw [cell_of_block hg]
      rw [← ht, List.getElem?_take_of_lt hj] at e
      simpa using e
    exact ⟨t _ _ (by omega) h0, by have := t _ _ (show i * 3 + 1 < _ by omega) h1; rwa [← Nat.add_assoc] at this, by have := t _ _ (show i * 3 + 2 < _ by omega) h2; rwa [← Nat.add_assoc] at this⟩
theorem UnitsOwn.grown {w w' : World} {B E : Nat} {v : Value} {vs : List UnitV} {row : Option Nat} (h : UnitsOwn w B E v vs) (hg : w.grownBy w' row) (hv : v.ownBlock = none ∨ v.ownBlock ≠ row) (hr : ∀ k, row = some k → E ≤ k ∨ ¬ IsFI w k) : UnitsOwn w' B E v vs :=
  h.step (h.1.kept hg hv) (fun k hk hf => hg.block k hf.lt (fun e => (hr k e.symm).elim (fun h => by omega) (fun h => h hf)))
theorem UnitsOwn.alloc {w : World} {B E : Nat} {v : Value} {vs : List UnitV} (h : UnitsOwn w B E v vs) (o : Obj) : UnitsOwn (w.alloc o) B E v vs := h.below (below_alloc1 _ _)
theorem own_form {w : World} {B : Nat} {e : TypeId} {z n : Nat} {v : Value} {xs : List Value} (h : w.ownsRow B e z v n xs) : ∃ a c, v = .slice a n c := by
  obtain ⟨_, ⟨rfl, rfl⟩ | ⟨g, cap, cur, rfl, _⟩⟩ := h
  · exact ⟨_, _, rfl⟩
  · exact ⟨_, _, rfl⟩
theorem len_snoc {vs : List UnitV} {u : UnitV} {n : Nat} (h : ∀ x ∈ vs, x.1.length ≤ n) (hu : u.1.length ≤ n) : ∀ x ∈ vs ++ [u], x.1.length ≤ n := fun x hx => (List.mem_append.1 hx).elim (h x) (fun e => by rw [List.mem_singleton.1 e]; exact hu)
set_option maxHeartbeats 4000000 in
theorem units_draw (w : World) (R p m : Nat) (h : RdAt w R p) (hp : p ≤ 4294960000) (hm : m ≤ 8) :
    Calls Tryz.prog 96 #[.pointer (some ⟨R, 0, none⟩), .int .i64 (m : Int)] w fun e w' => ∃ (v : Value) (vs : List UnitV) (p' : Nat), e = .returned v ∧ UnitsOwn w' w.heap.size w'.heap.size v vs ∧ vs.length ≤ m ∧ (∀ u ∈ vs, u.1.length ≤ 3) ∧ p' ≤ p + 1 + m * 100 ∧ RdAt w' R p' ∧ Turns R w w' := by
  have hlt := rd_lt h
  have H := hide (rd_alloc h (.cells #[] 23))
  clear h
  obtain ⟨i0, hi, hz0, hz1, hz2⟩ := info_parts infoUnitP
  go_enter Tryz.func96, Tryz.ntmps96
  go_wp2_with fail
  refine (pick_any _ R p _ (unhide H) (by omega) (by omega)).mono ?_
  rintro e w1 ⟨v1, hv1, rfl, hr1, ht1⟩
  have HR1 := hide hr1
  have HT1 := hide ((Turns.of_below (R := R) (below_alloc1 w (.cells #[] 23))).trans ht1)
  have HU1 := hide (((units_made w 0).turns ht1 hlt (unhide H)).all)
  clear hr1 ht1 H
  go_wp2_with fail
  go_loopw [5, 6] (fun v i w' => ∃ (j p' : Nat) (vs : List UnitV), i = .int .i64 j ∧ vs.length + j ≤ m ∧ p' + 100 * j ≤ p + 1 + m * 100 ∧ Hid (∀ u ∈ vs, u.1.length ≤ 3) ∧ UnitsOwn w' w.heap.size w'.heap.size v vs ∧ RdAt w' R p' ∧ Turns R w w') (fun _ i _ => (intOf i).toNat)
  case atStart => exact ⟨v1, p + 1, [], rfl, by simp; omega, by omega, (fun x hx => by cases hx), unhide HU1, unhide HR1, unhide HT1⟩
  case round =>
    obtain ⟨j, p', vs, rfl, hul, hpj, HL, hU, hR, hT⟩ := hrel
    have HU := hide hU
    have HR := hide hR
    have HT := hide hT
    clear hU hR hT HU1 HR1 HT1
    by_cases hj : 0 < j
    · have hj' : (0 : Int) < (j : Int) := by omega
      go_wp2_with fail
      refine (unit_draw _ R p' (unhide HR) (by omega)).mono ?_
      rintro e w2 ⟨v2, us2, p2, rfl, hO2, htm, hu1, hu3, hp2, hr2, ht2⟩
      have HN := hide (unitIn_own hO2 htm hu1)
      obtain ⟨_, _, ai2, ci2, hv2, _⟩ := unhide HN
      subst hv2
      have HU2 := hide ((unhide HU).turns ht2 hlt (unhide HR))
      have HR2 := hide hr2
      have HT2 := hide ((unhide HT).trans ht2)
      have hsz := (unhide HT).size
      clear hO2 htm hr2 ht2 HU HR HT
      have hs2 := (unhide HT2).size
      go_wp2_with (first
        | (at_builtin; refine wpList_append_own_at _ rfl _ _ 140 rfl w.heap.size 23 i0 (.slice none 0 0) 1 24 Tryz.underlying140 hi hz0 hz1 hz2 rfl (by decide) _ vs.length (vs.map Prod.snd) rfl (World.ownsRow.alloc (unhide HU2).1 _) ⟨w2.heap.size, 0, none⟩ 1 1 [.slice ai2 us2.length ci2] rfl rfl (cell_one_new _ _ _) (unit_one (unhide HN)) (by unfold maxLen; omega) (by omega) (by simp; omega) ?_; intro v' w3 hown3 hgrow3 _ hat3)
        | go_in)
      have HU3 := hide (units_app (u := (us2, .slice ai2 us2.length ci2)) (unhide HU2) (unhide HN) hown3 hgrow3)
      have HT3 := hide (grown_turns (B := 0) (unhide HT2) hgrow3 (fun g hg => (World.ownsRow.lt (unhide HU2).1 g hg).1))
      have HR3 := hide (rd_grown (rd_alloc (unhide HR2) _) hgrow3 (fun k hk => by have := (World.ownsRow.lt (unhide HU2).1 k hk).1; omega))
      exact ⟨⟨j - 1, p2, vs ++ [(us2, .slice ai2 us2.length ci2)], by go_num, by simp; omega, by omega, len_snoc (unhide HL) hu3, unhide HU3, unhide HR3, unhide HT3⟩, by simp [intOf]; omega⟩
    · have hj0 : j = 0 := by omega
      subst hj0
      go_wp2_with fail
      go_ret
      exact ⟨_, vs, p', rfl, unhide HU, by omega, unhide HL, by omega, unhide HR, unhide HT⟩
end Go.Proofs.YthbbmookhcalkaaGreatDoor.DrawUU
