/- The contracts of the specification's draws of units that may be bent. -/
import Derived.Test.YthbbmookhcalkaaGreatDoorPkf7649f55
import Derived.Deep.AppendLies
import Derived.Deep.RegionLaw
import Derived.OwnWalk
import Derived.Maps.AppendAt
namespace Go.Proofs.YthbbmookhcalkaaGreatDoor.DrawBent
open Go.ChangeShapes Go.WideShapes Go.ChangeAt Go.RowKit Go.Joins
open Go.Proofs.YthbbmookhcalkaaGreatDoor.Base Go.Proofs.YthbbmookhcalkaaGreatDoor.InsA Go.Proofs.YthbbmookhcalkaaGreatDoor.Funs Go.Proofs.YthbbmookhcalkaaGreatDoor.Open Go.Proofs.YthbbmookhcalkaaGreatDoor.FunS Go.Proofs.YthbbmookhcalkaaGreatDoor.Keep Go.Proofs.YthbbmookhcalkaaGreatDoor.UnitS Go.Proofs.YthbbmookhcalkaaGreatDoor.Rd Go.Proofs.YthbbmookhcalkaaGreatDoor.DrawIns Go.Proofs.YthbbmookhcalkaaGreatDoor.DrawFun Go.Proofs.YthbbmookhcalkaaGreatDoor.DrawUnit Go.Proofs.YthbbmookhcalkaaGreatDoor.DrawUnitB
set_option linter.unusedVariables false
set_option maxRecDepth 100000


/-- A slice of functions of the call's own, cell by cell. -/
def UnitSome (w : World) (B : Nat) (v : Value) (us : List (FunD × Value)) : Prop :=
  ∃ g cap C, v = .slice (some ⟨g, 0, none⟩) us.length cap ∧ B ≤ g ∧ w.heap[g]? = some (.cells C 28 (0, 0)) ∧ us.length ≤ cap ∧ cap ≤ maxLen ∧ (∀ i (h : i < us.length), C[i * 3]? = some (.string us[i].1.nm) ∧ C[i * 3 + 1]? = some (.bool us[i].1.wk) ∧ C[i * 3 + 2]? = some us[i].2) ∧ ∀ u ∈ us, InsOwn w B u.2 u.1.body
theorem some_of {w : World} {B : Nat} {v : Value} {us : List (FunD × Value)} (h : w.ownsRow B 28 3 v us.length (us.flatMap encF)) (hI : ∀ u ∈ us, InsOwn w B u.2 u.1.body) (hn : 0 < us.length) : UnitSome w B v us := by
  obtain ⟨_, ⟨rfl, h0⟩ | ⟨g, cap, cur, rfl, hB, hg, hn, hm, hsz, htk⟩⟩ := h
  · omega
  · refine ⟨g, cap, cur, rfl, hB, hg, hn, hm, fun i hi => ?_, hI⟩
    have t : ∀ j v, j < us.length * 3 → (us.flatMap encF)[j]? = some v → cur[j]? = some v := fun j v hj e => by
      rw [← htk, List.getElem?_take_of_lt hj] at e
      simpa using e
    obtain ⟨h0, h1, h2⟩ := flatF_at us i hi
    exact ⟨t _ _ (by omega) h0, t _ _ (by omega) h1, t _ _ (by omega) h2⟩
/-- Names and texts are short. -/
def mild (us : List (FunD × Value)) : Prop := ∀ u ∈ us, okN u.1.nm ∧ short u.1.body
theorem mild_of {us : List (FunD × Value)} (h : tame us) : mild us := fun u hu => ⟨(h u hu).1, (h u hu).2.2⟩
theorem UnitSome.row {w : World} {B : Nat} {v : Value} {us : List (FunD × Value)} (h : UnitSome w B v us) (ht : mild us) : ∃ a cap, v = .slice a (us.map Prod.fst).length cap ∧ (us.map Prod.fst).length ≤ cap ∧ cap ≤ maxLen ∧ FunRow w a (us.map Prod.fst) := by
  obtain ⟨g, cap, C, rfl, hB, hg, hn, hm, hc, hI⟩ := h
  refine ⟨_, cap, by simp, by simpa using hn, hm, .inr ⟨g, 0, rfl, fun i hi => ?_⟩⟩
  have hi' : i < us.length := by simpa using hi
  obtain ⟨h0, h1, h2⟩ := hc i hi'
  obtain ⟨t1, t3⟩ := ht us[i] (List.getElem_mem _)
  obtain ⟨a', c', e', k1, k2, k3⟩ := (hI us[i] (List.getElem_mem _)).row (tame_max t3)
  rw [e'] at h2
  simp only [Nat.zero_add, List.getElem_map]
  exact ⟨a', c', by rw [cell_of_block hg]; exact h0, by rw [cell_of_block hg]; exact h1, by rw [cell_of_block hg]; exact h2, t1.max, k1, k2, k3⟩
theorem UnitSome.turns {w w' : World} {B R : Nat} {v : Value} {us : List (FunD × Value)} (h : UnitSome w B v us) (ht : Turns R w w') (hR : R < B) : UnitSome w' B v us := by
  obtain ⟨g, cap, C, hv, hB, hg, hn, hm, hc, hI⟩ := h
  exact ⟨g, cap, C, hv, hB, box_turns hg ht (by omega), hn, hm, hc, fun u hu => own_turns (hI u hu) ht hR⟩
theorem UnitSome.below {w w' : World} {B : Nat} {v : Value} {us : List (FunD × Value)} (h : UnitSome w B v us) (hb : Below w.heap.size w w') (hB : 0 < B) : UnitSome w' B v us := h.turns (Turns.of_below (R := 0) hb) hB
/-- What the draw of a unit that may be bent leaves behind. -/
def BentLeft (R p k : Nat) (w : World) (e : Ending) (w' : World) : Prop :=
  ∃ (v : Value) (us : List (FunD × Value)) (p' : Nat), e = .returned v ∧ UnitSome w' w.heap.size v us ∧ mild us ∧ 1 ≤ us.length ∧ us.length ≤ 4 ∧ p' ≤ p + k ∧ RdAt w' R p' ∧ Turns R w w'

theorem ins_far {w : World} {B g : Nat} {x : Value} {ys : List InsD} {C : Array Value} {o : Nat} {u : Value} (h : InsOwn w B x ys) (hg : w.heap[g]? = some (.cells C 28 (0, 0))) : InsOwn (w.setCell ⟨g, o, none⟩ u) B x ys :=
  own_set' h (own_box_ne h hg (by decide))
theorem mild_set {us : List (FunD × Value)} {k : Nat} {u : FunD × Value} (h : mild us) (hu : okN u.1.nm ∧ short u.1.body) : mild (us.set k u) := by
  intro y hy
  rcases List.mem_or_eq_of_mem_set hy with hy | rfl
  · exact h y hy
  · exact hu
theorem mild_snoc {us : List (FunD × Value)} {u : FunD × Value} (h : mild us) (hu : u ∈ us) : mild (us ++ [u]) := by
  intro y hy
  rcases List.mem_append.1 hy with hy | hy
  · exact h y hy
  · rw [List.mem_singleton.1 hy]; exact h u hu
/-- A name is set. -/
theorem set_name {w w4 : World} {R p k : Nat} {v : Value} {us : List (FunD × Value)} {g cap : Nat} {C : Array Value} {x : ByteArray} (hlt : R < w.heap.size) (hk : k < us.length) (hv : v = .slice (some ⟨g, 0, none⟩) us.length cap) (hB : w.heap.size ≤ g) (hg : w4.heap[g]? = some (.cells C 28 (0, 0))) (hn : us.length ≤ cap) (hm : cap ≤ maxLen)
    (hc : ∀ i (h : i < us.length), C[i * 3]? = some (.string us[i].1.nm) ∧ C[i * 3 + 1]? = some (.bool us[i].1.wk) ∧ C[i * 3 + 2]? = some us[i].2) (hI : ∀ u ∈ us, InsOwn w4 w.heap.size u.2 u.1.body) (HR : RdAt w4 R p) (HT : Turns R w w4) :
    UnitSome (w4.setCell ⟨g, k * 3, none⟩ (.string x)) w.heap.size v (us.set k (⟨x, us[k].1.wk, us[k].1.body⟩, us[k].2)) ∧ RdAt (w4.setCell ⟨g, k * 3, none⟩ (.string x)) R p ∧ Turns R w (w4.setCell ⟨g, k * 3, none⟩ (.string x)) := by
  refine ⟨⟨g, cap, _, by rw [hv]; simp, hB, block_setCell hg _, by simpa using hn, hm, fun i hi => ?_, fun u hu => ?_⟩, rd_set HR (by omega) _, HT.set hB _⟩
  · have hi' : i < us.length := by simpa using hi
    obtain ⟨h0, h1, h2⟩ := hc i hi'
    have hsz := (Array.getElem?_eq_some_iff.1 h0).1
    by_cases e : i = k
    · subst e
      refine ⟨?_, ?_, ?_⟩
      · rw [Array.getElem?_setIfInBounds_self_of_lt hsz]; simp
      · rw [Array.getElem?_setIfInBounds_ne (by omega), h1]; simp
      · rw [Array.getElem?_setIfInBounds_ne (by omega), h2]; simp
    · have e' : k ≠ i := fun h => e h.symm
      refine ⟨?_, ?_, ?_⟩
      · rw [Array.getElem?_setIfInBounds_ne (by omega), h0]; simp [List.getElem_set_ne e']
      · rw [Array.getElem?_setIfInBounds_ne (by omega), h1]; simp [List.getElem_set_ne e']
      · rw [Array.getElem?_setIfInBounds_ne (by omega), h2]; simp [List.getElem_set_ne e']
  · rcases List.mem_or_eq_of_mem_set hu with hu | rfl
    · exact ins_far (hI u hu) hg
    · exact ins_far (hI us[k] (List.getElem_mem _)) hg
/-- A body is set. -/
theorem set_body {w w4 : World} {R p k : Nat} {v : Value} {us : List (FunD × Value)} {g cap : Nat} {C : Array Value} {bv : Value} {ys : List InsD} (hlt : R < w.heap.size) (hk : k < us.length) (hv : v = .slice (some ⟨g, 0, none⟩) us.length cap) (hB : w.heap.size ≤ g) (hg : w4.heap[g]? = some (.cells C 28 (0, 0))) (hn : us.length ≤ cap) (hm : cap ≤ maxLen)
    (hc : ∀ i (h : i < us.length), C[i * 3]? = some (.string us[i].1.nm) ∧ C[i * 3 + 1]? = some (.bool us[i].1.wk) ∧ C[i * 3 + 2]? = some us[i].2) (hI : ∀ i (h : i < us.length), i ≠ k → InsOwn w4 w.heap.size us[i].2 us[i].1.body) (hb : InsOwn w4 w.heap.size bv ys) (HR : RdAt w4 R p) (HT : Turns R w w4) :
    UnitSome (w4.setCell ⟨g, k * 3 + 2, none⟩ bv) w.heap.size v (us.set k (⟨us[k].1.nm, us[k].1.wk, ys⟩, bv)) ∧ RdAt (w4.setCell ⟨g, k * 3 + 2, none⟩ bv) R p ∧ Turns R w (w4.setCell ⟨g, k * 3 + 2, none⟩ bv) := by
  refine ⟨⟨g, cap, _, by rw [hv]; simp, hB, block_setCell hg _, by simpa using hn, hm, fun i hi => ?_, fun u hu => ?_⟩, rd_set HR (by omega) _, HT.set hB _⟩
  · have hi' : i < us.length := by simpa using hi
    obtain ⟨h0, h1, h2⟩ := hc i hi'
    have hsz := (Array.getElem?_eq_some_iff.1 h2).1
    by_cases e : i = k
    · subst e
      refine ⟨?_, ?_, ?_⟩
      · rw [Array.getElem?_setIfInBounds_ne (by omega), h0]; simp
      · rw [Array.getElem?_setIfInBounds_ne (by omega), h1]; simp
      · rw [Array.getElem?_setIfInBounds_self_of_lt hsz]; simp
    · have e' : k ≠ i := fun h => e h.symm
      refine ⟨?_, ?_, ?_⟩
      · rw [Array.getElem?_setIfInBounds_ne (by omega), h0]; simp [List.getElem_set_ne e']
      · rw [Array.getElem?_setIfInBounds_ne (by omega), h1]; simp [List.getElem_set_ne e']
      · rw [Array.getElem?_setIfInBounds_ne (by omega), h2]; simp [List.getElem_set_ne e']
  · obtain ⟨i, hi, rfl⟩ := List.getElem_of_mem hu
    have hi' : i < us.length := by simpa using hi
    by_cases e : k = i
    · subst e; rw [List.getElem_set_self]; exact ins_far hb hg
    · rw [List.getElem_set_ne e]; exact ins_far (hI i hi' (fun h => e h.symm)) hg

/-- One more of those that are there. -/
theorem unit_more {w w4 w5 : World} {R p : Nat} {v v' : Value} {us : List (FunD × Value)} {u : FunD × Value} {blk : Obj} (hlt : R < w.heap.size) (HU : UnitOwn w4 w.heap.size v us) (hu : u ∈ us) (HR : RdAt w4 R p) (HT : Turns R w w4)
    (h5 : w5.ownsRow w.heap.size 28 3 v' (us.length + 1) (us.flatMap encF ++ encF u)) (hg : (w4.alloc blk).grownBy w5 v.ownBlock) :
    UnitSome w5 w.heap.size v' (us ++ [u]) ∧ RdAt w5 R p ∧ Turns R w w5 := by
  have hrow : ∀ k, v.ownBlock = some k → w.heap.size ≤ k := fun k hk => (HU.1.lt k hk).1
  have hne : ∀ {B : Nat} {x : Value} {ys : List InsD}, InsOwn w4 B x ys → x.ownBlock = none ∨ x.ownBlock ≠ v.ownBlock := fun {B x ys} hx => by
    obtain ⟨_, ⟨rfl, _⟩ | ⟨g, cap, cur, rfl, _, hgx, _⟩⟩ := hx
    · exact .inl rfl
    · exact .inr fun e => own_box_ne HU.1 (G := g) (C := cur) (t := 105) hgx (by decide) e.symm
  refine ⟨some_of (by simpa [List.flatMap_append] using h5) ?_ (by simp), rd_grown (rd_alloc HR blk) hg (fun k hk => by have := hrow k hk; omega), turns_grown (HT.alloc blk) hg hrow⟩
  intro x hx
  have hx' : x ∈ us := by
    rcases List.mem_append.1 hx with hx | hx
    · exact hx
    · rw [List.mem_singleton.1 hx]; exact hu
  exact own_grown (World.ownsRow.alloc (HU.2.1 x hx') blk) hg (hne (HU.2.1 x hx'))
theorem turns_undrew {R : Nat} {w w' : World} (h : Turns R w.drew w') : Turns R w w' := ⟨h.os, h.tape, h.output, h.size, h.block⟩
theorem rd_drew {w : World} {R p : Nat} (h : RdAt w R p) : RdAt w.drew R p := h
theorem keepT {w w' : World} {R g o : Nat} {v : Value} (h : w.cell? ⟨g, o, none⟩ = some v ∧ w.frozen? ⟨g, o, none⟩ = false) (ht : Turns R w w') (hg : g ≠ R) : w'.cell? ⟨g, o, none⟩ = some v ∧ w'.frozen? ⟨g, o, none⟩ = false :=
  ⟨ht.cell hg h.1, (ht.frozen hg (World.block_lt_of_cell? w _ h.1)).trans h.2⟩
theorem keepA {w : World} {g o : Nat} {v : Value} {ob : Obj} (h : w.cell? ⟨g, o, none⟩ = some v ∧ w.frozen? ⟨g, o, none⟩ = false) : (w.alloc ob).cell? ⟨g, o, none⟩ = some v ∧ (w.alloc ob).frozen? ⟨g, o, none⟩ = false :=
  have hb := below_alloc1 w ob
  have hl := World.block_lt_of_cell? w _ h.1
  ⟨(hb.cell (p := ⟨g, o, none⟩) hl).trans h.1, (hb.frozen (p := ⟨g, o, none⟩) hl).trans h.2⟩
theorem keepD {w : World} {g o : Nat} {v : Value} (h : w.cell? ⟨g, o, none⟩ = some v ∧ w.frozen? ⟨g, o, none⟩ = false) : w.drew.cell? ⟨g, o, none⟩ = some v ∧ w.drew.frozen? ⟨g, o, none⟩ = false := h
theorem keepG {w w' : World} {g o : Nat} {v : Value} {row : Option Nat} (h : w.cell? ⟨g, o, none⟩ = some v ∧ w.frozen? ⟨g, o, none⟩ = false) (hg : w.grownBy w' row) (hne : row ≠ some g) : w'.cell? ⟨g, o, none⟩ = some v ∧ w'.frozen? ⟨g, o, none⟩ = false :=
  have hl := World.block_lt_of_cell? w _ h.1
  ⟨(hg.cell_far ⟨g, o, none⟩ hl (fun e => hne e.symm)).trans h.1, (hg.frozen_far ⟨g, o, none⟩ hl (fun e => hne e.symm)).trans h.2⟩
/-- A body has one instruction more. -/
theorem bent_app {w w4 w5 : World} {R p k g cap : Nat} {us : List (FunD × Value)} {x : InsD} {bv' : Value} {blk : Obj} (hlt : R < w.heap.size) (hk : k < us.length) (HU : UnitOwn w4 w.heap.size (.slice (some ⟨g, 0, none⟩) us.length cap) us) (HR : RdAt w4 R p) (HT : Turns R w w4)
    (h5 : w5.ownsRow w.heap.size 105 3 bv' (us[k].1.body.length + 1) (us[k].1.body.flatMap encI ++ encI x)) (hgr : (w4.alloc blk).grownBy w5 us[k].2.ownBlock) :
    UnitSome (w5.setCell ⟨g, k * 3 + 2, none⟩ bv') w.heap.size (.slice (some ⟨g, 0, none⟩) us.length cap) (us.set k (⟨us[k].1.nm, us[k].1.wk, us[k].1.body ++ [x]⟩, bv')) ∧ RdAt (w5.setCell ⟨g, k * 3 + 2, none⟩ bv') R p ∧ Turns R w (w5.setCell ⟨g, k * 3 + 2, none⟩ bv') := by
  obtain ⟨g', cap', C, hv, hB, hg, hn, hm, hcc, hI⟩ := some_of HU.1 HU.2.1 (by omega)
  obtain ⟨rfl, rfl⟩ : g = g' ∧ cap = cap' := by simpa using hv
  have hIk := hI us[k] (List.getElem_mem _)
  have hrow : ∀ j, us[k].2.ownBlock = some j → w.heap.size ≤ j := fun j hj => (World.ownsRow.lt hIk j hj).1
  have hne := own_box_ne hIk hg (by decide)
  refine set_body hlt hk rfl hB (box_grown (box_below hg (below_alloc1 w4 blk)) hgr (fun e => hne e.symm)) hn hm hcc (fun i hi hik => ?_) (ins_snoc h5) (rd_grown (rd_alloc HR blk) hgr (fun j hj => by have := hrow j hj; omega)) (turns_grown (HT.alloc blk) hgr hrow)
  refine own_grown (World.ownsRow.alloc (hI us[i] (List.getElem_mem _)) blk) hgr ?_
  by_cases e : us[i].2.ownBlock = none
  · exact .inl e
  · refine .inr fun e2 => ?_
    have hp := List.pairwise_iff_getElem.1 HU.2.2
    rcases Nat.lt_or_gt_of_ne hik with hlt' | hgt
    · rcases hp i k hi hk hlt' with h | h
      · exact e h
      · exact h e2
    · rcases hp k i hk hi hgt with h | h
      · exact e (e2.trans h)
      · exact h e2.symm
def oddNames : List ByteArray := [⟨#[]⟩, ⟨#[65]⟩, ⟨#[109, 97, 105, 110]⟩]
theorem oddNames_short : ∀ x, x ∈ oddNames → okN x := by
  intro x hx
  simp only [oddNames, List.mem_cons, List.not_mem_nil, or_false] at hx
  rcases hx with rfl | rfl | rfl <;> decide

end Go.Proofs.YthbbmookhcalkaaGreatDoor.DrawBent
