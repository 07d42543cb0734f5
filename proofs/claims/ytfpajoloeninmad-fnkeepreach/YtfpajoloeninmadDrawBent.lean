/- The contracts of the specification's draws of units that may be bent. -/
import Derived.Test.YtfpajoloeninmadDrawUnitB
import Derived.Deep.AppendLies
import Derived.Deep.RegionLaw
import Derived.OwnWalk
import Derived.Maps.AppendAt
namespace Go.Proofs.Ytfpajoloeninmad.DrawBent
open Go.ChangeShapes Go.WideShapes Go.ChangeAt Go.RowKit Go.Joins
open Go.Proofs.Ytfpajoloeninmad.Base Go.Proofs.Ytfpajoloeninmad.InsA Go.Proofs.Ytfpajoloeninmad.Funs Go.Proofs.Ytfpajoloeninmad.Open Go.Proofs.Ytfpajoloeninmad.FunS Go.Proofs.Ytfpajoloeninmad.Keep Go.Proofs.Ytfpajoloeninmad.UnitS Go.Proofs.Ytfpajoloeninmad.Rd Go.Proofs.Ytfpajoloeninmad.DrawIns Go.Proofs.Ytfpajoloeninmad.DrawFun Go.Proofs.Ytfpajoloeninmad.DrawUnit Go.Proofs.Ytfpajoloeninmad.DrawUnitB
set_option linter.unusedVariables false
set_option maxRecDepth 100000


/-- A slice of functions of the call's own, cell by cell. -/
def UnitSome (w : World) (B : Nat) (v : Value) (us : List (FunD × Value)) : Prop :=
  ∃ g cap C, v = .slice (some ⟨g, 0, none⟩) us.length cap ∧ B ≤ g ∧ w.heap[g]? = some (.cells C 33 (0, 0)) ∧ us.length ≤ cap ∧ cap ≤ maxLen ∧ (∀ i (h : i < us.length), C[i * 3]? = some (.string us[i].1.nm) ∧ C[i * 3 + 1]? = some (.bool us[i].1.wk) ∧ C[i * 3 + 2]? = some us[i].2) ∧ ∀ u ∈ us, InsOwn w B u.2 u.1.body
theorem some_of {w : World} {B : Nat} {v : Value} {us : List (FunD × Value)} (h : w.ownsRow B 33 3 v us.length (us.flatMap encF)) (hI : ∀ u ∈ us, InsOwn w B u.2 u.1.body) (hn : 0 < us.length) : UnitSome w B v us := by
  obtain ⟨_, ⟨rfl, h0⟩ | ⟨g, cap, cur, rfl, hB, hg, hn, hm, hsz, htk⟩⟩ := h
  · omega
  · refine ⟨g, cap, cur, rfl, hB, hg, hn, hm, fun i hi => ?_, hI⟩
    have t : ∀ j v, j < us.length * 3 → (us.flatMap encF)[j]? = some v → cur[j]? = some v := fun j v hj e => by
      rw [← htk, List.getElem?_take_of_lt hj] at e
      simpa using e
    obtain ⟨h0, h1, h2⟩ := flatF_at us i hi
    exact ⟨t _ _ (by omega) h0, t _ _ (by omega) h1, t _ _ (by omega) h2⟩
/-- Names and texts are short. -/
def mild (us : List (FunD × Value)) : Prop := ∀ u ∈ us, u.1.nm.size ≤ 10 ∧ short u.1.body
theorem mild_of {us : List (FunD × Value)} (h : tame us) : mild us := fun u hu => ⟨(h u hu).1, (h u hu).2.2⟩
theorem UnitSome.row {w : World} {B : Nat} {v : Value} {us : List (FunD × Value)} (h : UnitSome w B v us) (ht : mild us) : ∃ a cap, v = .slice a (us.map Prod.fst).length cap ∧ (us.map Prod.fst).length ≤ cap ∧ cap ≤ maxLen ∧ FunRow w a (us.map Prod.fst) := by
  obtain ⟨g, cap, C, rfl, hB, hg, hn, hm, hc, hI⟩ := h
  refine ⟨_, cap, by simp, by simpa using hn, hm, .inr ⟨g, 0, rfl, fun i hi => ?_⟩⟩
  have hi' : i < us.length := by simpa using hi
  obtain ⟨h0, h1, h2⟩ := hc i hi'
  obtain ⟨t1, t3⟩ := ht us[i] (List.getElem_mem _)
  obtain ⟨a', c', e', k1, k2, k3⟩ := (hI us[i] (List.getElem_mem _)).row (tame_max t3)
  rw [e'] at h2
  simp only [Nat.zero_add, List.getElem_map]
  exact ⟨a', c', by rw [cell_of_block hg]; exact h0, by rw [cell_of_block hg]; exact h1, by rw [cell_of_block hg]; exact h2, by unfold maxLen; omega, k1, k2, k3⟩
theorem UnitSome.turns {w w' : World} {B R : Nat} {v : Value} {us : List (FunD × Value)} (h : UnitSome w B v us) (ht : Turns R w w') (hR : R < B) : UnitSome w' B v us := by
  obtain ⟨g, cap, C, hv, hB, hg, hn, hm, hc, hI⟩ := h
  exact ⟨g, cap, C, hv, hB, box_turns hg ht (by omega), hn, hm, hc, fun u hu => own_turns (hI u hu) ht hR⟩
theorem UnitSome.below {w w' : World} {B : Nat} {v : Value} {us : List (FunD × Value)} (h : UnitSome w B v us) (hb : Below w.heap.size w w') (hB : 0 < B) : UnitSome w' B v us := h.turns (Turns.of_below (R := 0) hb) hB
/-- What the draw of a unit that may be bent leaves behind. -/
def BentLeft (R p k : Nat) (w : World) (e : Ending) (w' : World) : Prop :=
  ∃ (v : Value) (us : List (FunD × Value)) (p' : Nat), e = .returned v ∧ UnitSome w' w.heap.size v us ∧ mild us ∧ 1 ≤ us.length ∧ us.length ≤ 4 ∧ p' ≤ p + k ∧ RdAt w' R p' ∧ Turns R w w'

theorem ins_far {w : World} {B g : Nat} {x : Value} {ys : List InsD} {C : Array Value} {o : Nat} {u : Value} (h : InsOwn w B x ys) (hg : w.heap[g]? = some (.cells C 33 (0, 0))) : InsOwn (w.setCell ⟨g, o, none⟩ u) B x ys :=
  own_set' h (own_box_ne h hg (by decide))
theorem mild_set {us : List (FunD × Value)} {k : Nat} {u : FunD × Value} (h : mild us) (hu : u.1.nm.size ≤ 10 ∧ short u.1.body) : mild (us.set k u) := by
  intro y hy
  rcases List.mem_or_eq_of_mem_set hy with hy | rfl
  · exact h y hy
  · exact hu
theorem mild_snoc {us : List (FunD × Value)} {u : FunD × Value} (h : mild us) (hu : u ∈ us) : mild (us ++ [u]) := by
  intro y hy
  rcases List.mem_append.1 hy with hy | hy
  · exact h y hy
  · rw [List.mem_singleton.1 hy]; exact h u hu
/-- A name is set. -/
theorem set_name {w w4 : World} {R p k : Nat} {v : Value} {us : List (FunD × Value)} {g cap : Nat} {C : Array Value} {x : ByteArray} (hlt : R < w.heap.size) (hk : k < us.length) (hv : v = .slice (some ⟨g, 0, none⟩) us.length cap) (hB : w.heap.size ≤ g) (hg : w4.heap[g]? = some (.cells C 33 (0, 0))) (hn : us.length ≤ cap) (hm : cap ≤ maxLen)
    (hc : ∀ i (h : i < us.length), C[i * 3]? = some (.string us[i].1.nm) ∧ C[i * 3 + 1]? = some (.bool us[i].1.wk) ∧ C[i * 3 + 2]? = some us[i].2) (hI : ∀ u ∈ us, InsOwn w4 w.heap.size u.2 u.1.body) (HR : RdAt w4 R p) (HT : Turns R w w4) :
    UnitSome (w4.setCell ⟨g, k * 3, none⟩ (.string x)) w.heap.size v (us.set k (⟨x, us[k].1.wk, us[k].1.body⟩, us[k].2)) ∧ RdAt (w4.setCell ⟨g, k * 3, none⟩ (.string x)) R p ∧ Turns R w (w4.setCell ⟨g, k * 3, none⟩ (.string x)) := by
  refine ⟨⟨g, cap, _, by rw [hv]; simp, hB, block_setCell hg _, by simpa using hn, hm, fun i hi => ?_, fun u hu => ?_⟩, rd_set HR (by omega) _, HT.set hB _⟩
  · have hi' : i < us.length := by simpa using hi
    obtain ⟨h0, h1, h2⟩ := hc i hi'
    have hsz := (Array.getElem?_eq_some_iff.1 h0).1
    by_cases e : i = k
    · subst e
      refine ⟨?_, ?_, ?_⟩
      · rw [Array.getElem?_setIfInBounds_self_of_lt hsz]; simp
      · rw [Array.getElem?_setIfInBounds_ne (by omega), h1]; simp
      · rw [Array.getElem?_setIfInBounds_ne (by omega), h2]; simp
    · have e' : k ≠ i := fun h => e h.symm
      refine ⟨?_, ?_, ?_⟩
      · rw [Array.getElem?_setIfInBounds_ne (by omega), h0]; simp [List.getElem_set_ne e']
      · rw [Array.getElem?_setIfInBounds_ne (by omega), h1]; simp [List.getElem_set_ne e']
      · rw [Array.getElem?_setIfInBounds_ne (by omega), h2]; simp [List.getElem_set_ne e']
  · rcases List.mem_or_eq_of_mem_set hu with hu | rfl
    · exact ins_far (hI u hu) hg
    · exact ins_far (hI us[k] (List.getElem_mem _)) hg
/-- A body is set. -/
theorem set_body {w w4 : World} {R p k : Nat} {v : Value} {us : List (FunD × Value)} {g cap : Nat} {C : Array Value} {bv : Value} {ys : List InsD} (hlt : R < w.heap.size) (hk : k < us.length) (hv : v = .slice (some ⟨g, 0, none⟩) us.length cap) (hB : w.heap.size ≤ g) (hg : w4.heap[g]? = some (.cells C 33 (0, 0))) (hn : us.length ≤ cap) (hm : cap ≤ maxLen)
    (hc : ∀ i (h : i < us.length), C[i * 3]? = some (.string us[i].1.nm) ∧ C[i * 3 + 1]? = some (.bool us[i].1.wk) ∧ C[i * 3 + 2]? = some us[i].2) (hI : ∀ i (h : i < us.length), i ≠ k → InsOwn w4 w.heap.size us[i].2 us[i].1.body) (hb : InsOwn w4 w.heap.size bv ys) (HR : RdAt w4 R p) (HT : Turns R w w4) :
    UnitSome (w4.setCell ⟨g, k * 3 + 2, none⟩ bv) w.heap.size v (us.set k (⟨us[k].1.nm, us[k].1.wk, ys⟩, bv)) ∧ RdAt (w4.setCell ⟨g, k * 3 + 2, none⟩ bv) R p ∧ Turns R w (w4.setCell ⟨g, k * 3 + 2, none⟩ bv) := by
  refine ⟨⟨g, cap, _, by rw [hv]; simp, hB, block_setCell hg _, by simpa using hn, hm, fun i hi => ?_, fun u hu => ?_⟩, rd_set HR (by omega) _, HT.set hB _⟩
  · have hi' : i < us.length := by simpa using hi
    obtain ⟨h0, h1, h2⟩ := hc i hi'
    have hsz := (Array.getElem?_eq_some_iff.1 h2).1
    by_cases e : i = k
    · subst e
      refine ⟨?_, ?_, ?_⟩
      · rw [Array.getElem?_setIfInBounds_ne (by omega), h0]; simp
      · rw [Array.getElem?_setIfInBounds_ne (by omega), h1]; simp
      · rw [Array.getElem?_setIfInBounds_self_of_lt hsz]; simp
    · have e' : k ≠ i := fun h => e h.symm
      refine ⟨?_, ?_, ?_⟩
      · rw [Array.getElem?_setIfInBounds_ne (by omega), h0]; simp [List.getElem_set_ne e']
      · rw [Array.getElem?_setIfInBounds_ne (by omega), h1]; simp [List.getElem_set_ne e']
      · rw [Array.getElem?_setIfInBounds_ne (by omega), h2]; simp [List.getElem_set_ne e']
  · obtain ⟨i, hi, rfl⟩ := List.getElem_of_mem hu
    have hi' : i < us.length := by simpa using hi
    by_cases e : k = i
    · subst e; rw [List.getElem_set_self]; exact ins_far hb hg
    · rw [List.getElem_set_ne e]; exact ins_far (hI i hi' (fun h => e h.symm)) hg

/-- One more of those that are there. -/
theorem unit_more {w w4 w5 : World} {R p : Nat} {v v' : Value} {us : List (FunD × Value)} {u : FunD × Value} {blk : Obj} (hlt : R < w.heap.size) (HU : UnitOwn w4 w.heap.size v us) (hu : u ∈ us) (HR : RdAt w4 R p) (HT : Turns R w w4)
    (h5 : w5.ownsRow w.heap.size 33 3 v' (us.length + 1) (us.flatMap encF ++ encF u)) (hg : (w4.alloc blk).grownBy w5 v.ownBlock) :
    UnitSome w5 w.heap.size v' (us ++ [u]) ∧ RdAt w5 R p ∧ Turns R w w5 := by
  have hrow : ∀ k, v.ownBlock = some k → w.heap.size ≤ k := fun k hk => (HU.1.lt k hk).1
  have hne : ∀ {B : Nat} {x : Value} {ys : List InsD}, InsOwn w4 B x ys → x.ownBlock = none ∨ x.ownBlock ≠ v.ownBlock := fun {B x ys} hx => by
    obtain ⟨_, ⟨rfl, _⟩ | ⟨g, cap, cur, rfl, _, hgx, _⟩⟩ := hx
    · exact .inl rfl
    · exact .inr fun e => own_box_ne HU.1 (G := g) (C := cur) (t := 69) hgx (by decide) e.symm
  refine ⟨some_of (by simpa [List.flatMap_append] using h5) ?_ (by simp), rd_grown (rd_alloc HR blk) hg (fun k hk => by have := hrow k hk; omega), turns_grown (HT.alloc blk) hg hrow⟩
  intro x hx
  have hx' : x ∈ us := by
    rcases List.mem_append.1 hx with hx | hx
    · exact hx
    · rw [List.mem_singleton.1 hx]; exact hu
  exact own_grown (World.ownsRow.alloc (HU.2.1 x hx') blk) hg (hne (HU.2.1 x hx'))
theorem turns_undrew {R : Nat} {w w' : World} (h : Turns R w.drew w') : Turns R w w' := ⟨h.os, h.tape, h.output, h.size, h.block⟩
theorem rd_drew {w : World} {R p : Nat} (h : RdAt w R p) : RdAt w.drew R p := h
theorem keepT {w w' : World} {R g o : Nat} {v : Value} (h : w.cell? ⟨g, o, none⟩ = some v ∧ w.frozen? ⟨g, o, none⟩ = false) (ht : Turns R w w') (hg : g ≠ R) : w'.cell? ⟨g, o, none⟩ = some v ∧ w'.frozen? ⟨g, o, none⟩ = false :=
  ⟨ht.cell hg h.1, (ht.frozen hg (World.block_lt_of_cell? w _ h.1)).trans h.2⟩
theorem keepA {w : World} {g o : Nat} {v : Value} {ob : Obj} (h : w.cell? ⟨g, o, none⟩ = some v ∧ w.frozen? ⟨g, o, none⟩ = false) : (w.alloc ob).cell? ⟨g, o, none⟩ = some v ∧ (w.alloc ob).frozen? ⟨g, o, none⟩ = false :=
  have hb := below_alloc1 w ob
  have hl := World.block_lt_of_cell? w _ h.1
  ⟨(hb.cell (p := ⟨g, o, none⟩) hl).trans h.1, (hb.frozen (p := ⟨g, o, none⟩) hl).trans h.2⟩
theorem keepD {w : World} {g o : Nat} {v : Value} (h : w.cell? ⟨g, o, none⟩ = some v ∧ w.frozen? ⟨g, o, none⟩ = false) : w.drew.cell? ⟨g, o, none⟩ = some v ∧ w.drew.frozen? ⟨g, o, none⟩ = false := h
theorem keepG {w w' : World} {g o : Nat} {v : Value} {row : Option Nat} (h : w.cell? ⟨g, o, none⟩ = some v ∧ w.frozen? ⟨g, o, none⟩ = false) (hg : w.grownBy w' row) (hne : row ≠ some g) : w'.cell? ⟨g, o, none⟩ = some v ∧ w'.frozen? ⟨g, o, none⟩ = false :=
  have hl := World.block_lt_of_cell? w _ h.1
  ⟨(hg.cell_far ⟨g, o, none⟩ hl (fun e => hne e.symm)).trans h.1, (hg.frozen_far ⟨g, o, none⟩ hl (fun e => hne e.symm)).trans h.2⟩
/-- A body has one instruction more. -/
theorem bent_app {w w4 w5 : World} {R p k g cap : Nat} {us : List (FunD × Value)} {x : InsD} {bv' : Value} {blk : Obj} (hlt : R < w.heap.size) (hk : k < us.length) (HU : UnitOwn w4 w.heap.size (.slice (some ⟨g, 0, none⟩) us.length cap) us) (HR : RdAt w4 R p) (HT : Turns R w w4)
    (h5 : w5.ownsRow w.heap.size 69 3 bv' (us[k].1.body.length + 1) (us[k].1.body.flatMap encI ++ encI x)) (hgr : (w4.alloc blk).grownBy w5 us[k].2.ownBlock) :
    UnitSome (w5.setCell ⟨g, k * 3 + 2, none⟩ bv') w.heap.size (.slice (some ⟨g, 0, none⟩) us.length cap) (us.set k (⟨us[k].1.nm, us[k].1.wk, us[k].1.body ++ [x]⟩, bv')) ∧ RdAt (w5.setCell ⟨g, k * 3 + 2, none⟩ bv') R p ∧ Turns R w (w5.setCell ⟨g, k * 3 + 2, none⟩ bv') := by
  obtain ⟨g', cap', C, hv, hB, hg, hn, hm, hcc, hI⟩ := some_of HU.1 HU.2.1 (by omega)
  obtain ⟨rfl, rfl⟩ : g = g' ∧ cap = cap' := by simpa using hv
  have hIk := hI us[k] (List.getElem_mem _)
  have hrow : ∀ j, us[k].2.ownBlock = some j → w.heap.size ≤ j := fun j hj => (World.ownsRow.lt hIk j hj).1
  have hne := own_box_ne hIk hg (by decide)
  refine set_body hlt hk rfl hB (box_grown (box_below hg (below_alloc1 w4 blk)) hgr (fun e => hne e.symm)) hn hm hcc (fun i hi hik => ?_) (ins_snoc h5) (rd_grown (rd_alloc HR blk) hgr (fun j hj => by have := hrow j hj; omega)) (turns_grown (HT.alloc blk) hgr hrow)
  refine own_grown (World.ownsRow.alloc (hI us[i] (List.getElem_mem _)) blk) hgr ?_
  by_cases e : us[i].2.ownBlock = none
  · exact .inl e
  · refine .inr fun e2 => ?_
    have hp := List.pairwise_iff_getElem.1 HU.2.2
    rcases Nat.lt_or_gt_of_ne hik with hlt' | hgt
    · rcases hp i k hi hk hlt' with h | h
      · exact e h
      · exact h e2
    · rcases hp k i hk hi hgt with h | h
      · exact e (e2.trans h)
      · exact h e2.symm
def oddNames : List ByteArray := [⟨#[]⟩, ⟨#[65]⟩, ⟨#[109, 97, 105, 110]⟩]
theorem oddNames_short : ∀ x, x ∈ oddNames → x.size ≤ 10 := by
  intro x hx
  simp only [oddNames, List.mem_cons, List.not_mem_nil, or_false] at hx
  rcases hx with rfl | rfl | rfl <;> decide

set_option maxHeartbeats 4000000 in
theorem bentUnit_draw (w : World) (R p : Nat) (h : RdAt w R p) (hp : p ≤ 4294962000) :
    Calls Try.prog 53 #[.pointer (some ⟨R, 0, none⟩)] w (BentLeft R p 110 w) := by
  have hlt := rd_lt h
  have H := hide h
  clear h
  obtain ⟨i0, hi, hz0, hz1, hz2⟩ := info_parts infoFunP
  obtain ⟨i1, hi1, hy0, hy1, hy2⟩ := info_parts infoInsP
  go_enter Try.func53, Try.ntmps53
  go_wp2_with fail
  refine (unit_draw _ R p (unhide H) (by omega)).mono ?_
  rintro e w1 ⟨v, us, p1, rfl, hU, htm, hu1, hu3, hp1, hr1, ht1⟩
  have HU1 := hide hU
  have HM := hide htm
  have HR1 := hide hr1
  have HT1 := hide ht1
  obtain ⟨g, cap, C1, hv, hB, _, hn, hm, _, _⟩ := some_of hU.1 hU.2.1 (by omega)
  clear hU htm hr1 ht1 H
  subst hv
  have hul : (us.length : Int) ≤ 3 := by omega
  go_wp2_with fail
  refine (pick_any _ R p1 (us.length : Int) (unhide HR1) (by omega) (by omega)).mono ?_
  rintro e w2 ⟨k, hk, rfl, hr2, ht2⟩
  have HU2 := hide ((unhide HU1).turns ht2 hlt)
  have HR2 := hide hr2
  have HT2 := hide ((unhide HT1).trans ht2)
  clear HU1 HR1 HT1 hr2 ht2
  go_wp2_with fail
  refine (pick_any _ R (p1 + 1) 40 (unhide HR2) (by omega) (by omega)).mono ?_
  rintro e w3 ⟨c, hc, rfl, hr3, ht3⟩
  have HU3 := hide ((unhide HU2).turns ht3 hlt)
  have HR3 := hide hr3
  have HT3 := hide ((unhide HT2).trans ht3)
  clear HU2 HR2 HT2 hr3 ht3
  have hk' : k < us.length := by omega
  by_cases c0 : c = 0
  · subst c0
    go_wp2_with fail
    have HL : Hid (∀ i, i < 3 → ∃ x, x ∈ oddNames ∧ (w3.alloc (.cells (oddNames.map Value.string).toArray 9)).cell? ⟨w3.heap.size, i, none⟩ = some (.string x)) := strs_lit w3 oddNames _ _ rfl
    refine (of_any _ R (p1 + 1 + 1) _ 3 (· ∈ oddNames) (rd_alloc (unhide HR3) _) (by omega) (by omega) (by omega) (by have := rd_lt (unhide HR3); omega) (unhide HL)).mono ?_
    rintro e w4 ⟨x, hx, rfl, hr4, ht4⟩
    have hxs := oddNames_short x hx
    have HU4 := hide (((unhide HU3).below (below_alloc1 w3 (.cells (oddNames.map Value.string).toArray 9)) (by omega)).turns ht4 hlt)
    obtain ⟨g', cap', C, hv, hB', hg, hn', hm', hcc, hI⟩ := some_of (unhide HU4).1 (unhide HU4).2.1 (by omega)
    obtain ⟨rfl, rfl⟩ : g = g' ∧ cap = cap' := by simpa using hv
    have HSET := hide (set_name (x := x) hlt hk' rfl hB hg hn hm hcc hI hr4 (((unhide HT3).alloc (.cells (oddNames.map Value.string).toArray 9)).trans ht4))
    have d0 : w4.cell? ⟨g, k * 3, none⟩ = some (.string us[k].1.nm) := by rw [cell_of_block hg]; exact (hcc k hk').1
    have z0 := unfrozen_of_block hg (k * 3)
    clear hx hr4 ht4 HL HU4 hv hg hcc hI HU3 HR3 HT3
    go_wp2_with fail
    go_ret
    exact ⟨_, _, p1 + 1 + 1 + 1, rfl, (unhide HSET).1, mild_set (mild_of (unhide HM)) ⟨hxs, (unhide HM us[k] (List.getElem_mem _)).2.2⟩, by simp; omega, by simp; omega, by omega, (unhide HSET).2⟩
  obtain ⟨g', cap', C, hv, hB', hg, hn', hm', hcc, hI⟩ := some_of (unhide HU3).1 (unhide HU3).2.1 (by omega)
  obtain ⟨rfl, rfl⟩ : g = g' ∧ cap = cap' := by simpa using hv
  have c0' : ¬ (c : Int) = 0 := by omega
  clear hv hB' hn' hm'
  by_cases c1 : c = 1
  · subst c1
    have HSET := hide (set_body (bv := .slice none 0 0) (ys := []) hlt hk' rfl hB hg hn hm hcc (fun i h _ => hI _ (List.getElem_mem _)) (World.ownsRow_nil _ _ _ _) (unhide HR3) (unhide HT3))
    have d2 : w3.cell? ⟨g, k * 3 + 2, none⟩ = some us[k].2 := by rw [cell_of_block hg]; exact (hcc k hk').2.2
    have z2 := unfrozen_of_block hg (k * 3 + 2)
    clear hg hcc hI HU3 HR3 HT3
    go_wp2_with fail
    go_ret
    exact ⟨_, _, p1 + 1 + 1, rfl, (unhide HSET).1, mild_set (mild_of (unhide HM)) ⟨(unhide HM us[k] (List.getElem_mem _)).1, fun x hx => by cases hx⟩, by simp; omega, by simp; omega, by omega, (unhide HSET).2⟩
  have c1' : ¬ (c : Int) = 1 := by omega
  by_cases c3 : c = 3
  · subst c3
    have HCC := hide hcc
    have HI := hide hI
    have HG := hide hg
    have hsz3 := (unhide HT3).size
    have d0 : w3.cell? ⟨g, k * 3, none⟩ = some (.string us[k].1.nm) := by rw [cell_of_block hg]; exact (hcc k hk').1
    have d1 : w3.cell? ⟨g, k * 3 + 1, none⟩ = some (.bool us[k].1.wk) := by rw [cell_of_block hg]; exact (hcc k hk').2.1
    have d2 : w3.cell? ⟨g, k * 3 + 2, none⟩ = some us[k].2 := by rw [cell_of_block hg]; exact (hcc k hk').2.2
    obtain ⟨ba, bn, bc, hbv⟩ := own_slice (hI us[k] (List.getElem_mem _))
    have hum : us[k] ∈ us := List.getElem_mem _
    have HUM := hide hum
    clear hg hcc hI hum
    have HNW := hide (fun_new w3 us[k])
    rw [hbv] at d2
    have HBV := hide hbv
    clear hbv
    go_wp2_with (first
      | (at_builtin; refine wpList_append_own _ rfl _ _ 26 rfl w.heap.size 33 i0 (.agg #[.string ⟨#[]⟩, .bool false, .slice none 0 0]) 3 48 Try.underlying26 hi hz0 hz1 hz2 rfl (by decide) _ us.length (us.flatMap encF) rfl (World.ownsRow.alloc (unhide HU3).1 _) ⟨w3.heap.size, 0, none⟩ 1 1 (encF us[k]) rfl rfl (by rw [← unhide HBV]; exact unhide HNW) (by simp [encF, unhide HBV, Value.oneCell']) (by unfold maxLen; omega) (by omega) (by simp; omega) ?_; intro v' w5 hown5 hgrow5 _)
      | go_in)
    go_ret
    have hall := unit_more (u := us[k]) hlt (unhide HU3) (unhide HUM) (unhide HR3) (unhide HT3) hown5 hgrow5
    exact ⟨_, us ++ [us[k]], p1 + 1 + 1, rfl, hall.1, mild_snoc (mild_of (unhide HM)) (unhide HUM), by simp, by simp; omega, by omega, hall.2⟩
  have c3' : ¬ (c : Int) = 3 := by omega
  by_cases c2 : c = 2
  · subst c2
    have hum : us[k] ∈ us := List.getElem_mem _
    have d2 : w3.cell? ⟨g, k * 3 + 2, none⟩ = some us[k].2 := by rw [cell_of_block hg]; exact (hcc k hk').2.2
    have z2 := unfrozen_of_block hg (k * 3 + 2)
    obtain ⟨ba, bn, bc, hbv⟩ := own_slice (hI us[k] hum)
    have hneb : us[k].2.ownBlock ≠ some g := own_box_ne (hI us[k] hum) hg (by decide)
    obtain ⟨t1, t2, t3⟩ := unhide HM us[k] hum
    have hsz3 := (unhide HT3).size
    rw [hbv] at d2 hneb
    have hS0 := And.intro d2 z2
    have HBV := hide hbv
    have HT' := hide t3
    clear hg hcc hI hum d2 z2 hbv t3
    have hgR : g ≠ R := by omega
    go_wp2_with fail
    obtain ⟨e30, e31⟩ := hS0
    go_region_law
      (first
        | (refine step_append_lies _ rfl _ _ 31 rfl w.heap.size 69 i1 (.agg #[.int .i64 0, .int .i64 0, .string ⟨#[]⟩]) 3 32 Try.underlying31 hi1 hy0 hy1 hy2 rfl (by decide) _ us[k].1.body.length (us[k].1.body.flatMap encI) rfl (by rw [← unhide HBV]; exact World.ownsRow.alloc (hU4.2.1 us[k] (List.getElem_mem _)) _) ⟨w4.heap.size, 0, none⟩ 1 1 (encI ⟨o, n, s⟩) rfl rfl (by exact ins_new w4 ⟨o, n, s⟩) (by simp [encI, Value.oneCell']) (by omega) (by unfold maxLen; omega) (by omega) (by have := hT4.size; simp; omega) _ rfl ?_; intro g5 cap5 w5 hown5 hgrow5 hat5 hlt5; obtain ⟨e50, e51⟩ := keepG (w := w4.alloc (.cells #[.int .i64 o, .int .i64 n, .string s] 69)) ⟨e42 _, e43 _⟩ (by exact hgrow5) hneb)
        | (go_simp; go_at_call 77; refine (bent_any _ R (p1 + 1 + 1) (rd_drew (unhide HR3)) (by omega)).mono ?_; rintro e w4 ⟨o, n, s, p4, rfl, hs4, hp4, hr4, ht4⟩; have hd4 := turns_undrew ht4; have hU4 := (unhide HU3).turns hd4 hlt; have hT4 := (unhide HT3).trans hd4; have hk4 := keepT ⟨e30, e31⟩ hd4 hgR; obtain ⟨e40, e41⟩ := hk4; have e42 := fun ob => (keepA (ob := ob) ⟨e40, e41⟩).1; have e43 := fun ob => (keepA (ob := ob) ⟨e40, e41⟩).2))
    all_goals
      have HALL := hide (bent_app (x := ⟨o, n, s⟩) hlt hk' hU4 hr4 hT4 hown5 (by rw [unhide HBV]; exact hgrow5))
      clear hU4 hr4 hT4 hown5 hgrow5 hd4 ht4 e40 e41 e42 e43 e50 e51 hat5
      go_wp2_with fail
      go_ret
      exact ⟨_, _, p4, rfl, (unhide HALL).1, mild_set (mild_of (unhide HM)) ⟨t1, short_snoc (unhide HT') hs4⟩, by simp; omega, by simp; omega, by omega, (unhide HALL).2⟩
  have c2' : ¬ (c : Int) = 2 := by omega
  have HS := hide (some_of (unhide HU3).1 (unhide HU3).2.1 (by omega))
  clear hg hcc hI
  go_wp2_with fail
  go_ret
  exact ⟨_, us, p1 + 1 + 1, rfl, unhide HS, mild_of (unhide HM), hu1, by omega, by omega, unhide HR3, unhide HT3⟩
end Go.Proofs.Ytfpajoloeninmad.DrawBent
