/- The contracts of the specification's draws of units. -/
import Derived.Test.YthbbmookhcalkaaGreatDoorDrawFun
import Derived.OwnWalk
import Derived.Maps.AppendAt
namespace Go.Proofs.YthbbmookhcalkaaGreatDoor.DrawUnit
open Go.ChangeShapes Go.WideShapes Go.ChangeAt Go.RowKit Go.Joins
open Go.Proofs.YthbbmookhcalkaaGreatDoor.Base Go.Proofs.YthbbmookhcalkaaGreatDoor.InsA Go.Proofs.YthbbmookhcalkaaGreatDoor.Funs Go.Proofs.YthbbmookhcalkaaGreatDoor.Open Go.Proofs.YthbbmookhcalkaaGreatDoor.FunS Go.Proofs.YthbbmookhcalkaaGreatDoor.Keep Go.Proofs.YthbbmookhcalkaaGreatDoor.UnitS Go.Proofs.YthbbmookhcalkaaGreatDoor.Rd Go.Proofs.YthbbmookhcalkaaGreatDoor.DrawIns Go.Proofs.YthbbmookhcalkaaGreatDoor.DrawFun
set_option linter.unusedVariables false
set_option maxRecDepth 100000


def encF (u : FunD × Value) : List Value := [.string u.1.nm, .bool u.1.wk, u.2]
/-- A slice of functions of the call's own, each body in a block of its own. -/
def UnitOwn (w : World) (B : Nat) (v : Value) (us : List (FunD × Value)) : Prop :=
  w.ownsRow B 28 3 v us.length (us.flatMap encF) ∧ (∀ u ∈ us, InsOwn w B u.2 u.1.body) ∧ us.Pairwise (fun u u' => u.2.ownBlock = none ∨ u.2.ownBlock ≠ u'.2.ownBlock)
/-- How large what is drawn is. -/
def tame (us : List (FunD × Value)) : Prop := ∀ u ∈ us, okN u.1.nm ∧ u.1.body.length ≤ 7 ∧ short u.1.body
theorem flatF_at (us : List (FunD × Value)) : ∀ (i : Nat) (h : i < us.length), (us.flatMap encF)[i * 3]? = some (.string us[i].1.nm) ∧ (us.flatMap encF)[i * 3 + 1]? = some (.bool us[i].1.wk) ∧ (us.flatMap encF)[i * 3 + 2]? = some us[i].2 := by
  induction us with
  | nil => intro i h; simp at h
  | cons x r ih =>
    intro i h
    rw [List.flatMap_cons]
    match i with
    | 0 => simp [encF]
    | i + 1 =>
      have hl : (encF x).length = 3 := rfl
      obtain ⟨h0, h1, h2⟩ := ih i (by simpa using h)
      refine ⟨?_, ?_, ?_⟩
      · rw [List.getElem?_append_right (by omega), hl, show (i + 1) * 3 - 3 = i * 3 by omega]; simpa using h0
      · rw [List.getElem?_append_right (by omega), hl, show (i + 1) * 3 + 1 - 3 = i * 3 + 1 by omega]; simpa using h1
      · rw [List.getElem?_append_right (by omega), hl, show (i + 1) * 3 + 2 - 3 = i * 3 + 2 by omega]; simpa using h2
theorem tame_max {xs : List InsD} (h : short xs) : ∀ x ∈ xs, x.s.size ≤ maxLen := fun x hx => (h x hx).max
/-- Its reading. -/
theorem UnitOwn.row {w : World} {B : Nat} {v : Value} {us : List (FunD × Value)} (h : UnitOwn w B v us) (ht : tame us) : ∃ a cap, v = .slice a (us.map Prod.fst).length cap ∧ (us.map Prod.fst).length ≤ cap ∧ cap ≤ maxLen ∧ FunRow w a (us.map Prod.fst) := by
  obtain ⟨⟨_, ⟨rfl, h0⟩ | ⟨g, cap, cur, rfl, hB, hg, hn, hm, hsz, htk⟩⟩, hI, _⟩ := h
  · exact ⟨none, 0, by simp [h0], by simp [h0], Nat.zero_le _, .inl (by simpa using h0)⟩
  · refine ⟨_, cap, by simp, by simpa using hn, hm, .inr ⟨g, 0, rfl, fun i hi => ?_⟩⟩
    have hi' : i < us.length := by simpa using hi
    have t : ∀ j v, j < us.length * 3 → (us.flatMap encF)[j]? = some v → w.cell? ⟨g, j, none⟩ = some v := fun j v hj e => by
      rw [cell_of_block hg]
      rw [← htk, List.getElem?_take_of_lt hj] at e
      simpa using e
    obtain ⟨h0, h1, h2⟩ := flatF_at us i hi'
    obtain ⟨t1, t2, t3⟩ := ht us[i] (List.getElem_mem _)
    obtain ⟨a', c', e', k1, k2, k3⟩ := (hI us[i] (List.getElem_mem _)).row (tame_max t3)
    rw [e'] at h2
    simp only [Nat.zero_add, List.getElem_map]
    exact ⟨a', c', t _ _ (by omega) h0, t _ _ (by omega) h1, t _ _ (by omega) h2, t1.max, k1, k2, k3⟩
theorem UnitOwn.turns {w w' : World} {B R : Nat} {v : Value} {us : List (FunD × Value)} (h : UnitOwn w B v us) (ht : Turns R w w') (hR : R < B) : UnitOwn w' B v us :=
  ⟨own_turns h.1 ht hR, fun u hu => own_turns (h.2.1 u hu) ht hR, h.2.2⟩
theorem UnitOwn.below {w w' : World} {B : Nat} {v : Value} {us : List (FunD × Value)} (h : UnitOwn w B v us) (hb : Below w.heap.size w w') (hB : 0 < B) : UnitOwn w' B v us := h.turns (Turns.of_below (R := 0) hb) hB
theorem own_base {w : World} {B C : Nat} {e : TypeId} {z n : Nat} {v : Value} {xs : List Value} (h : w.ownsRow B e z v n xs) (hb : C ≤ B) : w.ownsRow C e z v n xs := by
  obtain ⟨h0, h1 | ⟨g, cap, cur, hv, hB, hr⟩⟩ := h
  · exact ⟨h0, .inl h1⟩
  · exact ⟨h0, .inr ⟨g, cap, cur, hv, by omega, hr⟩⟩
theorem infoFunP : (Tryz.prog.info? 28).map (fun i => (i.zero, i.size, i.bytes)) = some (some (.agg #[.string ⟨#[]⟩, .bool false, .slice none 0 0]), 3, 48) := by kernel_rfl
theorem fun_new (w : World) (u : FunD × Value) : ∀ j x, (encF u)[j]? = some x → (w.alloc (.cells #[.string u.1.nm, .bool u.1.wk, u.2] 28)).cell? ((⟨w.heap.size, 0, none⟩ : Addr).add j) = some x := by
  intro j x hj
  rw [add_plain, cell_of_block (new_block w _)]
  match j, hj with
  | 0, hj => simpa [encF] using hj
  | 1, hj => simpa [encF] using hj
  | 2, hj => simpa [encF] using hj
/-- One function more. -/
theorem unit_app {w w3 w4 w5 : World} {R p : Nat} {v v' : Value} {us : List (FunD × Value)} {u : FunD × Value} {blk : Obj} (hlt : R < w.heap.size) (hw3 : w.heap.size ≤ w3.heap.size) (HU3 : UnitOwn w3 w.heap.size v us) (ht4 : Turns R w3 w4) (hI : InsOwn w4 w3.heap.size u.2 u.1.body) (HR : RdAt w4 R p) (HT : Turns R w w4)
    (h5 : w5.ownsRow w.heap.size 28 3 v' (us.length + 1) (us.flatMap encF ++ encF u)) (hg : (w4.alloc blk).grownBy w5 v.ownBlock) :
    UnitOwn w5 w.heap.size v' (us ++ [u]) ∧ RdAt w5 R p ∧ Turns R w w5 := by
  have HU := HU3.turns ht4 hlt
  have hrow : ∀ k, v.ownBlock = some k → w.heap.size ≤ k := fun k hk => (HU.1.lt k hk).1
  have hne : ∀ {B : Nat} {x : Value} {ys : List InsD}, InsOwn w4 B x ys → x.ownBlock = none ∨ x.ownBlock ≠ v.ownBlock := fun {B x ys} hx => by
    obtain ⟨_, ⟨rfl, _⟩ | ⟨g, cap, cur, rfl, _, hgx, _⟩⟩ := hx
    · exact .inl rfl
    · refine .inr fun e => ?_
      exact own_box_ne HU.1 (G := g) (C := cur) (t := 105) hgx (by decide) e.symm
  refine ⟨⟨by simpa [List.flatMap_append] using h5, ?_, ?_⟩, rd_grown (rd_alloc HR blk) hg (fun k hk => by have := hrow k hk; omega), turns_grown (HT.alloc blk) hg hrow⟩
  · intro x hx
    rcases List.mem_append.1 hx with hx | hx
    · exact own_grown (World.ownsRow.alloc (HU.2.1 x hx) blk) hg (hne (HU.2.1 x hx))
    · rw [List.mem_singleton.1 hx]
      exact own_base (own_grown (World.ownsRow.alloc hI blk) hg (hne hI)) hw3
  · rw [List.pairwise_append]
    refine ⟨HU.2.2, List.pairwise_singleton _ _, fun x hx y hy => ?_⟩
    rw [List.mem_singleton.1 hy]
    by_cases e : x.2.ownBlock = none
    · exact .inl e
    · refine .inr fun e2 => ?_
      obtain ⟨g, hgx⟩ := Option.ne_none_iff_exists'.1 e
      have h1 := (World.ownsRow.lt (HU3.2.1 x hx) g hgx).2
      have h2 := (World.ownsRow.lt hI g (by rw [← e2]; exact hgx)).1
      omega
/-- What a unit's draw leaves behind. -/
def UnitLeft (R p k m : Nat) (w : World) (e : Ending) (w' : World) : Prop :=
  ∃ (v : Value) (us : List (FunD × Value)) (p' : Nat), e = .returned v ∧ UnitOwn w' w.heap.size v us ∧ tame us ∧ 1 ≤ us.length ∧ us.length ≤ m ∧ p' ≤ p + k ∧ RdAt w' R p' ∧ Turns R w w'

end Go.Proofs.YthbbmookhcalkaaGreatDoor.DrawUnit
/- The contracts of the specification's draws of units. -/
namespace Go.Proofs.YthbbmookhcalkaaGreatDoor.DrawUnitB
open Go.ChangeShapes Go.WideShapes Go.ChangeAt Go.RowKit Go.Joins
open Go.Proofs.YthbbmookhcalkaaGreatDoor.Base Go.Proofs.YthbbmookhcalkaaGreatDoor.InsA Go.Proofs.YthbbmookhcalkaaGreatDoor.Funs Go.Proofs.YthbbmookhcalkaaGreatDoor.Open Go.Proofs.YthbbmookhcalkaaGreatDoor.FunS Go.Proofs.YthbbmookhcalkaaGreatDoor.Keep Go.Proofs.YthbbmookhcalkaaGreatDoor.UnitS Go.Proofs.YthbbmookhcalkaaGreatDoor.Rd Go.Proofs.YthbbmookhcalkaaGreatDoor.DrawIns Go.Proofs.YthbbmookhcalkaaGreatDoor.DrawFun Go.Proofs.YthbbmookhcalkaaGreatDoor.DrawUnit
set_option linter.unusedVariables false
set_option maxRecDepth 100000

theorem tame_snoc {us : List (FunD × Value)} {u : FunD × Value} (h : tame us) (h1 : okN u.1.nm) (h2 : u.1.body.length ≤ 7) (h3 : short u.1.body) : tame (us ++ [u]) := by
  intro y hy
  rcases List.mem_append.1 hy with hy | hy
  · exact h y hy
  · rw [List.mem_singleton.1 hy]; exact ⟨h1, h2, h3⟩
set_option maxHeartbeats 4000000 in
theorem unit_draw (w : World) (R p : Nat) (h : RdAt w R p) (hp : p ≤ 4294963000) :
    Calls Tryz.prog 120 #[.pointer (some ⟨R, 0, none⟩)] w (UnitLeft R p 100 3 w) := by
  have hlt := rd_lt h
  have H := hide (rd_alloc h (.cells #[] 28))
  clear h
  obtain ⟨i0, hi, hz0, hz1, hz2⟩ := info_parts infoFunP
  go_enter Tryz.func120, Tryz.ntmps120
  go_wp2_with fail
  refine (pick_any _ R p 3 (unhide H) (by omega) (by omega)).mono ?_
  rintro e w1 ⟨v1, hv1, rfl, hr1, ht1⟩
  have HR1 := hide hr1
  have HT1 := hide ((Turns.of_below (R := R) (below_alloc1 w _)).trans ht1)
  have HU1 : Hid (UnitOwn w1 w.heap.size (.slice (some ⟨w.heap.size, 0, none⟩) 0 0) []) := UnitOwn.turns ⟨⟨by simp, .inr ⟨_, _, _, rfl, Nat.le_refl _, new_block w _, Nat.le_refl _, Nat.zero_le _, rfl, rfl⟩⟩, (fun u hu => by cases hu), List.Pairwise.nil⟩ ht1 hlt
  clear hr1 ht1 H
  go_wp2_with fail
  go_loopw [3, 4] (fun v i w' => ∃ (j p' : Nat) (us : List (FunD × Value)), i = .int .i64 j ∧ us.length + j ≤ 3 ∧ (us = [] → 1 ≤ j) ∧ p' + 32 * j ≤ p + 1 + 96 ∧ tame us ∧ UnitOwn w' w.heap.size v us ∧ RdAt w' R p' ∧ Turns R w w') (fun _ i _ => (intOf i).toNat)
  case atStart => exact ⟨1 + v1, p + 1, [], by go_num, by simp; omega, by omega, by omega, (fun x hx => by cases hx), unhide HU1, unhide HR1, unhide HT1⟩
  case round =>
    obtain ⟨j, p', us, rfl, hul, hu1, hpj, htm, hU, hR, hT⟩ := hrel
    have HU := hide hU
    have HR := hide hR
    have HT := hide hT
    have HM := hide htm
    have H1 := hide hu1
    clear hU hR hT htm hu1
    by_cases hj : 0 < j
    · have hj' : (0 : Int) < (j : Int) := by omega
      go_wp2_with fail
      refine (name_ok _ R p' (unhide HR) (by omega)).mono ?_
      rintro e w2 ⟨nn, hnn, rfl, hr2, ht2⟩
      have HR2 := hide hr2
      have HT2 := hide ((unhide HT).trans ht2)
      have HU2 := hide ((unhide HU).turns ht2 hlt)
      clear hr2 ht2 HR HT HU
      obtain ⟨a, cap, hv, hc1, hc2, hrow⟩ := (unhide HU2).row (unhide HM)
      obtain ⟨fs, hfs⟩ : ∃ fs : List FunD, fs = us.map Prod.fst := ⟨_, rfl⟩
      rw [← hfs] at hv hc1 hrow
      have HW := hide hrow
      have HFL : Hid (fs.length = us.length ∧ (us = [] → fs = [])) := ⟨by rw [hfs]; simp, fun e => by rw [hfs, e]; rfl⟩
      clear hrow hfs
      subst hv
      by_cases hf : findI fs nn < 0
      · go_wp2_with fail
        refine (specFind_any a cap fs nn _ hnn.max hc1 hc2 (unhide HW)).mono ?_
        rintro e w3 ⟨rfl, hb3⟩
        have HR3 := hide (rd_below (unhide HR2) hb3)
        have HT3 := hide ((unhide HT2).trans (Turns.of_below hb3))
        have HU3 := hide ((unhide HU2).below hb3 (by omega))
        have hs3 := (unhide HT3).size
        clear HR2 HT2 HU2 hb3 HW
        generalize findI fs nn = fi at hf ⊢
        go_wp2_with fail
        refine (fun_draw _ R (p' + 1) nn (unhide HR3) (by omega)).mono ?_
        rintro e w4 ⟨wk, bv, xs, p4, rfl, hI, hxl, hsh, hp4, hr4, ht4⟩
        have HI := hide hI
        have HR4 := hide hr4
        have HT4 := hide ((unhide HT3).trans ht4)
        have HD4 := hide ht4
        have hs4 := (unhide HT4).size
        obtain ⟨ba, bn, bc, rfl⟩ := own_slice hI
        have HU4 := hide ((unhide HU3).turns ht4 hlt)
        have HSH := hide hsh
        clear hI hr4 ht4 hsh
        go_wp2_with (first
          | (at_builtin; refine wpList_append_own _ rfl _ _ 23 rfl w.heap.size 28 i0 (.agg #[.string ⟨#[]⟩, .bool false, .slice none 0 0]) 3 48 Tryz.underlying23 hi hz0 hz1 hz2 rfl (by decide) _ us.length (us.flatMap encF) rfl (World.ownsRow.alloc (unhide HU4).1 _) ⟨w4.heap.size, 0, none⟩ 1 1 (encF (⟨nn, wk, xs⟩, .slice ba bn bc)) rfl rfl (fun_new w4 (⟨nn, wk, xs⟩, .slice ba bn bc)) (by simp [encF, Value.oneCell']) (by unfold maxLen; omega) (by omega) (by simp; omega) ?_; intro v' w5 hown5 hgrow5 _)
          | go_in)
        have hall := unit_app (u := (⟨nn, wk, xs⟩, .slice ba bn bc)) hlt hs3 (unhide HU3) (unhide HD4) (unhide HI) (unhide HR4) (unhide HT4) hown5 hgrow5
        exact ⟨⟨j - 1, p4, us ++ [(⟨nn, wk, xs⟩, .slice ba bn bc)], by go_num, by simp; omega, by simp, by omega, tame_snoc (unhide HM) hnn (show xs.length ≤ 7 by omega) (unhide HSH), hall⟩, by simp [intOf]; omega⟩
      · go_wp2_with fail
        refine (specFind_any a cap fs nn _ hnn.max hc1 hc2 (unhide HW)).mono ?_
        rintro e w3 ⟨rfl, hb3⟩
        have HR3 := hide (rd_below (unhide HR2) hb3)
        have HT3 := hide ((unhide HT2).trans (Turns.of_below hb3))
        have HU3 := hide ((unhide HU2).below hb3 (by omega))
        have HN : Hid (us = [] → False) := fun e => by
          have := (unhide HFL).2 e
          rw [this] at hf
          simp [findI] at hf
        clear HR2 HT2 HU2 hb3 HW
        generalize findI fs nn = fi at hf ⊢
        go_wp2_with fail
        exact ⟨⟨j - 1, p' + 1, us, by go_num, by omega, fun e => (unhide HN e).elim, by omega, unhide HM, unhide HU3, unhide HR3, unhide HT3⟩, by simp [intOf]; omega⟩
    · have hj0 : j = 0 := by omega
      subst hj0
      go_wp2_with fail
      go_ret
      exact ⟨_, us, p', rfl, unhide HU, unhide HM, by cases us with | nil => have := unhide H1 rfl; omega | cons x r => simp, by omega, by omega, unhide HR, unhide HT⟩

end Go.Proofs.YthbbmookhcalkaaGreatDoor.DrawUnitB
