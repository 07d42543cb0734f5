/- The contracts of the specification's draws of units. -/
import Derived.Test.YtnmgeaonhbhbkaaDrawUnit
import Derived.OwnWalk
import Derived.Maps.AppendAt
namespace Go.Proofs.Ytnmgeaonhbhbkaa.DrawUnitB
open Go.ChangeShapes Go.WideShapes Go.ChangeAt Go.RowKit Go.Joins
open Go.Proofs.Ytnmgeaonhbhbkaa.Base Go.Proofs.Ytnmgeaonhbhbkaa.InsA Go.Proofs.Ytnmgeaonhbhbkaa.Funs Go.Proofs.Ytnmgeaonhbhbkaa.Open Go.Proofs.Ytnmgeaonhbhbkaa.FunS Go.Proofs.Ytnmgeaonhbhbkaa.Keep Go.Proofs.Ytnmgeaonhbhbkaa.UnitS Go.Proofs.Ytnmgeaonhbhbkaa.Rd Go.Proofs.Ytnmgeaonhbhbkaa.DrawIns Go.Proofs.Ytnmgeaonhbhbkaa.DrawFun Go.Proofs.Ytnmgeaonhbhbkaa.DrawUnit
set_option linter.unusedVariables false
set_option maxRecDepth 100000

theorem tame_snoc {us : List (FunD × Value)} {u : FunD × Value} (h : tame us) (h1 : okN u.1.nm) (h2 : u.1.body.length ≤ 7) (h3 : short u.1.body) : tame (us ++ [u]) := by
  intro y hy
  rcases List.mem_append.1 hy with hy | hy
  · exact h y hy
  · rw [List.mem_singleton.1 hy]; exact ⟨h1, h2, h3⟩
set_option maxHeartbeats 4000000 in
theorem unit_draw (w : World) (R p : Nat) (h : RdAt w R p) (hp : p ≤ 4294963000) :
    Calls Try.prog 94 #[.pointer (some ⟨R, 0, none⟩)] w (UnitLeft R p 100 3 w) := by
  have hlt := rd_lt h
  have H := hide (rd_alloc h (.cells #[] 31))
  clear h
  obtain ⟨i0, hi, hz0, hz1, hz2⟩ := info_parts infoFunP
  go_enter Try.func94, Try.ntmps94
  go_wp2_with fail
  refine (pick_any _ R p 3 (unhide H) (by omega) (by omega)).mono ?_
  rintro e w1 ⟨v1, hv1, rfl, hr1, ht1⟩
  have HR1 := hide hr1
  have HT1 := hide ((Turns.of_below (R := R) (below_alloc1 w _)).trans ht1)
  have HU1 : Hid (UnitOwn w1 w.heap.size (.slice (some ⟨w.heap.size, 0, none⟩) 0 0) []) := UnitOwn.turns ⟨⟨by simp, .inr ⟨_, _, _, rfl, Nat.le_refl _, new_block w _, Nat.le_refl _, Nat.zero_le _, rfl, rfl⟩⟩, (fun u hu => by cases hu), List.Pairwise.nil⟩ ht1 hlt
  clear hr1 ht1 H
  go_wp2_with fail
  go_loopw [3, 4] (fun v i w' => ∃ (j p' : Nat) (us : List (FunD × Value)), i = .int .i64 j ∧ us.length + j ≤ 3 ∧ (us = [] → 1 ≤ j) ∧ p' + 32 * j ≤ p + 1 + 96 ∧ tame us ∧ UnitOwn w' w.heap.size v us ∧ RdAt w' R p' ∧ Turns R w w') (fun _ i _ => (intOf i).toNat)
  case atStart => exact ⟨1 + v1, p + 1, [], by go_num, by simp; omega, by omega, by omega, (fun x hx => by cases hx), unhide HU1, unhide HR1, unhide HT1⟩
  case round =>
    obtain ⟨j, p', us, rfl, hul, hu1, hpj, htm, hU, hR, hT⟩ := hrel
    have HU := hide hU
    have HR := hide hR
    have HT := hide hT
    have HM := hide htm
    have H1 := hide hu1
    clear hU hR hT htm hu1
    by_cases hj : 0 < j
    · have hj' : (0 : Int) < (j : Int) := by omega
      go_wp2_with fail
      refine (name_ok _ R p' (unhide HR) (by omega)).mono ?_
      rintro e w2 ⟨nn, hnn, rfl, hr2, ht2⟩
      have HR2 := hide hr2
      have HT2 := hide ((unhide HT).trans ht2)
      have HU2 := hide ((unhide HU).turns ht2 hlt)
      clear hr2 ht2 HR HT HU
      obtain ⟨a, cap, hv, hc1, hc2, hrow⟩ := (unhide HU2).row (unhide HM)
      obtain ⟨fs, hfs⟩ : ∃ fs : List FunD, fs = us.map Prod.fst := ⟨_, rfl⟩
      rw [← hfs] at hv hc1 hrow
      have HW := hide hrow
      have HFL : Hid (fs.length = us.length ∧ (us = [] → fs = [])) := ⟨by rw [hfs]; simp, fun e => by rw [hfs, e]; rfl⟩
      clear hrow hfs
      subst hv
      by_cases hf : findI fs nn < 0
      · go_wp2_with fail
        refine (specFind_any a cap fs nn _ hnn.max hc1 hc2 (unhide HW)).mono ?_
        rintro e w3 ⟨rfl, hb3⟩
        have HR3 := hide (rd_below (unhide HR2) hb3)
        have HT3 := hide ((unhide HT2).trans (Turns.of_below hb3))
        have HU3 := hide ((unhide HU2).below hb3 (by omega))
        have hs3 := (unhide HT3).size
        clear HR2 HT2 HU2 hb3 HW
        generalize findI fs nn = fi at hf ⊢
        go_wp2_with fail
        refine (fun_draw _ R (p' + 1) nn (unhide HR3) (by omega)).mono ?_
        rintro e w4 ⟨wk, bv, xs, p4, rfl, hI, hxl, hsh, hp4, hr4, ht4⟩
        have HI := hide hI
        have HR4 := hide hr4
        have HT4 := hide ((unhide HT3).trans ht4)
        have HD4 := hide ht4
        have hs4 := (unhide HT4).size
        obtain ⟨ba, bn, bc, rfl⟩ := own_slice hI
        have HU4 := hide ((unhide HU3).turns ht4 hlt)
        have HSH := hide hsh
        clear hI hr4 ht4 hsh
        go_wp2_with (first
          | (at_builtin; refine wpList_append_own _ rfl _ _ 23 rfl w.heap.size 31 i0 (.agg #[.string ⟨#[]⟩, .bool false, .slice none 0 0]) 3 48 Try.underlying23 hi hz0 hz1 hz2 rfl (by decide) _ us.length (us.flatMap encF) rfl (World.ownsRow.alloc (unhide HU4).1 _) ⟨w4.heap.size, 0, none⟩ 1 1 (encF (⟨nn, wk, xs⟩, .slice ba bn bc)) rfl rfl (fun_new w4 (⟨nn, wk, xs⟩, .slice ba bn bc)) (by simp [encF, Value.oneCell']) (by unfold maxLen; omega) (by omega) (by simp; omega) ?_; intro v' w5 hown5 hgrow5 _)
          | go_in)
        have hall := unit_app (u := (⟨nn, wk, xs⟩, .slice ba bn bc)) hlt hs3 (unhide HU3) (unhide HD4) (unhide HI) (unhide HR4) (unhide HT4) hown5 hgrow5
        exact ⟨⟨j - 1, p4, us ++ [(⟨nn, wk, xs⟩, .slice ba bn bc)], by go_num, by simp; omega, by simp, by omega, tame_snoc (unhide HM) hnn (show xs.length ≤ 7 by omega) (unhide HSH), hall⟩, by simp [intOf]; omega⟩
      · go_wp2_with fail
        refine (specFind_any a cap fs nn _ hnn.max hc1 hc2 (unhide HW)).mono ?_
        rintro e w3 ⟨rfl, hb3⟩
        have HR3 := hide (rd_below (unhide HR2) hb3)
        have HT3 := hide ((unhide HT2).trans (Turns.of_below hb3))
        have HU3 := hide ((unhide HU2).below hb3 (by omega))
        have HN : Hid (us = [] → False) := fun e => by
          have := (unhide HFL).2 e
          rw [this] at hf
          simp [findI] at hf
        clear HR2 HT2 HU2 hb3 HW
        generalize findI fs nn = fi at hf ⊢
        go_wp2_with fail
        exact ⟨⟨j - 1, p' + 1, us, by go_num, by omega, fun e => (unhide HN e).elim, by omega, unhide HM, unhide HU3, unhide HR3, unhide HT3⟩, by simp [intOf]; omega⟩
    · have hj0 : j = 0 := by omega
      subst hj0
      go_wp2_with fail
      go_ret
      exact ⟨_, us, p', rfl, unhide HU, unhide HM, by cases us with | nil => have := unhide H1 rfl; omega | cons x r => simp, by omega, by omega, unhide HR, unhide HT⟩

end Go.Proofs.Ytnmgeaonhbhbkaa.DrawUnitB
