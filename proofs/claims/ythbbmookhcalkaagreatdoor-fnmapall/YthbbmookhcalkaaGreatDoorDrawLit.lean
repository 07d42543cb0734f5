/- Draws of units, with how large their functions are. -/
import Derived.Test.YthbbmookhcalkaaGreatDoorDrawThin
namespace Go.Proofs.YthbbmookhcalkaaGreatDoor.DrawLit
open Go.ChangeShapes Go.WideShapes Go.ChangeAt Go.RowKit Go.Joins
open Go.Proofs.YthbbmookhcalkaaGreatDoor.Base Go.Proofs.YthbbmookhcalkaaGreatDoor.InsA Go.Proofs.YthbbmookhcalkaaGreatDoor.Funs Go.Proofs.YthbbmookhcalkaaGreatDoor.Open Go.Proofs.YthbbmookhcalkaaGreatDoor.FunS Go.Proofs.YthbbmookhcalkaaGreatDoor.Keep Go.Proofs.YthbbmookhcalkaaGreatDoor.UnitS Go.Proofs.YthbbmookhcalkaaGreatDoor.Rd Go.Proofs.YthbbmookhcalkaaGreatDoor.DrawIns Go.Proofs.YthbbmookhcalkaaGreatDoor.DrawFun Go.Proofs.YthbbmookhcalkaaGreatDoor.DrawUnit Go.Proofs.YthbbmookhcalkaaGreatDoor.DrawUnitB Go.Proofs.YthbbmookhcalkaaGreatDoor.DrawBent Go.Proofs.YthbbmookhcalkaaGreatDoor.UU Go.Proofs.YthbbmookhcalkaaGreatDoor.DrawUU Go.Proofs.YthbbmookhcalkaaGreatDoor.DrawThin
open Go.Proofs.YthbbmookhcalkaaGreatDoor.Refs (StrAt StrOwn StrOwn.below StrOwn.at str_made str_snoc infoStr hasB specHas_any)
set_option linter.unusedVariables false
set_option maxRecDepth 100000

/-- How large a function is that is drawn. -/
def litF (f : FunD) : Prop := okN f.nm ∧ f.body.length ≤ 7 ∧ short f.body
def lit (u : UnitV) : Prop := u.1.length ≤ 3 ∧ ∀ x ∈ u.1, litF x.1
theorem lit_snoc {vs : List UnitV} {u : UnitV} (h : ∀ x ∈ vs, lit x) (hu : lit u) : ∀ x ∈ vs ++ [u], lit x := fun x hx => (List.mem_append.1 hx).elim (h x) (fun e => by rw [List.mem_singleton.1 e]; exact hu)
set_option maxHeartbeats 4000000 in
theorem units_lit (w : World) (R p m : Nat) (h : RdAt w R p) (hp : p ≤ 4294960000) (hm : m ≤ 8) :
    Calls Tryz.prog 96 #[.pointer (some ⟨R, 0, none⟩), .int .i64 (m : Int)] w fun e w' => ∃ (v : Value) (vs : List UnitV) (p' : Nat), e = .returned v ∧ UnitsOwn w' w.heap.size w'.heap.size v vs ∧ vs.length ≤ m ∧ (∀ u ∈ vs, lit u) ∧ p' ≤ p + 1 + m * 100 ∧ RdAt w' R p' ∧ Turns R w w' := by
  have hlt := rd_lt h
  have H := hide (rd_alloc h (.cells #[] 23))
  clear h
  obtain ⟨i0, hi, hz0, hz1, hz2⟩ := info_parts infoUnitP
  go_enter Tryz.func96, Tryz.ntmps96
  go_wp2_with fail
  refine (pick_any _ R p _ (unhide H) (by omega) (by omega)).mono ?_
  rintro e w1 ⟨v1, hv1, rfl, hr1, ht1⟩
  have HR1 := hide hr1
  have HT1 := hide ((Turns.of_below (R := R) (below_alloc1 w (.cells #[] 23))).trans ht1)
  have HU1 := hide (((units_made w 0).turns ht1 hlt (unhide H)).all)
  clear hr1 ht1 H
  go_wp2_with fail
  go_loopw [5, 6] (fun v i w' => ∃ (j p' : Nat) (vs : List UnitV), i = .int .i64 j ∧ vs.length + j ≤ m ∧ p' + 100 * j ≤ p + 1 + m * 100 ∧ Hid (∀ u ∈ vs, lit u) ∧ UnitsOwn w' w.heap.size w'.heap.size v vs ∧ RdAt w' R p' ∧ Turns R w w') (fun _ i _ => (intOf i).toNat)
  case atStart => exact ⟨v1, p + 1, [], rfl, by simp; omega, by omega, (fun x hx => by cases hx), unhide HU1, unhide HR1, unhide HT1⟩
  case round =>
    obtain ⟨j, p', vs, rfl, hul, hpj, HL, hU, hR, hT⟩ := hrel
    have HU := hide hU
    have HR := hide hR
    have HT := hide hT
    clear hU hR hT HU1 HR1 HT1
    by_cases hj : 0 < j
    · have hj' : (0 : Int) < (j : Int) := by omega
      go_wp2_with fail
      refine (unit_draw _ R p' (unhide HR) (by omega)).mono ?_
      rintro e w2 ⟨v2, us2, p2, rfl, hO2, htm, hu1, hu3, hp2, hr2, ht2⟩
      have HN := hide (unitIn_own hO2 htm hu1)
      obtain ⟨_, _, ai2, ci2, hv2, _⟩ := unhide HN
      subst hv2
      have HU2 := hide ((unhide HU).turns ht2 hlt (unhide HR))
      have HR2 := hide hr2
      have HT2 := hide ((unhide HT).trans ht2)
      have hsz := (unhide HT).size
      have HTM := hide htm
      clear hO2 htm hr2 ht2 HU HR HT
      have hs2 := (unhide HT2).size
      go_wp2_with (first
        | (at_builtin; refine wpList_append_own_at _ rfl _ _ 140 rfl w.heap.size 23 i0 (.slice none 0 0) 1 24 Tryz.underlying140 hi hz0 hz1 hz2 rfl (by decide) _ vs.length (vs.map Prod.snd) rfl (World.ownsRow.alloc (unhide HU2).1 _) ⟨w2.heap.size, 0, none⟩ 1 1 [.slice ai2 us2.length ci2] rfl rfl (cell_one_new _ _ _) (unit_one (unhide HN)) (by unfold maxLen; omega) (by omega) (by simp; omega) ?_; intro v' w3 hown3 hgrow3 _ hat3)
        | go_in)
      have HU3 := hide (units_app (u := (us2, .slice ai2 us2.length ci2)) (unhide HU2) (unhide HN) hown3 hgrow3)
      have HT3 := hide (grown_turns (B := 0) (unhide HT2) hgrow3 (fun g hg => (World.ownsRow.lt (unhide HU2).1 g hg).1))
      have HR3 := hide (rd_grown (rd_alloc (unhide HR2) _) hgrow3 (fun k hk => by have := (World.ownsRow.lt (unhide HU2).1 k hk).1; omega))
      exact ⟨⟨j - 1, p2, vs ++ [(us2, .slice ai2 us2.length ci2)], by go_num, by simp; omega, by omega, lit_snoc (unhide HL) ⟨hu3, unhide HTM⟩, unhide HU3, unhide HR3, unhide HT3⟩, by simp [intOf]; omega⟩
    · have hj0 : j = 0 := by omega
      subst hj0
      go_wp2_with fail
      go_ret
      exact ⟨_, vs, p', rfl, unhide HU, by omega, unhide HL, by omega, unhide HR, unhide HT⟩
set_option maxHeartbeats 8000000 in
theorem thin_lit (w : World) (B E : Nat) (v0 : Value) (vs0 : List UnitV) (h : UnitsOwn w B E v0 vs0) (hl8 : vs0.length ≤ 8) (hl3 : ∀ u ∈ vs0, lit u) :
    Calls Tryz.prog 95 #[v0] w fun e w' => ∃ (v : Value) (vs : List UnitV), e = .returned v ∧ UnitsOwn w' w.heap.size w'.heap.size v vs ∧ vs.length ≤ vs0.length ∧ (∀ u ∈ vs, lit u) ∧ Below w.heap.size w w' := by
  have H0 := hide h
  have H3 := hide hl3
  obtain ⟨a0, c0', e0⟩ := own_form h.1
  subst e0
  clear h hl3
  obtain ⟨i0, hi, hz0, hz1, hz2⟩ := info_parts infoUnitP
  obtain ⟨i1, hi1, hy0, hy1, hy2⟩ := info_parts infoFunP
  obtain ⟨i2, hi2, hx0, hx1, hx2⟩ := info_parts infoStr
  go_enter Tryz.func95, Tryz.ntmps95
  go_wp2_with fail
  go_loopw [3, 4, 5] (fun vo vn i w' => ∃ (k co : Nat) (ao : Option Addr) (vs : List UnitV) (ns : List ByteArray), k ≤ vs0.length ∧ i = .int .i64 k ∧ vo = .slice ao vs.length co ∧ vs.length ≤ k ∧ ns.length ≤ k * 3 ∧ Hid (∀ u ∈ vs, lit u) ∧ UnitsOwn w' w.heap.size w'.heap.size (.slice ao vs.length co) vs ∧ StrOwn w' w.heap.size vn ns ∧ Below w.heap.size w w') (fun _ _ i _ => vs0.length - (intOf i).toNat)
  case atStart => exact ⟨0, 0, _, [], [], Nat.zero_le _, rfl, rfl, Nat.le_refl _, Nat.le_refl _, (fun u hu => by cases hu), (UnitsOwn.alloc (units_made w 0) _).all, str_made2 w _, below_alloc2 _ _ _⟩
  case round =>
    obtain ⟨k, co, ao, vs, ns, hk, rfl, rfl, hvl, hnl, HL, hU, hN, hB⟩ := hrel
    have HU := hide hU
    have HN := hide hN
    clear hU hN
    have hs := hB.size
    by_cases hkl : k < vs0.length
    · have hkl' : (k : Int) < (vs0.length : Int) := by omega
      have hk0 : (0 : Int) ≤ (k : Int) := by omega
      obtain ⟨g, c, ai, ci, S, e1, c00, h4, h5, hF, hS, hC⟩ := (unhide H0).at hkl
      simp only [Value.slice.injEq, true_and] at e1
      obtain ⟨rfl, rfl⟩ := e1
      obtain ⟨hl3, hq3⟩ := unhide H3 vs0[k] (List.getElem_mem _)
      have HQ3 := hide hq3
      clear hq3
      have HF := hide hF
      have HS := hide hS
      have HC := hide hC
      clear hF hS hC
      generalize vs0[k].1 = xs at *
      obtain ⟨M, hM⟩ : ∃ M, M = wr.heap.size := ⟨_, rfl⟩
      have HU1 : Hid (UnitsOwn (wr.alloc (.cells #[] 28)) w.heap.size M (.slice ao vs.length co) vs) := by rw [hM]; exact (unhide HU).alloc _
      have HN1 := hide (StrOwn.below (unhide HN) (below_alloc1 _ (.cells #[] 28)))
      have HM1 : Hid ((wr.alloc (.cells #[] 28)).ownsRow M 28 3 (.slice (some ⟨wr.heap.size, 0, none⟩) 0 0) 0 []) := by rw [hM]; exact fun_made wr
      have hs1 : M ≤ wr.heap.size + 1 := by omega
      have hwM : w.heap.size ≤ M := by omega
      have hB1 := bl_alloc hB (.cells #[] 28)
      clear hM HU HN hB hs
      go_wp2_with fail
      go_loopw [4, 6, 7] (fun vn vu j w' => ∃ (q : Nat) (ys : List (FunD × Value)) (ns : List ByteArray), q ≤ xs.length ∧ j = .int .i64 q ∧ ys.length ≤ q ∧ ns.length ≤ k * 3 + q ∧ Hid (∀ y ∈ ys, y ∈ xs) ∧ StrOwn w' w.heap.size vn ns ∧ w'.ownsRow M 28 3 vu ys.length (ys.flatMap encF) ∧ UnitsOwn w' w.heap.size M (.slice ao vs.length co) vs ∧ Below w.heap.size w w' ∧ M ≤ w'.heap.size) (fun _ _ j _ => xs.length - (intOf j).toNat)
      case atStart => exact ⟨0, [], ns, Nat.zero_le _, rfl, Nat.le_refl _, by omega, (fun y hy => by cases hy), unhide HN1, unhide HM1, unhide HU1, hB1, by simpa using hs1⟩
      case round =>
        obtain ⟨q, ys, ns, hq, rfl, hyl, hnl2, HY, hN, hV, hU, hB', hMs⟩ := hrel
        have HN := hide hN
        have HV := hide hV
        have HU := hide hU
        clear hN hV hU HN1 HM1 HU1
        by_cases hql : q < xs.length
        · have hql' : (q : Int) < (xs.length : Int) := by omega
          have hq0 : (0 : Int) ≤ (q : Int) := by omega
          obtain hxn | ⟨b, off, rfl, hC⟩ := unhide HC
          · rw [hxn] at hql; simp at hql
          obtain ⟨d00, d10, d20⟩ := hC q hql
          obtain ⟨ai', ci', e2, k1, k2, k3, _⟩ := unhide HF xs[q] (List.getElem_mem _)
          have hmem : xs[q] ∈ xs := List.getElem_mem _
          rw [e2] at d20
          clear hC
          generalize xs[q] = y at *
          obtain ⟨⟨nm, wk, bd⟩, yv⟩ := y
          simp only at e2 d00 d10 d20 k1 k2
          subst e2
          have c1 := (Stable.cell ⟨g, k, none⟩ (.slice (some ⟨b, off, none⟩) xs.length ci)).1 _ _ hB' c00
          have d0 := (Stable.cell ⟨b, off + q * 3, none⟩ (.string nm)).1 _ _ hB' d00
          have d1 := (Stable.cell ⟨b, off + q * 3 + 1, none⟩ (.bool wk)).1 _ _ hB' d10
          have d2 := (Stable.cell ⟨b, off + q * 3 + 2, none⟩ (.slice ai' bd.length ci')).1 _ _ hB' d20
          cases wk
          · go_wp2_with fail
            refine (specHas_any _ ns nm _ (unhide HN).at).mono ?_
            rintro e w1 ⟨rfl, hb1⟩
            replace HN := hide ((unhide HN).below hb1)
            replace HV := hide (ownsRow_below (unhide HV) hb1)
            replace HU := hide ((unhide HU).below hb1)
            replace hB' := bl_trans hB' hb1
            replace hMs := Nat.le_trans hMs hb1.size
            replace c1 := (Stable.cell ⟨g, k, none⟩ (.slice (some ⟨b, off, none⟩) xs.length ci)).1 _ _ hb1 c1
            replace d0 := (Stable.cell ⟨b, off + q * 3, none⟩ (.string nm)).1 _ _ hb1 d0
            replace d1 := (Stable.cell ⟨b, off + q * 3 + 1, none⟩ (.bool false)).1 _ _ hb1 d1
            replace d2 := (Stable.cell ⟨b, off + q * 3 + 2, none⟩ (.slice ai' bd.length ci')).1 _ _ hb1 d2
            have hs1 := hB'.size
            clear hb1
            cases hh : hasB ns nm
            · go_wp2_with (first
                | (at_builtin; refine wpList_append_own_at _ rfl _ _ 23 rfl M 28 i1 (.agg #[.string ⟨#[]⟩, .bool false, .slice none 0 0]) 3 48 Tryz.underlying23 hi1 hy0 hy1 hy2 rfl (by decide) _ ys.length (ys.flatMap encF) rfl (World.ownsRow.alloc (unhide HV) _) ⟨w1.heap.size, 0, none⟩ 1 1 (encF (⟨nm, false, bd⟩, .slice ai' bd.length ci')) rfl rfl (fun_new w1 (⟨nm, false, bd⟩, .slice ai' bd.length ci')) (by simp [encF, Value.oneCell']) (by unfold maxLen; omega) (by omega) (by simp; omega) ?_; intro v3 w3 hown3 hgrow3 _ _; obtain ⟨hB3, hN3, hU3⟩ := thin_mid hwM hB' (unhide HN) (unhide HV) (unhide HU) hgrow3; have HN3 := hide hN3; have HU3 := hide hU3; clear hN3 hU3; have c3 := (Stable.cell ⟨g, k, none⟩ (.slice (some ⟨b, off, none⟩) xs.length ci)).1 _ _ hB3 c00; have d3 := (Stable.cell ⟨b, off + q * 3, none⟩ (.string nm)).1 _ _ hB3 d00)
                | (at_builtin; refine wpList_append_own_at _ rfl _ _ 60 rfl w.heap.size 9 i2 (.string ⟨#[]⟩) 1 16 Tryz.underlying60 hi2 hx0 hx1 hx2 rfl (by decide) _ ns.length (ns.map Value.string) rfl (World.ownsRow.alloc (unhide HN3) _) ⟨w3.heap.size, 0, none⟩ 1 1 [.string nm] rfl rfl (cell_one_new _ _ _) (by simp [Value.oneCell']) (by unfold maxLen; omega) (by omega) (by have := hB3.size; simp; omega) ?_; intro v4 w4 hown4 hgrow4 _ _)
                | go_in)
              obtain ⟨hB4, hV4, hU4⟩ := thin_end hB3 (unhide HN3) hown3 (unhide HU3) hgrow4
              have hM4 : M ≤ w4.heap.size := by have h1 := hgrow3.size; have h2 := hgrow4.size; simp at h1 h2; omega
              exact ⟨⟨q + 1, ys ++ [(⟨nm, false, bd⟩, .slice ai' bd.length ci')], ns ++ [nm], by omega, by go_num, by simp; omega, by simp; omega, mem_snoc (unhide HY) hmem, str_snoc hown4, fun_app hV4, hU4, hB4, hM4⟩, by simp [intOf]; omega⟩
            · go_wp2_with fail
              exact ⟨⟨q + 1, ys, ns, by omega, by go_num, by omega, by omega, unhide HY, unhide HN, unhide HV, unhide HU, hB', hMs⟩, by simp [intOf]; omega⟩
          · have hs1 := hB'.size
            go_wp2_with (first
              | (at_builtin; refine wpList_append_own_at _ rfl _ _ 23 rfl M 28 i1 (.agg #[.string ⟨#[]⟩, .bool false, .slice none 0 0]) 3 48 Tryz.underlying23 hi1 hy0 hy1 hy2 rfl (by decide) _ ys.length (ys.flatMap encF) rfl (World.ownsRow.alloc (unhide HV) _) ⟨wr.heap.size, 0, none⟩ 1 1 (encF (⟨nm, true, bd⟩, .slice ai' bd.length ci')) rfl rfl (fun_new wr (⟨nm, true, bd⟩, .slice ai' bd.length ci')) (by simp [encF, Value.oneCell']) (by unfold maxLen; omega) (by omega) (by simp; omega) ?_; intro v3 w3 hown3 hgrow3 _ _; obtain ⟨hB3, hN3, hU3⟩ := thin_mid hwM hB' (unhide HN) (unhide HV) (unhide HU) hgrow3; have HN3 := hide hN3; have HU3 := hide hU3; clear hN3 hU3; have c3 := (Stable.cell ⟨g, k, none⟩ (.slice (some ⟨b, off, none⟩) xs.length ci)).1 _ _ hB3 c00; have d3 := (Stable.cell ⟨b, off + q * 3, none⟩ (.string nm)).1 _ _ hB3 d00)
              | (at_builtin; refine wpList_append_own_at _ rfl _ _ 60 rfl w.heap.size 9 i2 (.string ⟨#[]⟩) 1 16 Tryz.underlying60 hi2 hx0 hx1 hx2 rfl (by decide) _ ns.length (ns.map Value.string) rfl (World.ownsRow.alloc (unhide HN3) _) ⟨w3.heap.size, 0, none⟩ 1 1 [.string nm] rfl rfl (cell_one_new _ _ _) (by simp [Value.oneCell']) (by unfold maxLen; omega) (by omega) (by have := hB3.size; simp; omega) ?_; intro v4 w4 hown4 hgrow4 _ _)
              | go_in)
            obtain ⟨hB4, hV4, hU4⟩ := thin_end hB3 (unhide HN3) hown3 (unhide HU3) hgrow4
            have hM4 : M ≤ w4.heap.size := by have h1 := hgrow3.size; have h2 := hgrow4.size; simp at h1 h2; omega
            exact ⟨⟨q + 1, ys ++ [(⟨nm, true, bd⟩, .slice ai' bd.length ci')], ns ++ [nm], by omega, by go_num, by simp; omega, by simp; omega, mem_snoc (unhide HY) hmem, str_snoc hown4, fun_app hV4, hU4, hB4, hM4⟩, by simp [intOf]; omega⟩
        · have HS2 : Hid (∀ k, S k → IsFI wr k) := fun k hk => (unhide HS k hk).step (hB'.block k (unhide HS k hk).lt)
          have HF2 : Hid (∀ y ∈ ys, FunIn wr S y) := fun y hy => (unhide HF y (unhide HY y hy)).step (fun k hk => hB'.block k (unhide HS k hk).lt)
          have HI := hide (unitIn_row (unhide HV) (unhide HF2) (unhide HS2))
          obtain ⟨au, cu, e3⟩ := own_form (unhide HV)
          subst e3
          have hs1 := hB'.size
          have c1 := (Stable.cell ⟨g, k, none⟩ (.slice ai xs.length ci)).1 _ _ hB' c00
          go_wp2_with (first
            | (at_builtin; refine wpList_append_own_at _ rfl _ _ 140 rfl w.heap.size 23 i0 (.slice none 0 0) 1 24 Tryz.underlying140 hi hz0 hz1 hz2 rfl (by decide) _ vs.length (vs.map Prod.snd) rfl (World.ownsRow.alloc (unhide HU).1 _) ⟨wr.heap.size, 0, none⟩ 1 1 [.slice au ys.length cu] rfl rfl (cell_one_new _ _ _) (unit_one (unhide HI)) (by unfold maxLen; omega) (by omega) (by simp; omega) ?_; intro v' w3 hown3 hgrow3 _ hat3)
            | go_in)
          have HU3 := hide (units_app (u := (ys, .slice au ys.length cu)) (unhide HU) (unhide HI) hown3 hgrow3)
          obtain ⟨hB3, hN3⟩ := thin_out hB' (unhide HN) (unhide HU) hgrow3
          have HN3 := hide hN3
          clear hN3
          obtain ⟨av, cv, e4⟩ := own_form (unhide HU3).1
          subst e4
          exact ⟨⟨k + 1, cv, av, vs ++ [(ys, .slice au ys.length cu)], ns, by omega, by go_num, rfl, by simp; omega, by omega, lit_snoc (unhide HL) ⟨by show ys.length ≤ 3; omega, fun y hy => unhide HQ3 y (unhide HY y hy)⟩, unhide HU3, unhide HN3, hB3⟩, by simp [intOf]; omega⟩
    · have hke : k = vs0.length := by omega
      subst hke
      go_wp2_with fail
      go_ret
      exact ⟨_, vs, rfl, unhide HU, hvl, unhide HL, hB⟩
end Go.Proofs.YthbbmookhcalkaaGreatDoor.DrawLit
