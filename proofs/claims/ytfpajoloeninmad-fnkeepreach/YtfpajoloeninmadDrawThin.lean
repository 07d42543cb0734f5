/- The contracts of the specification's l3Thin, l3Bent, and of chapter 3's draws. -/
import Derived.Test.YtfpajoloeninmadDrawUU
import Derived.Test.YtfpajoloeninmadRefs
namespace Go.Proofs.Ytfpajoloeninmad.DrawThin
open Go.ChangeShapes Go.WideShapes Go.ChangeAt Go.RowKit Go.Joins
open Go.Proofs.Ytfpajoloeninmad.Base Go.Proofs.Ytfpajoloeninmad.InsA Go.Proofs.Ytfpajoloeninmad.Funs Go.Proofs.Ytfpajoloeninmad.Open Go.Proofs.Ytfpajoloeninmad.FunS Go.Proofs.Ytfpajoloeninmad.Keep Go.Proofs.Ytfpajoloeninmad.UnitS Go.Proofs.Ytfpajoloeninmad.Rd Go.Proofs.Ytfpajoloeninmad.DrawIns Go.Proofs.Ytfpajoloeninmad.DrawFun Go.Proofs.Ytfpajoloeninmad.DrawUnit Go.Proofs.Ytfpajoloeninmad.DrawUnitB Go.Proofs.Ytfpajoloeninmad.DrawBent Go.Proofs.Ytfpajoloeninmad.UU Go.Proofs.Ytfpajoloeninmad.DrawUU
open Go.Proofs.Ytfpajoloeninmad.Refs (StrAt StrOwn StrOwn.below StrOwn.at str_made str_snoc infoStr hasB specHas_any)
set_option linter.unusedVariables false
set_option maxRecDepth 100000

theorem str_made2 (w : World) (o : Obj) : StrOwn ((w.alloc o).alloc (.cells #[] 9)) w.heap.size (.slice (some ⟨w.heap.size + 1, 0, none⟩) 0 0) [] :=
  ⟨by simp, .inr ⟨w.heap.size + 1, 0, #[], rfl, by omega, by simpa using new_block (w.alloc o) (.cells #[] 9), Nat.le_refl _, Nat.zero_le _, rfl, rfl⟩⟩
theorem ownsRow_below {w w' : World} {B : Nat} {e : TypeId} {z n : Nat} {v : Value} {xs : List Value} (h : w.ownsRow B e z v n xs) (hb : Below w.heap.size w w') : w'.ownsRow B e z v n xs :=
  World.ownsRow.kept h (row := none) ⟨hb.os, hb.tape, hb.output, hb.size, fun k hk _ => hb.block k hk⟩ (by cases hv : v.ownBlock <;> simp)
theorem mem_snoc {ys xs : List (FunD × Value)} {y : FunD × Value} (h : ∀ z ∈ ys, z ∈ xs) (hy : y ∈ xs) : ∀ z ∈ ys ++ [y], z ∈ xs := fun z hz => (List.mem_append.1 hz).elim (h z) (fun e => by rw [List.mem_singleton.1 e]; exact hy)
theorem fun_app {w : World} {B : Nat} {v : Value} {ys : List (FunD × Value)} {y : FunD × Value} (h : w.ownsRow B 33 3 v (ys.length + 1) (ys.flatMap encF ++ encF y)) : w.ownsRow B 33 3 v (ys ++ [y]).length ((ys ++ [y]).flatMap encF) := by
  rw [List.length_append, List.flatMap_append]
  simpa using h
theorem fun_made (w : World) : (w.alloc (.cells #[] 33)).ownsRow w.heap.size 33 3 (.slice (some ⟨w.heap.size, 0, none⟩) 0 0) 0 [] :=
  ⟨by simp, .inr ⟨_, _, _, rfl, Nat.le_refl _, new_block w _, Nat.le_refl _, Nat.zero_le _, rfl, rfl⟩⟩

/-- What stands when a function was put behind the new unit. -/
theorem thin_mid {w W w3 : World} {M : Nat} {vn vu vo : Value} {ns : List ByteArray} {ys : List (FunD × Value)} {vs : List UnitV} {blk : Obj} (hwM : w.heap.size ≤ M) (hB : Below w.heap.size w W) (hN : StrOwn W w.heap.size vn ns) (hV : W.ownsRow M 33 3 vu ys.length (ys.flatMap encF)) (hU : UnitsOwn W w.heap.size M vo vs) (hg : (W.alloc blk).grownBy w3 vu.ownBlock) :
    Below w.heap.size w w3 ∧ StrOwn w3 w.heap.size vn ns ∧ UnitsOwn w3 w.heap.size M vo vs := by
  have hV' := World.ownsRow.alloc hV blk
  have hN' : StrOwn (W.alloc blk) w.heap.size vn ns := World.ownsRow.alloc hN blk
  have hU' := UnitsOwn.alloc hU blk
  exact ⟨(bl_alloc hB blk).grown hg (bl_alloc hB blk).size (fun j hj => Nat.le_trans hwM (World.ownsRow.lt hV j hj).1), World.ownsRow.kept hN' hg (own_ne hN' hV' (by decide)), UnitsOwn.grown hU' hg (own_ne hU'.1 hV' (by decide)) (fun k hk => .inl (World.ownsRow.lt hV k hk).1)⟩
/-- What stands when its name was put behind the names. -/
theorem thin_end {w w3 w4 : World} {M n : Nat} {vn v3 vo : Value} {ns : List ByteArray} {zs : List Value} {vs : List UnitV} {blk : Obj} (hB : Below w.heap.size w w3) (hN : StrOwn w3 w.heap.size vn ns) (hV : w3.ownsRow M 33 3 v3 n zs) (hU : UnitsOwn w3 w.heap.size M vo vs) (hg : (w3.alloc blk).grownBy w4 vn.ownBlock) :
    Below w.heap.size w w4 ∧ w4.ownsRow M 33 3 v3 n zs ∧ UnitsOwn w4 w.heap.size M vo vs := by
  have hV' := World.ownsRow.alloc hV blk
  have hN' := World.ownsRow.alloc hN blk
  have hU' := UnitsOwn.alloc hU blk
  exact ⟨(bl_alloc hB blk).grown hg (bl_alloc hB blk).size (fun j hj => (World.ownsRow.lt hN j hj).1), World.ownsRow.kept hV' hg (own_ne hV' hN' (by decide)), UnitsOwn.grown hU' hg (own_ne hU'.1 hN' (by decide)) (fun k hk => .inr (own_notFI hN' (by decide) hk))⟩
/-- What stands when the new unit was put behind the others. -/
theorem thin_out {w W w3 : World} {M : Nat} {vn vo : Value} {ns : List ByteArray} {vs : List UnitV} {blk : Obj} (hB : Below w.heap.size w W) (hN : StrOwn W w.heap.size vn ns) (hU : UnitsOwn W w.heap.size M vo vs) (hg : (W.alloc blk).grownBy w3 vo.ownBlock) : Below w.heap.size w w3 ∧ StrOwn w3 w.heap.size vn ns := by
  have hN' : StrOwn (W.alloc blk) w.heap.size vn ns := World.ownsRow.alloc hN blk
  have hU' := UnitsOwn.alloc hU blk
  exact ⟨(bl_alloc hB blk).grown hg (bl_alloc hB blk).size (fun j hj => (World.ownsRow.lt hU.1 j hj).1), World.ownsRow.kept hN' hg (own_ne hN' hU'.1 (by decide))⟩
set_option maxHeartbeats 8000000 in
theorem thin_any (w : World) (B E : Nat) (v0 : Value) (vs0 : List UnitV) (h : UnitsOwn w B E v0 vs0) (hl8 : vs0.length ≤ 8) (hl3 : ∀ u ∈ vs0, u.1.length ≤ 3) :
    Calls Try.prog 27 #[v0] w fun e w' => ∃ (v : Value) (vs : List UnitV), e = .returned v ∧ UnitsOwn w' w.heap.size w'.heap.size v vs ∧ vs.length ≤ vs0.length ∧ (∀ u ∈ vs, u.1.length ≤ 3) ∧ Below w.heap.size w w' := by
  have H0 := hide h
  have H3 := hide hl3
  obtain ⟨a0, c0', e0⟩ := own_form h.1
  subst e0
  clear h hl3
  obtain ⟨i0, hi, hz0, hz1, hz2⟩ := info_parts infoUnitP
  obtain ⟨i1, hi1, hy0, hy1, hy2⟩ := info_parts infoFunP
  obtain ⟨i2, hi2, hx0, hx1, hx2⟩ := info_parts infoStr
  go_enter Try.func27, Try.ntmps27
  go_wp2_with fail
  go_loopw [3, 4, 5] (fun vo vn i w' => ∃ (k co : Nat) (ao : Option Addr) (vs : List UnitV) (ns : List ByteArray), k ≤ vs0.length ∧ i = .int .i64 k ∧ vo = .slice ao vs.length co ∧ vs.length ≤ k ∧ ns.length ≤ k * 3 ∧ Hid (∀ u ∈ vs, u.1.length ≤ 3) ∧ UnitsOwn w' w.heap.size w'.heap.size (.slice ao vs.length co) vs ∧ StrOwn w' w.heap.size vn ns ∧ Below w.heap.size w w') (fun _ _ i _ => vs0.length - (intOf i).toNat)
  case atStart => exact ⟨0, 0, _, [], [], Nat.zero_le _, rfl, rfl, Nat.le_refl _, Nat.le_refl _, (fun u hu => by cases hu), (UnitsOwn.alloc (units_made w 0) _).all, str_made2 w _, below_alloc2 _ _ _⟩
  case round =>
    obtain ⟨k, co, ao, vs, ns, hk, rfl, rfl, hvl, hnl, HL, hU, hN, hB⟩ := hrel
    have HU := hide hU
    have HN := hide hN
    clear hU hN
    have hs := hB.size
    by_cases hkl : k < vs0.length
    · have hkl' : (k : Int) < (vs0.length : Int) := by omega
      have hk0 : (0 : Int) ≤ (k : Int) := by omega
      obtain ⟨g, c, ai, ci, S, e1, c00, h4, h5, hF, hS, hC⟩ := (unhide H0).at hkl
      simp only [Value.slice.injEq, true_and] at e1
      obtain ⟨rfl, rfl⟩ := e1
      have hl3 := unhide H3 vs0[k] (List.getElem_mem _)
      have HF := hide hF
      have HS := hide hS
      have HC := hide hC
      clear hF hS hC
      generalize vs0[k].1 = xs at *
      obtain ⟨M, hM⟩ : ∃ M, M = wr.heap.size := ⟨_, rfl⟩
      have HU1 : Hid (UnitsOwn (wr.alloc (.cells #[] 33)) w.heap.size M (.slice ao vs.length co) vs) := by rw [hM]; exact (unhide HU).alloc _
      have HN1 := hide (StrOwn.below (unhide HN) (below_alloc1 _ (.cells #[] 33)))
      have HM1 : Hid ((wr.alloc (.cells #[] 33)).ownsRow M 33 3 (.slice (some ⟨wr.heap.size, 0, none⟩) 0 0) 0 []) := by rw [hM]; exact fun_made wr
      have hs1 : M ≤ wr.heap.size + 1 := by omega
      have hwM : w.heap.size ≤ M := by omega
      have hB1 := bl_alloc hB (.cells #[] 33)
      clear hM HU HN hB hs
      go_wp2_with fail
      go_loopw [4, 6, 7] (fun vn vu j w' => ∃ (q : Nat) (ys : List (FunD × Value)) (ns : List ByteArray), q ≤ xs.length ∧ j = .int .i64 q ∧ ys.length ≤ q ∧ ns.length ≤ k * 3 + q ∧ Hid (∀ y ∈ ys, y ∈ xs) ∧ StrOwn w' w.heap.size vn ns ∧ w'.ownsRow M 33 3 vu ys.length (ys.flatMap encF) ∧ UnitsOwn w' w.heap.size M (.slice ao vs.length co) vs ∧ Below w.heap.size w w' ∧ M ≤ w'.heap.size) (fun _ _ j _ => xs.length - (intOf j).toNat)
      case atStart => exact ⟨0, [], ns, Nat.zero_le _, rfl, Nat.le_refl _, by omega, (fun y hy => by cases hy), unhide HN1, unhide HM1, unhide HU1, hB1, by simpa using hs1⟩
      case round =>
        obtain ⟨q, ys, ns, hq, rfl, hyl, hnl2, HY, hN, hV, hU, hB', hMs⟩ := hrel
        have HN := hide hN
        have HV := hide hV
        have HU := hide hU
        clear hN hV hU HN1 HM1 HU1
        by_cases hql : q < xs.length
        · have hql' : (q : Int) < (xs.length : Int) := by omega
          have hq0 : (0 : Int) ≤ (q : Int) := by omega
          obtain hxn | ⟨b, off, rfl, hC⟩ := unhide HC
          · rw [hxn] at hql; simp at hql
          obtain ⟨d00, d10, d20⟩ := hC q hql
          obtain ⟨ai', ci', e2, k1, k2, k3, _⟩ := unhide HF xs[q] (List.getElem_mem _)
          have hmem : xs[q] ∈ xs := List.getElem_mem _
          rw [e2] at d20
          clear hC
          generalize xs[q] = y at *
          obtain ⟨⟨nm, wk, bd⟩, yv⟩ := y
          simp only at e2 d00 d10 d20 k1 k2
          subst e2
          have c1 := (Stable.cell ⟨g, k, none⟩ (.slice (some ⟨b, off, none⟩) xs.length ci)).1 _ _ hB' c00
          have d0 := (Stable.cell ⟨b, off + q * 3, none⟩ (.string nm)).1 _ _ hB' d00
          have d1 := (Stable.cell ⟨b, off + q * 3 + 1, none⟩ (.bool wk)).1 _ _ hB' d10
          have d2 := (Stable.cell ⟨b, off + q * 3 + 2, none⟩ (.slice ai' bd.length ci')).1 _ _ hB' d20
          cases wk
          · go_wp2_with fail
            refine (specHas_any _ ns nm _ (unhide HN).at).mono ?_
            rintro e w1 ⟨rfl, hb1⟩
            replace HN := hide ((unhide HN).below hb1)
            replace HV := hide (ownsRow_below (unhide HV) hb1)
            replace HU := hide ((unhide HU).below hb1)
            replace hB' := bl_trans hB' hb1
            replace hMs := Nat.le_trans hMs hb1.size
            replace c1 := (Stable.cell ⟨g, k, none⟩ (.slice (some ⟨b, off, none⟩) xs.length ci)).1 _ _ hb1 c1
            replace d0 := (Stable.cell ⟨b, off + q * 3, none⟩ (.string nm)).1 _ _ hb1 d0
            replace d1 := (Stable.cell ⟨b, off + q * 3 + 1, none⟩ (.bool false)).1 _ _ hb1 d1
            replace d2 := (Stable.cell ⟨b, off + q * 3 + 2, none⟩ (.slice ai' bd.length ci')).1 _ _ hb1 d2
            have hs1 := hB'.size
            clear hb1
            cases hh : hasB ns nm
            · go_wp2_with (first
                | (at_builtin; refine wpList_append_own_at _ rfl _ _ 26 rfl M 33 i1 (.agg #[.string ⟨#[]⟩, .bool false, .slice none 0 0]) 3 48 Try.underlying26 hi1 hy0 hy1 hy2 rfl (by decide) _ ys.length (ys.flatMap encF) rfl (World.ownsRow.alloc (unhide HV) _) ⟨w1.heap.size, 0, none⟩ 1 1 (encF (⟨nm, false, bd⟩, .slice ai' bd.length ci')) rfl rfl (fun_new w1 (⟨nm, false, bd⟩, .slice ai' bd.length ci')) (by simp [encF, Value.oneCell']) (by unfold maxLen; omega) (by omega) (by simp; omega) ?_; intro v3 w3 hown3 hgrow3 _ _; obtain ⟨hB3, hN3, hU3⟩ := thin_mid hwM hB' (unhide HN) (unhide HV) (unhide HU) hgrow3; have HN3 := hide hN3; have HU3 := hide hU3; clear hN3 hU3; have c3 := (Stable.cell ⟨g, k, none⟩ (.slice (some ⟨b, off, none⟩) xs.length ci)).1 _ _ hB3 c00; have d3 := (Stable.cell ⟨b, off + q * 3, none⟩ (.string nm)).1 _ _ hB3 d00)
                | (at_builtin; refine wpList_append_own_at _ rfl _ _ 37 rfl w.heap.size 9 i2 (.string ⟨#[]⟩) 1 16 Try.underlying37 hi2 hx0 hx1 hx2 rfl (by decide) _ ns.length (ns.map Value.string) rfl (World.ownsRow.alloc (unhide HN3) _) ⟨w3.heap.size, 0, none⟩ 1 1 [.string nm] rfl rfl (cell_one_new _ _ _) (by simp [Value.oneCell']) (by unfold maxLen; omega) (by omega) (by have := hB3.size; simp; omega) ?_; intro v4 w4 hown4 hgrow4 _ _)
                | go_in)
              obtain ⟨hB4, hV4, hU4⟩ := thin_end hB3 (unhide HN3) hown3 (unhide HU3) hgrow4
              have hM4 : M ≤ w4.heap.size := by have h1 := hgrow3.size; have h2 := hgrow4.size; simp at h1 h2; omega
              exact ⟨⟨q + 1, ys ++ [(⟨nm, false, bd⟩, .slice ai' bd.length ci')], ns ++ [nm], by omega, by go_num, by simp; omega, by simp; omega, mem_snoc (unhide HY) hmem, str_snoc hown4, fun_app hV4, hU4, hB4, hM4⟩, by simp [intOf]; omega⟩
            · go_wp2_with fail
              exact ⟨⟨q + 1, ys, ns, by omega, by go_num, by omega, by omega, unhide HY, unhide HN, unhide HV, unhide HU, hB', hMs⟩, by simp [intOf]; omega⟩
          · have hs1 := hB'.size
            go_wp2_with (first
              | (at_builtin; refine wpList_append_own_at _ rfl _ _ 26 rfl M 33 i1 (.agg #[.string ⟨#[]⟩, .bool false, .slice none 0 0]) 3 48 Try.underlying26 hi1 hy0 hy1 hy2 rfl (by decide) _ ys.length (ys.flatMap encF) rfl (World.ownsRow.alloc (unhide HV) _) ⟨wr.heap.size, 0, none⟩ 1 1 (encF (⟨nm, true, bd⟩, .slice ai' bd.length ci')) rfl rfl (fun_new wr (⟨nm, true, bd⟩, .slice ai' bd.length ci')) (by simp [encF, Value.oneCell']) (by unfold maxLen; omega) (by omega) (by simp; omega) ?_; intro v3 w3 hown3 hgrow3 _ _; obtain ⟨hB3, hN3, hU3⟩ := thin_mid hwM hB' (unhide HN) (unhide HV) (unhide HU) hgrow3; have HN3 := hide hN3; have HU3 := hide hU3; clear hN3 hU3; have c3 := (Stable.cell ⟨g, k, none⟩ (.slice (some ⟨b, off, none⟩) xs.length ci)).1 _ _ hB3 c00; have d3 := (Stable.cell ⟨b, off + q * 3, none⟩ (.string nm)).1 _ _ hB3 d00)
              | (at_builtin; refine wpList_append_own_at _ rfl _ _ 37 rfl w.heap.size 9 i2 (.string ⟨#[]⟩) 1 16 Try.underlying37 hi2 hx0 hx1 hx2 rfl (by decide) _ ns.length (ns.map Value.string) rfl (World.ownsRow.alloc (unhide HN3) _) ⟨w3.heap.size, 0, none⟩ 1 1 [.string nm] rfl rfl (cell_one_new _ _ _) (by simp [Value.oneCell']) (by unfold maxLen; omega) (by omega) (by have := hB3.size; simp; omega) ?_; intro v4 w4 hown4 hgrow4 _ _)
              | go_in)
            obtain ⟨hB4, hV4, hU4⟩ := thin_end hB3 (unhide HN3) hown3 (unhide HU3) hgrow4
            have hM4 : M ≤ w4.heap.size := by have h1 := hgrow3.size; have h2 := hgrow4.size; simp at h1 h2; omega
            exact ⟨⟨q + 1, ys ++ [(⟨nm, true, bd⟩, .slice ai' bd.length ci')], ns ++ [nm], by omega, by go_num, by simp; omega, by simp; omega, mem_snoc (unhide HY) hmem, str_snoc hown4, fun_app hV4, hU4, hB4, hM4⟩, by simp [intOf]; omega⟩
        · have HS2 : Hid (∀ k, S k → IsFI wr k) := fun k hk => (unhide HS k hk).step (hB'.block k (unhide HS k hk).lt)
          have HF2 : Hid (∀ y ∈ ys, FunIn wr S y) := fun y hy => (unhide HF y (unhide HY y hy)).step (fun k hk => hB'.block k (unhide HS k hk).lt)
          have HI := hide (unitIn_row (unhide HV) (unhide HF2) (unhide HS2))
          obtain ⟨au, cu, e3⟩ := own_form (unhide HV)
          subst e3
          have hs1 := hB'.size
          have c1 := (Stable.cell ⟨g, k, none⟩ (.slice ai xs.length ci)).1 _ _ hB' c00
          go_wp2_with (first
            | (at_builtin; refine wpList_append_own_at _ rfl _ _ 23 rfl w.heap.size 26 i0 (.slice none 0 0) 1 24 Try.underlying23 hi hz0 hz1 hz2 rfl (by decide) _ vs.length (vs.map Prod.snd) rfl (World.ownsRow.alloc (unhide HU).1 _) ⟨wr.heap.size, 0, none⟩ 1 1 [.slice au ys.length cu] rfl rfl (cell_one_new _ _ _) (unit_one (unhide HI)) (by unfold maxLen; omega) (by omega) (by simp; omega) ?_; intro v' w3 hown3 hgrow3 _ hat3)
            | go_in)
          have HU3 := hide (units_app (u := (ys, .slice au ys.length cu)) (unhide HU) (unhide HI) hown3 hgrow3)
          obtain ⟨hB3, hN3⟩ := thin_out hB' (unhide HN) (unhide HU) hgrow3
          have HN3 := hide hN3
          clear hN3
          obtain ⟨av, cv, e4⟩ := own_form (unhide HU3).1
          subst e4
          exact ⟨⟨k + 1, cv, av, vs ++ [(ys, .slice au ys.length cu)], ns, by omega, by go_num, rfl, by simp; omega, by omega, len_snoc (unhide HL) (by show ys.length ≤ 3; omega), unhide HU3, unhide HN3, hB3⟩, by simp [intOf]; omega⟩
    · have hke : k = vs0.length := by omega
      subst hke
      go_wp2_with fail
      go_ret
      exact ⟨_, vs, rfl, unhide HU, hvl, unhide HL, hB⟩
/-- What the draw of units that may be bent leaves. -/
def UnitsLeft (R p : Nat) (w : World) (e : Ending) (w' : World) : Prop := ∃ (v : Value) (vs : List UnitV) (p' : Nat), e = .returned v ∧ UnitsOwn w' w.heap.size w'.heap.size v vs ∧ vs.length ≤ 9 ∧ (∀ u ∈ vs, u.1.length ≤ 4) ∧ p' ≤ p + 2000 ∧ RdAt w' R p' ∧ Turns R w w'
theorem cell_one_new2 (w : World) (o : Obj) (x : Value) (t : TypeId) : ∀ j u, [x][j]? = some u → ((w.alloc o).alloc (.cells #[x] t)).cell? ((⟨w.heap.size + 1, 0, none⟩ : Addr).add j) = some u := by
  have := cell_one_new (w.alloc o) x t
  rwa [World.size_alloc] at this
def sliceLen : Value → Nat
  | .slice _ n _ => n
  | _ => 0
set_option maxHeartbeats 8000000 in
theorem unitsBent_draw (w : World) (R p m : Nat) (h : RdAt w R p) (hp : p ≤ 4294950000) (hm : m ≤ 8) :
    Calls Try.prog 24 #[.pointer (some ⟨R, 0, none⟩), .int .i64 (m : Int)] w (UnitsLeft R p w) := by
  have hlt := rd_lt h
  have H := hide h
  clear h
  obtain ⟨i0, hi, hz0, hz1, hz2⟩ := info_parts infoUnitP
  go_enter Try.func24, Try.ntmps24
  go_wp2_with fail
  refine (units_draw _ R p m (unhide H) (by omega) hm).mono ?_
  rintro e w1 ⟨v1, vs, p1, rfl, hU1, hvm, hv3, hp1, hr1, ht1⟩
  have HU1 := hide hU1
  have HR1 := hide hr1
  have HT1 := hide ht1
  have HL3 := hide hv3
  clear hU1 hr1 ht1 hv3 H
  go_wp2_with fail
  refine (pick_any _ R p1 3 (unhide HR1) (by omega) (by omega)).mono ?_
  rintro e w2 ⟨k2, hk2, rfl, hr2, ht2⟩
  have HU2 := hide (((unhide HU1).turns ht2 hlt (unhide HR1)).all)
  have HR2 := hide hr2
  have HT2 := hide ((unhide HT1).trans ht2)
  clear hr2 ht2 HU1 HR1 HT1
  obtain ⟨p3, hp3⟩ : ∃ n, n = p1 + 1 := ⟨_, rfl⟩
  rw [← hp3] at HR2
  by_cases hk : 0 < k2
  · have hk' : (0 : Int) < (k2 : Int) := by omega
    go_wp2_with fail
    refine (thin_any _ _ _ _ vs (unhide HU2) (by omega) (unhide HL3)).mono ?_
    rintro e w3 ⟨v3, vs3, rfl, hU3, hvl3, hv33, hb3⟩
    have HU := hide (hU3.wide (unhide HT2).size (Nat.le_refl _))
    have HR := hide (rd_below (unhide HR2) hb3)
    have HT := hide ((unhide HT2).trans (Turns.of_below hb3))
    have HL : Hid (∀ u ∈ vs3, u.1.length ≤ 4) := fun u hu => Nat.le_trans (hv33 u hu) (by omega)
    have hvl : vs3.length ≤ 8 := by omega
    clear hU3 hv33 hb3 HU2 HR2 HT2 hvl3 hvm HL3
    clear vs
    obtain ⟨vs, hvs⟩ : ∃ l, l = vs3 := ⟨_, rfl⟩
    subst hvs
    go_wp2_with fail
    refine (pick_any _ R _ 30 (unhide HR) (by omega) (by omega)).mono ?_
    rintro e w5 ⟨v5, hv5, rfl, hr5, ht5⟩
    have HU5 := hide (((unhide HU).turns ht5 hlt (unhide HR)).all)
    have HR5 := hide hr5
    have HT5 := hide ((unhide HT).trans ht5)
    clear hr5 ht5 HU HR HT
    by_cases h0 : v5 = 0
    · subst h0
      go_wp2_with fail
      refine (bentUnit_draw _ R _ (unhide HR5) (by omega)).mono ?_
      rintro e w6 ⟨v6, us6, p6, rfl, hS6, hmi, hu1, hu4, hp6, hr6, ht6⟩
      have HN := hide (unitIn_some hS6 hmi)
      obtain ⟨_, _, ai6, ci6, hv6, _⟩ := unhide HN
      subst hv6
      have HU6 := hide ((unhide HU5).turns ht6 hlt (unhide HR5))
      have HR6 := hide hr6
      have HT6 := hide ((unhide HT5).trans ht6)
      clear hS6 hmi hr6 ht6 HU5 HR5 HT5
      have hs6 := (unhide HT6).size
      go_wp2_with (first
        | (at_builtin; refine wpList_append_own_at _ rfl _ _ 23 rfl w.heap.size 26 i0 (.slice none 0 0) 1 24 Try.underlying23 hi hz0 hz1 hz2 rfl (by decide) _ vs.length (vs.map Prod.snd) rfl (World.ownsRow.alloc (unhide HU6).1 _) ⟨w6.heap.size, 0, none⟩ 1 1 [.slice ai6 us6.length ci6] rfl rfl (cell_one_new _ _ _) (unit_one (unhide HN)) (by unfold maxLen; omega) (by omega) (by simp; omega) ?_; intro v7 w7 hown7 hgrow7 _ hat7)
        | go_in)
      have HU7 := hide (units_app (u := (us6, .slice ai6 us6.length ci6)) (unhide HU6) (unhide HN) hown7 hgrow7)
      have HT7 := hide (grown_turns (B := 0) (unhide HT6) hgrow7 (fun g hg => (World.ownsRow.lt (unhide HU6).1 g hg).1))
      have HR7 := hide (rd_grown (rd_alloc (unhide HR6) _) hgrow7 (fun k hk => by have := (World.ownsRow.lt (unhide HU6).1 k hk).1; omega))
      go_ret
      exact ⟨_, _, p6, rfl, unhide HU7, by simp; omega, len_snoc (unhide HL) hu4, by omega, unhide HR7, unhide HT7⟩
    by_cases h1 : v5 = 1
    · subst h1
      obtain ⟨p5, hp5⟩ : ∃ n, n = p3 + 1 := ⟨_, rfl⟩
      rw [← hp5] at HR5
      go_wp2_with fail
      go_loopw [5] (fun v w' => ∃ (vs : List UnitV) (c : Nat) (a : Option Addr), v = .slice a vs.length c ∧ vs.length ≤ 9 ∧ Hid (∀ u ∈ vs, u.1.length ≤ 4) ∧ UnitsOwn w' w.heap.size w'.heap.size (.slice a vs.length c) vs ∧ RdAt w' R p5 ∧ Turns R w w') (fun v _ => 9 - sliceLen v)
      case atStart =>
        obtain ⟨av, cv, e4⟩ := own_form (unhide HU5).1
        exact ⟨vs, cv, av, e4, by omega, unhide HL, by rw [← e4]; exact unhide HU5, unhide HR5, unhide HT5⟩
      case round =>
        obtain ⟨vs, c, a, rfl, hvl, HL2, hU, hR, hT⟩ := hrel
        have HU := hide hU
        have HR := hide hR
        have HT := hide hT
        clear hU hR hT HU5 HR5 HT5
        have hs6 := (unhide HT).size
        by_cases h8 : vs.length ≤ 8
        · have h8' : (vs.length : Int) ≤ 8 := by omega
          have HN := hide (unitIn_nil (wr.alloc (.cells #[] 33)) (some ⟨wr.heap.size, 0, none⟩) 0 (Nat.zero_le _))
          have HUA := hide (UnitsOwn.alloc (unhide HU) (.cells #[] 33))
          have HRA := hide (rd_alloc (unhide HR) (.cells #[] 33))
          have HTA := hide ((unhide HT).alloc (.cells #[] 33))
          go_wp2_with (first
            | (at_builtin; refine wpList_append_own_at _ rfl _ _ 23 rfl w.heap.size 26 i0 (.slice none 0 0) 1 24 Try.underlying23 hi hz0 hz1 hz2 rfl (by decide) _ vs.length (vs.map Prod.snd) rfl (World.ownsRow.alloc (unhide HUA).1 _) ⟨wr.heap.size + 1, 0, none⟩ 1 1 [.slice (some ⟨wr.heap.size, 0, none⟩) 0 0] rfl rfl (cell_one_new2 _ _ _ _) (unit_one (unhide HN)) (by unfold maxLen; omega) (by omega) (by simp; omega) ?_; intro v7 w7 hown7 hgrow7 _ hat7)
            | go_in)
          have HU7 := hide (units_app (u := ([], .slice (some ⟨wr.heap.size, 0, none⟩) 0 0)) (unhide HUA) (unhide HN) hown7 hgrow7)
          have HT7 := hide (grown_turns (B := 0) (unhide HTA) hgrow7 (fun g hg => (World.ownsRow.lt (unhide HUA).1 g hg).1))
          have HR7 := hide (rd_grown (rd_alloc (unhide HRA) _) hgrow7 (fun k hk => by have := (World.ownsRow.lt (unhide HUA).1 k hk).1; omega))
          obtain ⟨av, cv, e4⟩ := own_form (unhide HU7).1
          subst e4
          exact ⟨⟨_, cv, av, rfl, by simp; omega, len_snoc (unhide HL2) (Nat.zero_le _), unhide HU7, unhide HR7, unhide HT7⟩, by simp [sliceLen]; omega⟩
        · have h8' : ¬ (vs.length : Int) ≤ 8 := by omega
          go_wp2_with fail
          go_ret
          exact ⟨_, vs, p5, rfl, unhide HU, by omega, unhide HL2, by omega, unhide HR, unhide HT⟩
    · have h0' : ¬ (v5 : Int) = 0 := by omega
      have h1' : ¬ (v5 : Int) = 1 := by omega
      go_wp2_with fail
      go_ret
      exact ⟨_, vs, _, rfl, unhide HU5, by omega, unhide HL, by omega, unhide HR5, unhide HT5⟩
  · have hk' : ¬ (0 : Int) < (k2 : Int) := by omega
    have HU := HU2
    have HR := HR2
    have HT := HT2
    have HL : Hid (∀ u ∈ vs, u.1.length ≤ 4) := fun u hu => Nat.le_trans (unhide HL3 u hu) (by omega)
    have hvl : vs.length ≤ 8 := by omega
    clear HU2 HR2 HT2 HL3
    go_wp2_with fail
    refine (pick_any _ R _ 30 (unhide HR) (by omega) (by omega)).mono ?_
    rintro e w5 ⟨v5, hv5, rfl, hr5, ht5⟩
    have HU5 := hide (((unhide HU).turns ht5 hlt (unhide HR)).all)
    have HR5 := hide hr5
    have HT5 := hide ((unhide HT).trans ht5)
    clear hr5 ht5 HU HR HT
    by_cases h0 : v5 = 0
    · subst h0
      go_wp2_with fail
      refine (bentUnit_draw _ R _ (unhide HR5) (by omega)).mono ?_
      rintro e w6 ⟨v6, us6, p6, rfl, hS6, hmi, hu1, hu4, hp6, hr6, ht6⟩
      have HN := hide (unitIn_some hS6 hmi)
      obtain ⟨_, _, ai6, ci6, hv6, _⟩ := unhide HN
      subst hv6
      have HU6 := hide ((unhide HU5).turns ht6 hlt (unhide HR5))
      have HR6 := hide hr6
      have HT6 := hide ((unhide HT5).trans ht6)
      clear hS6 hmi hr6 ht6 HU5 HR5 HT5
      have hs6 := (unhide HT6).size
      go_wp2_with (first
        | (at_builtin; refine wpList_append_own_at _ rfl _ _ 23 rfl w.heap.size 26 i0 (.slice none 0 0) 1 24 Try.underlying23 hi hz0 hz1 hz2 rfl (by decide) _ vs.length (vs.map Prod.snd) rfl (World.ownsRow.alloc (unhide HU6).1 _) ⟨w6.heap.size, 0, none⟩ 1 1 [.slice ai6 us6.length ci6] rfl rfl (cell_one_new _ _ _) (unit_one (unhide HN)) (by unfold maxLen; omega) (by omega) (by simp; omega) ?_; intro v7 w7 hown7 hgrow7 _ hat7)
        | go_in)
      have HU7 := hide (units_app (u := (us6, .slice ai6 us6.length ci6)) (unhide HU6) (unhide HN) hown7 hgrow7)
      have HT7 := hide (grown_turns (B := 0) (unhide HT6) hgrow7 (fun g hg => (World.ownsRow.lt (unhide HU6).1 g hg).1))
      have HR7 := hide (rd_grown (rd_alloc (unhide HR6) _) hgrow7 (fun k hk => by have := (World.ownsRow.lt (unhide HU6).1 k hk).1; omega))
      go_ret
      exact ⟨_, _, p6, rfl, unhide HU7, by simp; omega, len_snoc (unhide HL) hu4, by omega, unhide HR7, unhide HT7⟩
    by_cases h1 : v5 = 1
    · subst h1
      obtain ⟨p5, hp5⟩ : ∃ n, n = p3 + 1 := ⟨_, rfl⟩
      rw [← hp5] at HR5
      go_wp2_with fail
      go_loopw [5] (fun v w' => ∃ (vs : List UnitV) (c : Nat) (a : Option Addr), v = .slice a vs.length c ∧ vs.length ≤ 9 ∧ Hid (∀ u ∈ vs, u.1.length ≤ 4) ∧ UnitsOwn w' w.heap.size w'.heap.size (.slice a vs.length c) vs ∧ RdAt w' R p5 ∧ Turns R w w') (fun v _ => 9 - sliceLen v)
      case atStart =>
        obtain ⟨av, cv, e4⟩ := own_form (unhide HU5).1
        exact ⟨vs, cv, av, e4, by omega, unhide HL, by rw [← e4]; exact unhide HU5, unhide HR5, unhide HT5⟩
      case round =>
        obtain ⟨vs, c, a, rfl, hvl, HL2, hU, hR, hT⟩ := hrel
        have HU := hide hU
        have HR := hide hR
        have HT := hide hT
        clear hU hR hT HU5 HR5 HT5
        have hs6 := (unhide HT).size
        by_cases h8 : vs.length ≤ 8
        · have h8' : (vs.length : Int) ≤ 8 := by omega
          have HN := hide (unitIn_nil (wr.alloc (.cells #[] 33)) (some ⟨wr.heap.size, 0, none⟩) 0 (Nat.zero_le _))
          have HUA := hide (UnitsOwn.alloc (unhide HU) (.cells #[] 33))
          have HRA := hide (rd_alloc (unhide HR) (.cells #[] 33))
          have HTA := hide ((unhide HT).alloc (.cells #[] 33))
          go_wp2_with (first
            | (at_builtin; refine wpList_append_own_at _ rfl _ _ 23 rfl w.heap.size 26 i0 (.slice none 0 0) 1 24 Try.underlying23 hi hz0 hz1 hz2 rfl (by decide) _ vs.length (vs.map Prod.snd) rfl (World.ownsRow.alloc (unhide HUA).1 _) ⟨wr.heap.size + 1, 0, none⟩ 1 1 [.slice (some ⟨wr.heap.size, 0, none⟩) 0 0] rfl rfl (cell_one_new2 _ _ _ _) (unit_one (unhide HN)) (by unfold maxLen; omega) (by omega) (by simp; omega) ?_; intro v7 w7 hown7 hgrow7 _ hat7)
            | go_in)
          have HU7 := hide (units_app (u := ([], .slice (some ⟨wr.heap.size, 0, none⟩) 0 0)) (unhide HUA) (unhide HN) hown7 hgrow7)
          have HT7 := hide (grown_turns (B := 0) (unhide HTA) hgrow7 (fun g hg => (World.ownsRow.lt (unhide HUA).1 g hg).1))
          have HR7 := hide (rd_grown (rd_alloc (unhide HRA) _) hgrow7 (fun k hk => by have := (World.ownsRow.lt (unhide HUA).1 k hk).1; omega))
          obtain ⟨av, cv, e4⟩ := own_form (unhide HU7).1
          subst e4
          exact ⟨⟨_, cv, av, rfl, by simp; omega, len_snoc (unhide HL2) (Nat.zero_le _), unhide HU7, unhide HR7, unhide HT7⟩, by simp [sliceLen]; omega⟩
        · have h8' : ¬ (vs.length : Int) ≤ 8 := by omega
          go_wp2_with fail
          go_ret
          exact ⟨_, vs, p5, rfl, unhide HU, by omega, unhide HL2, by omega, unhide HR, unhide HT⟩
    · have h0' : ¬ (v5 : Int) = 0 := by omega
      have h1' : ¬ (v5 : Int) = 1 := by omega
      go_wp2_with fail
      go_ret
      exact ⟨_, vs, _, rfl, unhide HU5, by omega, unhide HL, by omega, unhide HR5, unhide HT5⟩
set_option maxHeartbeats 400000 in
theorem name_in (w : World) (R p : Nat) (h : RdAt w R p) (hp : p ≤ 4294967296) :
    Calls Try.prog 25 #[.pointer (some ⟨R, 0, none⟩)] w fun e w' => ∃ x, x ∈ names ∧ e = .returned (.string x) ∧ RdAt w' R (p + 1) ∧ Turns R w w' := by
  have hlt := rd_lt h
  have H := hide h
  clear h
  go_enter Try.func25, Try.ntmps25
  go_wp2_with fail
  refine (of_any _ _ _ _ 6 (· ∈ names) (rd_alloc (unhide H) _) (by omega) (by omega) (by omega) (by omega) (strs_lit w names _ _ rfl)).mono ?_
  rintro e w2 ⟨x, hx, rfl, hr2, ht2⟩
  have HR := hide hr2
  have HT := hide ht2
  have HX : Hid (x ∈ names) := hx
  clear hx hr2 ht2
  go_wp2
  go_ret
  exact ⟨x, unhide HX, rfl, unhide HR, (Turns.of_below (below_alloc1 _ _)).trans (unhide HT)⟩
/-- Units as a law meets them. -/
def UnitsMet (w w' : World) (b : Option Addr) (c : Nat) (us : List (List FunD)) : Prop := us.length ≤ c ∧ c ≤ maxLen ∧ us.length ≤ 9 ∧ (∀ u ∈ us, u.length ≤ 4) ∧ UnitRow w' b us ∧ Below w.heap.size w w'
theorem met_of {w w1 w' : World} {B E : Nat} {v : Value} {vs : List UnitV} (h : UnitsOwn w' B E v vs) (h9 : vs.length ≤ 9) (h4 : ∀ u ∈ vs, u.1.length ≤ 4) (hb : Below w.heap.size w w') : ∃ b c us, v = .slice b us.length c ∧ UnitsMet w w' b c us := by
  obtain ⟨a, cap, e, h1, h2, h3⟩ := h.row
  refine ⟨a, cap, unitsD vs, e, h1, h2, by simpa [unitsD] using h9, fun u hu => ?_, h3, hb⟩
  obtain ⟨x, hx, rfl⟩ := List.mem_map.1 hu
  simpa using h4 x hx
end Go.Proofs.Ytfpajoloeninmad.DrawThin
