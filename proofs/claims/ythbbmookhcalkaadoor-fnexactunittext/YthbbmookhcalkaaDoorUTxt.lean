/- The contracts of both sides' UnitText. -/
import Derived.Test.YthbbmookhcalkaaDoorBTxt
import Derived.Test.YthbbmookhcalkaaDoorUnitM
namespace Go.Proofs.YthbbmookhcalkaaDoor.UTxt
open Go.ChangeShapes Go.WideShapes Go.ChangeAt Go.RowKit Go.Joins Go.Deep
open Go.Proofs.YthbbmookhcalkaaDoor.Base Go.Proofs.YthbbmookhcalkaaDoor.InsA Go.Proofs.YthbbmookhcalkaaDoor.Name Go.Proofs.YthbbmookhcalkaaDoor.InsB Go.Proofs.YthbbmookhcalkaaDoor.Dec Go.Proofs.YthbbmookhcalkaaDoor.Text Go.Proofs.YthbbmookhcalkaaDoor.Funs Go.Proofs.YthbbmookhcalkaaDoor.Open Go.Proofs.YthbbmookhcalkaaDoor.FunS Go.Proofs.YthbbmookhcalkaaDoor.Keep Go.Proofs.YthbbmookhcalkaaDoor.UnitS Go.Proofs.YthbbmookhcalkaaDoor.UnitM Go.Proofs.YthbbmookhcalkaaDoor.Bld Go.Proofs.YthbbmookhcalkaaDoor.BTxt
set_option linter.unusedVariables false
set_option maxRecDepth 100000

theorem headText_any (nm : ByteArray) (wk : Bool) (v : Value) (bd : List InsD) (w : World) (hnm : nm.size ≤ 100) :
    Calls Tryd.prog 29 #[.agg #[.string nm, .bool wk, v]] w fun e w' => e = .returned (.string (headT ⟨nm, wk, bd⟩)) ∧ Below w.heap.size w w' := by
  cases wk
  · go_enter Tryd.func29, Tryd.ntmps29
    go_wp2_with fail
    go_ret
    exact ⟨rfl, below_alloc1 _ _⟩
  · go_enter Tryd.func29, Tryd.ntmps29
    go_wp2_with fail
    go_ret
    exact ⟨rfl, below_alloc1 _ _⟩
theorem head_eq (s nm : ByteArray) (bd : List InsD) : ((s ++ ⟨#[119, 101, 97, 107, 32]⟩) ++ nm) ++ ⟨#[10]⟩ = s ++ (headT ⟨nm, true, bd⟩ ++ endB) := by
  unfold headT wordB endB
  simp only [ByteArray.append_assoc]
  rfl
theorem head_eq2 (s nm : ByteArray) (bd : List InsD) : ((s ++ ⟨#[102, 117, 110, 32]⟩) ++ nm) ++ ⟨#[10]⟩ = s ++ (headT ⟨nm, false, bd⟩ ++ endB) := by
  unfold headT wordB endB
  simp only [ByteArray.append_assoc]
  rfl
set_option maxHeartbeats 4000000 in
theorem specUnitText_any (a : Option Addr) (cap : Nat) (fs : List FunD) (w : World) (hcap : fs.length ≤ cap) (hcm : cap ≤ maxLen) (hR : FunRow w a fs) :
    Calls Tryd.prog 11 #[.slice a fs.length cap] w fun e w' => e = .returned (.string (unitTextB fs)) ∧ Below w.heap.size w w' := by
  have HR := hide hR
  clear hR
  go_enter Tryd.func11, Tryd.ntmps11
  go_wp2_with fail
  refine (specUnitOk_any _ _ fs _ hcap hcm (unhide HR)).mono ?_
  rintro e w1 ⟨rfl, hb1⟩
  cases hu : unitOkB fs
  · have HE : Hid (unitTextB fs = ⟨#[]⟩) := by show _ = _; unfold unitTextB; rw [hu]; rfl
    go_wp2_with fail
    go_ret
    exact ⟨ret_str (unhide HE).symm, hb1⟩
  obtain ⟨h5, hfo⟩ := unit_parts hu
  have HE : Hid (unitTextB fs = unitN fs fs.length) := by show _ = _; unfold unitTextB; rw [hu]; rfl
  have HSZ := hide (unit_le hfo)
  have HFO := hide hfo
  have hlf : (fs.length : Int) ≤ 9223372036854775807 := by omega
  clear hfo hu
  go_wp2_with fail
  go_loopw [3, 4] (fun s i w' => ∃ k : Nat, k ≤ fs.length ∧ s = .string (unitN fs k) ∧ i = .int .i64 k ∧ Below w.heap.size w w') (fun _ i _ => fs.length - (intOf i).toNat)
  case atStart => exact ⟨0, Nat.zero_le _, rfl, rfl, hb1⟩
  case round =>
    obtain ⟨k, hk, rfl, rfl, hB⟩ := hrel
    by_cases hkl : k < fs.length
    · have hkl' : (k : Int) < (fs.length : Int) := by omega
      have hk0 : (0 : Int) ≤ (k : Int) := by omega
      obtain ⟨fb, fo, rfl⟩ := (unhide HR).get (by omega)
      obtain ⟨ai, ci, f0, f1, f2, hn0, f4, f5, f6⟩ := ((unhide HR).below hB).at hkl
      obtain ⟨p1, p2, p3, p4⟩ := fun_parts (unhide HFO fs[k] (List.getElem_mem _))
      have hnm := name_le p1
      have hht := head_le (f := fs[k]) p1
      have hus := unhide HSZ k hk
      have HLN : Hid (unitN fs k ++ (headT fs[k] ++ endB) ++ bodyT fs[k].body = unitN fs (k + 1)) := by
        show _ = _
        rw [← unit_step hkl]
        simp only [ByteArray.append_assoc]
      have HBS := hide (body_le p4)
      have HOK := hide (fun j (hj : j < fs[k].body.length) => ok_at p4 hj)
      have HRO : Hid (∀ w', Below w.heap.size w w' → ∃ ai ci, w'.cell? ⟨fb, fo + k * 3 + 2, none⟩ = some (.slice ai fs[k].body.length ci) ∧ InsRow w' ai fs[k].body) := fun w' h => by
        obtain ⟨ai, ci, _, _, g2, _, _, _, g6⟩ := ((unhide HR).below h).at hkl
        exact ⟨ai, ci, g2, g6⟩
      have hkb : k * 12000 ≤ 60000 := by omega
      generalize fs[k] = f at *
      obtain ⟨nm, wk, xs⟩ := f
      dsimp only at *
      generalize unitN fs k = s0 at *
      have hlx : (xs.length : Int) ≤ 9223372036854775807 := by omega
      have hsz : (s0 ++ (headT ⟨nm, wk, xs⟩ ++ endB)).size ≤ 70000 := by simp only [ByteArray.size_append]; have e1 : endB.size = 1 := rfl; omega
      cases wk
      · have HHE := hide (head_eq2 s0 nm xs)
        go_wp2_with fail
        rw [unhide HHE]
        generalize s0 ++ (headT ⟨nm, false, xs⟩ ++ endB) = s1 at *
        clear f0 f1 f2 f6 hus
        go_loopw [3, 5] (fun s i w' => ∃ j : Nat, j ≤ xs.length ∧ s = .string (s1 ++ bodyN xs j) ∧ i = .int .i64 j ∧ Below w.heap.size w w') (fun _ i _ => xs.length - (intOf i).toNat)
        case atStart => exact ⟨0, Nat.zero_le _, (congrArg Value.string (@ByteArray.append_empty s1)).symm, rfl, hB⟩
        case round =>
          obtain ⟨j, hj, rfl, rfl, hB⟩ := hrel
          obtain ⟨ai, ci, g2, g6⟩ := unhide HRO _ hB
          by_cases hjl : j < xs.length
          · have hjl' : (j : Int) < (xs.length : Int) := by omega
            have hj0 : (0 : Int) ≤ (j : Int) := by omega
            obtain ⟨b, off, rfl⟩ := g6.get (by omega)
            obtain ⟨c0, c1, c2, _⟩ := g6.cells hjl
            have hxk := unhide HOK j hjl
            have hs6 := ok_small hxk
            have hts := insT_le hxk
            have hbs := unhide HBS j hj
            have HST : Hid (s1 ++ bodyN xs j ++ textA xs[j].o xs[j].n xs[j].s ++ ⟨#[10]⟩ = s1 ++ bodyN xs (j + 1)) := by
              show _ = _
              rw [← body_step hjl]
              simp only [ByteArray.append_assoc]
              rfl
            have hti : insT xs[j] = textA xs[j].o xs[j].n xs[j].s := rfl
            rw [hti] at hts
            have hsb : (s1 ++ bodyN xs j).size ≤ 82000 := by rw [ByteArray.size_append]; omega
            clear hti hxk
            generalize xs[j] = x at *
            generalize s1 ++ bodyN xs j = s2 at *
            go_wp2_with fail
            refine (specText_any x.o x.n x.s _ (by omega)).mono ?_
            rintro e w5 ⟨rfl, hb5⟩
            have hB5 := bl_trans hB hb5
            clear c0 c1 c2 g2 g6 hb5 hB
            generalize textA x.o x.n x.s = tt at *
            have q1 : ¬ 9223372036854775807 < s2.size + tt.size := by omega
            have q2 : ¬ 9223372036854775807 < s2.size + tt.size + 1 := by omega
            go_wp2_with fail
            exact ⟨⟨j + 1, by omega, by rw [unhide HST], by go_num, hB5⟩, by simp [intOf]; omega⟩
          · have hjl' : ¬ (j : Int) < (xs.length : Int) := by omega
            have hje : j = xs.length := by omega
            have HF : Hid (s1 ++ bodyN xs j = unitN fs (k + 1)) := by show _ = _; rw [hje]; exact unhide HLN
            clear hje
            go_wp2_with fail
            exact ⟨⟨k + 1, by omega, by rw [unhide HF], by go_num, hB⟩, by simp [intOf]; omega⟩
      · have HHE := hide (head_eq s0 nm xs)
        go_wp2_with fail
        rw [unhide HHE]
        generalize s0 ++ (headT ⟨nm, true, xs⟩ ++ endB) = s1 at *
        clear f0 f1 f2 f6 hus
        go_loopw [3, 5] (fun s i w' => ∃ j : Nat, j ≤ xs.length ∧ s = .string (s1 ++ bodyN xs j) ∧ i = .int .i64 j ∧ Below w.heap.size w w') (fun _ i _ => xs.length - (intOf i).toNat)
        case atStart => exact ⟨0, Nat.zero_le _, (congrArg Value.string (@ByteArray.append_empty s1)).symm, rfl, hB⟩
        case round =>
          obtain ⟨j, hj, rfl, rfl, hB⟩ := hrel
          obtain ⟨ai, ci, g2, g6⟩ := unhide HRO _ hB
          by_cases hjl : j < xs.length
          · have hjl' : (j : Int) < (xs.length : Int) := by omega
            have hj0 : (0 : Int) ≤ (j : Int) := by omega
            obtain ⟨b, off, rfl⟩ := g6.get (by omega)
            obtain ⟨c0, c1, c2, _⟩ := g6.cells hjl
            have hxk := unhide HOK j hjl
            have hs6 := ok_small hxk
            have hts := insT_le hxk
            have hbs := unhide HBS j hj
            have HST : Hid (s1 ++ bodyN xs j ++ textA xs[j].o xs[j].n xs[j].s ++ ⟨#[10]⟩ = s1 ++ bodyN xs (j + 1)) := by
              show _ = _
              rw [← body_step hjl]
              simp only [ByteArray.append_assoc]
              rfl
            have hti : insT xs[j] = textA xs[j].o xs[j].n xs[j].s := rfl
            rw [hti] at hts
            have hsb : (s1 ++ bodyN xs j).size ≤ 82000 := by rw [ByteArray.size_append]; omega
            clear hti hxk
            generalize xs[j] = x at *
            generalize s1 ++ bodyN xs j = s2 at *
            go_wp2_with fail
            refine (specText_any x.o x.n x.s _ (by omega)).mono ?_
            rintro e w5 ⟨rfl, hb5⟩
            have hB5 := bl_trans hB hb5
            clear c0 c1 c2 g2 g6 hb5 hB
            generalize textA x.o x.n x.s = tt at *
            have q1 : ¬ 9223372036854775807 < s2.size + tt.size := by omega
            have q2 : ¬ 9223372036854775807 < s2.size + tt.size + 1 := by omega
            go_wp2_with fail
            exact ⟨⟨j + 1, by omega, by rw [unhide HST], by go_num, hB5⟩, by simp [intOf]; omega⟩
          · have hjl' : ¬ (j : Int) < (xs.length : Int) := by omega
            have hje : j = xs.length := by omega
            have HF : Hid (s1 ++ bodyN xs j = unitN fs (k + 1)) := by show _ = _; rw [hje]; exact unhide HLN
            clear hje
            go_wp2_with fail
            exact ⟨⟨k + 1, by omega, by rw [unhide HF], by go_num, hB⟩, by simp [intOf]; omega⟩
    · have hkl' : ¬ (k : Int) < (fs.length : Int) := by omega
      have hke : k = fs.length := by omega
      have HE2 : Hid (unitN fs k = unitTextB fs) := by show _ = _; rw [unhide HE, hke]
      clear hke
      go_wp2_with fail
      go_ret
      exact ⟨ret_str (unhide HE2), hB⟩
set_option maxHeartbeats 4000000 in
theorem implUnitText_any (a : Option Addr) (cap : Nat) (fs : List FunD) (w : World) (hcap : fs.length ≤ cap) (hcm : cap ≤ maxLen) (hR : FunRow w a fs) (htab : Lib.TabIs Tryd.prog w "internal/strconv.uint64pow10" .u64 Lib.pow10Tab) :
    Calls Tryd.prog 12 #[.slice a fs.length cap] w fun e w' => e = .returned (.string (unitTextB fs)) ∧ Below w.heap.size w w' := by
  have HR0 := hide hR
  have HT := hide htab
  clear hR htab
  go_enter Tryd.func12, Tryd.ntmps12
  go_wp2_with fail
  refine (implUnitOk_any _ _ fs _ hcap hcm (unhide HR0)).mono ?_
  rintro e wB ⟨rfl, hB0⟩
  have HR := hide ((unhide HR0).below hB0)
  have HTB := hide (tab_stays Text.gPow (unhide HT) hB0 (Nat.le_refl _))
  clear HR0 HT
  cases hu : unitOkB fs
  · have HE : Hid (unitTextB fs = ⟨#[]⟩) := by show _ = _; unfold unitTextB; rw [hu]; rfl
    go_wp2_with fail
    go_ret
    exact ⟨ret_str (unhide HE).symm, hB0⟩
  obtain ⟨h5, hfo⟩ := unit_parts hu
  have HE : Hid (unitTextB fs = unitN fs fs.length) := by show _ = _; unfold unitTextB; rw [hu]; rfl
  have HSZ := hide (unit_le hfo)
  have HFO := hide hfo
  obtain ⟨gb, hgb⟩ : ∃ gb, wB.heap.size = gb := ⟨_, rfl⟩
  have HBB := hide hgb
  have HBN := hide (bld_new wB gb hgb.symm)
  have HBL := hide (below_alloc1 wB (.cells #[.pointer none, .slice none 0 0] 57))
  rw [hgb] at HBL
  have hlf : (fs.length : Int) ≤ 9223372036854775807 := by omega
  clear hfo hu hgb
  have hgb := unhide HBB
  go_wp2_with fail
  go_loopw [11] (fun i w' => ∃ k : Nat, k ≤ fs.length ∧ i = .int .i64 k ∧ Hid (Lib.IsBuilderF BT U8 gb gb (Lib.byteCells (unitN fs k).data.toList) w') ∧ Below gb wB w') (fun i _ => fs.length - (intOf i).toNat)
  case atStart => exact ⟨0, Nat.zero_le _, rfl, unhide HBN, unhide HBL⟩
  case round =>
    obtain ⟨k, hk, rfl, HI, hB⟩ := hrel
    clear HBN HBL hgb
    have hBx : Below wB.heap.size wB wr := by rw [unhide HBB]; exact hB
    have hsz0 : gb ≤ wr.heap.size := by rw [← unhide HBB]; exact hBx.size
    by_cases hkl : k < fs.length
    · have hkl' : (k : Int) < (fs.length : Int) := by omega
      have hk0 : (0 : Int) ≤ (k : Int) := by omega
      obtain ⟨fb, fo, rfl⟩ := (unhide HR).get (by omega)
      obtain ⟨ai, ci, f0, f1, f2, hn0, f4, f5, f6⟩ := ((unhide HR).below hBx).at hkl
      obtain ⟨p1, p2, p3, p4⟩ := fun_parts (unhide HFO fs[k] (List.getElem_mem _))
      have hnm := name_le p1
      have hbt := body_le p4 _ (Nat.le_refl _)
      have hht := head_le (f := fs[k]) p1
      have hus := unhide HSZ k hk
      have HLN : Hid (unitN fs k ++ (headT fs[k] ++ endB ++ bodyT fs[k].body) = unitN fs (k + 1)) := unit_step hkl
      have HTK := hide (tab_stays Text.gPow (unhide HTB) hBx (Nat.le_refl _))
      have HRO := hide f6
      have HAO := hide p4
      have HB := hide hB
      have hkb : k * 12000 ≤ 60000 := by omega
      generalize hf : fs[k] = f at *
      obtain ⟨nm, wk, xs⟩ := f
      dsimp only at *
      have hbt2 : (bodyT xs).size ≤ 11010 := by unfold bodyT; omega
      generalize unitN fs k = s0 at *
      have hFK := new_block wr (.cells #[.string nm, .bool wk, .slice ai xs.length ci] 45)
      have hbf := below_alloc1 wr (.cells #[.string nm, .bool wk, .slice ai xs.length ci] 45)
      have hr := (unhide HRO).below hbf
      have hI := bld_below (unhide HI) hbf
      have hBw := (unhide HB).alloc hsz0 (.cells #[.string nm, .bool wk, .slice ai xs.length ci] 45)
      have hT := hide (tab_stays Text.gPow (unhide HTK) hbf (Nat.le_refl _))
      have hsw : gb ≤ (wr.alloc (.cells #[.string nm, .bool wk, .slice ai xs.length ci] 45)).heap.size := by rw [World.size_alloc]; omega
      have hfk : wr.heap.size ≠ gb := by have h := (unhide HI); rcases h with h | h <;> (have := h.lt; omega)
      have q1 : ¬ 9223372036854775807 < (headT ⟨nm, wk, xs⟩).size + 1 := by omega
      have q2 : ¬ 9223372036854775807 < (headT ⟨nm, wk, xs⟩).size + 1 + (bodyT xs).size := by omega
      clear f6 p4 hB hBx HI HB HRO HTK hbf p1 p2 hbt hf hk
      go_upto_region 7 with fail
      generalize wr.alloc (.cells #[.string nm, .bool wk, .slice ai xs.length ci] 45) = wf at *
      generalize wr.heap.size = fk at *
      have HST : Hid (Stable (fun w' => w'.cell? ⟨fk, 0, none⟩ = some (.string nm) ∧ w'.cell? ⟨fk, 1, none⟩ = some (.bool wk) ∧ w'.cell? ⟨fk, 2, none⟩ = some (.slice ai xs.length ci))) := (Stable.cell _ _).and ((Stable.cell _ _).and (Stable.cell _ _))
      have HS : Hid ((fun w' => w'.cell? ⟨fk, 0, none⟩ = some (.string nm) ∧ w'.cell? ⟨fk, 1, none⟩ = some (.bool wk) ∧ w'.cell? ⟨fk, 2, none⟩ = some (.slice ai xs.length ci)) wf) := (box3 hFK).1
      clear f0 f1 f2 hsz0
      replace hFK : wf.drew.heap[fk]? = some (.cells #[.string nm, .bool wk, .slice ai xs.length ci] 45) := hFK
      replace hr : InsRow wf.drew ai xs := hr
      replace hI : Lib.IsBuilderF BT U8 gb gb (Lib.byteCells s0.data.toList) wf.drew := hI
      replace hBw : Below gb wB wf.drew := hBw.drew
      replace hT : Hid (Lib.TabIs Tryd.prog wf.drew "internal/strconv.uint64pow10" .u64 Lib.pow10Tab) := hT
      replace hsw : gb ≤ wf.drew.heap.size := hsw
      refine wp_region_held_drew (S := (fun w' => w'.cell? ⟨fk, 0, none⟩ = some (.string nm) ∧ w'.cell? ⟨fk, 1, none⟩ = some (.bool wk) ∧ w'.cell? ⟨fk, 2, none⟩ = some (.slice ai xs.length ci))) (by kernel_rfl) ((unhide HST).2 _ (unhide HS)) (fun hHeld => ?_)
      generalize wf.drew = wa at *
      refine wpAnyH_take (i := 0) (oi := { dst := some 15, op := Go.Op.load 45 (Go.Operand.tmp 5), type := 45, pos := "l2_unit.go:117", after := #[], guard := none }) (v := ?v1_0) rfl (by kernel_rfl) (by kernel_rfl) (by kernel_rfl) (fun _ _ _ h => h) (Or.inl ⟨by rfl, ?y1_0⟩) (by assumption) ?r1_0
      case y1_0 => (intro w hSw; (try dsimp only at hSw); go_simp; try (with_reducible rfl))
      try simp only [Act.put, List.setIfInBounds_toArray, List.set_cons_zero, List.set_cons_succ]
      refine wpAnyH_take (i := 3) (oi := { dst := some 18, op := Go.Op.load 45 (Go.Operand.tmp 5), type := 45, pos := "l2_unit.go:117", after := #[], guard := none }) (v := ?v2_3) rfl (by kernel_rfl) (by kernel_rfl) (by kernel_rfl) (fun _ _ _ h => h) (Or.inl ⟨by rfl, ?y2_3⟩) (by assumption) ?r2_3
      case y2_3 => (intro w hSw; (try dsimp only at hSw); go_simp; try (with_reducible rfl))
      try simp only [Act.put, List.setIfInBounds_toArray, List.set_cons_zero, List.set_cons_succ]
      refine wpAnyH_ready (rs := [1]) (by kernel_rfl) (by simp) ?_
      refine AllReadyH.cons (o := { dst := some 16, op := Go.Op.call { callee := Go.Callee.value (Go.Operand.func 29), args := #[Go.Operand.tmp 15], argTypes := #[45] }, type := 9, pos := "l2_unit.go:117", after := #[{ on := 0, ground := Go.Ground.data }], guard := none }) rfl (fun K hK => ?_) AllReadyH.nil
      go_simp
      go_at_call 29
      refine (headText_any nm wk _ xs _ (by omega)).mono ?_
      rintro e w5 ⟨rfl, hbk⟩
      replace hHeld := (unhide HST).1 _ _ hbk hHeld
      replace hFK := box_below hFK hbk
      replace hr := hr.below hbk
      replace hI := bld_below hI hbk
      replace hT := hide (tab_stays Text.gPow (unhide hT) hbk (Nat.le_refl _))
      replace hBw := hBw.trans (hbk.mono hsw)
      replace hsw := Nat.le_trans hsw hbk.size
      clear hbk
      go_wp2_with fail
      refine hK.out _ _ hHeld (fun _ => ?_)
      clear hK K
      try simp only [Act.put, List.setIfInBounds_toArray, List.set_cons_zero, List.set_cons_succ]
      refine wpAnyH_take (i := 2) (oi := { dst := some 17, op := Go.Op.binOp Go.BinOp.add 9 (Go.Operand.tmp 16) (Go.Operand.const (Go.Value.string { data := #[10] })) 9, type := 9, pos := "l2_unit.go:117", after := #[{ on := 1, ground := Go.Ground.data }], guard := none }) (v := ?v3_2) rfl (by kernel_rfl) (by kernel_rfl) (by kernel_rfl) (fun _ _ _ h => h) (Or.inl ⟨by rfl, ?y3_2⟩) (by assumption) ?r3_2
      case y3_2 => (intro w hSw; (try dsimp only at hSw); go_simp; try (with_reducible rfl))
      try simp only [Act.put, List.setIfInBounds_toArray, List.set_cons_zero, List.set_cons_succ]
      refine wpAnyH_ready (rs := [4]) (by kernel_rfl) (by simp) ?_
      refine AllReadyH.cons (o := { dst := some 19, op := Go.Op.call { callee := Go.Callee.value (Go.Operand.func 23), args := #[Go.Operand.tmp 18], argTypes := #[45] }, type := 9, pos := "l2_unit.go:117", after := #[{ on := 3, ground := Go.Ground.data }, { on := 1, ground := Go.Ground.chain }], guard := none }) rfl (fun K hK => ?_) AllReadyH.nil
      go_simp
      go_at_call 23
      refine (bodyText_any nm wk _ _ xs _ f4 f5 p3 (unhide HAO) hr hT).mono ?_
      rintro e w6 ⟨rfl, hbk⟩
      replace hHeld := (unhide HST).1 _ _ hbk hHeld
      replace hFK := box_below hFK hbk
      replace hr := hr.below hbk
      replace hI := bld_below hI hbk
      replace hT := hide (tab_stays Text.gPow (unhide hT) hbk (Nat.le_refl _))
      replace hBw := hBw.trans (hbk.mono hsw)
      replace hsw := Nat.le_trans hsw hbk.size
      clear hbk
      go_wp2_with fail
      refine hK.out _ _ hHeld (fun _ => ?_)
      clear hK K
      try simp only [Act.put, List.setIfInBounds_toArray, List.set_cons_zero, List.set_cons_succ]
      refine wpAnyH_take (i := 5) (oi := { dst := some 20, op := Go.Op.binOp Go.BinOp.add 9 (Go.Operand.tmp 17) (Go.Operand.tmp 19) 9, type := 9, pos := "l2_unit.go:117", after := #[{ on := 2, ground := Go.Ground.data }, { on := 4, ground := Go.Ground.data }], guard := none }) (v := ?v4_5) rfl (by kernel_rfl) (by kernel_rfl) (by kernel_rfl) (fun _ _ _ h => h) (Or.inl ⟨by rfl, ?y4_5⟩) (by assumption) ?r4_5
      case y4_5 => (intro w hSw; (try dsimp only at hSw); go_simp; try (with_reducible rfl))
      try simp only [Act.put, List.setIfInBounds_toArray, List.set_cons_zero, List.set_cons_succ]
      refine wpAnyH_ready (rs := [6]) (by kernel_rfl) (by simp) ?_
      refine AllReadyH.cons (o := { dst := some 21, op := Go.Op.call { callee := Go.Callee.value (Go.Operand.func 28), args := #[Go.Operand.tmp 3, Go.Operand.tmp 20], argTypes := #[57, 9] }, type := 60, pos := "l2_unit.go:117", after := #[{ on := 5, ground := Go.Ground.data }, { on := 4, ground := Go.Ground.chain }], guard := none }) rfl (fun K hK => ?_) AllReadyH.nil
      go_simp
      go_at_call 28
      refine (writeString_any gb gb _ (headT ⟨nm, wk, xs⟩ ++ endB ++ bodyT xs) _ hI (by rw [bc_len, ByteArray.size_append, ByteArray.size_append]; have e1 : endB.size = 1 := rfl; omega) hsw).mono ?_
      rintro e w7 ⟨rfl, hI7, hb7, ho7⟩
      rw [cells_str, unhide HLN] at hI7
      have hB7 := hBw.trans hb7
      have hFK7 := ho7 _ _ hFK (by simpa using hfk) (by intro c fz h; injection h with _ h _; exact absurd h (by decide))
      have HI7 := hide hI7
      have hHeld7 : (fun w' => w'.cell? ⟨fk, 0, none⟩ = some (.string nm) ∧ w'.cell? ⟨fk, 1, none⟩ = some (.bool wk) ∧ w'.cell? ⟨fk, 2, none⟩ = some (.slice ai xs.length ci)) w7 := (box3 hFK7).1
      clear hI7 hb7 ho7 hI hr hT hBw hsw hFK
      go_wp2_with fail
      refine hK.out _ _ hHeld7 (fun _ => ?_)
      clear hK K
      try simp only [Act.put, List.setIfInBounds_toArray, List.set_cons_zero, List.set_cons_succ]
      refine wpAnyH_done (by kernel_rfl) ?_ _
      go_wp2_with fail
      exact ⟨⟨k + 1, by omega, by go_num, HI7, hB7⟩, by simp [intOf]; omega⟩
    · have hkl' : ¬ (k : Int) < (fs.length : Int) := by omega
      have hke : k = fs.length := by omega
      have HI2 : Hid (Lib.IsBuilderF BT U8 gb gb (Lib.byteCells (unitN fs fs.length).data.toList) wr) := by rw [← hke]; exact HI
      clear hke HI
      go_wp2_with fail
      refine (Tryd.Builder_String_any_f gb gb _ _ (unhide HI2) hsz0).mono ?_
      rintro e w3 ⟨rfl, _, hb3⟩
      go_wp2_with fail
      go_ret
      exact ⟨ret_str (by rw [unhide HE]), bl_trans hB0 (by rw [unhide HBB]; exact Below.trans hB hb3)⟩
end Go.Proofs.YthbbmookhcalkaaDoor.UTxt
