/- The contract of withNames with what a chain tells. -/
import Derived.Test.YthbbmookhcalkaaGreatDoorFoldN
namespace Go.Proofs.YthbbmookhcalkaaGreatDoor.FoldT
open Go.ChangeShapes Go.WideShapes Go.ChangeAt Go.RowKit Go.Joins Go.Deep
open Go.Proofs.YthbbmookhcalkaaGreatDoor.Base Go.Proofs.YthbbmookhcalkaaGreatDoor.InsA Go.Proofs.YthbbmookhcalkaaGreatDoor.Name Go.Proofs.YthbbmookhcalkaaGreatDoor.InsB Go.Proofs.YthbbmookhcalkaaGreatDoor.Funs Go.Proofs.YthbbmookhcalkaaGreatDoor.Open Go.Proofs.YthbbmookhcalkaaGreatDoor.FunS Go.Proofs.YthbbmookhcalkaaGreatDoor.Keep Go.Proofs.YthbbmookhcalkaaGreatDoor.Mark Go.Proofs.YthbbmookhcalkaaGreatDoor.Concat Go.Proofs.YthbbmookhcalkaaGreatDoor.KeepC Go.Proofs.YthbbmookhcalkaaGreatDoor.MarkV Go.Proofs.YthbbmookhcalkaaGreatDoor.FoldR Go.Proofs.YthbbmookhcalkaaGreatDoor.FoldN
set_option linter.unusedVariables false
set_option maxRecDepth 100000

set_option maxHeartbeats 8000000 in
theorem withTold_any (cv : Value) (P : World → Prop) (tf : ByteArray → ByteArray) (nm : ByteArray) (wk : Bool) (a : Option Addr) (cap : Nat) (xs : List InsD) (w : World) (hP : Stable P) (hPs : ∀ w' b i v, w.heap.size ≤ b → P w' → P (w'.setCell ⟨b, i, none⟩ v)) (hT : ∀ s w', s.size ≤ maxLen → P w' → Calls Tryz.prog 82 #[cv, .string s] w' fun e w'' => e = .returned (.string (tf s)) ∧ Below w'.heap.size w' w'') (hPw : P w) (hcap : xs.length ≤ cap) (hcm : cap ≤ maxLen) (h1 : 0 < xs.length) (hl : xs.length ≤ 1000) (hnm : nm.size ≤ maxLen) (hR : InsRow w a xs) :
    Calls Tryz.prog 37 #[.agg #[.string nm, .bool wk, .slice a xs.length cap], (.func (.func 82) #[cv] #[])] w (Made w ⟨nm, wk, mapB tf xs⟩) := by
  have HT := hide hT
  have HP := hide hP
  have HPS := hide hPs
  have HTZ : Hid (∀ x ∈ xs, x.s.size ≤ maxLen) := hR.sizes
  have hB0 := below_alloc2 w (.cells #[.string nm, .bool wk, .slice a xs.length cap] 28) (.cells #[.string ⟨#[]⟩, .bool false, .slice none 0 0] 28)
  have hnb := new_block (w.alloc (.cells #[.string nm, .bool wk, .slice a xs.length cap] 28)) (.cells #[.string ⟨#[]⟩, .bool false, .slice none 0 0] 28)
  have hna := box_below (new_block w (.cells #[.string nm, .bool wk, .slice a xs.length cap] 28)) (below_alloc1 _ (.cells #[.string ⟨#[]⟩, .bool false, .slice none 0 0] 28))
  have HC := hide (fun ty => copy_at (ty := ty) hB0 (Nat.le_refl _) hna (hR.below hB0) h1 hl)
  have HPW := hide (hP.1 _ _ hB0 hPw)
  have HNA := hide hna
  simp only [World.size_alloc] at hnb
  have HNB := hide hnb
  have HSZ : Hid (((w.alloc (.cells #[.string nm, .bool wk, .slice a xs.length cap] 28)).alloc (.cells #[.string ⟨#[]⟩, .bool false, .slice none 0 0] 28)).heap.size = w.heap.size + 2) := by show _ = _; simp only [World.size_alloc]
  have hln : (xs.length : Int) ≤ 9223372036854775807 := by omega
  clear hT hP hPs hR hna hPw hB0 hnb
  go_enter Tryz.func37, Tryz.ntmps37
  go_upto_region 1 with fail
  generalize (w.alloc (.cells #[.string nm, .bool wk, .slice a xs.length cap] 28)).alloc (.cells #[.string ⟨#[]⟩, .bool false, .slice none 0 0] 28) = W0 at *
  obtain ⟨⟨x0, x1, x2⟩, _⟩ := box3 (unhide HNA)
  go_wp2_with (first
    | (at_builtin; obtain ⟨g, c, w2, hrun, ⟨e2, f2⟩, hb0, hO, hB, hoth, hp⟩ := unhide HC _; refine Lib.wpList_append_run _ rfl _ _ _ _ rfl _ _ rfl rfl _ _ hrun ?_; have HX0 := hide hb0; have HO := hide hO; have HB := hide hB; have HOT := hide hoth; have HPP := hide (hp P (unhide HP) (unhide HPS) (unhide HPW)); obtain ⟨⟨y0, y1, y2⟩, _⟩ := box3 hb0; clear hrun hb0 hO hB hoth hp)
    | go_in)
  have HX1 := hide ((unhide HOT (w.heap.size + 1) (by rw [unhide HSZ]; omega) (by omega)).trans (unhide HNB))
  generalize w2.setCell ⟨w.heap.size, 2, none⟩ (.slice (some ⟨g, 0, none⟩) xs.length c) = wl at *
  rw [unhide HSZ] at HO
  clear HOT HNB HNA HPW HC x0 x1 x2 e2 f2
  go_loopw [14] (fun i w' => ∃ k : Nat, k ≤ xs.length ∧ i = .int .i64 k ∧ Hid (w'.heap[w.heap.size]? = some (.cells #[.string nm, .bool wk, .slice (some ⟨g, 0, none⟩) xs.length c] 28)) ∧ Hid (w'.heap[w.heap.size + 1]? = some (.cells #[.string ⟨#[]⟩, .bool false, .slice none 0 0] 28)) ∧ Hid (InsO w' (w.heap.size + 2) (.slice (some ⟨g, 0, none⟩) xs.length c) (curB tf xs k)) ∧ Hid (Below w.heap.size w w') ∧ Hid (P w')) (fun i _ => xs.length - (intOf i).toNat)
  case atStart => exact ⟨0, Nat.zero_le _, rfl, HX0, HX1, by rw [curB_zero]; exact HO, HB, HPP⟩
  case round =>
    clear HX0 HX1 HO HB HPP y0 y1 y2
    obtain ⟨k, hk, rfl, HX0, HX1, HO, HB, HPP⟩ := hrel
    by_cases hkl : k < xs.length
    · have hkl' : (k : Int) < (xs.length : Int) := by omega
      have hk0 : (0 : Int) ≤ (k : Int) := by omega
      have hcl := curB_len tf hk
      obtain ⟨c0, c1, c2, cf⟩ := insO_cells hcl.symm (unhide HO) (show k < (curB tf xs k).length by omega)
      have hat : (curB tf xs k)[k]'(by omega) = xs[k] := curB_at hkl (by omega)
      rw [hat] at c0 c1 c2
      have hgl := insO_lt (unhide HO)
      have HSTO := hide (fun W (h : InsO W (w.heap.size + 2) (.slice (some ⟨g, 0, none⟩) xs.length c) (curB tf xs k)) => insO_store hcl.symm h (show k < (curB tf xs k).length by omega) (tf xs[k].s))
      rw [hat] at HSTO
      have HSK := hide (curB_skip (tf := tf) hkl)
      have HYS := hide (curB_step (tf := tf) hkl)
      have hxsz := unhide HTZ xs[k] (List.getElem_mem _)
      have hbx := below_alloc1 wr (.cells #[.int .i64 xs[k].o, .int .i64 xs[k].n, .string xs[k].s] 105)
      have HNX := hide (new_block wr (.cells #[.int .i64 xs[k].o, .int .i64 xs[k].n, .string xs[k].s] 105))
      replace HX0 := hide (box_below (unhide HX0) hbx)
      replace HX1 := hide (box_below (unhide HX1) hbx)
      replace HO := hide (insO_below (unhide HO) hbx)
      replace HB := hide (bl_trans (unhide HB) hbx)
      replace HPP := hide ((unhide HP).1 _ _ hbx (unhide HPP))
      generalize xs[k] = x at *
      clear hbx hat cf
      go_wp2_with fail
      refine (implRefs_any _ _ _ _).mono ?_
      rintro e w1 ⟨rfl, hb1⟩
      replace HX0 := hide (box_below (unhide HX0) hb1)
      replace HX1 := hide (box_below (unhide HX1) hb1)
      replace HNX := hide (box_below (unhide HNX) hb1)
      replace HO := hide (insO_below (unhide HO) hb1)
      replace HB := hide (bl_trans (unhide HB) hb1)
      replace HPP := hide ((unhide HP).1 _ _ hb1 (unhide HPP))
      clear hb1 c0 c1 c2
      generalize hxb : wr.heap.size = xb at *
      clear hxb
      have hgb : g < xb := hgl.2
      cases hrf : refsB x.o
      · have HCS := unhide HSK hrf
        go_wp2_with fail
        exact ⟨⟨k + 1, by omega, by go_num, HX0, HX1, by rw [HCS]; exact HO, HB, HPP⟩, by simp [intOf]; omega⟩
      · have HCS : Hid (curB tf xs (k + 1) = (curB tf xs k).set k ⟨x.o, x.n, tf x.s⟩) := by
          show _ = _
          rw [unhide HYS, mapI_yes hrf]
        have HST : Hid (Stable (fun w' => w'.cell? ⟨w.heap.size, 2, none⟩ = some (.slice (some ⟨g, 0, none⟩) xs.length c) ∧ w'.cell? ⟨xb, 2, none⟩ = some (.string x.s))) := (Stable.cell _ _).and (Stable.cell _ _)
        have HS : Hid ((fun w' => w'.cell? ⟨w.heap.size, 2, none⟩ = some (.slice (some ⟨g, 0, none⟩) xs.length c) ∧ w'.cell? ⟨xb, 2, none⟩ = some (.string x.s)) w1) := ⟨(box3 (unhide HX0)).1.2.2, (box3 (unhide HNX)).1.2.2⟩
        clear HSK HYS hcl
        go_upto_region 6 with fail
        obtain ⟨hX0, hX1, hO, hB, hPP⟩ := (⟨unhide HX0, unhide HX1, unhide HO, unhide HB, unhide HPP⟩ : w1.drew.heap[w.heap.size]? = some (.cells #[.string nm, .bool wk, .slice (some ⟨g, 0, none⟩) xs.length c] 28) ∧ w1.drew.heap[w.heap.size + 1]? = some (.cells #[.string ⟨#[]⟩, .bool false, .slice none 0 0] 28) ∧ InsO w1 (w.heap.size + 2) (.slice (some ⟨g, 0, none⟩) xs.length c) (curB tf xs k) ∧ Below w.heap.size w w1 ∧ P w1)
        replace hO : InsO w1.drew (w.heap.size + 2) (.slice (some ⟨g, 0, none⟩) xs.length c) (curB tf xs k) := World.ownsRow.drew hO
        replace hB : Below w.heap.size w w1.drew := hB.drew
        replace hPP : P w1.drew := (unhide HP).2 _ hPP
        clear HX0 HX1 HO HB HPP HNX
        refine wp_region_held_drew (S := (fun w' => w'.cell? ⟨w.heap.size, 2, none⟩ = some (.slice (some ⟨g, 0, none⟩) xs.length c) ∧ w'.cell? ⟨xb, 2, none⟩ = some (.string x.s))) (by kernel_rfl) ((unhide HST).2 _ (unhide HS)) (fun hHeld => ?_)
        generalize w1.drew = wa at *
        refine wpAnyH_take (i := 0) (oi := { dst := some 21, op := Go.Op.fieldAddr 28 (Go.Operand.tmp 2) 2, type := 0, pos := "l10_fold.go:69", after := #[], guard := none }) (v := ?v1_0) rfl (by kernel_rfl) (by kernel_rfl) (by kernel_rfl) (fun _ _ _ h => h) (Or.inl ⟨by rfl, ?y1_0⟩) (by assumption) ?r1_0
        case y1_0 => (intro w hSw; (try dsimp only at hSw); go_simp; try (with_reducible rfl))
        try simp only [Act.put, List.setIfInBounds_toArray, List.set_cons_zero, List.set_cons_succ]
        refine wpAnyH_take (i := 1) (oi := { dst := some 22, op := Go.Op.load 26 (Go.Operand.tmp 21), type := 26, pos := "l10_fold.go:69", after := #[{ on := 0, ground := Go.Ground.data }], guard := none }) (v := ?v2_1) rfl (by kernel_rfl) (by kernel_rfl) (by kernel_rfl) (fun _ _ _ h => h) (Or.inl ⟨by rfl, ?y2_1⟩) (by assumption) ?r2_1
        case y2_1 => (intro w hSw; (try dsimp only at hSw); go_simp; try (with_reducible rfl))
        try simp only [Act.put, List.setIfInBounds_toArray, List.set_cons_zero, List.set_cons_succ]
        refine wpAnyH_take (i := 2) (oi := { dst := some 23, op := Go.Op.move (Go.Operand.tmp 5), type := 3, pos := "l10_fold.go:69", after := #[], guard := none }) (v := ?v3_2) rfl (by kernel_rfl) (by kernel_rfl) (by kernel_rfl) (fun _ _ _ h => h) (Or.inl ⟨by rfl, ?y3_2⟩) (by assumption) ?r3_2
        case y3_2 => (intro w hSw; (try dsimp only at hSw); go_simp; try (with_reducible rfl))
        try simp only [Act.put, List.setIfInBounds_toArray, List.set_cons_zero, List.set_cons_succ]
        refine wpAnyH_take (i := 3) (oi := { dst := some 24, op := Go.Op.move (Go.Operand.tmp 1), type := 66, pos := "l10_fold.go:69", after := #[], guard := none }) (v := ?v4_3) rfl (by kernel_rfl) (by kernel_rfl) (by kernel_rfl) (fun _ _ _ h => h) (Or.inl ⟨by rfl, ?y4_3⟩) (by assumption) ?r4_3
        case y4_3 => (intro w hSw; (try dsimp only at hSw); go_simp; try (with_reducible rfl))
        try simp only [Act.put, List.setIfInBounds_toArray, List.set_cons_zero, List.set_cons_succ]
        refine wpAnyH_take (i := 4) (oi := { dst := some 25, op := Go.Op.fieldAddr 105 (Go.Operand.tmp 6) 2, type := 0, pos := "l10_fold.go:69", after := #[], guard := none }) (v := ?v5_4) rfl (by kernel_rfl) (by kernel_rfl) (by kernel_rfl) (fun _ _ _ h => h) (Or.inl ⟨by rfl, ?y5_4⟩) (by assumption) ?r5_4
        case y5_4 => (intro w hSw; (try dsimp only at hSw); go_simp; try (with_reducible rfl))
        try simp only [Act.put, List.setIfInBounds_toArray, List.set_cons_zero, List.set_cons_succ]
        refine wpAnyH_take (i := 5) (oi := { dst := some 26, op := Go.Op.load 9 (Go.Operand.tmp 25), type := 9, pos := "l10_fold.go:69", after := #[{ on := 4, ground := Go.Ground.data }], guard := none }) (v := ?v6_5) rfl (by kernel_rfl) (by kernel_rfl) (by kernel_rfl) (fun _ _ _ h => h) (Or.inl ⟨by rfl, ?y6_5⟩) (by assumption) ?r6_5
        case y6_5 => (intro w hSw; (try dsimp only at hSw); go_simp; try (with_reducible rfl))
        try simp only [Act.put, List.setIfInBounds_toArray, List.set_cons_zero, List.set_cons_succ]
        refine wpAnyH_ready (rs := [6]) (by kernel_rfl) (by simp) ?_
        refine AllReadyH.cons (o := { dst := some 27, op := Go.Op.call { callee := Go.Callee.value (Go.Operand.tmp 24), args := #[Go.Operand.tmp 26], argTypes := #[9] }, type := 9, pos := "l10_fold.go:69", after := #[{ on := 3, ground := Go.Ground.data }, { on := 5, ground := Go.Ground.data }], guard := none }) rfl (fun K hK => ?_) AllReadyH.nil
        go_simp
        go_at_call 82
        refine (unhide HT x.s _ hxsz hPP).mono ?_
        rintro e w5 ⟨rfl, hbk⟩
        replace hHeld := (unhide HST).1 _ _ hbk hHeld
        replace hX0 := box_below hX0 hbk
        replace hX1 := box_below hX1 hbk
        replace hO := insO_below hO hbk
        replace hB := bl_trans hB hbk
        replace hPP := (unhide HP).1 _ _ hbk hPP
        clear hbk
        go_wp2_with fail
        refine hK.out _ _ hHeld (fun _ => ?_)
        clear hK K
        try simp only [Act.put, List.setIfInBounds_toArray, List.set_cons_zero, List.set_cons_succ]
        refine wpAnyH_take (i := 7) (oi := { dst := some 28, op := Go.Op.indexAddr 26 (Go.Operand.tmp 22) (Go.Operand.tmp 23), type := 0, pos := "l10_fold.go:69", after := #[{ on := 1, ground := Go.Ground.data }, { on := 2, ground := Go.Ground.data }, { on := 0, ground := Go.Ground.phase }, { on := 1, ground := Go.Ground.phase }, { on := 2, ground := Go.Ground.phase }, { on := 3, ground := Go.Ground.phase }, { on := 4, ground := Go.Ground.phase }, { on := 5, ground := Go.Ground.phase }, { on := 6, ground := Go.Ground.phase }], guard := none }) (v := ?v7_7) rfl (by kernel_rfl) (by kernel_rfl) (by kernel_rfl) (fun _ _ _ h => h) (Or.inl ⟨by rfl, ?y7_7⟩) (by assumption) ?r7_7
        case y7_7 => (intro w hSw; (try dsimp only at hSw); go_simp; try (with_reducible rfl))
        try simp only [Act.put, List.setIfInBounds_toArray, List.set_cons_zero, List.set_cons_succ]
        refine wpAnyH_take (i := 8) (oi := { dst := some 29, op := Go.Op.fieldAddr 105 (Go.Operand.tmp 28) 2, type := 0, pos := "l10_fold.go:69", after := #[{ on := 7, ground := Go.Ground.data }, { on := 0, ground := Go.Ground.phase }, { on := 1, ground := Go.Ground.phase }, { on := 2, ground := Go.Ground.phase }, { on := 3, ground := Go.Ground.phase }, { on := 4, ground := Go.Ground.phase }, { on := 5, ground := Go.Ground.phase }, { on := 6, ground := Go.Ground.phase }], guard := none }) (v := ?v8_8) rfl (by kernel_rfl) (by kernel_rfl) (by kernel_rfl) (fun _ _ _ h => h) (Or.inl ⟨by rfl, ?y8_8⟩) (by assumption) ?r8_8
        case y8_8 => (intro w hSw; (try dsimp only at hSw); go_simp; try (with_reducible rfl))
        try simp only [Act.put, List.setIfInBounds_toArray, List.set_cons_zero, List.set_cons_succ]
        refine wpAnyH_ready (rs := [9]) (by kernel_rfl) (by simp) ?_
        refine AllReadyH.cons (o := { dst := none, op := Go.Op.store 9 (Go.Operand.tmp 29) (Go.Operand.tmp 27), type := 0, pos := "l10_fold.go:69", after := #[{ on := 8, ground := Go.Ground.data }, { on := 6, ground := Go.Ground.data }, { on := 6, ground := Go.Ground.chain }, { on := 0, ground := Go.Ground.phase }, { on := 1, ground := Go.Ground.phase }, { on := 2, ground := Go.Ground.phase }, { on := 3, ground := Go.Ground.phase }, { on := 4, ground := Go.Ground.phase }, { on := 5, ground := Go.Ground.phase }, { on := 6, ground := Go.Ground.phase }], guard := none }) rfl (fun K hK => ?_) AllReadyH.nil
        obtain ⟨_, _, d2, df⟩ := insO_cells (curB_len tf hk).symm hO (show k < (curB tf xs k).length by rw [curB_len tf hk]; exact hkl)
        go_simp
        have hO9 := unhide HSTO _ hO
        have hB9 := hB.setCell (p := ⟨g, k * 3 + 2, none⟩) (by show w.heap.size ≤ g; omega) (.string (tf x.s))
        have hP9 := unhide HPS _ g (k * 3 + 2) (.string (tf x.s)) (by omega) hPP
        have hX09 := set_oth (o := k * 3 + 2) (v := .string (tf x.s)) hX0 (show g ≠ w.heap.size by omega)
        have hX19 := set_oth (o := k * 3 + 2) (v := .string (tf x.s)) hX1 (show g ≠ w.heap.size + 1 by omega)
        replace hHeld : (fun w' => w'.cell? ⟨w.heap.size, 2, none⟩ = some (.slice (some ⟨g, 0, none⟩) xs.length c) ∧ w'.cell? ⟨xb, 2, none⟩ = some (.string x.s)) (w5.setCell ⟨g, k * 3 + 2, none⟩ (.string (tf x.s))) := ⟨(World.cell?_setCell_far _ _ _ _ (by show g ≠ w.heap.size; omega)).trans hHeld.1, (World.cell?_setCell_far _ _ _ _ (by show g ≠ xb; omega)).trans hHeld.2⟩
        clear hO hB hPP hX0 hX1 d2 df
        refine hK.out _ _ hHeld (fun _ => ?_)
        clear hK K
        try simp only [Act.put, List.setIfInBounds_toArray, List.set_cons_zero, List.set_cons_succ]
        generalize w5.setCell ⟨g, k * 3 + 2, none⟩ (.string (tf x.s)) = w6 at *
        refine wpAnyH_done (by kernel_rfl) ?_ _
        go_wp2_with fail
        exact ⟨⟨k + 1, by omega, by go_num, hX09, hX19, by rw [unhide HCS]; exact hO9, hB9, hP9⟩, by simp [intOf]; omega⟩
    · have hkl' : ¬ (k : Int) < (xs.length : Int) := by omega
      have hke : k = xs.length := by omega
      rw [hke, curB_end] at HO
      have hB := unhide HB
      obtain ⟨⟨x0, x1, x2⟩, _⟩ := box3 (unhide HX0)
      obtain ⟨⟨y0, y1, y2⟩, yf⟩ := box3 (unhide HX1)
      go_wp2_with fail
      have hz1 := block_setCell (i := 2) (block_setCell (i := 1) (block_setCell (i := 0) (unhide HX1) (.string nm)) (.bool wk)) (.slice (some ⟨g, 0, none⟩) xs.length c)
      have hOz := insO_set (i := 2) (u := .slice (some ⟨g, 0, none⟩) xs.length c) (insO_set (i := 1) (u := .bool wk) (insO_set (i := 0) (u := .string nm) (unhide HO) (show w.heap.size + 1 < _ by omega)) (show w.heap.size + 1 < _ by omega)) (show w.heap.size + 1 < _ by omega)
      have hBz := ((hB.setCell (p := ⟨w.heap.size + 1, 0, none⟩) (by show _ ≤ w.heap.size + 1; omega) (.string nm)).setCell (p := ⟨w.heap.size + 1, 1, none⟩) (by show _ ≤ w.heap.size + 1; omega) (.bool wk)).setCell (p := ⟨w.heap.size + 1, 2, none⟩) (by show _ ≤ w.heap.size + 1; omega) (.slice (some ⟨g, 0, none⟩) xs.length c)
      generalize ((wr.setCell ⟨w.heap.size + 1, 0, none⟩ (.string nm)).setCell ⟨w.heap.size + 1, 1, none⟩ (.bool wk)).setCell ⟨w.heap.size + 1, 2, none⟩ (.slice (some ⟨g, 0, none⟩) xs.length c) = wz at *
      have hr := (box3 (v0 := .string nm) (v1 := .bool wk) (v2 := .slice (some ⟨g, 0, none⟩) xs.length c) hz1).1
      exact bodyPost_ret (v := .agg #[.string nm, .bool wk, .slice (some ⟨g, 0, none⟩) xs.length c]) (by simp [results, Tryz.results37, go_sem, hr]) rfl ⟨_, rfl, insO_base hOz (by omega), hBz⟩
end Go.Proofs.YthbbmookhcalkaaGreatDoor.FoldT
