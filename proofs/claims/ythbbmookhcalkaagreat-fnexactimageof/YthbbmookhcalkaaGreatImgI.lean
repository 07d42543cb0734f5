/- The program's ImageOf. -/
import Derived.Test.YthbbmookhcalkaaGreatImgC
import Derived.Test.YthbbmookhcalkaaGreatLayQ
import Derived.Test.YthbbmookhcalkaaGreatLayJ
import Derived.Test.YthbbmookhcalkaaGreatLayK
import Derived.Deep.Cut
namespace Go.Proofs.YthbbmookhcalkaaGreat.ImgI
open Go.ChangeShapes Go.WideShapes Go.ChangeAt Go.RowKit Go.Joins Go.WideMaps Go.Maps Go.Deep
open Go.Proofs.YthbbmookhcalkaaGreat.Base Go.Proofs.YthbbmookhcalkaaGreat.InsA Go.Proofs.YthbbmookhcalkaaGreat.Funs Go.Proofs.YthbbmookhcalkaaGreat.Open Go.Proofs.YthbbmookhcalkaaGreat.FunS Go.Proofs.YthbbmookhcalkaaGreat.Keep Go.Proofs.YthbbmookhcalkaaGreat.UnitS Go.Proofs.YthbbmookhcalkaaGreat.UnitM Go.Proofs.YthbbmookhcalkaaGreat.Refs Go.Proofs.YthbbmookhcalkaaGreat.Concat Go.Proofs.YthbbmookhcalkaaGreat.KeepC Go.Proofs.YthbbmookhcalkaaGreat.LayN Go.Proofs.YthbbmookhcalkaaGreat.LayA Go.Proofs.YthbbmookhcalkaaGreat.KeepD Go.Proofs.YthbbmookhcalkaaGreat.KeepA Go.Proofs.YthbbmookhcalkaaGreat.LayD Go.Proofs.YthbbmookhcalkaaGreat.LayS Go.Proofs.YthbbmookhcalkaaGreat.LayT Go.Proofs.YthbbmookhcalkaaGreat.LayG Go.Proofs.YthbbmookhcalkaaGreat.LayH Go.Proofs.YthbbmookhcalkaaGreat.LayJ Go.Proofs.YthbbmookhcalkaaGreat.LayK Go.Proofs.YthbbmookhcalkaaGreat.LayP Go.Proofs.YthbbmookhcalkaaGreat.LayQ Go.Proofs.YthbbmookhcalkaaGreat.CellA Go.Proofs.YthbbmookhcalkaaGreat.ImgC
set_option linter.unusedVariables false
set_option maxRecDepth 100000

set_option maxHeartbeats 4000000 in
theorem cellOf_any (ga : Option Addr) (gc B1 B2 sz : Nat) (fs : List FunD) (ns : List Int) (st : List (List ByteArray)) (r at_ : Int) (x : InsD) (w : World) (hL : Lying fs ns st) (hst : ∀ ss ∈ st, ∀ x ∈ ss, 0 ≤ findI fs x) (hap : apartF fs = true) (hp0 : 0 ≤ at_) (hp1 : at_ ≤ 42000100) (hsz : x.s.size ≤ maxLen) (hG : GA w ga gc B1 B2 fs st) :
    Calls Tryz.prog 27 #[.agg #[.slice ga fs.length gc, .map (some B1), .map (some B2), .int .i64 (sz : Int)], .int .i64 r, .int .i64 at_, .agg #[.int .i64 x.o, .int .i64 x.n, .string x.s]] w fun e w' => e = .returned (.agg #[.int .i64 (cellI fs st r at_ x).f, .int .i64 (cellI fs st r at_ x).p]) ∧ Below w.heap.size w w' := by
  obtain ⟨W0, hW0⟩ : ∃ W0, ((w.alloc (.cells #[.slice ga fs.length gc, .map (some B1), .map (some B2), .int .i64 (sz : Int)] 58)).alloc (.cells #[.int .i64 x.o, .int .i64 x.n, .string x.s] 61)).alloc (.cells #[.int .i64 0, .int .i64 0] 63) = W0 := ⟨_, rfl⟩
  have hB : Below w.heap.size w W0 := by rw [← hW0]; exact below_alloc3 _ _ _ _
  have HBL : Hid (W0.heap[w.heap.size]? = some (.cells #[.slice ga fs.length gc, .map (some B1), .map (some B2), .int .i64 (sz : Int)] 58)) := by show _ = _; rw [← hW0]; exact box_below (box_below (new_block w _) (below_alloc1 _ _)) (below_alloc1 _ _)
  have HBI : Hid (W0.heap[w.heap.size + 1]? = some (.cells #[.int .i64 x.o, .int .i64 x.n, .string x.s] 61)) := by
    show _ = _
    rw [← hW0]
    have h := new_block (w.alloc (.cells #[.slice ga fs.length gc, .map (some B1), .map (some B2), .int .i64 (sz : Int)] 58)) (.cells #[.int .i64 x.o, .int .i64 x.n, .string x.s] 61)
    rw [World.size_alloc] at h
    exact box_below h (below_alloc1 _ _)
  have hBC : W0.heap[w.heap.size + 1 + 1]? = some (.cells #[.int .i64 0, .int .i64 0] 63) := by
    rw [← hW0]
    have h := new_block ((w.alloc (.cells #[.slice ga fs.length gc, .map (some B1), .map (some B2), .int .i64 (sz : Int)] 58)).alloc (.cells #[.int .i64 x.o, .int .i64 x.n, .string x.s] 61)) (.cells #[.int .i64 0, .int .i64 0] 63)
    rw [World.size_alloc, World.size_alloc] at h
    exact h
  have HW0 := hide hW0
  clear hW0
  replace hG := hG.below hB
  obtain ⟨tz0, tz1⟩ := toI_bd hL r at_ x.s
  go_enter Tryz.func27, Tryz.ntmps27
  go_upto_region 1 with fail
  rw [unhide HW0]
  clear HW0
  obtain ⟨⟨i0, i1, i2⟩, _⟩ := box3 (unhide HBI)
  go_wp2_with fail
  refine (implRefs_any _ _ _ _).mono ?_
  rintro e w1 ⟨rfl, hb1⟩
  replace HBL := hide (box_below (unhide HBL) hb1)
  replace HBI := hide (box_below (unhide HBI) hb1)
  replace hBC := box_below hBC hb1
  replace hB := bl_trans hB hb1
  replace hG := hG.below hb1
  clear hb1 i0 i1 i2
  obtain ⟨⟨i0, i1, i2⟩, _⟩ := box3 (unhide HBI)
  cases hr : refsB x.o
  · have HEV : Hid ((⟨x.o, x.n⟩ : CellD) = cellI fs st r at_ x) := by show _ = _; unfold cellI; rw [hr]; rfl
    have hrN := box2 hBC
    have hFb := (box2 (block_setCell (i := 1) (block_setCell (i := 0) hBC (.int .i64 x.o)) (.int .i64 x.n))).1
    have hB9 := (hB.setCell (p := ⟨w.heap.size + 1 + 1, 0, none⟩) (by show w.heap.size ≤ w.heap.size + 1 + 1; omega) (.int .i64 x.o)).setCell (p := ⟨w.heap.size + 1 + 1, 1, none⟩) (by show w.heap.size ≤ w.heap.size + 1 + 1; omega) (.int .i64 x.n)
    clear hG
    go_wp2_with fail
    exact bodyPost_ret (v := .agg #[.int .i64 x.o, .int .i64 x.n]) (by simp [results, Tryz.results27, go_sem, hFb.1, hFb.2]) rfl ⟨by rw [← unhide HEV], hB9⟩
  · have hBLc := (box4 (unhide HBL)).1
    obtain ⟨z, hzv⟩ : ∃ z, toI fs st r at_ x.s - at_ = z := ⟨_, rfl⟩
    have hzw : IntKind.i64.wrap z = z := by rw [← hzv, IntKind.wrap_i64]; omega
    have HEV : Hid (cellI fs st r at_ x = ⟨x.o, z⟩) := by show _ = _; unfold cellI; rw [hr, if_pos rfl, hzv]
    have HST : Hid (Stable (fun w' => w'.cell? ⟨w.heap.size, 0, none⟩ = some (.slice ga fs.length gc) ∧ w'.cell? ⟨w.heap.size, 1, none⟩ = some (.map (some B1)) ∧ w'.cell? ⟨w.heap.size, 2, none⟩ = some (.map (some B2)) ∧ w'.cell? ⟨w.heap.size, 3, none⟩ = some (.int .i64 (sz : Int)) ∧ w'.cell? ⟨w.heap.size + 1, 0, none⟩ = some (.int .i64 x.o) ∧ w'.cell? ⟨w.heap.size + 1, 1, none⟩ = some (.int .i64 x.n) ∧ w'.cell? ⟨w.heap.size + 1, 2, none⟩ = some (.string x.s))) := ((Stable.cell _ _).and ((Stable.cell _ _).and ((Stable.cell _ _).and ((Stable.cell _ _).and ((Stable.cell _ _).and ((Stable.cell _ _).and (Stable.cell _ _)))))))
    have HS : Hid ((fun w' => w'.cell? ⟨w.heap.size, 0, none⟩ = some (.slice ga fs.length gc) ∧ w'.cell? ⟨w.heap.size, 1, none⟩ = some (.map (some B1)) ∧ w'.cell? ⟨w.heap.size, 2, none⟩ = some (.map (some B2)) ∧ w'.cell? ⟨w.heap.size, 3, none⟩ = some (.int .i64 (sz : Int)) ∧ w'.cell? ⟨w.heap.size + 1, 0, none⟩ = some (.int .i64 x.o) ∧ w'.cell? ⟨w.heap.size + 1, 1, none⟩ = some (.int .i64 x.n) ∧ w'.cell? ⟨w.heap.size + 1, 2, none⟩ = some (.string x.s)) w1) := ⟨hBLc.1, hBLc.2.1, hBLc.2.2.1, hBLc.2.2.2, i0, i1, i2⟩
    have HKS : Hid (∀ (W : World) u v, (fun w' => w'.cell? ⟨w.heap.size, 0, none⟩ = some (.slice ga fs.length gc) ∧ w'.cell? ⟨w.heap.size, 1, none⟩ = some (.map (some B1)) ∧ w'.cell? ⟨w.heap.size, 2, none⟩ = some (.map (some B2)) ∧ w'.cell? ⟨w.heap.size, 3, none⟩ = some (.int .i64 (sz : Int)) ∧ w'.cell? ⟨w.heap.size + 1, 0, none⟩ = some (.int .i64 x.o) ∧ w'.cell? ⟨w.heap.size + 1, 1, none⟩ = some (.int .i64 x.n) ∧ w'.cell? ⟨w.heap.size + 1, 2, none⟩ = some (.string x.s)) W → (fun w' => w'.cell? ⟨w.heap.size, 0, none⟩ = some (.slice ga fs.length gc) ∧ w'.cell? ⟨w.heap.size, 1, none⟩ = some (.map (some B1)) ∧ w'.cell? ⟨w.heap.size, 2, none⟩ = some (.map (some B2)) ∧ w'.cell? ⟨w.heap.size, 3, none⟩ = some (.int .i64 (sz : Int)) ∧ w'.cell? ⟨w.heap.size + 1, 0, none⟩ = some (.int .i64 x.o) ∧ w'.cell? ⟨w.heap.size + 1, 1, none⟩ = some (.int .i64 x.n) ∧ w'.cell? ⟨w.heap.size + 1, 2, none⟩ = some (.string x.s)) ((W.setCell ⟨w.heap.size + 1 + 1, 0, none⟩ u).setCell ⟨w.heap.size + 1 + 1, 1, none⟩ v)) := fun W u v h => by
      have far : ∀ b o, b ≠ w.heap.size + 1 + 1 → ((W.setCell ⟨w.heap.size + 1 + 1, 0, none⟩ u).setCell ⟨w.heap.size + 1 + 1, 1, none⟩ v).cell? ⟨b, o, none⟩ = W.cell? ⟨b, o, none⟩ := fun b o hb => by
        rw [World.cell?_setCell_far _ _ _ _ (by exact Ne.symm hb), World.cell?_setCell_far _ _ _ _ (by exact Ne.symm hb)]
      obtain ⟨g0, g1, g2, g3, g4, g5, g6⟩ := h
      exact ⟨(far _ _ (by omega)).trans g0, (far _ _ (by omega)).trans g1, (far _ _ (by omega)).trans g2, (far _ _ (by omega)).trans g3, (far _ _ (by omega)).trans g4, (far _ _ (by omega)).trans g5, (far _ _ (by omega)).trans g6⟩
    clear i0 i1 i2 hBLc HBL HBI
    go_upto_region 2 with fail
    replace hG : GA w1.drew ga gc B1 B2 fs st := (Stable.ga ga gc B1 B2 fs st).2 _ hG
    replace hBC : w1.drew.heap[w.heap.size + 1 + 1]? = some (.cells #[.int .i64 0, .int .i64 0] 63) := hBC
    replace hB := hB.drew
    refine wp_region_held_drew (S := (fun w' => w'.cell? ⟨w.heap.size, 0, none⟩ = some (.slice ga fs.length gc) ∧ w'.cell? ⟨w.heap.size, 1, none⟩ = some (.map (some B1)) ∧ w'.cell? ⟨w.heap.size, 2, none⟩ = some (.map (some B2)) ∧ w'.cell? ⟨w.heap.size, 3, none⟩ = some (.int .i64 (sz : Int)) ∧ w'.cell? ⟨w.heap.size + 1, 0, none⟩ = some (.int .i64 x.o) ∧ w'.cell? ⟨w.heap.size + 1, 1, none⟩ = some (.int .i64 x.n) ∧ w'.cell? ⟨w.heap.size + 1, 2, none⟩ = some (.string x.s))) (by kernel_rfl) ((unhide HST).2 _ (unhide HS)) (fun hHeld => ?_)
    generalize w1.drew = wa at *
    refine wpAnyH_take (i := 0) (oi := { dst := some 11, op := Go.Op.fieldAddr 61 (Go.Operand.tmp 7) 0, type := 0, pos := "l8_image.go:163", after := #[], guard := none }) (v := ?v1_0) rfl (by kernel_rfl) (by kernel_rfl) (by kernel_rfl) (fun _ _ _ h => h) (Or.inl ⟨by rfl, ?y1_0⟩) (by assumption) ?r1_0
    case y1_0 => (intro w hSw; (try dsimp only at hSw); go_simp; try (with_reducible rfl))
    try simp only [Act.put, List.setIfInBounds_toArray, List.set_cons_zero, List.set_cons_succ]
    refine wpAnyH_take (i := 1) (oi := { dst := some 12, op := Go.Op.load 3 (Go.Operand.tmp 11), type := 3, pos := "l8_image.go:163", after := #[{ on := 0, ground := Go.Ground.data }], guard := none }) (v := ?v2_1) rfl (by kernel_rfl) (by kernel_rfl) (by kernel_rfl) (fun _ _ _ h => h) (Or.inl ⟨by rfl, ?y2_1⟩) (by assumption) ?r2_1
    case y2_1 => (intro w hSw; (try dsimp only at hSw); go_simp; try (with_reducible rfl))
    try simp only [Act.put, List.setIfInBounds_toArray, List.set_cons_zero, List.set_cons_succ]
    refine wpAnyH_take (i := 2) (oi := { dst := some 13, op := Go.Op.load 58 (Go.Operand.tmp 4), type := 58, pos := "l8_image.go:163", after := #[], guard := none }) (v := ?v3_2) rfl (by kernel_rfl) (by kernel_rfl) (by kernel_rfl) (fun _ _ _ h => h) (Or.inl ⟨by rfl, ?y3_2⟩) (by assumption) ?r3_2
    case y3_2 => (intro w hSw; (try dsimp only at hSw); go_simp; try (with_reducible rfl))
    try simp only [Act.put, List.setIfInBounds_toArray, List.set_cons_zero, List.set_cons_succ]
    refine wpAnyH_take (i := 3) (oi := { dst := some 14, op := Go.Op.move (Go.Operand.tmp 1), type := 3, pos := "l8_image.go:163", after := #[], guard := none }) (v := ?v4_3) rfl (by kernel_rfl) (by kernel_rfl) (by kernel_rfl) (fun _ _ _ h => h) (Or.inl ⟨by rfl, ?y4_3⟩) (by assumption) ?r4_3
    case y4_3 => (intro w hSw; (try dsimp only at hSw); go_simp; try (with_reducible rfl))
    try simp only [Act.put, List.setIfInBounds_toArray, List.set_cons_zero, List.set_cons_succ]
    refine wpAnyH_take (i := 4) (oi := { dst := some 15, op := Go.Op.move (Go.Operand.tmp 2), type := 3, pos := "l8_image.go:163", after := #[], guard := none }) (v := ?v5_4) rfl (by kernel_rfl) (by kernel_rfl) (by kernel_rfl) (fun _ _ _ h => h) (Or.inl ⟨by rfl, ?y5_4⟩) (by assumption) ?r5_4
    case y5_4 => (intro w hSw; (try dsimp only at hSw); go_simp; try (with_reducible rfl))
    try simp only [Act.put, List.setIfInBounds_toArray, List.set_cons_zero, List.set_cons_succ]
    refine wpAnyH_take (i := 5) (oi := { dst := some 16, op := Go.Op.fieldAddr 61 (Go.Operand.tmp 7) 2, type := 0, pos := "l8_image.go:163", after := #[], guard := none }) (v := ?v6_5) rfl (by kernel_rfl) (by kernel_rfl) (by kernel_rfl) (fun _ _ _ h => h) (Or.inl ⟨by rfl, ?y6_5⟩) (by assumption) ?r6_5
    case y6_5 => (intro w hSw; (try dsimp only at hSw); go_simp; try (with_reducible rfl))
    try simp only [Act.put, List.setIfInBounds_toArray, List.set_cons_zero, List.set_cons_succ]
    refine wpAnyH_take (i := 6) (oi := { dst := some 17, op := Go.Op.load 9 (Go.Operand.tmp 16), type := 9, pos := "l8_image.go:163", after := #[{ on := 5, ground := Go.Ground.data }], guard := none }) (v := ?v7_6) rfl (by kernel_rfl) (by kernel_rfl) (by kernel_rfl) (fun _ _ _ h => h) (Or.inl ⟨by rfl, ?y7_6⟩) (by assumption) ?r7_6
    case y7_6 => (intro w hSw; (try dsimp only at hSw); go_simp; try (with_reducible rfl))
    try simp only [Act.put, List.setIfInBounds_toArray, List.set_cons_zero, List.set_cons_succ]
    refine wpAnyH_take (i := 8) (oi := { dst := some 19, op := Go.Op.move (Go.Operand.tmp 2), type := 3, pos := "l8_image.go:163", after := #[], guard := none }) (v := ?v8_8) rfl (by kernel_rfl) (by kernel_rfl) (by kernel_rfl) (fun _ _ _ h => h) (Or.inl ⟨by rfl, ?y8_8⟩) (by assumption) ?r8_8
    case y8_8 => (intro w hSw; (try dsimp only at hSw); go_simp; try (with_reducible rfl))
    try simp only [Act.put, List.setIfInBounds_toArray, List.set_cons_zero, List.set_cons_succ]
    refine wpAnyH_ready (rs := [7]) (by kernel_rfl) (by simp) ?_
    refine AllReadyH.cons (o := { dst := some 18, op := Go.Op.call { callee := Go.Callee.value (Go.Operand.func 48), args := #[Go.Operand.tmp 13, Go.Operand.tmp 14, Go.Operand.tmp 15, Go.Operand.tmp 17], argTypes := #[58, 3, 3, 9] }, type := 3, pos := "l8_image.go:163", after := #[{ on := 2, ground := Go.Ground.data }, { on := 3, ground := Go.Ground.data }, { on := 4, ground := Go.Ground.data }, { on := 6, ground := Go.Ground.data }], guard := none }) rfl (fun K hK => ?_) AllReadyH.nil
    go_simp
    go_at_call 48
    refine (to_any ga gc B1 B2 sz fs ns st r at_ x.s _ hL hst hap hp0 (by omega) hsz (by assumption)).mono ?_
    rintro e wb ⟨rfl, hbk⟩
    replace hG := hG.below hbk
    replace hBC := box_below hBC hbk
    replace hB := bl_trans hB hbk
    replace hHeld := (unhide HST).1 _ _ hbk hHeld
    clear hbk
    go_wp2_with fail
    refine hK.out _ _ hHeld (fun _ => ?_)
    clear hK K
    try simp only [Act.put, List.setIfInBounds_toArray, List.set_cons_zero, List.set_cons_succ]
    refine wpAnyH_take (i := 9) (oi := { dst := some 20, op := Go.Op.binOp Go.BinOp.sub 3 (Go.Operand.tmp 18) (Go.Operand.tmp 19) 3, type := 3, pos := "l8_image.go:163", after := #[{ on := 7, ground := Go.Ground.data }, { on := 8, ground := Go.Ground.data }], guard := none }) (v := ?v9_9) rfl (by kernel_rfl) (by kernel_rfl) (by kernel_rfl) (fun _ _ _ h => h) (Or.inl ⟨by rfl, ?y9_9⟩) (by assumption) ?r9_9
    case y9_9 => (intro w hSw; (try dsimp only at hSw); go_simp; try (with_reducible rfl))
    try simp only [Act.put, List.setIfInBounds_toArray, List.set_cons_zero, List.set_cons_succ]
    refine wpAnyH_take (i := 10) (oi := { dst := some 21, op := Go.Op.build 63 #[(0, Go.Operand.tmp 12), (1, Go.Operand.tmp 20)], type := 63, pos := "l8_image.go:163", after := #[{ on := 1, ground := Go.Ground.data }, { on := 9, ground := Go.Ground.data }], guard := none }) (v := ?v10_10) rfl (by kernel_rfl) (by kernel_rfl) (by kernel_rfl) (fun _ _ _ h => h) (Or.inl ⟨by rfl, ?y10_10⟩) (by assumption) ?r10_10
    case y10_10 => (intro w hSw; (try dsimp only at hSw); go_simp; try (with_reducible rfl))
    try simp only [Act.put, List.setIfInBounds_toArray, List.set_cons_zero, List.set_cons_succ]
    refine wpAnyH_ready (rs := [11]) (by kernel_rfl) (by simp) ?_
    refine AllReadyH.cons (o := { dst := none, op := Go.Op.store 63 (Go.Operand.tmp 8) (Go.Operand.tmp 21), type := 0, pos := "l8_image.go:163", after := #[{ on := 10, ground := Go.Ground.data }, { on := 7, ground := Go.Ground.chain }, { on := 0, ground := Go.Ground.phase }, { on := 1, ground := Go.Ground.phase }, { on := 2, ground := Go.Ground.phase }, { on := 3, ground := Go.Ground.phase }, { on := 4, ground := Go.Ground.phase }, { on := 5, ground := Go.Ground.phase }, { on := 6, ground := Go.Ground.phase }, { on := 7, ground := Go.Ground.phase }, { on := 8, ground := Go.Ground.phase }, { on := 9, ground := Go.Ground.phase }, { on := 10, ground := Go.Ground.phase }], guard := none }) rfl (fun K hK => ?_) AllReadyH.nil
    have hrN := box2 hBC
    go_simp
    (try rw [hzw])
    have hFb := box2 (block_setCell (i := 1) (block_setCell (i := 0) hBC (.int .i64 x.o)) (.int .i64 z))
    have hB9 := (hB.setCell (p := ⟨w.heap.size + 1 + 1, 0, none⟩) (by show w.heap.size ≤ w.heap.size + 1 + 1; omega) (.int .i64 x.o)).setCell (p := ⟨w.heap.size + 1 + 1, 1, none⟩) (by show w.heap.size ≤ w.heap.size + 1 + 1; omega) (.int .i64 z)
    replace hHeld := unhide HKS _ (.int .i64 x.o) (.int .i64 z) hHeld
    clear hrN
    refine hK.out _ _ hHeld (fun _ => ?_)
    clear hK K
    try simp only [Act.put, List.setIfInBounds_toArray, List.set_cons_zero, List.set_cons_succ]
    refine wpAnyH_done (by kernel_rfl) ?_ _
    go_wp2_with fail
    have hFb' := hFb.1
    exact bodyPost_ret (v := .agg #[.int .i64 x.o, .int .i64 z]) (by simp [results, Tryz.results27, go_sem, hFb'.1, hFb'.2]) rfl ⟨by rw [unhide HEV], hB9⟩
theorem find_nm {fs : List FunD} {s : ByteArray} (h0 : 0 ≤ findI fs s) (h : (findI fs s).toNat < fs.length) : (fs[(findI fs s).toNat]'h).nm.toList = s.toList := by
  have e : (findI fs s).toNat = fs.findIdx (isNm s) := by
    unfold findI at h0 ⊢
    split at h0
    · rename_i hlt; rw [if_pos hlt]; rfl
    · omega
  have hlt : fs.findIdx (isNm s) < fs.length := by omega
  have := isNm_iff.1 (List.findIdx_getElem (w := hlt))
  simp only [e]
  exact this
theorem make_cells (n : Nat) (hn : n ≤ 42000000) (w : World) : (Instr.makeSlice 29 (.int .i64 0) (.int .i64 (n : Int))).run Tryz.prog w = .ok (.slice (some ⟨w.heap.size, 0, none⟩) 0 n) (w.alloc (.cells (madeCells #[.int .i64 0, .int .i64 0] (n * 2)) 63)) := by
  obtain ⟨i, hi, h⟩ := Option.map_eq_some_iff.1 infoCell
  simp only [Prod.mk.injEq] at h
  obtain ⟨h1, h2, h3⟩ := h
  have := run_make (P := Tryz.prog) w 29 63 i _ Tryz.underlying29 hi h1 .i64 .i64 0 (n : Int) (by omega) (by omega) (by rw [h3]; omega) (by omega)
  rw [h2] at this
  simpa [Value.cells] using this
theorem CellsO.roomy (w : World) (n : Nat) (hn : n ≤ 42000000) : CellsO (w.alloc (.cells (madeCells #[.int .i64 0, .int .i64 0] (n * 2)) 63)) w.heap.size (.slice (some ⟨w.heap.size, 0, none⟩) 0 n) [] := by
  refine ⟨by simp, .inr ⟨_, _, _, rfl, Nat.le_refl _, new_block w _, Nat.zero_le _, by unfold maxLen; omega, ?_, rfl⟩⟩
  simp [madeCells]
set_option maxHeartbeats 8000000 in
theorem implImageOf_any (a na sa : Option Addr) (cap nc sc : Nat) (fs : List FunD) (ns : List Int) (st : List (List ByteArray)) (r : Int) (w : World) (hft : FewT st) (hcap : fs.length ≤ cap) (hcm : cap ≤ maxLen) (h1 : ns.length ≤ nc) (h2 : nc ≤ maxLen) (h3 : st.length ≤ sc) (h4 : sc ≤ maxLen) (hR : FunRow w a fs) (hs : NumRow w na ns) (ho : TextsRow w sa st) :
    Calls Tryz.prog 9 #[.slice a fs.length cap, .int .i64 r, .agg #[.slice na ns.length nc, .slice sa st.length sc]] w (ImgEnd w (imageOfB fs r ns st)) := by
  have hB := below_alloc1 w (.cells #[.slice na ns.length nc, .slice sa st.length sc] 33)
  have HX := hide (new_block w (.cells #[.slice na ns.length nc, .slice sa st.length sc] 33))
  have HR := hide (hR.below hB)
  have HN := hide (hs.below hB)
  have HO := hide (ho.below hB)
  have HFT := hide hft
  have HB := hide hB
  clear hR hs ho hB hft
  obtain ⟨⟨x0, x1⟩, _⟩ := box2 (unhide HX)
  go_enter Tryz.func9, Tryz.ntmps9
  go_wp2_with fail
  refine (implLayOk_any a cap fs r na sa nc sc ns st _ hcap hcm h1 h2 h3 h4 (unhide HFT) (unhide HR) (unhide HN) (unhide HO)).mono ?_
  rintro e w1 ⟨rfl, hb1⟩
  replace HX := hide (box_below (unhide HX) hb1)
  replace HR := hide ((unhide HR).below hb1)
  replace HN := hide ((unhide HN).below hb1)
  replace HO := hide ((unhide HO).below hb1)
  replace HB := hide (bl_trans (unhide HB) hb1)
  clear hb1 x0 x1
  obtain ⟨⟨x0, x1⟩, _⟩ := box2 (unhide HX)
  cases hok : layOkB fs r ns st
  · have HE := hide (image_no hok)
    go_wp2_with fail
    go_ret
    rw [unhide HE]
    exact ⟨_, _, rfl, CellsO.nil _ _, unhide HB⟩
  have HE := hide (image_yes hok)
  have HF := hide (lay_parts hok).2.2
  have HL := hide (lying_of (unhide HF) (unhide HFT))
  have HKP := hide (form_parts (unhide HF)).1
  have HSI := hide (fun ss hss x hx => (stones_parts ((form_parts (unhide HF)).2.2.1 ss hss)).1 x hx)
  have HAP := hide (keep_parts (unhide HKP)).2.2.2.1
  have hpos : 0 < fs.length := (keep_parts (unhide HKP)).1
  have hszn := (unhide HL).small fs.length (Nat.le_refl _)
  have h40 := (unhide HL).1
  have hsl1 : st.length ≤ fs.length := Nat.le_of_eq (unhide HL).2.2.1
  have hsl2 : fs.length ≤ st.length := Nat.le_of_eq (unhide HL).2.2.1.symm
  have hlns : (fs.length : Int) ≤ 9223372036854775807 := by omega
  have hlst : (st.length : Int) ≤ 9223372036854775807 := by omega
  have HFS := hide (fun i j (hi : i < st.length) (hj : j < st[i].length) => stone_in (unhide HF) hi hj)
  clear hok
  obtain ⟨fb, fo, rfl⟩ := (unhide HR).get hpos
  obtain ⟨sb, so, rfl⟩ := (unhide HO).get (by omega)
  go_wp2_with fail
  refine (groundOf_any _ _ cap sc fs st _ h40 (unhide HL).2.1 (unhide HL).2.2.1 (unhide HFT) hcap hcm h3 h4 (unhide HR) (unhide HO)).mono ?_
  rintro e w2 ⟨ga, gc, G, B1, B2, rfl, hGS⟩
  have HGA := hide (GA.of (unhide HL) hGS)
  have hb2 := hGS.blw
  replace HX := hide (box_below (unhide HX) hb2)
  replace HR := hide ((unhide HR).below hb2)
  replace HO := hide ((unhide HO).below hb2)
  replace HB := hide (bl_trans (unhide HB) hb2)
  clear hb2 hGS x0 x1 HN
  generalize hpz : place fs st fs.length = sz at *
  have HPZ := hide hpz
  clear hpz
  obtain ⟨W1, hW1⟩ : ∃ W1, w2.alloc (.cells #[.slice ga fs.length gc, .map (some B1), .map (some B2), .int .i64 (sz : Int)] 58) = W1 := ⟨_, rfl⟩
  have hbg : Below w2.heap.size w2 W1 := by rw [← hW1]; exact below_alloc1 _ _
  have HG : Hid (W1.heap[w2.heap.size]? = some (.cells #[.slice ga fs.length gc, .map (some B1), .map (some B2), .int .i64 (sz : Int)] 58)) := by show _ = _; rw [← hW1]; exact new_block _ _
  replace HX := hide (box_below (unhide HX) hbg)
  replace HR := hide ((unhide HR).below hbg)
  replace HO := hide ((unhide HO).below hbg)
  replace HB := hide (bl_trans (unhide HB) hbg)
  replace HGA := hide ((unhide HGA).below hbg)
  have HO' := HO
  clear HO
  have hmk := make_cells sz (by omega) W1
  have HW1 := hide hW1
  clear hbg hW1
  go_upto_region 4 with fail
  rw [unhide HW1]
  clear HW1
  obtain ⟨⟨g0, g1, g2, g3⟩, _⟩ := box4 (unhide HG)
  have HCO := hide (CellsO.roomy W1 sz (by omega))
  have hBM := below_alloc1 W1 (.cells (madeCells #[.int .i64 0, .int .i64 0] (sz * 2)) 63)
  go_wp2_with fail
  clear hmk g0 g1 g2 g3
  generalize hWM : W1.alloc (.cells (madeCells #[.int .i64 0, .int .i64 0] (sz * 2)) 63) = WM at *
  clear hWM
  go_loopw [8, 29] (fun v x w' => ∃ (i : Nat) (av : Option Addr) (cv : Nat) (l : List CellD), i ≤ fs.length ∧ v = .slice av l.length cv ∧ x = .int .i64 i ∧ Hid (l = partC fs st r i) ∧ CellsO w' W1.heap.size (.slice av l.length cv) l ∧ Below W1.heap.size W1 w') (fun _ x _ => fs.length - (intOf x).toNat)
  case atStart => exact ⟨0, _, _, [], Nat.zero_le _, rfl, rfl, rfl, unhide HCO, hBM⟩
  case round =>
    clear HCO hBM
    obtain ⟨i, av, cv, l, hi, rfl, rfl, HLE0, hO0, hB⟩ := hrel
    have HO0 := hide hO0
    clear hO0
    by_cases hil : i < fs.length
    · have hil' : (i : Int) < (fs.length : Int) := by omega
      have hil3 : (i : Int) < (st.length : Int) := by omega
      have hi0 : (0 : Int) ≤ (i : Int) := by omega
      have hpl := (unhide HL).small i hi
      have hsi : i < st.length := by omega
      obtain ⟨ai, ci, f0, f1, f2, _, f4, f5, f6⟩ := ((unhide HR).below hB).at hil
      have hbl := (unhide HL).2.1 fs[i] (List.getElem_mem hil)
      have hbp : 0 < fs[i].body.length := by have := (keep_parts (unhide HKP)).2.2.1 fs[i] (List.getElem_mem hil); unfold funOkB at this; simp only [Bool.and_eq_true, decide_eq_true_iff] at this; omega
      obtain ⟨ib, io, rfl⟩ := f6.get hbp
      have hbx := below_alloc1 wr (.cells #[.string fs[i].nm, .bool fs[i].wk, .slice (some ⟨ib, io, none⟩) fs[i].body.length ci] 51)
      have HFB := hide (new_block wr (.cells #[.string fs[i].nm, .bool fs[i].wk, .slice (some ⟨ib, io, none⟩) fs[i].body.length ci] 51))
      have HXS := hide ((unhide HR).sizes fs[i] (List.getElem_mem hil)).2.2
      have hB2 := bl_trans hB hbx
      obtain ⟨_, _, _, _, f2', _, _, _, f6'⟩ := (unhide HR).at hil
      have e6 := ((hB.cell (p := ⟨fb, fo + i * 3 + 2, none⟩) (World.block_lt_of_cell? W1 _ f2')).trans f2').symm.trans f2
      have HI6 : Hid (InsRow W1 (some ⟨ib, io, none⟩) fs[i].body) := by
        injection e6 with e7
        injection e7 with e8 _ _
        rw [← e8]; exact f6'
      clear f2' f6' e6
      replace HO0 := hide ((unhide HO0).below hbx)
      have hsz2 := (below_alloc1 wr (.cells #[.string fs[i].nm, .bool fs[i].wk, .slice (some ⟨ib, io, none⟩) fs[i].body.length ci] 51)).size
      obtain ⟨⟨y0, y1, y2⟩, _⟩ := box3 (unhide HFB)
      generalize hWF : wr.alloc (.cells #[.string fs[i].nm, .bool fs[i].wk, .slice (some ⟨ib, io, none⟩) fs[i].body.length ci] 51) = WF at *
      have HWF := hide hWF
      clear hWF f6 hbx
      go_upto_region 8 with fail
      rw [unhide HWF]
      clear HWF
      go_wp2_with fail
      clear y0 y1 y2 f0 f1 f2
      go_loopw [8, 37] (fun v x w' => ∃ (k : Nat) (av : Option Addr) (cv : Nat) (l : List CellD), k ≤ fs[i].body.length ∧ v = .slice av l.length cv ∧ x = .int .i64 k ∧ Hid (l = partC fs st r i ++ bodyC fs st r i k) ∧ CellsO w' W1.heap.size (.slice av l.length cv) l ∧ Below W1.heap.size W1 w') (fun _ x _ => fs[i].body.length - (intOf x).toNat)
      case atStart => exact ⟨0, av, cv, l, Nat.zero_le _, rfl, rfl, (by show _ = _; rw [unhide HLE0, bodyC_zero, List.append_nil]), unhide HO0, hB2⟩
      case round =>
        clear HO0 HLE0 hB hB2 HFB hsz2
        obtain ⟨k, av, cv, l, hk, rfl, rfl, HLE, hO, hB⟩ := hrel
        have HLL : Hid (l.length = place fs st i + k) := by show _ = _; rw [unhide HLE, List.length_append, partC_len, bodyC_len]
        have hll : l.length ≤ 42000010 := by have := unhide HLL; omega
        have hsW := hB.size
        have HO := hide hO
        clear hO
        by_cases hkl : k < fs[i].body.length
        · have hkl' : (k : Int) < (fs[i].body.length : Int) := by omega
          have hk0 : (0 : Int) ≤ (k : Int) := by omega
          obtain ⟨i0, i1, i2, _⟩ := ((unhide HI6).below hB).cells hkl
          have hxs := unhide HXS fs[i].body[k] (List.getElem_mem hkl)
          have HBC : Hid (bodyC fs st r i (k + 1) = bodyC fs st r i k ++ [cellI fs st r (l.length : Int) fs[i].body[k]]) := by
            show _ = _
            rw [bodyC_succ hil hkl, unhide HLL]
          have hbi := below_alloc1 wr (.cells #[.int .i64 fs[i].body[k].o, .int .i64 fs[i].body[k].n, .string fs[i].body[k].s] 61)
          have HIB := hide (new_block wr (.cells #[.int .i64 fs[i].body[k].o, .int .i64 fs[i].body[k].n, .string fs[i].body[k].s] 61))
          have hB3 := bl_trans hB hbi
          replace HO := hide ((unhide HO).below hbi)
          have hG3 := box_below (unhide HG) hB3
          obtain ⟨⟨q0, q1, q2, q3⟩, _⟩ := box4 hG3
          obtain ⟨⟨j0, j1, j2⟩, _⟩ := box3 (unhide HIB)
          have HGA3 := hide ((unhide HGA).below hB3)
          generalize fs[i].body[k] = x at *
          clear hbi hG3 HIB
          go_wp2_with fail
          refine (cellOf_any ga gc B1 B2 sz fs ns st r (l.length : Int) x _ (unhide HL) (unhide HSI) (unhide HAP) (by omega) (by omega) hxs (unhide HGA3)).mono ?_
          rintro e w5 ⟨rfl, hb5⟩
          have hB5 := bl_trans hB3 hb5
          have HAPP := hide (fun y ty => cells_more (n := l.length) rfl ((unhide HO).below hb5) hB5.size (by omega) y ty)
          clear hb5 hB3 HO i0 i1 i2 q0 q1 q2 q3 j0 j1 j2 HGA3 hB
          generalize cellI fs st r (l.length : Int) x = y at *
          go_wp2_with (first
            | (at_builtin; obtain ⟨a3, c3, w6, hrun3, hO3, hg3, hbw3⟩ := unhide HAPP y _; refine Lib.wpList_append_run _ rfl _ _ _ _ rfl _ _ rfl rfl _ _ hrun3 ?_; have HO3 := hide hO3; have HB6 := hide (hbw3 W1 hB5); clear hO3 hg3 hbw3 hrun3)
            | go_in)
          exact ⟨⟨k + 1, a3, c3, l ++ [y], by omega, by rw [List.length_append]; rfl, by go_num, (by show _ = _; rw [unhide HLE, List.append_assoc, ← unhide HBC]), unhide HO3, unhide HB6⟩, by simp [intOf]; omega⟩
        · have hkl' : ¬ (k : Int) < (fs[i].body.length : Int) := by omega
          have hke : k = fs[i].body.length := by omega
          have HLE2 : Hid (l = partC fs st r i ++ bodyC fs st r i (lenAt fs i)) := by show _ = _; rw [unhide HLE, hke, lenAt_is hil]
          obtain ⟨ti, tci, t0, t4, t5, t6⟩ := (unhide HO').at (k := i) hsi
          have HT6 := hide t6
          have t0w : wr.cell? ⟨sb, so + i, none⟩ = some (.slice ti (st[i]'hsi).length tci) := (hB.cell (p := ⟨sb, so + i, none⟩) (World.block_lt_of_cell? W1 _ t0)).trans t0
          obtain ⟨⟨z0, z1⟩, _⟩ := box2 (box_below (unhide HX) hB)
          clear HLE HLL t6 t0
          have htl : ((st[i]'hsi).length : Int) ≤ 9223372036854775807 := by unfold maxLen at t5; omega
          go_wp2_with fail
          go_loopw [8, 57] (fun v x w' => ∃ (j : Nat) (av : Option Addr) (cv : Nat) (l : List CellD), j ≤ (st[i]'hsi).length ∧ v = .slice av l.length cv ∧ x = .int .i64 j ∧ Hid (l = partC fs st r i ++ bodyC fs st r i (lenAt fs i) ++ stoneC fs st i j) ∧ CellsO w' W1.heap.size (.slice av l.length cv) l ∧ Below W1.heap.size W1 w') (fun _ x _ => (st[i]'hsi).length - (intOf x).toNat)
          case atStart => exact ⟨0, av, cv, l, Nat.zero_le _, rfl, rfl, (by show _ = _; rw [unhide HLE2, stoneC_zero, List.append_nil]), unhide HO, hB⟩
          case round =>
            clear HO HLE2 hB t0w z0 z1 hll hsW
            obtain ⟨j, av, cv, l, hj, rfl, rfl, HLE, hO, hB⟩ := hrel
            have hst9 : (st[i]'hsi).length ≤ place fs st (i + 1) := by rw [place, stAt_is hsi]; omega
            have hll : l.length ≤ place fs st (i + 1) := by
              have e2 := stAt_is hsi
              rw [unhide HLE, List.length_append, List.length_append, partC_len, bodyC_len, stoneC_len, place, e2]
              omega
            have hpm := (unhide HL).small (i + 1) (by omega)
            by_cases hjl : j < (st[i]'hsi).length
            · have hjl' : (j : Int) < ((st[i]'hsi).length : Int) := by omega
              have hj0 : (0 : Int) ≤ (j : Int) := by omega
              obtain ⟨tb, to_, rfl⟩ := (unhide HT6).get (by omega)
              obtain ⟨s0, ssz⟩ := ((unhide HT6).below hB).cells hjl
              obtain ⟨hf0, hfl⟩ := unhide HFS i j hsi hjl
              obtain ⟨f, hfi⟩ : ∃ f : Nat, findI fs (st[i]'hsi)[j] = (f : Int) := ⟨(findI fs (st[i]'hsi)[j]).toNat, by omega⟩
              have hfn : f < fs.length := by omega
              have HBC : Hid (stoneC fs st i (j + 1) = stoneC fs st i j ++ [(⟨8, (place fs st f : Int)⟩ : CellD)]) := by
                show _ = _
                rw [stoneC_succ hsi hjl]
                unfold farC
                rw [hfi, Int.toNat_natCast]
              have HVAL := hide (BD_at (st := st) (unhide HAP) (t := f) (s := (st[i]'hsi)[j]) (.lit (.int .i64 0)) fs.length (Nat.le_refl _) hfn (by
                have := find_nm (by rw [hfi]; omega : 0 ≤ findI fs (st[i]'hsi)[j]) hfl
                simp only [hfi, Int.toNat_natCast] at this
                exact this)).1
              have hkey : keyOf Tryz.prog 9 (.string (st[i]'hsi)[j]) = some (keyS (st[i]'hsi)[j]) := keyOf_string_mk Tryz.underlying9 ssz
              have hmap := ((unhide HGA).below hB).1
              obtain ⟨⟨q0, q1, q2, q3⟩, _⟩ := box4 (box_below (unhide HG) hB)
              have HAPP := hide (fun y ty => cells_more (n := l.length) rfl hO hB.size (by omega) y ty)
              have HB := hide hB
              clear hf0 hfl hfi hO
              generalize hpn : place fs st (i + 1) = pm at *
              generalize place fs st f = pf at *
              generalize (st[i]'hsi)[j] = s at *
              go_wp2_with (first
                | (at_lookup; refine wpList_lookup_own_int _ rfl _ _ 55 rfl 9 3 .i64 lawS Tryz.underlying55 Tryz.underlying3 (zeroI _) B1 fs.length _ rfl hmap _ _ rfl hkey ?_; intro c hat hwc; have hc : c = (pf : Int) := (by rw [unhide HVAL] at hat; injection hat with h1; injection h1 with _ h2; exact h2.symm); subst hc; clear hat)
                | (at_builtin; obtain ⟨a3, c3, w6, hrun3, hO3, hg3, hbw3⟩ := unhide HAPP (⟨8, (pf : Int)⟩ : CellD) _; refine Lib.wpList_append_run _ rfl _ _ _ _ rfl _ _ rfl rfl _ _ hrun3 ?_; have HO3 := hide hO3; have HB6 := hide (hbw3 W1 (unhide HB)); clear hO3 hg3 hbw3 hrun3)
                | go_in)
              exact ⟨⟨j + 1, a3, c3, l ++ [(⟨8, (pf : Int)⟩ : CellD)], by omega, by rw [List.length_append]; rfl, by go_num, (by show _ = _; rw [unhide HLE, List.append_assoc, ← unhide HBC]), unhide HO3, unhide HB6⟩, by simp [intOf]; omega⟩
            · have hjl' : ¬ (j : Int) < ((st[i]'hsi).length : Int) := by omega
              have hje : j = (st[i]'hsi).length := by omega
              have HLE3 : Hid (l = partC fs st r (i + 1)) := by show _ = _; rw [unhide HLE, hje, ← stAt_is hsi]; rfl
              have HO := hide hO
              clear hO HLE
              go_wp2_with fail
              exact ⟨⟨i + 1, av, cv, l, by omega, rfl, by go_num, HLE3, unhide HO, hB⟩, by simp [intOf]; omega⟩
    · have hie : i = fs.length := by omega
      have HLE3 : Hid (l = imageOfB fs r ns st) := by show _ = _; rw [unhide HLE0, hie, unhide HE]
      have HOE : Hid (CellsO wr W1.heap.size (.slice av (imageOfB fs r ns st).length cv) (imageOfB fs r ns st)) := by show CellsO _ _ _ _; rw [← unhide HLE3]; exact unhide HO0
      have hle : l.length = (imageOfB fs r ns st).length := by rw [unhide HLE3]
      rw [hle]
      clear HO0 HLE0 HLE3
      go_wp2_with fail
      go_ret
      exact ⟨_, _, rfl, (unhide HOE).base (unhide HB).size, bl_trans (unhide HB) hB⟩
end Go.Proofs.YthbbmookhcalkaaGreat.ImgI
