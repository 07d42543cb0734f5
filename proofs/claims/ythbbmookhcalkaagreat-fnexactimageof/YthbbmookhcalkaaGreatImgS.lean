/- The specification's ImageOf. -/
import Derived.Test.YthbbmookhcalkaaGreatImgC
import Derived.Test.YthbbmookhcalkaaGreatLayV
import Derived.Deep.Cut
namespace Go.Proofs.YthbbmookhcalkaaGreat.ImgS
open Go.ChangeShapes Go.WideShapes Go.ChangeAt Go.RowKit Go.Joins Go.Deep
open Go.Proofs.YthbbmookhcalkaaGreat.Base Go.Proofs.YthbbmookhcalkaaGreat.InsA Go.Proofs.YthbbmookhcalkaaGreat.Funs Go.Proofs.YthbbmookhcalkaaGreat.Open Go.Proofs.YthbbmookhcalkaaGreat.FunS Go.Proofs.YthbbmookhcalkaaGreat.Keep Go.Proofs.YthbbmookhcalkaaGreat.UnitS Go.Proofs.YthbbmookhcalkaaGreat.Refs Go.Proofs.YthbbmookhcalkaaGreat.Concat Go.Proofs.YthbbmookhcalkaaGreat.KeepC Go.Proofs.YthbbmookhcalkaaGreat.LayN Go.Proofs.YthbbmookhcalkaaGreat.LayA Go.Proofs.YthbbmookhcalkaaGreat.KeepD Go.Proofs.YthbbmookhcalkaaGreat.KeepA Go.Proofs.YthbbmookhcalkaaGreat.LayD Go.Proofs.YthbbmookhcalkaaGreat.LayS Go.Proofs.YthbbmookhcalkaaGreat.LayT Go.Proofs.YthbbmookhcalkaaGreat.LayV Go.Proofs.YthbbmookhcalkaaGreat.CellA Go.Proofs.YthbbmookhcalkaaGreat.ImgC
set_option linter.unusedVariables false
set_option maxRecDepth 100000

set_option maxHeartbeats 4000000 in
theorem l8Cell_any (a na sa : Option Addr) (cap nc sc : Nat) (fs : List FunD) (ns : List Int) (st : List (List ByteArray)) (r at_ : Int) (x : InsD) (w : World) (hL : Lying fs ns st) (hp0 : 0 ≤ at_) (hp1 : at_ ≤ 42000100) (hsz : x.s.size ≤ maxLen) (hcap : fs.length ≤ cap) (hcm : cap ≤ maxLen) (h1 : ns.length ≤ nc) (h2 : nc ≤ maxLen) (h3 : st.length ≤ sc) (h4 : sc ≤ maxLen) (hR : FunRow w a fs) (hs : NumRow w na ns) (ho : TextsRow w sa st) :
    Calls Tryz.prog 40 #[.slice a fs.length cap, .int .i64 r, .agg #[.slice na ns.length nc, .slice sa st.length sc], .int .i64 at_, .agg #[.int .i64 x.o, .int .i64 x.n, .string x.s]] w fun e w' => e = .returned (.agg #[.int .i64 (cellI fs st r at_ x).f, .int .i64 (cellI fs st r at_ x).p]) ∧ Below w.heap.size w w' := by
  obtain ⟨W0, hW0⟩ : ∃ W0, ((w.alloc (.cells #[.slice na ns.length nc, .slice sa st.length sc] 33)).alloc (.cells #[.int .i64 x.o, .int .i64 x.n, .string x.s] 61)).alloc (.cells #[.int .i64 0, .int .i64 0] 63) = W0 := ⟨_, rfl⟩
  have hB : Below w.heap.size w W0 := by rw [← hW0]; exact below_alloc3 _ _ _ _
  have HBL : Hid (W0.heap[w.heap.size]? = some (.cells #[.slice na ns.length nc, .slice sa st.length sc] 33)) := by show _ = _; rw [← hW0]; exact box_below (box_below (new_block w _) (below_alloc1 _ _)) (below_alloc1 _ _)
  have HBI : Hid (W0.heap[w.heap.size + 1]? = some (.cells #[.int .i64 x.o, .int .i64 x.n, .string x.s] 61)) := by
    show _ = _
    rw [← hW0]
    have h := new_block (w.alloc (.cells #[.slice na ns.length nc, .slice sa st.length sc] 33)) (.cells #[.int .i64 x.o, .int .i64 x.n, .string x.s] 61)
    rw [World.size_alloc] at h
    exact box_below h (below_alloc1 _ _)
  have hBC : W0.heap[w.heap.size + 1 + 1]? = some (.cells #[.int .i64 0, .int .i64 0] 63) := by
    rw [← hW0]
    have h := new_block ((w.alloc (.cells #[.slice na ns.length nc, .slice sa st.length sc] 33)).alloc (.cells #[.int .i64 x.o, .int .i64 x.n, .string x.s] 61)) (.cells #[.int .i64 0, .int .i64 0] 63)
    rw [World.size_alloc, World.size_alloc] at h
    exact h
  have HW0 := hide hW0
  clear hW0
  replace hR := hR.below hB
  replace hs := hs.below hB
  replace ho := ho.below hB
  obtain ⟨tz0, tz1⟩ := toI_bd hL r at_ x.s
  go_enter Tryz.func40, Tryz.ntmps40
  go_upto_region 1 with fail
  rw [unhide HW0]
  clear HW0
  obtain ⟨⟨i0, i1, i2⟩, _⟩ := box3 (unhide HBI)
  go_wp2_with fail
  refine (specRefs_any _ _ _ _).mono ?_
  rintro e w1 ⟨rfl, hb1⟩
  replace HBL := hide (box_below (unhide HBL) hb1)
  replace HBI := hide (box_below (unhide HBI) hb1)
  replace hBC := box_below hBC hb1
  replace hB := bl_trans hB hb1
  replace hR := hR.below hb1
  replace hs := hs.below hb1
  replace ho := ho.below hb1
  clear hb1 i0 i1 i2
  obtain ⟨⟨i0, i1, i2⟩, _⟩ := box3 (unhide HBI)
  cases hr : refsB x.o
  · have HEV : Hid ((⟨x.o, x.n⟩ : CellD) = cellI fs st r at_ x) := by show _ = _; unfold cellI; rw [hr]; rfl
    have hrN := box2 hBC
    have hFb := (box2 (block_setCell (i := 1) (block_setCell (i := 0) hBC (.int .i64 x.o)) (.int .i64 x.n))).1
    have hB9 := (hB.setCell (p := ⟨w.heap.size + 1 + 1, 0, none⟩) (by show w.heap.size ≤ w.heap.size + 1 + 1; omega) (.int .i64 x.o)).setCell (p := ⟨w.heap.size + 1 + 1, 1, none⟩) (by show w.heap.size ≤ w.heap.size + 1 + 1; omega) (.int .i64 x.n)
    clear hR hs ho
    go_wp2_with fail
    exact bodyPost_ret (v := .agg #[.int .i64 x.o, .int .i64 x.n]) (by simp [results, Tryz.results40, go_sem, hFb.1, hFb.2]) rfl ⟨by rw [← unhide HEV], hB9⟩
  · have hBLc := (box2 (unhide HBL)).1
    obtain ⟨z, hzv⟩ : ∃ z, toI fs st r at_ x.s - at_ = z := ⟨_, rfl⟩
    have hzw : IntKind.i64.wrap z = z := by rw [← hzv, IntKind.wrap_i64]; omega
    have HEV : Hid (cellI fs st r at_ x = ⟨x.o, z⟩) := by show _ = _; unfold cellI; rw [hr, if_pos rfl, hzv]
    have HST : Hid (Stable (fun w' => w'.cell? ⟨w.heap.size, 0, none⟩ = some (.slice na ns.length nc) ∧ w'.cell? ⟨w.heap.size, 1, none⟩ = some (.slice sa st.length sc) ∧ w'.cell? ⟨w.heap.size + 1, 0, none⟩ = some (.int .i64 x.o) ∧ w'.cell? ⟨w.heap.size + 1, 1, none⟩ = some (.int .i64 x.n) ∧ w'.cell? ⟨w.heap.size + 1, 2, none⟩ = some (.string x.s))) := ((Stable.cell _ _).and ((Stable.cell _ _).and ((Stable.cell _ _).and ((Stable.cell _ _).and (Stable.cell _ _)))))
    have HS : Hid ((fun w' => w'.cell? ⟨w.heap.size, 0, none⟩ = some (.slice na ns.length nc) ∧ w'.cell? ⟨w.heap.size, 1, none⟩ = some (.slice sa st.length sc) ∧ w'.cell? ⟨w.heap.size + 1, 0, none⟩ = some (.int .i64 x.o) ∧ w'.cell? ⟨w.heap.size + 1, 1, none⟩ = some (.int .i64 x.n) ∧ w'.cell? ⟨w.heap.size + 1, 2, none⟩ = some (.string x.s)) w1) := ⟨hBLc.1, hBLc.2, i0, i1, i2⟩
    have HKS : Hid (∀ (W : World) u v, (fun w' => w'.cell? ⟨w.heap.size, 0, none⟩ = some (.slice na ns.length nc) ∧ w'.cell? ⟨w.heap.size, 1, none⟩ = some (.slice sa st.length sc) ∧ w'.cell? ⟨w.heap.size + 1, 0, none⟩ = some (.int .i64 x.o) ∧ w'.cell? ⟨w.heap.size + 1, 1, none⟩ = some (.int .i64 x.n) ∧ w'.cell? ⟨w.heap.size + 1, 2, none⟩ = some (.string x.s)) W → (fun w' => w'.cell? ⟨w.heap.size, 0, none⟩ = some (.slice na ns.length nc) ∧ w'.cell? ⟨w.heap.size, 1, none⟩ = some (.slice sa st.length sc) ∧ w'.cell? ⟨w.heap.size + 1, 0, none⟩ = some (.int .i64 x.o) ∧ w'.cell? ⟨w.heap.size + 1, 1, none⟩ = some (.int .i64 x.n) ∧ w'.cell? ⟨w.heap.size + 1, 2, none⟩ = some (.string x.s)) ((W.setCell ⟨w.heap.size + 1 + 1, 0, none⟩ u).setCell ⟨w.heap.size + 1 + 1, 1, none⟩ v)) := fun W u v h => by
      have far : ∀ b o, b ≠ w.heap.size + 1 + 1 → ((W.setCell ⟨w.heap.size + 1 + 1, 0, none⟩ u).setCell ⟨w.heap.size + 1 + 1, 1, none⟩ v).cell? ⟨b, o, none⟩ = W.cell? ⟨b, o, none⟩ := fun b o hb => by
        rw [World.cell?_setCell_far _ _ _ _ (by exact Ne.symm hb), World.cell?_setCell_far _ _ _ _ (by exact Ne.symm hb)]
      obtain ⟨g0, g1, g2, g3, g4⟩ := h
      exact ⟨(far _ _ (by omega)).trans g0, (far _ _ (by omega)).trans g1, (far _ _ (by omega)).trans g2, (far _ _ (by omega)).trans g3, (far _ _ (by omega)).trans g4⟩
    clear i0 i1 i2 hBLc HBL HBI
    go_upto_region 2 with fail
    replace hR : FunRow w1.drew a fs := hR
    replace hs : NumRow w1.drew na ns := hs
    replace ho : TextsRow w1.drew sa st := ho
    replace hBC : w1.drew.heap[w.heap.size + 1 + 1]? = some (.cells #[.int .i64 0, .int .i64 0] 63) := hBC
    replace hB := hB.drew
    refine wp_region_held_drew (S := (fun w' => w'.cell? ⟨w.heap.size, 0, none⟩ = some (.slice na ns.length nc) ∧ w'.cell? ⟨w.heap.size, 1, none⟩ = some (.slice sa st.length sc) ∧ w'.cell? ⟨w.heap.size + 1, 0, none⟩ = some (.int .i64 x.o) ∧ w'.cell? ⟨w.heap.size + 1, 1, none⟩ = some (.int .i64 x.n) ∧ w'.cell? ⟨w.heap.size + 1, 2, none⟩ = some (.string x.s))) (by kernel_rfl) ((unhide HST).2 _ (unhide HS)) (fun hHeld => ?_)
    generalize w1.drew = wa at *
    refine wpAnyH_take (i := 0) (oi := { dst := some 13, op := Go.Op.fieldAddr 61 (Go.Operand.tmp 9) 0, type := 0, pos := "l8_image.go:8", after := #[], guard := none }) (v := ?v1_0) rfl (by kernel_rfl) (by kernel_rfl) (by kernel_rfl) (fun _ _ _ h => h) (Or.inl ⟨by rfl, ?y1_0⟩) (by assumption) ?r1_0
    case y1_0 => (intro w hSw; (try dsimp only at hSw); go_simp; try (with_reducible rfl))
    try simp only [Act.put, List.setIfInBounds_toArray, List.set_cons_zero, List.set_cons_succ]
    refine wpAnyH_take (i := 1) (oi := { dst := some 14, op := Go.Op.load 3 (Go.Operand.tmp 13), type := 3, pos := "l8_image.go:8", after := #[{ on := 0, ground := Go.Ground.data }], guard := none }) (v := ?v2_1) rfl (by kernel_rfl) (by kernel_rfl) (by kernel_rfl) (fun _ _ _ h => h) (Or.inl ⟨by rfl, ?y2_1⟩) (by assumption) ?r2_1
    case y2_1 => (intro w hSw; (try dsimp only at hSw); go_simp; try (with_reducible rfl))
    try simp only [Act.put, List.setIfInBounds_toArray, List.set_cons_zero, List.set_cons_succ]
    refine wpAnyH_take (i := 2) (oi := { dst := some 15, op := Go.Op.move (Go.Operand.tmp 0), type := 31, pos := "l8_image.go:8", after := #[], guard := none }) (v := ?v3_2) rfl (by kernel_rfl) (by kernel_rfl) (by kernel_rfl) (fun _ _ _ h => h) (Or.inl ⟨by rfl, ?y3_2⟩) (by assumption) ?r3_2
    case y3_2 => (intro w hSw; (try dsimp only at hSw); go_simp; try (with_reducible rfl))
    try simp only [Act.put, List.setIfInBounds_toArray, List.set_cons_zero, List.set_cons_succ]
    refine wpAnyH_take (i := 3) (oi := { dst := some 16, op := Go.Op.load 33 (Go.Operand.tmp 7), type := 33, pos := "l8_image.go:8", after := #[], guard := none }) (v := ?v4_3) rfl (by kernel_rfl) (by kernel_rfl) (by kernel_rfl) (fun _ _ _ h => h) (Or.inl ⟨by rfl, ?y4_3⟩) (by assumption) ?r4_3
    case y4_3 => (intro w hSw; (try dsimp only at hSw); go_simp; try (with_reducible rfl))
    try simp only [Act.put, List.setIfInBounds_toArray, List.set_cons_zero, List.set_cons_succ]
    refine wpAnyH_take (i := 4) (oi := { dst := some 17, op := Go.Op.move (Go.Operand.tmp 1), type := 3, pos := "l8_image.go:8", after := #[], guard := none }) (v := ?v5_4) rfl (by kernel_rfl) (by kernel_rfl) (by kernel_rfl) (fun _ _ _ h => h) (Or.inl ⟨by rfl, ?y5_4⟩) (by assumption) ?r5_4
    case y5_4 => (intro w hSw; (try dsimp only at hSw); go_simp; try (with_reducible rfl))
    try simp only [Act.put, List.setIfInBounds_toArray, List.set_cons_zero, List.set_cons_succ]
    refine wpAnyH_take (i := 5) (oi := { dst := some 18, op := Go.Op.move (Go.Operand.tmp 3), type := 3, pos := "l8_image.go:8", after := #[], guard := none }) (v := ?v6_5) rfl (by kernel_rfl) (by kernel_rfl) (by kernel_rfl) (fun _ _ _ h => h) (Or.inl ⟨by rfl, ?y6_5⟩) (by assumption) ?r6_5
    case y6_5 => (intro w hSw; (try dsimp only at hSw); go_simp; try (with_reducible rfl))
    try simp only [Act.put, List.setIfInBounds_toArray, List.set_cons_zero, List.set_cons_succ]
    refine wpAnyH_take (i := 6) (oi := { dst := some 19, op := Go.Op.fieldAddr 61 (Go.Operand.tmp 9) 2, type := 0, pos := "l8_image.go:8", after := #[], guard := none }) (v := ?v7_6) rfl (by kernel_rfl) (by kernel_rfl) (by kernel_rfl) (fun _ _ _ h => h) (Or.inl ⟨by rfl, ?y7_6⟩) (by assumption) ?r7_6
    case y7_6 => (intro w hSw; (try dsimp only at hSw); go_simp; try (with_reducible rfl))
    try simp only [Act.put, List.setIfInBounds_toArray, List.set_cons_zero, List.set_cons_succ]
    refine wpAnyH_take (i := 7) (oi := { dst := some 20, op := Go.Op.load 9 (Go.Operand.tmp 19), type := 9, pos := "l8_image.go:8", after := #[{ on := 6, ground := Go.Ground.data }], guard := none }) (v := ?v8_7) rfl (by kernel_rfl) (by kernel_rfl) (by kernel_rfl) (fun _ _ _ h => h) (Or.inl ⟨by rfl, ?y8_7⟩) (by assumption) ?r8_7
    case y8_7 => (intro w hSw; (try dsimp only at hSw); go_simp; try (with_reducible rfl))
    try simp only [Act.put, List.setIfInBounds_toArray, List.set_cons_zero, List.set_cons_succ]
    refine wpAnyH_take (i := 9) (oi := { dst := some 22, op := Go.Op.move (Go.Operand.tmp 3), type := 3, pos := "l8_image.go:8", after := #[], guard := none }) (v := ?v9_9) rfl (by kernel_rfl) (by kernel_rfl) (by kernel_rfl) (fun _ _ _ h => h) (Or.inl ⟨by rfl, ?y9_9⟩) (by assumption) ?r9_9
    case y9_9 => (intro w hSw; (try dsimp only at hSw); go_simp; try (with_reducible rfl))
    try simp only [Act.put, List.setIfInBounds_toArray, List.set_cons_zero, List.set_cons_succ]
    refine wpAnyH_ready (rs := [8]) (by kernel_rfl) (by simp) ?_
    refine AllReadyH.cons (o := { dst := some 21, op := Go.Op.call { callee := Go.Callee.value (Go.Operand.func 55), args := #[Go.Operand.tmp 15, Go.Operand.tmp 16, Go.Operand.tmp 17, Go.Operand.tmp 18, Go.Operand.tmp 20], argTypes := #[31, 33, 3, 3, 9] }, type := 3, pos := "l8_image.go:8", after := #[{ on := 2, ground := Go.Ground.data }, { on := 3, ground := Go.Ground.data }, { on := 4, ground := Go.Ground.data }, { on := 5, ground := Go.Ground.data }, { on := 7, ground := Go.Ground.data }], guard := none }) rfl (fun K hK => ?_) AllReadyH.nil
    go_simp
    go_at_call 55
    refine (l7To_any a na sa cap nc sc fs ns st r at_ x.s _ hL hp0 (by omega) hsz hcap hcm h1 h2 h3 h4 (by assumption) (by assumption) (by assumption)).mono ?_
    rintro e wb ⟨rfl, hbk⟩
    replace hR := hR.below hbk
    replace hs := hs.below hbk
    replace ho := ho.below hbk
    replace hBC := box_below hBC hbk
    replace hB := bl_trans hB hbk
    replace hHeld := (unhide HST).1 _ _ hbk hHeld
    clear hbk
    go_wp2_with fail
    refine hK.out _ _ hHeld (fun _ => ?_)
    clear hK K
    try simp only [Act.put, List.setIfInBounds_toArray, List.set_cons_zero, List.set_cons_succ]
    refine wpAnyH_take (i := 10) (oi := { dst := some 23, op := Go.Op.binOp Go.BinOp.sub 3 (Go.Operand.tmp 21) (Go.Operand.tmp 22) 3, type := 3, pos := "l8_image.go:8", after := #[{ on := 8, ground := Go.Ground.data }, { on := 9, ground := Go.Ground.data }], guard := none }) (v := ?v10_10) rfl (by kernel_rfl) (by kernel_rfl) (by kernel_rfl) (fun _ _ _ h => h) (Or.inl ⟨by rfl, ?y10_10⟩) (by assumption) ?r10_10
    case y10_10 => (intro w hSw; (try dsimp only at hSw); go_simp; try (with_reducible rfl))
    try simp only [Act.put, List.setIfInBounds_toArray, List.set_cons_zero, List.set_cons_succ]
    refine wpAnyH_take (i := 11) (oi := { dst := some 24, op := Go.Op.build 63 #[(0, Go.Operand.tmp 14), (1, Go.Operand.tmp 23)], type := 63, pos := "l8_image.go:8", after := #[{ on := 1, ground := Go.Ground.data }, { on := 10, ground := Go.Ground.data }], guard := none }) (v := ?v11_11) rfl (by kernel_rfl) (by kernel_rfl) (by kernel_rfl) (fun _ _ _ h => h) (Or.inl ⟨by rfl, ?y11_11⟩) (by assumption) ?r11_11
    case y11_11 => (intro w hSw; (try dsimp only at hSw); go_simp; try (with_reducible rfl))
    try simp only [Act.put, List.setIfInBounds_toArray, List.set_cons_zero, List.set_cons_succ]
    refine wpAnyH_ready (rs := [12]) (by kernel_rfl) (by simp) ?_
    refine AllReadyH.cons (o := { dst := none, op := Go.Op.store 63 (Go.Operand.tmp 10) (Go.Operand.tmp 24), type := 0, pos := "l8_image.go:8", after := #[{ on := 11, ground := Go.Ground.data }, { on := 8, ground := Go.Ground.chain }, { on := 0, ground := Go.Ground.phase }, { on := 1, ground := Go.Ground.phase }, { on := 2, ground := Go.Ground.phase }, { on := 3, ground := Go.Ground.phase }, { on := 4, ground := Go.Ground.phase }, { on := 5, ground := Go.Ground.phase }, { on := 6, ground := Go.Ground.phase }, { on := 7, ground := Go.Ground.phase }, { on := 8, ground := Go.Ground.phase }, { on := 9, ground := Go.Ground.phase }, { on := 10, ground := Go.Ground.phase }, { on := 11, ground := Go.Ground.phase }], guard := none }) rfl (fun K hK => ?_) AllReadyH.nil
    have hrN := box2 hBC
    go_simp
    (try rw [hzw])
    have hFb := box2 (block_setCell (i := 1) (block_setCell (i := 0) hBC (.int .i64 x.o)) (.int .i64 z))
    have hB9 := (hB.setCell (p := ⟨w.heap.size + 1 + 1, 0, none⟩) (by show w.heap.size ≤ w.heap.size + 1 + 1; omega) (.int .i64 x.o)).setCell (p := ⟨w.heap.size + 1 + 1, 1, none⟩) (by show w.heap.size ≤ w.heap.size + 1 + 1; omega) (.int .i64 z)
    replace hHeld := unhide HKS _ (.int .i64 x.o) (.int .i64 z) hHeld
    clear hrN
    refine hK.out _ _ hHeld (fun _ => ?_)
    clear hK K
    try simp only [Act.put, List.setIfInBounds_toArray, List.set_cons_zero, List.set_cons_succ]
    refine wpAnyH_done (by kernel_rfl) ?_ _
    go_wp2_with fail
    have hFb' := hFb.1
    exact bodyPost_ret (v := .agg #[.int .i64 x.o, .int .i64 z]) (by simp [results, Tryz.results40, go_sem, hFb'.1, hFb'.2]) rfl ⟨by rw [unhide HEV], hB9⟩
theorem bl_drewT {W1 w : World} {B : Nat} (h : Below B W1 w) : Below B W1 w := h
set_option maxHeartbeats 8000000 in
theorem l8Of_any (a na sa : Option Addr) (cap nc sc : Nat) (fs : List FunD) (ns : List Int) (st : List (List ByteArray)) (r : Int) (w : World) (hF : formB fs ns st = true) (hL : Lying fs ns st) (hcap : fs.length ≤ cap) (hcm : cap ≤ maxLen) (h1 : ns.length ≤ nc) (h2 : nc ≤ maxLen) (h3 : st.length ≤ sc) (h4 : sc ≤ maxLen) (hR : FunRow w a fs) (hs : NumRow w na ns) (ho : TextsRow w sa st) :
    Calls Tryz.prog 21 #[.slice a fs.length cap, .int .i64 r, .agg #[.slice na ns.length nc, .slice sa st.length sc]] w fun e w' => ∃ a' c', e = .returned (.slice a' (partC fs st r fs.length).length c') ∧ CellsO w' w.heap.size (.slice a' (partC fs st r fs.length).length c') (partC fs st r fs.length) ∧ Below w.heap.size w w' := by
  have hpos : 0 < fs.length := (keep_parts (form_parts hF).1).1
  obtain ⟨fb, fo, rfl⟩ := hR.get hpos
  obtain ⟨nb, no, rfl⟩ := hs.get (by rw [hL.len]; exact hpos)
  obtain ⟨sb, so, rfl⟩ := ho.get (by rw [hL.2.2.1]; exact hpos)
  obtain ⟨W1, hW1⟩ : ∃ W1, w.alloc (.cells #[.slice (some ⟨nb, no, none⟩) ns.length nc, .slice (some ⟨sb, so, none⟩) st.length sc] 33) = W1 := ⟨_, rfl⟩
  have hB0 : Below w.heap.size w W1 := by rw [← hW1]; exact below_alloc1 _ _
  have hBL : W1.heap[w.heap.size]? = some (.cells #[.slice (some ⟨nb, no, none⟩) ns.length nc, .slice (some ⟨sb, so, none⟩) st.length sc] 33) := by rw [← hW1]; exact new_block _ _
  have HR1 := hide (hR.below hB0)
  have HN1 := hide (hs.below hB0)
  have HT1 := hide (ho.below hB0)
  have HL := hide hL
  have HFM := hide hF
  have hnl1 : ns.length ≤ fs.length := Nat.le_of_eq hL.len
  have hnl2 : fs.length ≤ ns.length := Nat.le_of_eq hL.len.symm
  have hsl1 : st.length ≤ fs.length := Nat.le_of_eq hL.2.2.1
  have hsl2 : fs.length ≤ st.length := Nat.le_of_eq hL.2.2.1.symm
  have h40 := hL.1
  obtain ⟨⟨z0, z1⟩, _⟩ := box2 hBL
  have HFS := hide (fun i j (hi : i < st.length) (hj : j < st[i].length) => stone_in (fs := fs) hF hi hj)
  have hlns : (st.length : Int) ≤ 9223372036854775807 := by omega
  have HW1 := hide hW1
  clear hR hs ho hL hF hW1 hBL
  go_enter Tryz.func21, Tryz.ntmps21
  go_upto_region 1 with fail
  rw [unhide HW1]
  clear HW1
  go_wp2_with fail
  go_loopw [7, 8] (fun v x w' => ∃ (i : Nat) (av : Option Addr) (cv : Nat) (l : List CellD), i ≤ fs.length ∧ v = .slice av l.length cv ∧ x = .int .i64 i ∧ Hid (l = partC fs st r i) ∧ CellsO w' W1.heap.size (.slice av l.length cv) l ∧ Below W1.heap.size W1 w') (fun _ x _ => fs.length - (intOf x).toNat)
  case atStart => exact ⟨0, _, _, [], Nat.zero_le _, rfl, rfl, rfl, CellsO.made W1, below_alloc1 _ _⟩
  case round =>
    obtain ⟨i, av, cv, l, hi, rfl, rfl, HLE0, hO0, hB⟩ := hrel
    have HO0 := hide hO0
    clear hO0
    by_cases hil : i < fs.length
    · have hil' : (i : Int) < (fs.length : Int) := by omega
      have hil2 : (i : Int) < (ns.length : Int) := by omega
      have hil3 : (i : Int) < (st.length : Int) := by omega
      have hi0 : (0 : Int) ≤ (i : Int) := by omega
      have hpl := (unhide HL).small i hi
      obtain ⟨ai, ci, f0, f1, f2, _, f4, f5, f6⟩ := (unhide HR1).at hil
      have hbl := (unhide HL).2.1 fs[i] (List.getElem_mem hil)
      have hbp : 0 < fs[i].body.length := by have := (keep_parts (form_parts (unhide HFM)).1).2.2.1 fs[i] (List.getElem_mem hil); unfold funOkB at this; simp only [Bool.and_eq_true, decide_eq_true_iff] at this; omega
      obtain ⟨ib, io, rfl⟩ := f6.get hbp
      have HI6 := hide f6
      have n0 := (unhide HN1).cells (k := i) (by omega)
      rw [(unhide HL).at (k := i) (by omega)] at n0
      have HF2 := hide f2
      have HXS := hide ((unhide HR1).sizes fs[i] (List.getElem_mem hil)).2.2
      clear f0 f1 f6
      go_wp2_with fail
      go_loopw [7, 9] (fun v x w' => ∃ (k : Nat) (av : Option Addr) (cv : Nat) (l : List CellD), k ≤ fs[i].body.length ∧ v = .slice av l.length cv ∧ x = .int .i64 k ∧ Hid (l = partC fs st r i ++ bodyC fs st r i k) ∧ CellsO w' W1.heap.size (.slice av l.length cv) l ∧ Below W1.heap.size W1 w') (fun _ x _ => fs[i].body.length - (intOf x).toNat)
      case atStart => exact ⟨0, av, cv, l, Nat.zero_le _, rfl, rfl, (by show _ = _; rw [unhide HLE0, bodyC_zero, List.append_nil]), unhide HO0, hB⟩
      case round =>
        clear HO0 HLE0 hB f2
        obtain ⟨k, av, cv, l, hk, rfl, rfl, HLE, hO, hB⟩ := hrel
        have hll : l.length ≤ place fs st i + k := by rw [unhide HLE, List.length_append, partC_len, bodyC_len]; exact Nat.le_refl _
        have f2 : wr.cell? ⟨fb, fo + i * 3 + 2, none⟩ = some (.slice (some ⟨ib, io, none⟩) fs[i].body.length ci) := (hB.cell (p := ⟨fb, fo + i * 3 + 2, none⟩) (World.block_lt_of_cell? W1 _ (unhide HF2))).trans (unhide HF2)
        by_cases hkl : k < fs[i].body.length
        · have hkl' : (k : Int) < (fs[i].body.length : Int) := by omega
          have hk0 : (0 : Int) ≤ (k : Int) := by omega
          obtain ⟨g0, g1, g2, _⟩ := (unhide HI6).cells hkl
          have hxs := unhide HXS fs[i].body[k] (List.getElem_mem hkl)
          have HBC : Hid (bodyC fs st r i (k + 1) = bodyC fs st r i k ++ [cellI fs st r ((place fs st i : Int) + (k : Int)) fs[i].body[k]]) := by
            show _ = _
            rw [bodyC_succ hil hkl, Int.natCast_add]
          have f2w := unhide HF2
          generalize hpn : place fs st i = pl at *
          clear hpn
          have hbl2 := hbl
          have HWP : Hid (IntKind.i64.wrap ((pl : Int) + (k : Int)) = (pl : Int) + (k : Int)) := by show _ = _; rw [IntKind.wrap_i64]; omega
          generalize fs[i].body[k] = x at *
          generalize hbn : fs[i].body.length = bl at *
          have HSC : Hid (∀ w2, Below W1.heap.size W1 w2 → (fun w' => w'.cell? ⟨w.heap.size, 0, none⟩ = some (.slice (some ⟨nb, no, none⟩) ns.length nc) ∧ w'.cell? ⟨w.heap.size, 1, none⟩ = some (.slice (some ⟨sb, so, none⟩) st.length sc) ∧ w'.cell? ⟨nb, no + i, none⟩ = some (.int .i64 (pl : Int)) ∧ w'.cell? ⟨fb, fo + i * 3 + 2, none⟩ = some (.slice (some ⟨ib, io, none⟩) bl ci) ∧ w'.cell? ⟨ib, io + k * 3, none⟩ = some (.int .i64 x.o) ∧ w'.cell? ⟨ib, io + k * 3 + 1, none⟩ = some (.int .i64 x.n) ∧ w'.cell? ⟨ib, io + k * 3 + 2, none⟩ = some (.string x.s)) w2) := fun w2 hb => ⟨(hb.cell (World.block_lt_of_cell? W1 _ z0)).trans z0, (hb.cell (World.block_lt_of_cell? W1 _ z1)).trans z1, (hb.cell (World.block_lt_of_cell? W1 _ n0)).trans n0, (hb.cell (World.block_lt_of_cell? W1 _ f2w)).trans f2w, (hb.cell (World.block_lt_of_cell? W1 _ g0)).trans g0, (hb.cell (World.block_lt_of_cell? W1 _ g1)).trans g1, (hb.cell (World.block_lt_of_cell? W1 _ g2)).trans g2⟩
          have HST : Hid (Stable (fun w' => w'.cell? ⟨w.heap.size, 0, none⟩ = some (.slice (some ⟨nb, no, none⟩) ns.length nc) ∧ w'.cell? ⟨w.heap.size, 1, none⟩ = some (.slice (some ⟨sb, so, none⟩) st.length sc) ∧ w'.cell? ⟨nb, no + i, none⟩ = some (.int .i64 (pl : Int)) ∧ w'.cell? ⟨fb, fo + i * 3 + 2, none⟩ = some (.slice (some ⟨ib, io, none⟩) bl ci) ∧ w'.cell? ⟨ib, io + k * 3, none⟩ = some (.int .i64 x.o) ∧ w'.cell? ⟨ib, io + k * 3 + 1, none⟩ = some (.int .i64 x.n) ∧ w'.cell? ⟨ib, io + k * 3 + 2, none⟩ = some (.string x.s))) := ((Stable.cell _ _).and ((Stable.cell _ _).and ((Stable.cell _ _).and ((Stable.cell _ _).and ((Stable.cell _ _).and ((Stable.cell _ _).and (Stable.cell _ _)))))))
          have HS := hide (unhide HSC _ hB)
          have HO := hide hO
          have HB := hide hB
          clear g0 g1 g2 f2w hO hB
          go_upto_region 8 with fail
          have hO : CellsO wr.drew W1.heap.size (.slice av l.length cv) l := unhide HO
          have hB : Below W1.heap.size W1 wr.drew := (unhide HB).drew
          clear HO HB
          refine wp_region_held_drew (S := (fun w' => w'.cell? ⟨w.heap.size, 0, none⟩ = some (.slice (some ⟨nb, no, none⟩) ns.length nc) ∧ w'.cell? ⟨w.heap.size, 1, none⟩ = some (.slice (some ⟨sb, so, none⟩) st.length sc) ∧ w'.cell? ⟨nb, no + i, none⟩ = some (.int .i64 (pl : Int)) ∧ w'.cell? ⟨fb, fo + i * 3 + 2, none⟩ = some (.slice (some ⟨ib, io, none⟩) bl ci) ∧ w'.cell? ⟨ib, io + k * 3, none⟩ = some (.int .i64 x.o) ∧ w'.cell? ⟨ib, io + k * 3 + 1, none⟩ = some (.int .i64 x.n) ∧ w'.cell? ⟨ib, io + k * 3 + 2, none⟩ = some (.string x.s))) (by kernel_rfl) ((unhide HST).2 _ (unhide HS)) (fun hHeld => ?_)
          generalize wr.drew = wa at *
          refine wpAnyH_take (i := 0) (oi := { dst := some 28, op := Go.Op.move (Go.Operand.tmp 7), type := 29, pos := "l8_image.go:18", after := #[], guard := none }) (v := ?v12_0) rfl (by kernel_rfl) (by kernel_rfl) (by kernel_rfl) (fun _ _ _ h => h) (Or.inl ⟨by rfl, ?y12_0⟩) (by assumption) ?r12_0
          case y12_0 => (intro w hSw; (try dsimp only at hSw); go_simp; try (with_reducible rfl))
          try simp only [Act.put, List.setIfInBounds_toArray, List.set_cons_zero, List.set_cons_succ]
          refine wpAnyH_take (i := 1) (oi := { dst := some 29, op := Go.Op.move (Go.Operand.tmp 0), type := 31, pos := "l8_image.go:18", after := #[], guard := none }) (v := ?v13_1) rfl (by kernel_rfl) (by kernel_rfl) (by kernel_rfl) (fun _ _ _ h => h) (Or.inl ⟨by rfl, ?y13_1⟩) (by assumption) ?r13_1
          case y13_1 => (intro w hSw; (try dsimp only at hSw); go_simp; try (with_reducible rfl))
          try simp only [Act.put, List.setIfInBounds_toArray, List.set_cons_zero, List.set_cons_succ]
          refine wpAnyH_take (i := 2) (oi := { dst := some 30, op := Go.Op.move (Go.Operand.tmp 1), type := 3, pos := "l8_image.go:18", after := #[], guard := none }) (v := ?v14_2) rfl (by kernel_rfl) (by kernel_rfl) (by kernel_rfl) (fun _ _ _ h => h) (Or.inl ⟨by rfl, ?y14_2⟩) (by assumption) ?r14_2
          case y14_2 => (intro w hSw; (try dsimp only at hSw); go_simp; try (with_reducible rfl))
          try simp only [Act.put, List.setIfInBounds_toArray, List.set_cons_zero, List.set_cons_succ]
          refine wpAnyH_take (i := 3) (oi := { dst := some 31, op := Go.Op.load 33 (Go.Operand.tmp 5), type := 33, pos := "l8_image.go:18", after := #[], guard := none }) (v := ?v15_3) rfl (by kernel_rfl) (by kernel_rfl) (by kernel_rfl) (fun _ _ _ h => h) (Or.inl ⟨by rfl, ?y15_3⟩) (by assumption) ?r15_3
          case y15_3 => (intro w hSw; (try dsimp only at hSw); go_simp; try (with_reducible rfl))
          try simp only [Act.put, List.setIfInBounds_toArray, List.set_cons_zero, List.set_cons_succ]
          refine wpAnyH_take (i := 4) (oi := { dst := some 32, op := Go.Op.fieldAddr 33 (Go.Operand.tmp 5) 0, type := 0, pos := "l8_image.go:18", after := #[], guard := none }) (v := ?v16_4) rfl (by kernel_rfl) (by kernel_rfl) (by kernel_rfl) (fun _ _ _ h => h) (Or.inl ⟨by rfl, ?y16_4⟩) (by assumption) ?r16_4
          case y16_4 => (intro w hSw; (try dsimp only at hSw); go_simp; try (with_reducible rfl))
          try simp only [Act.put, List.setIfInBounds_toArray, List.set_cons_zero, List.set_cons_succ]
          refine wpAnyH_take (i := 5) (oi := { dst := some 33, op := Go.Op.load 23 (Go.Operand.tmp 32), type := 23, pos := "l8_image.go:18", after := #[{ on := 4, ground := Go.Ground.data }], guard := none }) (v := ?v17_5) rfl (by kernel_rfl) (by kernel_rfl) (by kernel_rfl) (fun _ _ _ h => h) (Or.inl ⟨by rfl, ?y17_5⟩) (by assumption) ?r17_5
          case y17_5 => (intro w hSw; (try dsimp only at hSw); go_simp; try (with_reducible rfl))
          try simp only [Act.put, List.setIfInBounds_toArray, List.set_cons_zero, List.set_cons_succ]
          refine wpAnyH_take (i := 6) (oi := { dst := some 34, op := Go.Op.move (Go.Operand.tmp 8), type := 3, pos := "l8_image.go:18", after := #[], guard := none }) (v := ?v18_6) rfl (by kernel_rfl) (by kernel_rfl) (by kernel_rfl) (fun _ _ _ h => h) (Or.inl ⟨by rfl, ?y18_6⟩) (by assumption) ?r18_6
          case y18_6 => (intro w hSw; (try dsimp only at hSw); go_simp; try (with_reducible rfl))
          try simp only [Act.put, List.setIfInBounds_toArray, List.set_cons_zero, List.set_cons_succ]
          refine wpAnyH_take (i := 7) (oi := { dst := some 35, op := Go.Op.indexAddr 23 (Go.Operand.tmp 33) (Go.Operand.tmp 34), type := 0, pos := "l8_image.go:18", after := #[{ on := 5, ground := Go.Ground.data }, { on := 6, ground := Go.Ground.data }], guard := none }) (v := ?v19_7) rfl (by kernel_rfl) (by kernel_rfl) (by kernel_rfl) (fun _ _ _ h => h) (Or.inl ⟨by rfl, ?y19_7⟩) (by assumption) ?r19_7
          case y19_7 => (intro w hSw; (try dsimp only at hSw); go_simp; try (with_reducible rfl))
          try simp only [Act.put, List.setIfInBounds_toArray, List.set_cons_zero, List.set_cons_succ]
          refine wpAnyH_take (i := 8) (oi := { dst := some 36, op := Go.Op.load 3 (Go.Operand.tmp 35), type := 3, pos := "l8_image.go:18", after := #[{ on := 7, ground := Go.Ground.data }], guard := none }) (v := ?v20_8) rfl (by kernel_rfl) (by kernel_rfl) (by kernel_rfl) (fun _ _ _ h => h) (Or.inl ⟨by rfl, ?y20_8⟩) (by assumption) ?r20_8
          case y20_8 => (intro w hSw; (try dsimp only at hSw); go_simp; try (with_reducible rfl))
          try simp only [Act.put, List.setIfInBounds_toArray, List.set_cons_zero, List.set_cons_succ]
          refine wpAnyH_take (i := 9) (oi := { dst := some 37, op := Go.Op.move (Go.Operand.tmp 9), type := 3, pos := "l8_image.go:18", after := #[], guard := none }) (v := ?v21_9) rfl (by kernel_rfl) (by kernel_rfl) (by kernel_rfl) (fun _ _ _ h => h) (Or.inl ⟨by rfl, ?y21_9⟩) (by assumption) ?r21_9
          case y21_9 => (intro w hSw; (try dsimp only at hSw); go_simp; try (with_reducible rfl))
          try simp only [Act.put, List.setIfInBounds_toArray, List.set_cons_zero, List.set_cons_succ]
          refine wpAnyH_take (i := 10) (oi := { dst := some 38, op := Go.Op.binOp Go.BinOp.add 3 (Go.Operand.tmp 36) (Go.Operand.tmp 37) 3, type := 3, pos := "l8_image.go:18", after := #[{ on := 8, ground := Go.Ground.data }, { on := 9, ground := Go.Ground.data }], guard := none }) (v := ?v22_10) rfl (by kernel_rfl) (by kernel_rfl) (by kernel_rfl) (fun _ _ _ h => h) (Or.inl ⟨by rfl, ?y22_10⟩) (by assumption) ?r22_10
          case y22_10 => (intro w hSw; (try dsimp only at hSw); go_simp; try (with_reducible rfl))
          try simp only [Act.put, List.setIfInBounds_toArray, List.set_cons_zero, List.set_cons_succ]
          refine wpAnyH_take (i := 11) (oi := { dst := some 39, op := Go.Op.move (Go.Operand.tmp 0), type := 31, pos := "l8_image.go:18", after := #[], guard := none }) (v := ?v23_11) rfl (by kernel_rfl) (by kernel_rfl) (by kernel_rfl) (fun _ _ _ h => h) (Or.inl ⟨by rfl, ?y23_11⟩) (by assumption) ?r23_11
          case y23_11 => (intro w hSw; (try dsimp only at hSw); go_simp; try (with_reducible rfl))
          try simp only [Act.put, List.setIfInBounds_toArray, List.set_cons_zero, List.set_cons_succ]
          refine wpAnyH_take (i := 12) (oi := { dst := some 40, op := Go.Op.move (Go.Operand.tmp 8), type := 3, pos := "l8_image.go:18", after := #[], guard := none }) (v := ?v24_12) rfl (by kernel_rfl) (by kernel_rfl) (by kernel_rfl) (fun _ _ _ h => h) (Or.inl ⟨by rfl, ?y24_12⟩) (by assumption) ?r24_12
          case y24_12 => (intro w hSw; (try dsimp only at hSw); go_simp; try (with_reducible rfl))
          try simp only [Act.put, List.setIfInBounds_toArray, List.set_cons_zero, List.set_cons_succ]
          refine wpAnyH_take (i := 13) (oi := { dst := some 41, op := Go.Op.indexAddr 31 (Go.Operand.tmp 39) (Go.Operand.tmp 40), type := 0, pos := "l8_image.go:18", after := #[{ on := 11, ground := Go.Ground.data }, { on := 12, ground := Go.Ground.data }], guard := none }) (v := ?v25_13) rfl (by kernel_rfl) (by kernel_rfl) (by kernel_rfl) (fun _ _ _ h => h) (Or.inl ⟨by rfl, ?y25_13⟩) (by assumption) ?r25_13
          case y25_13 => (intro w hSw; (try dsimp only at hSw); go_simp; try (with_reducible rfl))
          try simp only [Act.put, List.setIfInBounds_toArray, List.set_cons_zero, List.set_cons_succ]
          refine wpAnyH_take (i := 14) (oi := { dst := some 42, op := Go.Op.fieldAddr 51 (Go.Operand.tmp 41) 2, type := 0, pos := "l8_image.go:18", after := #[{ on := 13, ground := Go.Ground.data }], guard := none }) (v := ?v26_14) rfl (by kernel_rfl) (by kernel_rfl) (by kernel_rfl) (fun _ _ _ h => h) (Or.inl ⟨by rfl, ?y26_14⟩) (by assumption) ?r26_14
          case y26_14 => (intro w hSw; (try dsimp only at hSw); go_simp; try (with_reducible rfl))
          try simp only [Act.put, List.setIfInBounds_toArray, List.set_cons_zero, List.set_cons_succ]
          refine wpAnyH_take (i := 15) (oi := { dst := some 43, op := Go.Op.load 49 (Go.Operand.tmp 42), type := 49, pos := "l8_image.go:18", after := #[{ on := 14, ground := Go.Ground.data }], guard := none }) (v := ?v27_15) rfl (by kernel_rfl) (by kernel_rfl) (by kernel_rfl) (fun _ _ _ h => h) (Or.inl ⟨by rfl, ?y27_15⟩) (by assumption) ?r27_15
          case y27_15 => (intro w hSw; (try dsimp only at hSw); go_simp; try (with_reducible rfl))
          try simp only [Act.put, List.setIfInBounds_toArray, List.set_cons_zero, List.set_cons_succ]
          refine wpAnyH_take (i := 16) (oi := { dst := some 44, op := Go.Op.move (Go.Operand.tmp 9), type := 3, pos := "l8_image.go:18", after := #[], guard := none }) (v := ?v28_16) rfl (by kernel_rfl) (by kernel_rfl) (by kernel_rfl) (fun _ _ _ h => h) (Or.inl ⟨by rfl, ?y28_16⟩) (by assumption) ?r28_16
          case y28_16 => (intro w hSw; (try dsimp only at hSw); go_simp; try (with_reducible rfl))
          try simp only [Act.put, List.setIfInBounds_toArray, List.set_cons_zero, List.set_cons_succ]
          refine wpAnyH_take (i := 17) (oi := { dst := some 45, op := Go.Op.indexAddr 49 (Go.Operand.tmp 43) (Go.Operand.tmp 44), type := 0, pos := "l8_image.go:18", after := #[{ on := 15, ground := Go.Ground.data }, { on := 16, ground := Go.Ground.data }], guard := none }) (v := ?v29_17) rfl (by kernel_rfl) (by kernel_rfl) (by kernel_rfl) (fun _ _ _ h => h) (Or.inl ⟨by rfl, ?y29_17⟩) (by assumption) ?r29_17
          case y29_17 => (intro w hSw; (try dsimp only at hSw); go_simp; try (with_reducible rfl))
          try simp only [Act.put, List.setIfInBounds_toArray, List.set_cons_zero, List.set_cons_succ]
          refine wpAnyH_take (i := 18) (oi := { dst := some 46, op := Go.Op.load 61 (Go.Operand.tmp 45), type := 61, pos := "l8_image.go:18", after := #[{ on := 17, ground := Go.Ground.data }], guard := none }) (v := ?v30_18) rfl (by kernel_rfl) (by kernel_rfl) (by kernel_rfl) (fun _ _ _ h => h) (Or.inl ⟨by rfl, ?y30_18⟩) (by assumption) ?r30_18
          case y30_18 => (intro w hSw; (try dsimp only at hSw); go_simp; try (with_reducible rfl))
          try simp only [Act.put, List.setIfInBounds_toArray, List.set_cons_zero, List.set_cons_succ]
          refine wpAnyH_ready (rs := [19]) (by kernel_rfl) (by simp) ?_
          refine AllReadyH.cons (o := { dst := some 47, op := Go.Op.call { callee := Go.Callee.value (Go.Operand.func 40), args := #[Go.Operand.tmp 29, Go.Operand.tmp 30, Go.Operand.tmp 31, Go.Operand.tmp 38, Go.Operand.tmp 46], argTypes := #[31, 3, 33, 3, 61] }, type := 63, pos := "l8_image.go:18", after := #[{ on := 1, ground := Go.Ground.data }, { on := 2, ground := Go.Ground.data }, { on := 3, ground := Go.Ground.data }, { on := 10, ground := Go.Ground.data }, { on := 18, ground := Go.Ground.data }], guard := none }) rfl (fun K hK => ?_) AllReadyH.nil
          go_simp
          rw [unhide HWP]
          go_at_call 40
          refine (l8Cell_any _ _ _ cap nc sc fs ns st r ((pl : Int) + (k : Int)) x _ (unhide HL) (by omega) (by omega) hxs hcap hcm h1 h2 h3 h4 ((unhide HR1).below (bl_drewT hB)) ((unhide HN1).below (bl_drewT hB)) ((unhide HT1).below (bl_drewT hB))).mono ?_
          rintro e wc ⟨rfl, hbc⟩
          replace hHeld := (unhide HST).1 _ _ hbc hHeld
          generalize cellI fs st r ((pl : Int) + (k : Int)) x = y at *
          go_wp2_with fail
          refine hK.out _ _ hHeld (fun _ => ?_)
          clear hK K
          try simp only [Act.put, List.setIfInBounds_toArray, List.set_cons_zero, List.set_cons_succ]
          refine wpAnyH_ready (rs := [20]) (by kernel_rfl) (by simp) ?_
          refine AllReadyH.cons (o := { dst := some 48, op := Go.Op.buildSlice 29 1 #[(0, Go.Operand.tmp 47)], type := 29, pos := "l8_image.go:18", after := #[{ on := 19, ground := Go.Ground.data }], guard := none }) rfl (fun K hK => ?_) AllReadyH.nil
          go_simp
          replace hHeld := (unhide HST).1 _ _ (below_alloc1 wc (.cells #[.int .i64 y.f, .int .i64 y.p] 63)) hHeld
          refine hK.out _ _ hHeld (fun _ => ?_)
          clear hK K
          try simp only [Act.put, List.setIfInBounds_toArray, List.set_cons_zero, List.set_cons_succ]
          refine wpAnyH_ready (rs := [21]) (by kernel_rfl) (by simp) ?_
          refine AllReadyH.cons (o := { dst := some 49, op := Go.Op.call { callee := Go.Callee.builtin Go.Builtin.append, args := #[Go.Operand.tmp 28, Go.Operand.tmp 48], argTypes := #[29, 29] }, type := 29, pos := "l8_image.go:18", after := #[{ on := 0, ground := Go.Ground.data }, { on := 20, ground := Go.Ground.data }, { on := 19, ground := Go.Ground.chain }], guard := none }) rfl (fun K hK => ?_) AllReadyH.nil
          obtain ⟨a3, c3, w3, hrun3, hO3, hg3, hbw3⟩ := cells_more (x := (⟨y.f, y.p⟩ : CellD)) rfl (hO.below hbc) (Nat.le_trans hB.size hbc.size) (by omega) 29
          have hB3 := hbw3 W1 (bl_trans hB hbc)
          replace hHeld := unhide HSC _ hB3
          have HO3 := hide hO3
          have HB3 := hide hB3
          refine step_run rfl (.tmp 28) (.tmp 48) 29 29 rfl _ _ _ (by simp [Act.eval]) (by simp [Act.eval]) hrun3 ?_
          clear hO3 hB3 hrun3 hg3 hbw3 hbc hO hB
          refine hK.out _ _ hHeld (fun _ => ?_)
          clear hK K
          try simp only [Act.put, List.setIfInBounds_toArray, List.set_cons_zero, List.set_cons_succ]
          refine wpAnyH_take (i := 22) (oi := { dst := some 7, op := Go.Op.assign (Go.Operand.tmp 49), type := 29, pos := "l8_image.go:18", after := #[{ on := 21, ground := Go.Ground.data }, { on := 21, ground := Go.Ground.chain }, { on := 0, ground := Go.Ground.phase }, { on := 1, ground := Go.Ground.phase }, { on := 2, ground := Go.Ground.phase }, { on := 3, ground := Go.Ground.phase }, { on := 4, ground := Go.Ground.phase }, { on := 5, ground := Go.Ground.phase }, { on := 6, ground := Go.Ground.phase }, { on := 7, ground := Go.Ground.phase }, { on := 8, ground := Go.Ground.phase }, { on := 9, ground := Go.Ground.phase }, { on := 10, ground := Go.Ground.phase }, { on := 11, ground := Go.Ground.phase }, { on := 12, ground := Go.Ground.phase }, { on := 13, ground := Go.Ground.phase }, { on := 14, ground := Go.Ground.phase }, { on := 15, ground := Go.Ground.phase }, { on := 16, ground := Go.Ground.phase }, { on := 17, ground := Go.Ground.phase }, { on := 18, ground := Go.Ground.phase }, { on := 19, ground := Go.Ground.phase }, { on := 20, ground := Go.Ground.phase }, { on := 21, ground := Go.Ground.phase }], guard := none }) (v := ?v31_22) rfl (by kernel_rfl) (by kernel_rfl) (by kernel_rfl) (fun _ _ _ h => h) (Or.inl ⟨by rfl, ?y31_22⟩) (by assumption) ?r31_22
          case y31_22 => (intro w hSw; (try dsimp only at hSw); go_simp; try (with_reducible rfl))
          try simp only [Act.put, List.setIfInBounds_toArray, List.set_cons_zero, List.set_cons_succ]
          refine wpAnyH_done (by kernel_rfl) ?_ _
          go_wp2_with fail
          exact ⟨⟨k + 1, a3, c3, l ++ [y], by omega, by rw [List.length_append]; rfl, by go_num, (by show _ = _; rw [unhide HLE, List.append_assoc, ← unhide HBC]), unhide HO3, unhide HB3⟩, by simp [intOf]; omega⟩
        · have hkl' : ¬ (k : Int) < (fs[i].body.length : Int) := by omega
          have hke : k = fs[i].body.length := by omega
          have HLE2 : Hid (l = partC fs st r i ++ bodyC fs st r i (lenAt fs i)) := by show _ = _; rw [unhide HLE, hke, lenAt_is hil]
          have HO := hide hO
          obtain ⟨ti, tci, t0, t4, t5, t6⟩ := (unhide HT1).at (k := i) (by omega)
          have HT0 := hide t0
          have HT6 := hide t6
          clear hO HLE t0 t6
          have t0 : wr.cell? ⟨sb, so + i, none⟩ = some (.slice ti (st[i]'(by omega)).length tci) := (hB.cell (p := ⟨sb, so + i, none⟩) (World.block_lt_of_cell? W1 _ (unhide HT0))).trans (unhide HT0)
          have q1 : wr.cell? ⟨w.heap.size, 1, none⟩ = some (.slice (some ⟨sb, so, none⟩) st.length sc) := (hB.cell (p := ⟨w.heap.size, 1, none⟩) (World.block_lt_of_cell? W1 _ z1)).trans z1
          go_wp2_with fail
          go_loopw [7, 10] (fun v x w' => ∃ (j : Nat) (av : Option Addr) (cv : Nat) (l : List CellD), j ≤ (st[i]'(by omega)).length ∧ v = .slice av l.length cv ∧ x = .int .i64 j ∧ Hid (l = partC fs st r i ++ bodyC fs st r i (lenAt fs i) ++ stoneC fs st i j) ∧ CellsO w' W1.heap.size (.slice av l.length cv) l ∧ Below W1.heap.size W1 w') (fun _ x _ => (st[i]'(by omega)).length - (intOf x).toNat)
          case atStart => exact ⟨0, av, cv, l, Nat.zero_le _, rfl, rfl, (by show _ = _; rw [unhide HLE2, stoneC_zero, List.append_nil]), unhide HO, hB⟩
          case round =>
            clear HO HLE2 hB t0 q1 f2
            obtain ⟨j, av, cv, l, hj, rfl, rfl, HLE, hO, hB⟩ := hrel
            have hsi : i < st.length := by omega
            have hll : l.length ≤ place fs st (i + 1) := by
              have e2 := stAt_is hsi
              rw [unhide HLE, List.length_append, List.length_append, partC_len, bodyC_len, stoneC_len, place, e2]
              omega
            have hpm := (unhide HL).small (i + 1) (by omega)
            have hst9 : (st[i]'hsi).length ≤ place fs st (i + 1) := by rw [place, stAt_is hsi]; omega
            have t0 : wr.cell? ⟨sb, so + i, none⟩ = some (.slice ti (st[i]'(by omega)).length tci) := (hB.cell (p := ⟨sb, so + i, none⟩) (World.block_lt_of_cell? W1 _ (unhide HT0))).trans (unhide HT0)
            have q1 : wr.cell? ⟨w.heap.size, 1, none⟩ = some (.slice (some ⟨sb, so, none⟩) st.length sc) := (hB.cell (p := ⟨w.heap.size, 1, none⟩) (World.block_lt_of_cell? W1 _ z1)).trans z1
            by_cases hjl : j < (st[i]'(by omega)).length
            · have hjl' : (j : Int) < ((st[i]'(by omega)).length : Int) := by omega
              have hj0 : (0 : Int) ≤ (j : Int) := by omega
              obtain ⟨tb, to_, rfl⟩ := (unhide HT6).get (by omega)
              obtain ⟨s0, ssz⟩ := (unhide HT6).cells hjl
              obtain ⟨hf0, hfl⟩ := unhide HFS i j hsi hjl
              obtain ⟨f, hfi⟩ : ∃ f : Nat, findI fs (st[i]'hsi)[j] = (f : Int) := ⟨(findI fs (st[i]'hsi)[j]).toNat, by omega⟩
              have hfn : f < fs.length := by omega
              have HBC : Hid (stoneC fs st i (j + 1) = stoneC fs st i j ++ [(⟨8, (place fs st f : Int)⟩ : CellD)]) := by
                show _ = _
                rw [stoneC_succ hsi hjl]
                unfold farC
                rw [hfi, Int.toNat_natCast]
              have HFD : Hid (∀ w', FunRow w' (some ⟨fb, fo, none⟩) fs → Calls Tryz.prog 41 #[.slice (some ⟨fb, fo, none⟩) fs.length cap, .string (st[i]'hsi)[j]] w' fun e w'' => e = .returned (.int .i64 (f : Int)) ∧ Below w'.heap.size w' w'') := fun w' h => by
                have := specFind_any (some ⟨fb, fo, none⟩) cap fs (st[i]'hsi)[j] w' ssz hcap hcm h
                rw [hfi] at this
                exact this
              have n0f := (unhide HN1).cells (k := f) (by omega)
              rw [(unhide HL).at (k := f) (by omega)] at n0f
              have t0w := unhide HT0
              have hf1 : (f : Int) < (ns.length : Int) := by omega
              have hf2 : (0 : Int) ≤ (f : Int) := by omega
              clear hf0 hfl hfi
              generalize hpn : place fs st (i + 1) = pm at *
              generalize place fs st f = pf at *
              generalize (st[i]'hsi)[j] = s at *
              have HSC : Hid (∀ w2, Below W1.heap.size W1 w2 → (fun w' => w'.cell? ⟨w.heap.size, 0, none⟩ = some (.slice (some ⟨nb, no, none⟩) ns.length nc) ∧ w'.cell? ⟨w.heap.size, 1, none⟩ = some (.slice (some ⟨sb, so, none⟩) st.length sc) ∧ w'.cell? ⟨sb, so + i, none⟩ = some (.slice (some ⟨tb, to_, none⟩) (st[i]'hsi).length tci) ∧ w'.cell? ⟨tb, to_ + j, none⟩ = some (.string s) ∧ w'.cell? ⟨nb, no + f, none⟩ = some (.int .i64 (pf : Int))) w2) := fun w2 hb => ⟨(hb.cell (World.block_lt_of_cell? W1 _ z0)).trans z0, (hb.cell (World.block_lt_of_cell? W1 _ z1)).trans z1, (hb.cell (World.block_lt_of_cell? W1 _ t0w)).trans t0w, (hb.cell (World.block_lt_of_cell? W1 _ s0)).trans s0, (hb.cell (World.block_lt_of_cell? W1 _ n0f)).trans n0f⟩
              have HST : Hid (Stable (fun w' => w'.cell? ⟨w.heap.size, 0, none⟩ = some (.slice (some ⟨nb, no, none⟩) ns.length nc) ∧ w'.cell? ⟨w.heap.size, 1, none⟩ = some (.slice (some ⟨sb, so, none⟩) st.length sc) ∧ w'.cell? ⟨sb, so + i, none⟩ = some (.slice (some ⟨tb, to_, none⟩) (st[i]'hsi).length tci) ∧ w'.cell? ⟨tb, to_ + j, none⟩ = some (.string s) ∧ w'.cell? ⟨nb, no + f, none⟩ = some (.int .i64 (pf : Int)))) := ((Stable.cell _ _).and ((Stable.cell _ _).and ((Stable.cell _ _).and ((Stable.cell _ _).and (Stable.cell _ _)))))
              have HS := hide (unhide HSC _ hB)
              have HO := hide hO
              have HB := hide hB
              clear s0 n0f t0w hO hB
              go_upto_region 12 with fail
              have hO : CellsO wr.drew W1.heap.size (.slice av l.length cv) l := unhide HO
              have hB : Below W1.heap.size W1 wr.drew := (unhide HB).drew
              clear HO HB
              refine wp_region_held_drew (S := (fun w' => w'.cell? ⟨w.heap.size, 0, none⟩ = some (.slice (some ⟨nb, no, none⟩) ns.length nc) ∧ w'.cell? ⟨w.heap.size, 1, none⟩ = some (.slice (some ⟨sb, so, none⟩) st.length sc) ∧ w'.cell? ⟨sb, so + i, none⟩ = some (.slice (some ⟨tb, to_, none⟩) (st[i]'hsi).length tci) ∧ w'.cell? ⟨tb, to_ + j, none⟩ = some (.string s) ∧ w'.cell? ⟨nb, no + f, none⟩ = some (.int .i64 (pf : Int)))) (by kernel_rfl) ((unhide HST).2 _ (unhide HS)) (fun hHeld => ?_)
              generalize wr.drew = wa at *
              refine wpAnyH_take (i := 0) (oi := { dst := some 60, op := Go.Op.move (Go.Operand.tmp 7), type := 29, pos := "l8_image.go:21", after := #[], guard := none }) (v := ?v32_0) rfl (by kernel_rfl) (by kernel_rfl) (by kernel_rfl) (fun _ _ _ h => h) (Or.inl ⟨by rfl, ?y32_0⟩) (by assumption) ?r32_0
              case y32_0 => (intro w hSw; (try dsimp only at hSw); go_simp; try (with_reducible rfl))
              try simp only [Act.put, List.setIfInBounds_toArray, List.set_cons_zero, List.set_cons_succ]
              refine wpAnyH_take (i := 1) (oi := { dst := some 61, op := Go.Op.fieldAddr 33 (Go.Operand.tmp 5) 0, type := 0, pos := "l8_image.go:21", after := #[], guard := none }) (v := ?v33_1) rfl (by kernel_rfl) (by kernel_rfl) (by kernel_rfl) (fun _ _ _ h => h) (Or.inl ⟨by rfl, ?y33_1⟩) (by assumption) ?r33_1
              case y33_1 => (intro w hSw; (try dsimp only at hSw); go_simp; try (with_reducible rfl))
              try simp only [Act.put, List.setIfInBounds_toArray, List.set_cons_zero, List.set_cons_succ]
              refine wpAnyH_take (i := 2) (oi := { dst := some 62, op := Go.Op.load 23 (Go.Operand.tmp 61), type := 23, pos := "l8_image.go:21", after := #[{ on := 1, ground := Go.Ground.data }], guard := none }) (v := ?v34_2) rfl (by kernel_rfl) (by kernel_rfl) (by kernel_rfl) (fun _ _ _ h => h) (Or.inl ⟨by rfl, ?y34_2⟩) (by assumption) ?r34_2
              case y34_2 => (intro w hSw; (try dsimp only at hSw); go_simp; try (with_reducible rfl))
              try simp only [Act.put, List.setIfInBounds_toArray, List.set_cons_zero, List.set_cons_succ]
              refine wpAnyH_take (i := 3) (oi := { dst := some 63, op := Go.Op.move (Go.Operand.tmp 0), type := 31, pos := "l8_image.go:21", after := #[], guard := none }) (v := ?v35_3) rfl (by kernel_rfl) (by kernel_rfl) (by kernel_rfl) (fun _ _ _ h => h) (Or.inl ⟨by rfl, ?y35_3⟩) (by assumption) ?r35_3
              case y35_3 => (intro w hSw; (try dsimp only at hSw); go_simp; try (with_reducible rfl))
              try simp only [Act.put, List.setIfInBounds_toArray, List.set_cons_zero, List.set_cons_succ]
              refine wpAnyH_take (i := 4) (oi := { dst := some 64, op := Go.Op.fieldAddr 33 (Go.Operand.tmp 5) 1, type := 0, pos := "l8_image.go:21", after := #[], guard := none }) (v := ?v36_4) rfl (by kernel_rfl) (by kernel_rfl) (by kernel_rfl) (fun _ _ _ h => h) (Or.inl ⟨by rfl, ?y36_4⟩) (by assumption) ?r36_4
              case y36_4 => (intro w hSw; (try dsimp only at hSw); go_simp; try (with_reducible rfl))
              try simp only [Act.put, List.setIfInBounds_toArray, List.set_cons_zero, List.set_cons_succ]
              refine wpAnyH_take (i := 5) (oi := { dst := some 65, op := Go.Op.load 24 (Go.Operand.tmp 64), type := 24, pos := "l8_image.go:21", after := #[{ on := 4, ground := Go.Ground.data }], guard := none }) (v := ?v37_5) rfl (by kernel_rfl) (by kernel_rfl) (by kernel_rfl) (fun _ _ _ h => h) (Or.inl ⟨by rfl, ?y37_5⟩) (by assumption) ?r37_5
              case y37_5 => (intro w hSw; (try dsimp only at hSw); go_simp; try (with_reducible rfl))
              try simp only [Act.put, List.setIfInBounds_toArray, List.set_cons_zero, List.set_cons_succ]
              refine wpAnyH_take (i := 6) (oi := { dst := some 66, op := Go.Op.move (Go.Operand.tmp 8), type := 3, pos := "l8_image.go:21", after := #[], guard := none }) (v := ?v38_6) rfl (by kernel_rfl) (by kernel_rfl) (by kernel_rfl) (fun _ _ _ h => h) (Or.inl ⟨by rfl, ?y38_6⟩) (by assumption) ?r38_6
              case y38_6 => (intro w hSw; (try dsimp only at hSw); go_simp; try (with_reducible rfl))
              try simp only [Act.put, List.setIfInBounds_toArray, List.set_cons_zero, List.set_cons_succ]
              refine wpAnyH_take (i := 7) (oi := { dst := some 67, op := Go.Op.indexAddr 24 (Go.Operand.tmp 65) (Go.Operand.tmp 66), type := 0, pos := "l8_image.go:21", after := #[{ on := 5, ground := Go.Ground.data }, { on := 6, ground := Go.Ground.data }], guard := none }) (v := ?v39_7) rfl (by kernel_rfl) (by kernel_rfl) (by kernel_rfl) (fun _ _ _ h => h) (Or.inl ⟨by rfl, ?y39_7⟩) (by assumption) ?r39_7
              case y39_7 => (intro w hSw; (try dsimp only at hSw); go_simp; try (with_reducible rfl))
              try simp only [Act.put, List.setIfInBounds_toArray, List.set_cons_zero, List.set_cons_succ]
              refine wpAnyH_take (i := 8) (oi := { dst := some 68, op := Go.Op.load 65 (Go.Operand.tmp 67), type := 65, pos := "l8_image.go:21", after := #[{ on := 7, ground := Go.Ground.data }], guard := none }) (v := ?v40_8) rfl (by kernel_rfl) (by kernel_rfl) (by kernel_rfl) (fun _ _ _ h => h) (Or.inl ⟨by rfl, ?y40_8⟩) (by assumption) ?r40_8
              case y40_8 => (intro w hSw; (try dsimp only at hSw); go_simp; try (with_reducible rfl))
              try simp only [Act.put, List.setIfInBounds_toArray, List.set_cons_zero, List.set_cons_succ]
              refine wpAnyH_take (i := 9) (oi := { dst := some 69, op := Go.Op.move (Go.Operand.tmp 10), type := 3, pos := "l8_image.go:21", after := #[], guard := none }) (v := ?v41_9) rfl (by kernel_rfl) (by kernel_rfl) (by kernel_rfl) (fun _ _ _ h => h) (Or.inl ⟨by rfl, ?y41_9⟩) (by assumption) ?r41_9
              case y41_9 => (intro w hSw; (try dsimp only at hSw); go_simp; try (with_reducible rfl))
              try simp only [Act.put, List.setIfInBounds_toArray, List.set_cons_zero, List.set_cons_succ]
              refine wpAnyH_take (i := 10) (oi := { dst := some 70, op := Go.Op.indexAddr 65 (Go.Operand.tmp 68) (Go.Operand.tmp 69), type := 0, pos := "l8_image.go:21", after := #[{ on := 8, ground := Go.Ground.data }, { on := 9, ground := Go.Ground.data }], guard := none }) (v := ?v42_10) rfl (by kernel_rfl) (by kernel_rfl) (by kernel_rfl) (fun _ _ _ h => h) (Or.inl ⟨by rfl, ?y42_10⟩) (by assumption) ?r42_10
              case y42_10 => (intro w hSw; (try dsimp only at hSw); go_simp; try (with_reducible rfl))
              try simp only [Act.put, List.setIfInBounds_toArray, List.set_cons_zero, List.set_cons_succ]
              refine wpAnyH_take (i := 11) (oi := { dst := some 71, op := Go.Op.load 9 (Go.Operand.tmp 70), type := 9, pos := "l8_image.go:21", after := #[{ on := 10, ground := Go.Ground.data }], guard := none }) (v := ?v43_11) rfl (by kernel_rfl) (by kernel_rfl) (by kernel_rfl) (fun _ _ _ h => h) (Or.inl ⟨by rfl, ?y43_11⟩) (by assumption) ?r43_11
              case y43_11 => (intro w hSw; (try dsimp only at hSw); go_simp; try (with_reducible rfl))
              try simp only [Act.put, List.setIfInBounds_toArray, List.set_cons_zero, List.set_cons_succ]
              refine wpAnyH_ready (rs := [12]) (by kernel_rfl) (by simp) ?_
              refine AllReadyH.cons (o := { dst := some 72, op := Go.Op.call { callee := Go.Callee.value (Go.Operand.func 41), args := #[Go.Operand.tmp 63, Go.Operand.tmp 71], argTypes := #[31, 9] }, type := 3, pos := "l8_image.go:21", after := #[{ on := 3, ground := Go.Ground.data }, { on := 11, ground := Go.Ground.data }], guard := none }) rfl (fun K hK => ?_) AllReadyH.nil
              go_simp
              go_at_call 41
              refine (unhide HFD _ ((unhide HR1).below (bl_drewT hB))).mono ?_
              rintro e wc ⟨rfl, hbc⟩
              replace hHeld := (unhide HST).1 _ _ hbc hHeld
              go_wp2_with fail
              refine hK.out _ _ hHeld (fun _ => ?_)
              clear hK K
              try simp only [Act.put, List.setIfInBounds_toArray, List.set_cons_zero, List.set_cons_succ]
              refine wpAnyH_take (i := 13) (oi := { dst := some 73, op := Go.Op.indexAddr 23 (Go.Operand.tmp 62) (Go.Operand.tmp 72), type := 0, pos := "l8_image.go:21", after := #[{ on := 2, ground := Go.Ground.data }, { on := 12, ground := Go.Ground.data }], guard := none }) (v := ?v44_13) rfl (by kernel_rfl) (by kernel_rfl) (by kernel_rfl) (fun _ _ _ h => h) (Or.inl ⟨by rfl, ?y44_13⟩) (by assumption) ?r44_13
              case y44_13 => (intro w hSw; (try dsimp only at hSw); go_simp; try (with_reducible rfl))
              try simp only [Act.put, List.setIfInBounds_toArray, List.set_cons_zero, List.set_cons_succ]
              refine wpAnyH_take (i := 14) (oi := { dst := some 74, op := Go.Op.load 3 (Go.Operand.tmp 73), type := 3, pos := "l8_image.go:21", after := #[{ on := 13, ground := Go.Ground.data }], guard := none }) (v := ?v45_14) rfl (by kernel_rfl) (by kernel_rfl) (by kernel_rfl) (fun _ _ _ h => h) (Or.inl ⟨by rfl, ?y45_14⟩) (by assumption) ?r45_14
              case y45_14 => (intro w hSw; (try dsimp only at hSw); go_simp; try (with_reducible rfl))
              try simp only [Act.put, List.setIfInBounds_toArray, List.set_cons_zero, List.set_cons_succ]
              refine wpAnyH_take (i := 15) (oi := { dst := some 75, op := Go.Op.build 63 #[(0, Go.Operand.const (Go.Value.int Go.IntKind.i64 8)), (1, Go.Operand.tmp 74)], type := 63, pos := "l8_image.go:21", after := #[{ on := 14, ground := Go.Ground.data }], guard := none }) (v := ?v46_15) rfl (by kernel_rfl) (by kernel_rfl) (by kernel_rfl) (fun _ _ _ h => h) (Or.inl ⟨by rfl, ?y46_15⟩) (by assumption) ?r46_15
              case y46_15 => (intro w hSw; (try dsimp only at hSw); go_simp; try (with_reducible rfl))
              try simp only [Act.put, List.setIfInBounds_toArray, List.set_cons_zero, List.set_cons_succ]
              refine wpAnyH_ready (rs := [16]) (by kernel_rfl) (by simp) ?_
              refine AllReadyH.cons (o := { dst := some 76, op := Go.Op.buildSlice 29 1 #[(0, Go.Operand.tmp 75)], type := 29, pos := "l8_image.go:21", after := #[{ on := 15, ground := Go.Ground.data }], guard := none }) rfl (fun K hK => ?_) AllReadyH.nil
              go_simp
              replace hHeld := (unhide HST).1 _ _ (below_alloc1 wc (.cells #[.int .i64 8, .int .i64 (pf : Int)] 63)) hHeld
              refine hK.out _ _ hHeld (fun _ => ?_)
              clear hK K
              try simp only [Act.put, List.setIfInBounds_toArray, List.set_cons_zero, List.set_cons_succ]
              refine wpAnyH_ready (rs := [17]) (by kernel_rfl) (by simp) ?_
              refine AllReadyH.cons (o := { dst := some 77, op := Go.Op.call { callee := Go.Callee.builtin Go.Builtin.append, args := #[Go.Operand.tmp 60, Go.Operand.tmp 76], argTypes := #[29, 29] }, type := 29, pos := "l8_image.go:21", after := #[{ on := 0, ground := Go.Ground.data }, { on := 16, ground := Go.Ground.data }, { on := 12, ground := Go.Ground.chain }], guard := none }) rfl (fun K hK => ?_) AllReadyH.nil
              obtain ⟨a3, c3, w3, hrun3, hO3, hg3, hbw3⟩ := cells_more (x := (⟨8, (pf : Int)⟩ : CellD)) rfl (hO.below hbc) (Nat.le_trans hB.size hbc.size) (by omega) 29
              have hB3 := hbw3 W1 (bl_trans hB hbc)
              replace hHeld := unhide HSC _ hB3
              have HO3 := hide hO3
              have HB3 := hide hB3
              refine step_run rfl (.tmp 60) (.tmp 76) 29 29 rfl _ _ _ (by simp [Act.eval]) (by simp [Act.eval]) hrun3 ?_
              clear hO3 hB3 hrun3 hg3 hbw3 hbc hO hB
              refine hK.out _ _ hHeld (fun _ => ?_)
              clear hK K
              try simp only [Act.put, List.setIfInBounds_toArray, List.set_cons_zero, List.set_cons_succ]
              refine wpAnyH_take (i := 18) (oi := { dst := some 7, op := Go.Op.assign (Go.Operand.tmp 77), type := 29, pos := "l8_image.go:21", after := #[{ on := 17, ground := Go.Ground.data }, { on := 17, ground := Go.Ground.chain }, { on := 0, ground := Go.Ground.phase }, { on := 1, ground := Go.Ground.phase }, { on := 2, ground := Go.Ground.phase }, { on := 3, ground := Go.Ground.phase }, { on := 4, ground := Go.Ground.phase }, { on := 5, ground := Go.Ground.phase }, { on := 6, ground := Go.Ground.phase }, { on := 7, ground := Go.Ground.phase }, { on := 8, ground := Go.Ground.phase }, { on := 9, ground := Go.Ground.phase }, { on := 10, ground := Go.Ground.phase }, { on := 11, ground := Go.Ground.phase }, { on := 12, ground := Go.Ground.phase }, { on := 13, ground := Go.Ground.phase }, { on := 14, ground := Go.Ground.phase }, { on := 15, ground := Go.Ground.phase }, { on := 16, ground := Go.Ground.phase }, { on := 17, ground := Go.Ground.phase }], guard := none }) (v := ?v47_18) rfl (by kernel_rfl) (by kernel_rfl) (by kernel_rfl) (fun _ _ _ h => h) (Or.inl ⟨by rfl, ?y47_18⟩) (by assumption) ?r47_18
              case y47_18 => (intro w hSw; (try dsimp only at hSw); go_simp; try (with_reducible rfl))
              try simp only [Act.put, List.setIfInBounds_toArray, List.set_cons_zero, List.set_cons_succ]
              refine wpAnyH_done (by kernel_rfl) ?_ _
              go_wp2_with fail
              exact ⟨⟨j + 1, a3, c3, l ++ [(⟨8, (pf : Int)⟩ : CellD)], by omega, by rw [List.length_append]; rfl, by go_num, (by show _ = _; rw [unhide HLE, List.append_assoc, ← unhide HBC]), unhide HO3, unhide HB3⟩, by simp [intOf]; omega⟩
            · have hjl' : ¬ (j : Int) < ((st[i]'(by omega)).length : Int) := by omega
              have hje : j = (st[i]'(by omega)).length := by omega
              have HLE3 : Hid (l = partC fs st r (i + 1)) := by show _ = _; rw [unhide HLE, hje, ← stAt_is hsi]; rfl
              have HO := hide hO
              clear hO HLE
              go_wp2_with fail
              exact ⟨⟨i + 1, av, cv, l, by omega, rfl, by go_num, HLE3, unhide HO, hB⟩, by simp [intOf]; omega⟩
    · have hie : i = fs.length := by omega
      have HLE3 : Hid (l = partC fs st r fs.length) := by show _ = _; rw [unhide HLE0, hie]
      have HOE : Hid (CellsO wr W1.heap.size (.slice av (partC fs st r fs.length).length cv) (partC fs st r fs.length)) := by show CellsO _ _ _ _; rw [← unhide HLE3]; exact unhide HO0
      have hle : l.length = (partC fs st r fs.length).length := by rw [unhide HLE3]
      rw [hle]
      clear HO0 HLE0 HLE3
      go_wp2_with fail
      go_ret
      exact ⟨_, _, rfl, (unhide HOE).base hB0.size, bl_trans hB0 hB⟩
set_option maxHeartbeats 2000000 in
theorem specImageOf_any (a na sa : Option Addr) (cap nc sc : Nat) (fs : List FunD) (ns : List Int) (st : List (List ByteArray)) (r : Int) (w : World) (hft : FewT st) (hcap : fs.length ≤ cap) (hcm : cap ≤ maxLen) (h1 : ns.length ≤ nc) (h2 : nc ≤ maxLen) (h3 : st.length ≤ sc) (h4 : sc ≤ maxLen) (hR : FunRow w a fs) (hs : NumRow w na ns) (ho : TextsRow w sa st) :
    Calls Tryz.prog 6 #[.slice a fs.length cap, .int .i64 r, .agg #[.slice na ns.length nc, .slice sa st.length sc]] w (ImgEnd w (imageOfB fs r ns st)) := by
  have hB := below_alloc1 w (.cells #[.slice na ns.length nc, .slice sa st.length sc] 33)
  have HX := hide (new_block w (.cells #[.slice na ns.length nc, .slice sa st.length sc] 33))
  have HR := hide (hR.below hB)
  have HN := hide (hs.below hB)
  have HO := hide (ho.below hB)
  have HFT := hide hft
  have HB := hide hB
  clear hR hs ho hB hft
  obtain ⟨⟨x0, x1⟩, _⟩ := box2 (unhide HX)
  go_enter Tryz.func6, Tryz.ntmps6
  go_wp2_with fail
  refine (specLayOk_any a cap fs r na sa nc sc ns st _ hcap hcm h1 h2 h3 h4 (unhide HFT) (unhide HR) (unhide HN) (unhide HO)).mono ?_
  rintro e w1 ⟨rfl, hb1⟩
  replace HX := hide (box_below (unhide HX) hb1)
  replace HR := hide ((unhide HR).below hb1)
  replace HN := hide ((unhide HN).below hb1)
  replace HO := hide ((unhide HO).below hb1)
  replace HB := hide (bl_trans (unhide HB) hb1)
  clear hb1 x0 x1
  obtain ⟨⟨x0, x1⟩, _⟩ := box2 (unhide HX)
  cases hok : layOkB fs r ns st
  · have HE := hide (image_no hok)
    go_wp2_with fail
    go_ret
    rw [unhide HE]
    exact ⟨_, _, rfl, (CellsO.made w1).base (unhide HB).size, bl_alloc (unhide HB) _⟩
  · have HE := hide (image_yes hok)
    have HF := hide (lay_parts hok).2.2
    go_wp2_with fail
    refine (l8Of_any a na sa cap nc sc fs ns st r _ (unhide HF) (lying_of (unhide HF) (unhide HFT)) hcap hcm h1 h2 h3 h4 (unhide HR) (unhide HN) (unhide HO)).mono ?_
    rintro e w2 ⟨a', c', rfl, hO2, hb2⟩
    have HO2 := hide hO2
    clear hO2
    go_wp2_with fail
    go_ret
    rw [unhide HE]
    exact ⟨_, _, rfl, (unhide HO2).base (unhide HB).size, bl_trans (unhide HB) hb2⟩
end Go.Proofs.YthbbmookhcalkaaGreat.ImgS
