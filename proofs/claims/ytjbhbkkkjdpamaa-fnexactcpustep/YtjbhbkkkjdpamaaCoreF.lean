/- The contracts of the program's cpu, CpuStep, CpuRun. -/
import Derived.Test.YtjbhbkkkjdpamaaCoreE
import Derived.Test.YtjbhbkkkjdpamaaCOkI
namespace Go.Proofs.Ytjbhbkkkjdpamaa.CoreF
open Go.ChangeShapes Go.WideShapes Go.ChangeAt Go.RowKit Go.Joins Go.WideMaps Go.Maps Go.Deep
open Go.Proofs.Ytjbhbkkkjdpamaa.Base Go.Proofs.Ytjbhbkkkjdpamaa.InsA Go.Proofs.Ytjbhbkkkjdpamaa.Keep Go.Proofs.Ytjbhbkkkjdpamaa.LayN Go.Proofs.Ytjbhbkkkjdpamaa.CellA Go.Proofs.Ytjbhbkkkjdpamaa.Mark Go.Proofs.Ytjbhbkkkjdpamaa.Sum Go.Proofs.Ytjbhbkkkjdpamaa.ImgD Go.Proofs.Ytjbhbkkkjdpamaa.ImgOk Go.Proofs.Ytjbhbkkkjdpamaa.RestOk Go.Proofs.Ytjbhbkkkjdpamaa.COkS Go.Proofs.Ytjbhbkkkjdpamaa.COkI Go.Proofs.Ytjbhbkkkjdpamaa.CSpec Go.Proofs.Ytjbhbkkkjdpamaa.CSpecB Go.Proofs.Ytjbhbkkkjdpamaa.CSpecC Go.Proofs.Ytjbhbkkkjdpamaa.CSpecD Go.Proofs.Ytjbhbkkkjdpamaa.CoreA Go.Proofs.Ytjbhbkkkjdpamaa.CoreB Go.Proofs.Ytjbhbkkkjdpamaa.CoreD Go.Proofs.Ytjbhbkkkjdpamaa.CoreE
set_option linter.unusedVariables false
set_option maxRecDepth 100000

theorem own_none (w : World) (B : Nat) : IntOwn w B (.slice none 0 0) [] := ⟨rfl, .inl ⟨rfl, rfl⟩⟩
theorem grown_none {w w' : World} (h : w.grownBy w' (Value.slice none 0 0).ownBlock) : Below w.heap.size w w' := (Below.refl _ _).grown h (Nat.le_refl _) (fun g hg => by cases hg)
theorem apart_some {w : World} {B : Nat} {v u : Value} {xs : List Int} (h : IntOwn w B u xs) (hv : v.ownBlock = (Value.slice none 0 0).ownBlock ∨ v.ownBlock = some w.heap.size) : Apart v u := by
  rcases hv with e | e
  · exact .inl e
  · exact apart_new h e
theorem core_store {w : World} {R N : Nat} {l : List CellD} {m : CM} {v0 v1 v2 v3 v4 : Value} (h : CoreAt w R l m) (hne : N ≠ R) : CoreAt (((((w.setCell ⟨N, 0, none⟩ v0).setCell ⟨N, 1, none⟩ v1).setCell ⟨N, 2, none⟩ v2).setCell ⟨N, 3, none⟩ v3).setCell ⟨N, 4, none⟩ v4) R l m := by
  obtain ⟨C, h1, h2⟩ := h
  exact ⟨C, set_other (set_other (set_other (set_other (set_other h1 hne) hne) hne) hne) hne, h2⟩
set_option maxHeartbeats 8000000 in
theorem cpu_any (R : Nat) (l : List CellD) (m : CM) (w : World) (hsl : m.st.length ≤ 5) (hol : m.os.length ≤ 30) (h : CoreAt w R l m) :
    Calls Try.prog 76 #[.pointer (some ⟨R, 0, none⟩)] w fun e w' => ∃ sv ov, e = .returned (.agg (aggC m sv ov)) ∧ OwnC w w' sv ov m := by
  have hR : R < w.heap.size := by obtain ⟨C, h1, _⟩ := h; exact (Array.getElem?_eq_some_iff.1 h1).1
  have ha := below_alloc1 w (.cells #[.int .i64 0, .int .i64 0, .slice none 0 0, .slice none 0 0, .int .i64 0] 60)
  have hn := new_block w (.cells #[.int .i64 0, .int .i64 0, .slice none 0 0, .slice none 0 0, .int .i64 0] 60)
  have h1 := h.below ha
  generalize hw1 : w.alloc (.cells #[.int .i64 0, .int .i64 0, .slice none 0 0, .slice none 0 0, .int .i64 0] 60) = w1 at *
  have hz1 : w.heap.size ≤ w1.drew.heap.size := ha.size
  have hr1 : NumRow w1.drew (some ⟨R, 802, none⟩) m.st := .inr ⟨R, 802, rfl, fun i hi => h1.cells.2.2.2.1 i hi⟩
  obtain ⟨a1, c1, w2, hrun2, hO2, hg2, hk2⟩ := ints_onto (ci := 5) (ty := 23) hz1 (own_none w1.drew w.heap.size) hr1 (by omega)
  have hb2 : Below w1.heap.size w1 w2 := bl_trans (Below.refl _ _).drew (grown_none hg2)
  have h2 := h1.below hb2
  have hn2 := box_below hn hb2
  have hr2 : NumRow w2.drew (some ⟨R, 808, none⟩) m.os := .inr ⟨R, 808, rfl, fun i hi => h2.cells.2.2.2.2.2.1 i hi⟩
  have hO2d : IntOwn w2.drew w.heap.size (.slice a1 m.st.length c1) m.st := hO2
  have hz2 : w.heap.size ≤ w2.drew.heap.size := Nat.le_trans ha.size hb2.size
  obtain ⟨a2, c2, w3, hrun3, hO3, hg3, hk3⟩ := ints_onto (ci := 30) (ty := 23) hz2 (own_none w2.drew w.heap.size) hr2 (by omega)
  have hb3 : Below w2.heap.size w2 w3 := bl_trans (Below.refl _ _).drew (grown_none hg3)
  have h3 := h2.below hb3
  have hn3 := box_below hn2 hb3
  have HOW : Hid (OwnC w w3 (.slice a1 m.st.length c1) (.slice a2 m.os.length c2) m) := ⟨int_below hO2 hb3, hO3, (apart_some hO2d hk3).symm, bl_trans ha (bl_trans hb2 hb3)⟩
  have hRN : R ≠ w.heap.size := by omega
  obtain ⟨_, _, _, _, x807, _, _, _, _, _⟩ := h1.cells
  obtain ⟨_, _, _, _, _, _, y838, _, _, _⟩ := h2.cells
  obtain ⟨_, z800, z801, _, _, _, _, z839, _, _⟩ := h3.cells
  have HS3 : Hid ((fun w' => w'.cell? ⟨R, 800, none⟩ = some (.int .i64 m.p) ∧ w'.cell? ⟨R, 801, none⟩ = some (.int .i64 m.c) ∧ w'.cell? ⟨R, 839, none⟩ = some (.int .i64 m.d) ∧ ResAt w' w.heap.size ∧ OwnC w w' (.slice a1 m.st.length c1) (.slice a2 m.os.length c2) m) w3.drew) := ⟨z800, z801, z839, ⟨_, _, _, _, _, hn3⟩, (unhide HOW).below (Below.refl _ _).drew⟩
  have HLAST := hide (And.intro h3 (And.intro hn3 (unhide HOW)))
  have HR2 := hide hrun2
  have HR3 := hide hrun3
  have hs5 : (m.st.length : Int) ≤ 5 := by omega
  have ho30 : (m.os.length : Int) ≤ 30 := by omega
  clear h ha hn h1 hr1 hrun2 hO2 hg2 hk2 hb2 h2 hn2 hr2 hO2d hrun3 hO3 hg3 hk3 hb3 h3 hn3 hz1 hz2 HOW z800 z801 z839
  go_enter Try.func76, Try.ntmps76
  go_wp2_with fail
  try rw [hw1]
  go_region_law (refine step_run rfl (.const (.slice none 0 0)) (.tmp 12) 23 23 rfl _ _ _ (by simp [Act.eval]) (by simp [Act.eval, Act.put]) (unhide HR2) ?_)
  go_wp2_with fail
  go_region_law (refine step_run rfl (.const (.slice none 0 0)) (.tmp 21) 23 23 rfl _ _ _ (by simp [Act.eval]) (by simp [Act.eval, Act.put]) (unhide HR3) ?_)
  go_wp2_with fail
  -- region 3
  go_simp
  clear x807 y838 hs5 ho30 HR2 HR3 hsl hol
  refine wp_region_held_drew (S := (fun w' => w'.cell? ⟨R, 800, none⟩ = some (.int .i64 m.p) ∧ w'.cell? ⟨R, 801, none⟩ = some (.int .i64 m.c) ∧ w'.cell? ⟨R, 839, none⟩ = some (.int .i64 m.d) ∧ ResAt w' w.heap.size ∧ OwnC w w' (.slice a1 m.st.length c1) (.slice a2 m.os.length c2) m)) (by kernel_rfl) (unhide HS3) (fun hHeld => ?_)
  refine wpAnyH_take (i := 0) (oi := { dst := some 23, op := Go.Op.move (Go.Operand.tmp 0), type := 115, pos := "l8_image.go:250", after := #[], guard := none }) (v := ?v3_0) rfl (by kernel_rfl) (by kernel_rfl) (by kernel_rfl) (fun _ _ _ h => h) (Or.inl ⟨by rfl, ?y3_0⟩) (by assumption) ?r3_0
  case y3_0 => (intro w hSw; (try dsimp only at hSw); go_simp; try (with_reducible rfl))
  try simp only [Act.put, List.setIfInBounds_toArray, List.set_cons_zero, List.set_cons_succ]
  refine wpAnyH_take (i := 1) (oi := { dst := some 24, op := Go.Op.nilCheck (Go.Operand.tmp 23), type := 0, pos := "l8_image.go:250", after := #[{ on := 0, ground := Go.Ground.data }], guard := none }) (v := ?v6_1) rfl (by kernel_rfl) (by kernel_rfl) (by kernel_rfl) (fun _ _ _ h => h) (Or.inl ⟨by rfl, ?y6_1⟩) (by assumption) ?r6_1
  case y6_1 => (intro w hSw; (try dsimp only at hSw); go_simp; try (with_reducible rfl))
  try simp only [Act.put, List.setIfInBounds_toArray, List.set_cons_zero, List.set_cons_succ]
  refine wpAnyH_take (i := 2) (oi := { dst := some 25, op := Go.Op.fieldAddr 158 (Go.Operand.tmp 24) 1, type := 0, pos := "l8_image.go:250", after := #[{ on := 1, ground := Go.Ground.data }], guard := none }) (v := ?v9_2) rfl (by kernel_rfl) (by kernel_rfl) (by kernel_rfl) (fun _ _ _ h => h) (Or.inl ⟨by rfl, ?y9_2⟩) (by assumption) ?r9_2
  case y9_2 => (intro w hSw; (try dsimp only at hSw); go_simp; try (with_reducible rfl))
  try simp only [Act.put, List.setIfInBounds_toArray, List.set_cons_zero, List.set_cons_succ]
  refine wpAnyH_take (i := 3) (oi := { dst := some 26, op := Go.Op.load 3 (Go.Operand.tmp 25), type := 3, pos := "l8_image.go:250", after := #[{ on := 2, ground := Go.Ground.data }], guard := none }) (v := ?v12_3) rfl (by kernel_rfl) (by kernel_rfl) (by kernel_rfl) (fun _ _ _ h => h) (Or.inl ⟨by rfl, ?y12_3⟩) (by assumption) ?r12_3
  case y12_3 => (intro w hSw; (try dsimp only at hSw); go_simp; try (with_reducible rfl))
  try simp only [Act.put, List.setIfInBounds_toArray, List.set_cons_zero, List.set_cons_succ]
  refine wpAnyH_take (i := 4) (oi := { dst := some 27, op := Go.Op.move (Go.Operand.tmp 0), type := 115, pos := "l8_image.go:250", after := #[], guard := none }) (v := ?v15_4) rfl (by kernel_rfl) (by kernel_rfl) (by kernel_rfl) (fun _ _ _ h => h) (Or.inl ⟨by rfl, ?y15_4⟩) (by assumption) ?r15_4
  case y15_4 => (intro w hSw; (try dsimp only at hSw); go_simp; try (with_reducible rfl))
  try simp only [Act.put, List.setIfInBounds_toArray, List.set_cons_zero, List.set_cons_succ]
  refine wpAnyH_take (i := 5) (oi := { dst := some 28, op := Go.Op.nilCheck (Go.Operand.tmp 27), type := 0, pos := "l8_image.go:250", after := #[{ on := 4, ground := Go.Ground.data }], guard := none }) (v := ?v18_5) rfl (by kernel_rfl) (by kernel_rfl) (by kernel_rfl) (fun _ _ _ h => h) (Or.inl ⟨by rfl, ?y18_5⟩) (by assumption) ?r18_5
  case y18_5 => (intro w hSw; (try dsimp only at hSw); go_simp; try (with_reducible rfl))
  try simp only [Act.put, List.setIfInBounds_toArray, List.set_cons_zero, List.set_cons_succ]
  refine wpAnyH_take (i := 6) (oi := { dst := some 29, op := Go.Op.fieldAddr 158 (Go.Operand.tmp 28) 2, type := 0, pos := "l8_image.go:250", after := #[{ on := 5, ground := Go.Ground.data }], guard := none }) (v := ?v21_6) rfl (by kernel_rfl) (by kernel_rfl) (by kernel_rfl) (fun _ _ _ h => h) (Or.inl ⟨by rfl, ?y21_6⟩) (by assumption) ?r21_6
  case y21_6 => (intro w hSw; (try dsimp only at hSw); go_simp; try (with_reducible rfl))
  try simp only [Act.put, List.setIfInBounds_toArray, List.set_cons_zero, List.set_cons_succ]
  refine wpAnyH_take (i := 7) (oi := { dst := some 30, op := Go.Op.load 3 (Go.Operand.tmp 29), type := 3, pos := "l8_image.go:250", after := #[{ on := 6, ground := Go.Ground.data }], guard := none }) (v := ?v24_7) rfl (by kernel_rfl) (by kernel_rfl) (by kernel_rfl) (fun _ _ _ h => h) (Or.inl ⟨by rfl, ?y24_7⟩) (by assumption) ?r24_7
  case y24_7 => (intro w hSw; (try dsimp only at hSw); go_simp; try (with_reducible rfl))
  try simp only [Act.put, List.setIfInBounds_toArray, List.set_cons_zero, List.set_cons_succ]
  refine wpAnyH_take (i := 8) (oi := { dst := some 31, op := Go.Op.move (Go.Operand.tmp 3), type := 23, pos := "l8_image.go:250", after := #[], guard := none }) (v := ?v27_8) rfl (by kernel_rfl) (by kernel_rfl) (by kernel_rfl) (fun _ _ _ h => h) (Or.inl ⟨by rfl, ?y27_8⟩) (by assumption) ?r27_8
  case y27_8 => (intro w hSw; (try dsimp only at hSw); go_simp; try (with_reducible rfl))
  try simp only [Act.put, List.setIfInBounds_toArray, List.set_cons_zero, List.set_cons_succ]
  refine wpAnyH_take (i := 9) (oi := { dst := some 32, op := Go.Op.move (Go.Operand.tmp 4), type := 23, pos := "l8_image.go:250", after := #[], guard := none }) (v := ?v30_9) rfl (by kernel_rfl) (by kernel_rfl) (by kernel_rfl) (fun _ _ _ h => h) (Or.inl ⟨by rfl, ?y30_9⟩) (by assumption) ?r30_9
  case y30_9 => (intro w hSw; (try dsimp only at hSw); go_simp; try (with_reducible rfl))
  try simp only [Act.put, List.setIfInBounds_toArray, List.set_cons_zero, List.set_cons_succ]
  refine wpAnyH_take (i := 10) (oi := { dst := some 33, op := Go.Op.move (Go.Operand.tmp 0), type := 115, pos := "l8_image.go:250", after := #[], guard := none }) (v := ?v33_10) rfl (by kernel_rfl) (by kernel_rfl) (by kernel_rfl) (fun _ _ _ h => h) (Or.inl ⟨by rfl, ?y33_10⟩) (by assumption) ?r33_10
  case y33_10 => (intro w hSw; (try dsimp only at hSw); go_simp; try (with_reducible rfl))
  try simp only [Act.put, List.setIfInBounds_toArray, List.set_cons_zero, List.set_cons_succ]
  refine wpAnyH_take (i := 11) (oi := { dst := some 34, op := Go.Op.nilCheck (Go.Operand.tmp 33), type := 0, pos := "l8_image.go:250", after := #[{ on := 10, ground := Go.Ground.data }], guard := none }) (v := ?v36_11) rfl (by kernel_rfl) (by kernel_rfl) (by kernel_rfl) (fun _ _ _ h => h) (Or.inl ⟨by rfl, ?y36_11⟩) (by assumption) ?r36_11
  case y36_11 => (intro w hSw; (try dsimp only at hSw); go_simp; try (with_reducible rfl))
  try simp only [Act.put, List.setIfInBounds_toArray, List.set_cons_zero, List.set_cons_succ]
  refine wpAnyH_take (i := 12) (oi := { dst := some 35, op := Go.Op.fieldAddr 158 (Go.Operand.tmp 34) 7, type := 0, pos := "l8_image.go:250", after := #[{ on := 11, ground := Go.Ground.data }], guard := none }) (v := ?v39_12) rfl (by kernel_rfl) (by kernel_rfl) (by kernel_rfl) (fun _ _ _ h => h) (Or.inl ⟨by rfl, ?y39_12⟩) (by assumption) ?r39_12
  case y39_12 => (intro w hSw; (try dsimp only at hSw); go_simp; try (with_reducible rfl))
  try simp only [Act.put, List.setIfInBounds_toArray, List.set_cons_zero, List.set_cons_succ]
  refine wpAnyH_take (i := 13) (oi := { dst := some 36, op := Go.Op.load 3 (Go.Operand.tmp 35), type := 3, pos := "l8_image.go:250", after := #[{ on := 12, ground := Go.Ground.data }], guard := none }) (v := ?v42_13) rfl (by kernel_rfl) (by kernel_rfl) (by kernel_rfl) (fun _ _ _ h => h) (Or.inl ⟨by rfl, ?y42_13⟩) (by assumption) ?r42_13
  case y42_13 => (intro w hSw; (try dsimp only at hSw); go_simp; try (with_reducible rfl))
  try simp only [Act.put, List.setIfInBounds_toArray, List.set_cons_zero, List.set_cons_succ]
  refine wpAnyH_take (i := 14) (oi := { dst := some 37, op := Go.Op.build 60 #[(0, Go.Operand.tmp 26), (1, Go.Operand.tmp 30), (2, Go.Operand.tmp 31), (3, Go.Operand.tmp 32), (4, Go.Operand.tmp 36)], type := 60, pos := "l8_image.go:250", after := #[{ on := 3, ground := Go.Ground.data }, { on := 7, ground := Go.Ground.data }, { on := 8, ground := Go.Ground.data }, { on := 9, ground := Go.Ground.data }, { on := 13, ground := Go.Ground.data }], guard := none }) (v := ?v45_14) rfl (by kernel_rfl) (by kernel_rfl) (by kernel_rfl) (fun _ _ _ h => h) (Or.inl ⟨by rfl, ?y45_14⟩) (by assumption) ?r45_14
  case y45_14 => (intro w hSw; (try dsimp only at hSw); go_simp; try (with_reducible rfl))
  try simp only [Act.put, List.setIfInBounds_toArray, List.set_cons_zero, List.set_cons_succ]
  refine wpAnyH_ready (rs := [15]) (by kernel_rfl) (by simp) ?_
  refine AllReadyH.cons (o := { dst := none, op := Go.Op.store 60 (Go.Operand.tmp 2) (Go.Operand.tmp 37), type := 0, pos := "l8_image.go:250", after := #[{ on := 14, ground := Go.Ground.data }, { on := 0, ground := Go.Ground.phase }, { on := 1, ground := Go.Ground.phase }, { on := 2, ground := Go.Ground.phase }, { on := 3, ground := Go.Ground.phase }, { on := 4, ground := Go.Ground.phase }, { on := 5, ground := Go.Ground.phase }, { on := 6, ground := Go.Ground.phase }, { on := 7, ground := Go.Ground.phase }, { on := 8, ground := Go.Ground.phase }, { on := 9, ground := Go.Ground.phase }, { on := 10, ground := Go.Ground.phase }, { on := 11, ground := Go.Ground.phase }, { on := 12, ground := Go.Ground.phase }, { on := 13, ground := Go.Ground.phase }, { on := 14, ground := Go.Ground.phase }], guard := none }) rfl (fun K hK => ?_) AllReadyH.nil
  clear hHeld
  have hrN := box5 (unhide HLAST).2.1
  go_simp
  obtain ⟨hc3, hn3, how3⟩ := unhide HLAST
  have hof := off_of hn3
  have hX : CoreAt (((((w3.setCell ⟨w.heap.size, 0, none⟩ (.int .i64 m.p)).setCell ⟨w.heap.size, 1, none⟩ (.int .i64 m.c)).setCell ⟨w.heap.size, 2, none⟩ (.slice a1 m.st.length c1)).setCell ⟨w.heap.size, 3, none⟩ (.slice a2 m.os.length c2)).setCell ⟨w.heap.size, 4, none⟩ (.int .i64 m.d)) R l m := core_store hc3 (Ne.symm hRN)
  have hX5 : (((((w3.setCell ⟨w.heap.size, 0, none⟩ (.int .i64 m.p)).setCell ⟨w.heap.size, 1, none⟩ (.int .i64 m.c)).setCell ⟨w.heap.size, 2, none⟩ (.slice a1 m.st.length c1)).setCell ⟨w.heap.size, 3, none⟩ (.slice a2 m.os.length c2)).setCell ⟨w.heap.size, 4, none⟩ (.int .i64 m.d)).heap[w.heap.size]? = some (.cells #[.int .i64 m.p, .int .i64 m.c, .slice a1 m.st.length c1, .slice a2 m.os.length c2, .int .i64 m.d] 60) := eq_cells (block_setCell (block_setCell (block_setCell (block_setCell (block_setCell hn3 _) _) _) _) _) (by simp)
  have hXO : OwnC w (((((w3.setCell ⟨w.heap.size, 0, none⟩ (.int .i64 m.p)).setCell ⟨w.heap.size, 1, none⟩ (.int .i64 m.c)).setCell ⟨w.heap.size, 2, none⟩ (.slice a1 m.st.length c1)).setCell ⟨w.heap.size, 3, none⟩ (.slice a2 m.os.length c2)).setCell ⟨w.heap.size, 4, none⟩ (.int .i64 m.d)) (.slice a1 m.st.length c1) (.slice a2 m.os.length c2) m := by
    repeat (with_reducible refine OwnC.set ?_ (by (repeat (with_reducible refine OffAt.set ?_)); exact hof) (by omega))
    exact how3
  clear hc3 hn3 how3 hrN hof HLAST
  generalize ((((w3.setCell ⟨w.heap.size, 0, none⟩ (.int .i64 m.p)).setCell ⟨w.heap.size, 1, none⟩ (.int .i64 m.c)).setCell ⟨w.heap.size, 2, none⟩ (.slice a1 m.st.length c1)).setCell ⟨w.heap.size, 3, none⟩ (.slice a2 m.os.length c2)).setCell ⟨w.heap.size, 4, none⟩ (.int .i64 m.d) = X at *
  have hx8 := hX.cells
  refine hK.out _ _ ⟨hx8.2.1, hx8.2.2.1, hx8.2.2.2.2.2.2.2.1, ⟨_, _, _, _, _, hX5⟩, hXO.below (Below.refl _ _).drew⟩ (fun _ => ?_)
  clear hK K
  try simp only [Act.put, List.setIfInBounds_toArray, List.set_cons_zero, List.set_cons_succ]
  refine wpAnyH_done (by kernel_rfl) ?_ _
  have xX := box5 hX5
  have HOW := hide (hXO.below (Below.refl _ _).drew)
  clear hXO hX hx8
  go_wp2_with fail
  refine bodyPost_ret (v := .agg (aggC m (.slice a1 m.st.length c1) (.slice a2 m.os.length c2))) (by simp [results, Try.results76, go_sem, aggC, xX]) rfl ⟨_, _, rfl, ?_⟩
  exact unhide HOW
  -- region 3 end
end Go.Proofs.Ytjbhbkkkjdpamaa.CoreF
