/- The contracts of the program's runner: the machine that it holds; MachStep and MachRun. -/
import Derived.Test.YtjbhbkkkjdpamaaGreatMImpl
namespace Go.Proofs.YtjbhbkkkjdpamaaGreat.MImplB
open Go.ChangeShapes Go.WideShapes Go.ChangeAt Go.RowKit Go.Joins Go.WideMaps Go.Maps Go.Deep
open Go.Proofs.YtjbhbkkkjdpamaaGreat.Base Go.Proofs.YtjbhbkkkjdpamaaGreat.InsA Go.Proofs.YtjbhbkkkjdpamaaGreat.Funs Go.Proofs.YtjbhbkkkjdpamaaGreat.Open Go.Proofs.YtjbhbkkkjdpamaaGreat.Keep Go.Proofs.YtjbhbkkkjdpamaaGreat.UnitS Go.Proofs.YtjbhbkkkjdpamaaGreat.UnitM Go.Proofs.YtjbhbkkkjdpamaaGreat.WantsI Go.Proofs.YtjbhbkkkjdpamaaGreat.Mach Go.Proofs.YtjbhbkkkjdpamaaGreat.Mark Go.Proofs.YtjbhbkkkjdpamaaGreat.Sum Go.Proofs.YtjbhbkkkjdpamaaGreat.KeepA Go.Proofs.YtjbhbkkkjdpamaaGreat.KeepD Go.Proofs.YtjbhbkkkjdpamaaGreat.MOk Go.Proofs.YtjbhbkkkjdpamaaGreat.MOkI Go.Proofs.YtjbhbkkkjdpamaaGreat.MD Go.Proofs.YtjbhbkkkjdpamaaGreat.MRun Go.Proofs.YtjbhbkkkjdpamaaGreat.MDeed Go.Proofs.YtjbhbkkkjdpamaaGreat.MSay Go.Proofs.YtjbhbkkkjdpamaaGreat.MSpec Go.Proofs.YtjbhbkkkjdpamaaGreat.MSpecB Go.Proofs.YtjbhbkkkjdpamaaGreat.MSpecC Go.Proofs.YtjbhbkkkjdpamaaGreat.MCopy Go.Proofs.YtjbhbkkkjdpamaaGreat.MSpecD Go.Proofs.YtjbhbkkkjdpamaaGreat.MStepI Go.Proofs.YtjbhbkkkjdpamaaGreat.MImpl
set_option linter.unusedVariables false
set_option maxRecDepth 100000

theorem Stable.run (R : Nat) (pv : Value) (mb : Nat) (f p c : Int) (xs : List SpotD) (n : Nat) (ov : Value) (d : Int) : Stable (fun w => RunBox w R pv mb f p c xs n ov d) := ⟨fun w w' hb h => h.below hb, fun w h => h⟩
theorem run_cells {w : World} {R : Nat} {pv : Value} {mb : Nat} {f p c : Int} {xs : List SpotD} {n : Nat} {ov : Value} {d : Int} (h : RunBox w R pv mb f p c xs n ov d) : w.cell? ⟨R, 2, none⟩ = some (.int .i64 f) ∧ w.cell? ⟨R, 3, none⟩ = some (.int .i64 p) ∧ w.cell? ⟨R, 4, none⟩ = some (.int .i64 c) ∧ w.cell? ⟨R, 16, none⟩ = some ov ∧ w.cell? ⟨R, 17, none⟩ = some (.int .i64 d) :=
  ⟨h.cell 2 rfl, h.cell 3 rfl, h.cell 4 rfl, h.cell 16 (spots_at h.1 _ _ _ _ _ _ _ _).2.1, h.cell 17 (spots_at h.1 _ _ _ _ _ _ _ _).2.2⟩
theorem spot_base {w : World} {B C : Nat} {v : Value} {st : List SpotD} (h : SpotOwn w B v st) (hb : C ≤ B) : SpotOwn w C v st := by
  obtain ⟨h0, h1 | ⟨g, cap, cur, hv, hB, hr⟩⟩ := h
  · exact ⟨h0, .inl h1⟩
  · exact ⟨h0, .inr ⟨g, cap, cur, hv, by omega, hr⟩⟩
set_option maxHeartbeats 8000000 in
theorem mach_any (W0 : World) (R mb : Nat) (pv : Value) (fs : List FunD) (m : MD) (w : World) (h : RunIs W0 w R mb pv fs m) :
    Calls Tryz.prog 53 #[.pointer (some ⟨R, 0, none⟩)] w fun e w' => ∃ sv ov, e = .returned (.agg (aggM m sv ov)) ∧ OwnM W0 w' sv ov m := by
  obtain ⟨xs, ov, h1, h2, h3, h4, h5, h6, h7, h8⟩ := h
  obtain ⟨oa, oc, rfl, _, _⟩ := num_form h5
  have hR : R < w.heap.size := (Array.getElem?_eq_some_iff.1 h1.2).1
  have hW := h8.size
  have HSA : Hid (Stable (fun w' => w'.cell? ⟨R, 2, none⟩ = some (.int .i64 m.f) ∧ w'.cell? ⟨R, 3, none⟩ = some (.int .i64 m.p) ∧ w'.cell? ⟨R, 4, none⟩ = some (.int .i64 m.c) ∧ w'.cell? ⟨R, 16, none⟩ = some (.slice oa m.os.length oc) ∧ w'.cell? ⟨R, 17, none⟩ = some (.int .i64 m.d) ∧ RunBox w' R pv mb m.f m.p m.c xs m.st.length (.slice oa m.os.length oc) m.d ∧ ResAt w' w.heap.size ∧ Below w.heap.size w w')) := (Stable.cell _ _).and ((Stable.cell _ _).and ((Stable.cell _ _).and ((Stable.cell _ _).and ((Stable.cell _ _).and ((Stable.run _ _ _ _ _ _ _ _ _ _).and ((Stable.res _).and (Stable.below w)))))))
  have HS0 : Hid ((fun w' => w'.cell? ⟨R, 2, none⟩ = some (.int .i64 m.f) ∧ w'.cell? ⟨R, 3, none⟩ = some (.int .i64 m.p) ∧ w'.cell? ⟨R, 4, none⟩ = some (.int .i64 m.c) ∧ w'.cell? ⟨R, 16, none⟩ = some (.slice oa m.os.length oc) ∧ w'.cell? ⟨R, 17, none⟩ = some (.int .i64 m.d) ∧ RunBox w' R pv mb m.f m.p m.c xs m.st.length (.slice oa m.os.length oc) m.d ∧ ResAt w' w.heap.size ∧ Below w.heap.size w w') (w.alloc (.cells #[.int .i64 0, .int .i64 0, .int .i64 0, .slice none 0 0, .slice none 0 0, .int .i64 0] 47))) := by
    have k1 := h1.below (below_alloc1 w (.cells #[.int .i64 0, .int .i64 0, .int .i64 0, .slice none 0 0, .slice none 0 0, .int .i64 0] 47))
    have c := run_cells k1
    exact ⟨c.1, c.2.1, c.2.2.1, c.2.2.2.1, c.2.2.2.2, k1, ⟨_, _, _, _, _, _, new_block w _⟩, below_alloc1 _ _⟩
  have HL := hide (And.intro h2 (And.intro h5 h8))
  clear h1 h2 h5 h6 h8
  go_enter Tryz.func53, Tryz.ntmps53
  go_wp2_with fail
  refine wp_region_held_drew (S := (fun w' => w'.cell? ⟨R, 2, none⟩ = some (.int .i64 m.f) ∧ w'.cell? ⟨R, 3, none⟩ = some (.int .i64 m.p) ∧ w'.cell? ⟨R, 4, none⟩ = some (.int .i64 m.c) ∧ w'.cell? ⟨R, 16, none⟩ = some (.slice oa m.os.length oc) ∧ w'.cell? ⟨R, 17, none⟩ = some (.int .i64 m.d) ∧ RunBox w' R pv mb m.f m.p m.c xs m.st.length (.slice oa m.os.length oc) m.d ∧ ResAt w' w.heap.size ∧ Below w.heap.size w w')) (by kernel_rfl) ((unhide HSA).2 _ (unhide HS0)) (fun hHeld => ?_)
  refine wpAnyH_take (i := 0) (oi := { dst := some 3, op := Go.Op.move (Go.Operand.tmp 0), type := 95, pos := "l5_mach.go:139", after := #[], guard := none }) (v := ?v2_0) rfl (by kernel_rfl) (by kernel_rfl) (by kernel_rfl) (fun _ _ _ h => h) (Or.inl ⟨by rfl, ?y2_0⟩) (by assumption) ?r2_0
  case y2_0 => (intro w hSw; (try dsimp only at hSw); go_simp; try (with_reducible rfl))
  try simp only [Act.put, List.setIfInBounds_toArray, List.set_cons_zero, List.set_cons_succ]
  refine wpAnyH_take (i := 1) (oi := { dst := some 4, op := Go.Op.nilCheck (Go.Operand.tmp 3), type := 0, pos := "l5_mach.go:139", after := #[{ on := 0, ground := Go.Ground.data }], guard := none }) (v := ?v5_1) rfl (by kernel_rfl) (by kernel_rfl) (by kernel_rfl) (fun _ _ _ h => h) (Or.inl ⟨by rfl, ?y5_1⟩) (by assumption) ?r5_1
  case y5_1 => (intro w hSw; (try dsimp only at hSw); go_simp; try (with_reducible rfl))
  try simp only [Act.put, List.setIfInBounds_toArray, List.set_cons_zero, List.set_cons_succ]
  refine wpAnyH_take (i := 2) (oi := { dst := some 5, op := Go.Op.fieldAddr 138 (Go.Operand.tmp 4) 2, type := 0, pos := "l5_mach.go:139", after := #[{ on := 1, ground := Go.Ground.data }], guard := none }) (v := ?v8_2) rfl (by kernel_rfl) (by kernel_rfl) (by kernel_rfl) (fun _ _ _ h => h) (Or.inl ⟨by rfl, ?y8_2⟩) (by assumption) ?r8_2
  case y8_2 => (intro w hSw; (try dsimp only at hSw); go_simp; try (with_reducible rfl))
  try simp only [Act.put, List.setIfInBounds_toArray, List.set_cons_zero, List.set_cons_succ]
  refine wpAnyH_take (i := 3) (oi := { dst := some 6, op := Go.Op.load 31 (Go.Operand.tmp 5), type := 31, pos := "l5_mach.go:139", after := #[{ on := 2, ground := Go.Ground.data }], guard := none }) (v := ?v11_3) rfl (by kernel_rfl) (by kernel_rfl) (by kernel_rfl) (fun _ _ _ h => h) (Or.inl ⟨by rfl, ?y11_3⟩) (by assumption) ?r11_3
  case y11_3 => (intro w hSw; (try dsimp only at hSw); go_simp; try (with_reducible rfl))
  try simp only [Act.put, List.setIfInBounds_toArray, List.set_cons_zero, List.set_cons_succ]
  refine wpAnyH_take (i := 4) (oi := { dst := some 7, op := Go.Op.move (Go.Operand.tmp 0), type := 95, pos := "l5_mach.go:139", after := #[], guard := none }) (v := ?v14_4) rfl (by kernel_rfl) (by kernel_rfl) (by kernel_rfl) (fun _ _ _ h => h) (Or.inl ⟨by rfl, ?y14_4⟩) (by assumption) ?r14_4
  case y14_4 => (intro w hSw; (try dsimp only at hSw); go_simp; try (with_reducible rfl))
  try simp only [Act.put, List.setIfInBounds_toArray, List.set_cons_zero, List.set_cons_succ]
  refine wpAnyH_take (i := 5) (oi := { dst := some 8, op := Go.Op.nilCheck (Go.Operand.tmp 7), type := 0, pos := "l5_mach.go:139", after := #[{ on := 4, ground := Go.Ground.data }], guard := none }) (v := ?v17_5) rfl (by kernel_rfl) (by kernel_rfl) (by kernel_rfl) (fun _ _ _ h => h) (Or.inl ⟨by rfl, ?y17_5⟩) (by assumption) ?r17_5
  case y17_5 => (intro w hSw; (try dsimp only at hSw); go_simp; try (with_reducible rfl))
  try simp only [Act.put, List.setIfInBounds_toArray, List.set_cons_zero, List.set_cons_succ]
  refine wpAnyH_take (i := 6) (oi := { dst := some 9, op := Go.Op.fieldAddr 138 (Go.Operand.tmp 8) 3, type := 0, pos := "l5_mach.go:139", after := #[{ on := 5, ground := Go.Ground.data }], guard := none }) (v := ?v20_6) rfl (by kernel_rfl) (by kernel_rfl) (by kernel_rfl) (fun _ _ _ h => h) (Or.inl ⟨by rfl, ?y20_6⟩) (by assumption) ?r20_6
  case y20_6 => (intro w hSw; (try dsimp only at hSw); go_simp; try (with_reducible rfl))
  try simp only [Act.put, List.setIfInBounds_toArray, List.set_cons_zero, List.set_cons_succ]
  refine wpAnyH_take (i := 7) (oi := { dst := some 10, op := Go.Op.load 3 (Go.Operand.tmp 9), type := 3, pos := "l5_mach.go:139", after := #[{ on := 6, ground := Go.Ground.data }], guard := none }) (v := ?v23_7) rfl (by kernel_rfl) (by kernel_rfl) (by kernel_rfl) (fun _ _ _ h => h) (Or.inl ⟨by rfl, ?y23_7⟩) (by assumption) ?r23_7
  case y23_7 => (intro w hSw; (try dsimp only at hSw); go_simp; try (with_reducible rfl))
  try simp only [Act.put, List.setIfInBounds_toArray, List.set_cons_zero, List.set_cons_succ]
  refine wpAnyH_take (i := 8) (oi := { dst := some 11, op := Go.Op.move (Go.Operand.tmp 0), type := 95, pos := "l5_mach.go:139", after := #[], guard := none }) (v := ?v26_8) rfl (by kernel_rfl) (by kernel_rfl) (by kernel_rfl) (fun _ _ _ h => h) (Or.inl ⟨by rfl, ?y26_8⟩) (by assumption) ?r26_8
  case y26_8 => (intro w hSw; (try dsimp only at hSw); go_simp; try (with_reducible rfl))
  try simp only [Act.put, List.setIfInBounds_toArray, List.set_cons_zero, List.set_cons_succ]
  refine wpAnyH_take (i := 9) (oi := { dst := some 12, op := Go.Op.nilCheck (Go.Operand.tmp 11), type := 0, pos := "l5_mach.go:139", after := #[{ on := 8, ground := Go.Ground.data }], guard := none }) (v := ?v29_9) rfl (by kernel_rfl) (by kernel_rfl) (by kernel_rfl) (fun _ _ _ h => h) (Or.inl ⟨by rfl, ?y29_9⟩) (by assumption) ?r29_9
  case y29_9 => (intro w hSw; (try dsimp only at hSw); go_simp; try (with_reducible rfl))
  try simp only [Act.put, List.setIfInBounds_toArray, List.set_cons_zero, List.set_cons_succ]
  refine wpAnyH_take (i := 10) (oi := { dst := some 13, op := Go.Op.fieldAddr 138 (Go.Operand.tmp 12) 4, type := 0, pos := "l5_mach.go:139", after := #[{ on := 9, ground := Go.Ground.data }], guard := none }) (v := ?v32_10) rfl (by kernel_rfl) (by kernel_rfl) (by kernel_rfl) (fun _ _ _ h => h) (Or.inl ⟨by rfl, ?y32_10⟩) (by assumption) ?r32_10
  case y32_10 => (intro w hSw; (try dsimp only at hSw); go_simp; try (with_reducible rfl))
  try simp only [Act.put, List.setIfInBounds_toArray, List.set_cons_zero, List.set_cons_succ]
  refine wpAnyH_take (i := 12) (oi := { dst := some 15, op := Go.Op.move (Go.Operand.tmp 0), type := 95, pos := "l5_mach.go:139", after := #[], guard := none }) (v := ?v35_12) rfl (by kernel_rfl) (by kernel_rfl) (by kernel_rfl) (fun _ _ _ h => h) (Or.inl ⟨by rfl, ?y35_12⟩) (by assumption) ?r35_12
  case y35_12 => (intro w hSw; (try dsimp only at hSw); go_simp; try (with_reducible rfl))
  try simp only [Act.put, List.setIfInBounds_toArray, List.set_cons_zero, List.set_cons_succ]
  refine wpAnyH_take (i := 13) (oi := { dst := some 16, op := Go.Op.nilCheck (Go.Operand.tmp 15), type := 0, pos := "l5_mach.go:139", after := #[{ on := 12, ground := Go.Ground.data }], guard := none }) (v := ?v38_13) rfl (by kernel_rfl) (by kernel_rfl) (by kernel_rfl) (fun _ _ _ h => h) (Or.inl ⟨by rfl, ?y38_13⟩) (by assumption) ?r38_13
  case y38_13 => (intro w hSw; (try dsimp only at hSw); go_simp; try (with_reducible rfl))
  try simp only [Act.put, List.setIfInBounds_toArray, List.set_cons_zero, List.set_cons_succ]
  refine wpAnyH_take (i := 14) (oi := { dst := some 17, op := Go.Op.fieldAddr 138 (Go.Operand.tmp 16) 5, type := 0, pos := "l5_mach.go:139", after := #[{ on := 13, ground := Go.Ground.data }], guard := none }) (v := ?v41_14) rfl (by kernel_rfl) (by kernel_rfl) (by kernel_rfl) (fun _ _ _ h => h) (Or.inl ⟨by rfl, ?y41_14⟩) (by assumption) ?r41_14
  case y41_14 => (intro w hSw; (try dsimp only at hSw); go_simp; try (with_reducible rfl))
  try simp only [Act.put, List.setIfInBounds_toArray, List.set_cons_zero, List.set_cons_succ]
  refine wpAnyH_take (i := 15) (oi := { dst := some 18, op := Go.Op.load 24 (Go.Operand.tmp 17), type := 24, pos := "l5_mach.go:139", after := #[{ on := 14, ground := Go.Ground.data }], guard := none }) (v := ?v44_15) rfl (by kernel_rfl) (by kernel_rfl) (by kernel_rfl) (fun _ _ _ h => h) (Or.inl ⟨by rfl, ?y44_15⟩) (by assumption) ?r44_15
  case y44_15 => (intro w hSw; (try dsimp only at hSw); go_simp; try (with_reducible rfl))
  try simp only [Act.put, List.setIfInBounds_toArray, List.set_cons_zero, List.set_cons_succ]
  refine wpAnyH_take (i := 16) (oi := { dst := some 19, op := Go.Op.move (Go.Operand.tmp 0), type := 95, pos := "l5_mach.go:139", after := #[], guard := none }) (v := ?v47_16) rfl (by kernel_rfl) (by kernel_rfl) (by kernel_rfl) (fun _ _ _ h => h) (Or.inl ⟨by rfl, ?y47_16⟩) (by assumption) ?r47_16
  case y47_16 => (intro w hSw; (try dsimp only at hSw); go_simp; try (with_reducible rfl))
  try simp only [Act.put, List.setIfInBounds_toArray, List.set_cons_zero, List.set_cons_succ]
  refine wpAnyH_take (i := 17) (oi := { dst := some 20, op := Go.Op.nilCheck (Go.Operand.tmp 19), type := 0, pos := "l5_mach.go:139", after := #[{ on := 16, ground := Go.Ground.data }], guard := none }) (v := ?v50_17) rfl (by kernel_rfl) (by kernel_rfl) (by kernel_rfl) (fun _ _ _ h => h) (Or.inl ⟨by rfl, ?y50_17⟩) (by assumption) ?r50_17
  case y50_17 => (intro w hSw; (try dsimp only at hSw); go_simp; try (with_reducible rfl))
  try simp only [Act.put, List.setIfInBounds_toArray, List.set_cons_zero, List.set_cons_succ]
  refine wpAnyH_take (i := 18) (oi := { dst := some 21, op := Go.Op.fieldAddr 138 (Go.Operand.tmp 20) 6, type := 0, pos := "l5_mach.go:139", after := #[{ on := 17, ground := Go.Ground.data }], guard := none }) (v := ?v53_18) rfl (by kernel_rfl) (by kernel_rfl) (by kernel_rfl) (fun _ _ _ h => h) (Or.inl ⟨by rfl, ?y53_18⟩) (by assumption) ?r53_18
  case y53_18 => (intro w hSw; (try dsimp only at hSw); go_simp; try (with_reducible rfl))
  try simp only [Act.put, List.setIfInBounds_toArray, List.set_cons_zero, List.set_cons_succ]
  refine wpAnyH_take (i := 19) (oi := { dst := some 22, op := Go.Op.load 3 (Go.Operand.tmp 21), type := 3, pos := "l5_mach.go:139", after := #[{ on := 18, ground := Go.Ground.data }], guard := none }) (v := ?v56_19) rfl (by kernel_rfl) (by kernel_rfl) (by kernel_rfl) (fun _ _ _ h => h) (Or.inl ⟨by rfl, ?y56_19⟩) (by assumption) ?r56_19
  case y56_19 => (intro w hSw; (try dsimp only at hSw); go_simp; try (with_reducible rfl))
  try simp only [Act.put, List.setIfInBounds_toArray, List.set_cons_zero, List.set_cons_succ]
  refine wpAnyH_ready (rs := [11]) (by kernel_rfl) (by simp) (AllReadyH.cons (o := { dst := some 14, op := Go.Op.call { callee := Go.Callee.value (Go.Operand.func 97), args := #[Go.Operand.tmp 13], argTypes := #[136] }, type := 45, pos := "l5_mach.go:139", after := #[{ on := 10, ground := Go.Ground.data }], guard := none }) rfl (fun K hK => ?_) AllReadyH.nil)
  go_simp
  go_at_call 97
  refine (list_any R pv mb m.f m.p m.c xs _ _ m.d _ h3 hHeld.2.2.2.2.2.1).mono ?_
  rintro e w1 ⟨v1, rfl, hO1, hbk⟩
  have hz1 := hHeld.2.2.2.2.2.2.2.size
  have hsp : SpotOwn w1 W0.heap.size v1 m.st := by
    have := spot_base hO1 (Nat.le_trans hW hz1)
    rw [(unhide HL).1] at this
    exact this
  clear hO1
  obtain ⟨sa1, sc1, rfl, _, _⟩ := spot_form hsp
  replace hHeld := (unhide HSA).1 _ _ hbk hHeld
  go_wp2_with fail
  refine hK.out _ _ hHeld (fun _ => ?_)
  clear hK K hbk
  try simp only [Act.put, List.setIfInBounds_toArray, List.set_cons_zero, List.set_cons_succ]
  refine wpAnyH_take (i := 20) (oi := { dst := some 23, op := Go.Op.build 47 #[(0, Go.Operand.tmp 6), (1, Go.Operand.tmp 10), (2, Go.Operand.tmp 14), (3, Go.Operand.tmp 18), (4, Go.Operand.tmp 22)], type := 47, pos := "l5_mach.go:139", after := #[{ on := 3, ground := Go.Ground.data }, { on := 7, ground := Go.Ground.data }, { on := 11, ground := Go.Ground.data }, { on := 15, ground := Go.Ground.data }, { on := 19, ground := Go.Ground.data }], guard := none }) (v := ?v61_20) rfl (by kernel_rfl) (by kernel_rfl) (by kernel_rfl) (fun _ _ _ h => h) (Or.inl ⟨by rfl, ?y61_20⟩) (by assumption) ?r61_20
  case y61_20 => (intro w hSw; (try dsimp only at hSw); go_simp; try (with_reducible rfl))
  try simp only [Act.put, List.setIfInBounds_toArray, List.set_cons_zero, List.set_cons_succ]
  refine wpAnyH_ready (rs := [21]) (by kernel_rfl) (by simp) (AllReadyH.cons (o := { dst := none, op := Go.Op.store 47 (Go.Operand.tmp 2) (Go.Operand.tmp 23), type := 0, pos := "l5_mach.go:139", after := #[{ on := 20, ground := Go.Ground.data }, { on := 11, ground := Go.Ground.chain }, { on := 0, ground := Go.Ground.phase }, { on := 1, ground := Go.Ground.phase }, { on := 2, ground := Go.Ground.phase }, { on := 3, ground := Go.Ground.phase }, { on := 4, ground := Go.Ground.phase }, { on := 5, ground := Go.Ground.phase }, { on := 6, ground := Go.Ground.phase }, { on := 7, ground := Go.Ground.phase }, { on := 8, ground := Go.Ground.phase }, { on := 9, ground := Go.Ground.phase }, { on := 10, ground := Go.Ground.phase }, { on := 11, ground := Go.Ground.phase }, { on := 12, ground := Go.Ground.phase }, { on := 13, ground := Go.Ground.phase }, { on := 14, ground := Go.Ground.phase }, { on := 15, ground := Go.Ground.phase }, { on := 16, ground := Go.Ground.phase }, { on := 17, ground := Go.Ground.phase }, { on := 18, ground := Go.Ground.phase }, { on := 19, ground := Go.Ground.phase }, { on := 20, ground := Go.Ground.phase }], guard := none }) rfl (fun K hK => ?_) AllReadyH.nil)
  obtain ⟨u0, u1, u2, u3, u4, u5, hres⟩ := hHeld.2.2.2.2.2.2.1
  have hrN := box6 hres
  have hRB := hHeld.2.2.2.2.2.1
  have hBl := hHeld.2.2.2.2.2.2.2
  have hwM : OwnM W0 w1 (.slice sa1 m.st.length sc1) (.slice oa m.os.length oc) m := ⟨hsp, num_below (unhide HL).2.1 hBl, bl_trans (unhide HL).2.2 hBl⟩
  clear hsp
  go_simp
  have hRB2 : RunBox (((((w1.setCell ⟨w.heap.size, 0, none⟩ (.int .i64 m.f)).setCell ⟨w.heap.size, 1, none⟩ (.int .i64 m.p)).setCell ⟨w.heap.size, 2, none⟩ (.int .i64 m.c)).setCell ⟨w.heap.size, 3, none⟩ (.slice sa1 m.st.length sc1)).setCell ⟨w.heap.size, 4, none⟩ (.slice oa m.os.length oc) |>.setCell ⟨w.heap.size, 5, none⟩ (.int .i64 m.d)) R pv mb m.f m.p m.c xs m.st.length (.slice oa m.os.length oc) m.d := ⟨hRB.1, set_other (set_other (set_other (set_other (set_other (set_other hRB.2 (by omega)) (by omega)) (by omega)) (by omega)) (by omega)) (by omega)⟩
  have cc := run_cells hRB2
  refine hK.out _ _ ⟨cc.1, cc.2.1, cc.2.2.1, cc.2.2.2.1, cc.2.2.2.2, hRB2, ⟨.int .i64 m.f, .int .i64 m.p, .int .i64 m.c, .slice sa1 m.st.length sc1, .slice oa m.os.length oc, .int .i64 m.d, ?_⟩, ?_⟩ (fun _ => ?_)
  · exact eq_cells (block_setCell (block_setCell (block_setCell (block_setCell (block_setCell (block_setCell hres _) _) _) _) _) _) (by simp)
  · repeat (with_reducible refine Below.setCell ?_ (by show w.heap.size ≤ w.heap.size; exact Nat.le_refl _) _)
    exact hBl
  clear hK K hHeld cc hRB2
  try simp only [Act.put, List.setIfInBounds_toArray, List.set_cons_zero, List.set_cons_succ]
  refine wpAnyH_done (by kernel_rfl) ?_ _
  have HM1 : Hid (MachAt w1 w.heap.size) := ⟨_, hres⟩
  have HWM := hide hwM
  clear hres hwM hRB hBl
  go_wp2_with fail
  refine bodyPost_ret (v := .agg (aggM m (.slice sa1 m.st.length sc1) (.slice oa m.os.length oc))) (by simp [results, Tryz.results53, go_sem, aggM, hrN]) rfl ⟨_, _, rfl, ?_⟩
  repeat (with_reducible refine OwnM.set ?_ (by (repeat (with_reducible refine MachAt.set ?_)); exact unhide HM1) (by omega))
  exact unhide HWM
theorem run_below {W0 w : World} {R mb : Nat} {pv : Value} {fs : List FunD} {m : MD} (h : RunIs W0 w R mb pv fs m) : Below W0.heap.size W0 w := by obtain ⟨_, _, _, _, _, _, _, _, _, h8⟩ := h; exact h8
set_option maxHeartbeats 4000000 in
theorem implStep_any (a : Option Addr) (cap : Nat) (fs : List FunD) (m : MD) (sa oa : Option Addr) (sc oc : Nat) (w : World) (hcap : fs.length ≤ cap) (hcm : cap ≤ maxLen) (hR : FunRow w a fs) (h1 : m.st.length ≤ sc) (h2 : sc ≤ maxLen) (h3 : m.os.length ≤ oc) (h4 : oc ≤ maxLen) (hs : SpotRow w sa m.st) (ho : NumRow w oa m.os) :
    Calls Tryz.prog 17 #[.slice a fs.length cap, .agg (aggM m (.slice sa m.st.length sc) (.slice oa m.os.length oc))] w fun e w' => ∃ sv ov, e = .returned (.agg (aggM (stepM fs m) sv ov)) ∧ OwnM w w' sv ov (stepM fs m) := by
  have ha : Below w.heap.size w ((w.alloc (.cells #[.int .i64 m.f, .int .i64 m.p, .int .i64 m.c, .slice sa m.st.length sc, .slice oa m.os.length oc, .int .i64 m.d] 47)).alloc (.cells #[.int .i64 0, .int .i64 0, .int .i64 0, .slice none 0 0, .slice none 0 0, .int .i64 0] 47)) := below_alloc2 _ _ _
  have HB : Hid (((w.alloc (.cells #[.int .i64 m.f, .int .i64 m.p, .int .i64 m.c, .slice sa m.st.length sc, .slice oa m.os.length oc, .int .i64 m.d] 47)).alloc (.cells #[.int .i64 0, .int .i64 0, .int .i64 0, .slice none 0 0, .slice none 0 0, .int .i64 0] 47)).heap[w.heap.size]? = some (.cells #[.int .i64 m.f, .int .i64 m.p, .int .i64 m.c, .slice sa m.st.length sc, .slice oa m.os.length oc, .int .i64 m.d] 47)) := box_below (new_block w _) (below_alloc1 _ _)
  have HN : Hid (((w.alloc (.cells #[.int .i64 m.f, .int .i64 m.p, .int .i64 m.c, .slice sa m.st.length sc, .slice oa m.os.length oc, .int .i64 m.d] 47)).alloc (.cells #[.int .i64 0, .int .i64 0, .int .i64 0, .slice none 0 0, .slice none 0 0, .int .i64 0] 47)).heap[w.heap.size + 1]? = some (.cells #[.int .i64 0, .int .i64 0, .int .i64 0, .slice none 0 0, .slice none 0 0, .int .i64 0] 47)) := res6 w _ _ _ _ _ _ _ _
  have HX := hide (And.intro hR (And.intro hs ho))
  have HA := hide ha
  clear hR hs ho ha
  unfold aggM
  cases hok : machOkB fs m.f m.p m.c m.d m.st m.os
  · have em : stepM fs m = badM := by unfold stepM; rw [hok]; rfl
    rw [em]
    go_enter Tryz.func17, Tryz.ntmps17
    go_wp2_with fail
    refine (implMachOk_any a cap fs m.f m.p m.c m.d _ _ _ _ m.st m.os _ hcap hcm ((unhide HX).1.below (unhide HA)) h1 h2 h3 h4 ((unhide HX).2.1.below (unhide HA)) ((unhide HX).2.2.below (unhide HA))).mono ?_
    rw [hok]
    rintro e w1 ⟨rfl, hb1⟩
    have hr := box_below (unhide HN) hb1
    have xr := box6 hr
    have HM1 : Hid (MachAt w1 (w.heap.size + 1)) := ⟨_, hr⟩
    have HW : Hid (OwnM w w1 (.slice none 0 0) (.slice none 0 0) badM) := own_nil (bl_trans (unhide HA) hb1) 0 0 0 5
    clear hr hb1 em HX HA HB HN
    go_wp2_with fail
    refine bodyPost_ret (v := .agg (aggM badM (.slice none 0 0) (.slice none 0 0))) (by simp [results, Tryz.results17, go_sem, aggM, badM, xr]) rfl ⟨_, _, rfl, ?_⟩
    repeat (with_reducible refine OwnM.set ?_ (by (repeat (with_reducible refine MachAt.set ?_)); exact unhide HM1) (by omega))
    exact unhide HW
  · obtain ⟨hkp, hv⟩ := ok_inv hok
    have em : stepM fs m = goM fs m := by unfold stepM; rw [hok]; rfl
    rw [em]
    have h40 := (keep_parts hkp).2.1
    have hol := hv.ol
    have hsl := hv.sl
    have HV := hide hv
    clear em hv
    go_enter Tryz.func17, Tryz.ntmps17
    go_wp2_with fail
    refine (implMachOk_any a cap fs m.f m.p m.c m.d _ _ _ _ m.st m.os _ hcap hcm ((unhide HX).1.below (unhide HA)) h1 h2 h3 h4 ((unhide HX).2.1.below (unhide HA)) ((unhide HX).2.2.below (unhide HA))).mono ?_
    rw [hok]
    rintro e w1 ⟨rfl, hb1⟩
    have HA1 := hide (bl_trans (unhide HA) hb1)
    have HR1 := hide (box_below (unhide HN) hb1)
    have xb := box6 (box_below (unhide HB) hb1)
    clear hb1 HA HB HN hok
    go_wp2_with fail
    refine (runnerAt_any a cap fs m sa oa sc oc _ hcap hcm h40 ((unhide HX).1.below (unhide HA1)) hsl h1 (by omega) ((unhide HX).2.1.below (unhide HA1)) ((unhide HX).2.2.below (unhide HA1))).mono ?_
    rintro e w2 ⟨R, mb, rfl, hI2⟩
    have HI2 := hide hI2
    clear hI2 xb
    go_wp2_with fail
    refine (step_any w1 R mb a cap fs m _ hkp hcap hcm ((unhide HX).1.below (unhide HA1)) (unhide HV) (unhide HI2)).mono ?_
    rintro e w3 ⟨rfl, hI3⟩
    have HI3 := hide hI3
    clear hI3 HI2
    generalize hmd : goM fs m = m3 at *
    have HMD := hide hmd
    clear hmd
    go_wp2_with fail
    refine (mach_any w1 R mb _ fs m3 _ (unhide HI3)).mono ?_
    rintro e w4 ⟨sv4, ov4, rfl, hO4⟩
    have hr := box_below (unhide HR1) hO4.2.2
    have xr := box6 hr
    have HM1 : Hid (MachAt w4 (w.heap.size + 1)) := ⟨_, hr⟩
    obtain ⟨sa4, sc4, rfl, _, _⟩ := spot_form hO4.1
    obtain ⟨oa4, oc4, rfl, _, _⟩ := num_form hO4.2.1
    have HW := hide (own_base hO4 (unhide HA1))
    clear hr hO4 HI3 HR1 HA1
    unfold aggM
    go_wp2_with fail
    refine bodyPost_ret (v := .agg (aggM m3 (.slice sa4 m3.st.length sc4) (.slice oa4 m3.os.length oc4))) (by simp [results, Tryz.results17, go_sem, aggM, xr]) rfl ?_
    show ∃ sv ov, _ = Ending.returned (.agg (aggM (goM fs m) sv ov)) ∧ OwnM w _ sv ov (goM fs m)
    rw [unhide HMD]
    refine ⟨_, _, rfl, ?_⟩
    repeat (with_reducible refine OwnM.set ?_ (by (repeat (with_reducible refine MachAt.set ?_)); exact unhide HM1) (by omega))
    exact unhide HW
end Go.Proofs.YtjbhbkkkjdpamaaGreat.MImplB
