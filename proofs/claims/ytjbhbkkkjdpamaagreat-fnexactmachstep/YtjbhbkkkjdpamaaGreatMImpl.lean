/- The contracts of the program's runner: how it is made, and the machine that it holds. -/
import Derived.Test.YtjbhbkkkjdpamaaGreatMStepI
import Derived.Test.YtjbhbkkkjdpamaaGreatMSpecD
import Derived.Test.YtjbhbkkkjdpamaaGreatMOkI
namespace Go.Proofs.YtjbhbkkkjdpamaaGreat.MImpl
open Go.ChangeShapes Go.WideShapes Go.ChangeAt Go.RowKit Go.Joins Go.WideMaps Go.Maps Go.Deep
open Go.Proofs.YtjbhbkkkjdpamaaGreat.Base Go.Proofs.YtjbhbkkkjdpamaaGreat.InsA Go.Proofs.YtjbhbkkkjdpamaaGreat.Funs Go.Proofs.YtjbhbkkkjdpamaaGreat.Open Go.Proofs.YtjbhbkkkjdpamaaGreat.Keep Go.Proofs.YtjbhbkkkjdpamaaGreat.UnitS Go.Proofs.YtjbhbkkkjdpamaaGreat.UnitM Go.Proofs.YtjbhbkkkjdpamaaGreat.WantsI Go.Proofs.YtjbhbkkkjdpamaaGreat.Mach Go.Proofs.YtjbhbkkkjdpamaaGreat.Mark Go.Proofs.YtjbhbkkkjdpamaaGreat.Sum Go.Proofs.YtjbhbkkkjdpamaaGreat.KeepA Go.Proofs.YtjbhbkkkjdpamaaGreat.KeepD Go.Proofs.YtjbhbkkkjdpamaaGreat.MOk Go.Proofs.YtjbhbkkkjdpamaaGreat.MOkI Go.Proofs.YtjbhbkkkjdpamaaGreat.MD Go.Proofs.YtjbhbkkkjdpamaaGreat.MRun Go.Proofs.YtjbhbkkkjdpamaaGreat.MDeed Go.Proofs.YtjbhbkkkjdpamaaGreat.MSay Go.Proofs.YtjbhbkkkjdpamaaGreat.MSpec Go.Proofs.YtjbhbkkkjdpamaaGreat.MSpecB Go.Proofs.YtjbhbkkkjdpamaaGreat.MSpecC Go.Proofs.YtjbhbkkkjdpamaaGreat.MCopy Go.Proofs.YtjbhbkkkjdpamaaGreat.MSpecD Go.Proofs.YtjbhbkkkjdpamaaGreat.MStepI
set_option linter.unusedVariables false
set_option maxRecDepth 100000

theorem q6 {a b c d e f g : Prop} (h : a ∧ b ∧ c ∧ d ∧ e ∧ f ∧ g) : g := h.2.2.2.2.2.2
set_option maxHeartbeats 8000000 in
theorem runnerAt_any (a : Option Addr) (cap : Nat) (fs : List FunD) (m : MD) (sa oa : Option Addr) (sc oc : Nat) (w : World) (hcap : fs.length ≤ cap) (hcm : cap ≤ maxLen) (h40 : fs.length ≤ 40) (hR : FunRow w a fs) (h5 : m.st.length ≤ 5) (hsc : m.st.length ≤ sc) (hl2 : m.os.length ≤ 1048576) (hs : SpotRow w sa m.st) (ho : NumRow w oa m.os) :
    Calls Tryz.prog 51 #[.slice a fs.length cap, .agg (aggM m (.slice sa m.st.length sc) (.slice oa m.os.length oc))] w fun e w' => ∃ R mb, e = .returned (.pointer (some ⟨R, 0, none⟩)) ∧ RunIs w w' R mb (.slice a fs.length cap) fs m := by
  unfold aggM
  have HSA : Hid (Stable (fun w' => w'.cell? ⟨w.heap.size, 0, none⟩ = some (.int .i64 m.f) ∧ w'.cell? ⟨w.heap.size, 1, none⟩ = some (.int .i64 m.p) ∧ w'.cell? ⟨w.heap.size, 2, none⟩ = some (.int .i64 m.c) ∧ w'.cell? ⟨w.heap.size, 3, none⟩ = some (.slice sa m.st.length sc) ∧ w'.cell? ⟨w.heap.size, 4, none⟩ = some (.slice oa m.os.length oc) ∧ w'.cell? ⟨w.heap.size, 5, none⟩ = some (.int .i64 m.d) ∧ Below w.heap.size w w')) := (Stable.cell _ _).and ((Stable.cell _ _).and ((Stable.cell _ _).and ((Stable.cell _ _).and ((Stable.cell _ _).and ((Stable.cell _ _).and (Stable.below w))))))
  have HS0 : Hid ((fun w' => w'.cell? ⟨w.heap.size, 0, none⟩ = some (.int .i64 m.f) ∧ w'.cell? ⟨w.heap.size, 1, none⟩ = some (.int .i64 m.p) ∧ w'.cell? ⟨w.heap.size, 2, none⟩ = some (.int .i64 m.c) ∧ w'.cell? ⟨w.heap.size, 3, none⟩ = some (.slice sa m.st.length sc) ∧ w'.cell? ⟨w.heap.size, 4, none⟩ = some (.slice oa m.os.length oc) ∧ w'.cell? ⟨w.heap.size, 5, none⟩ = some (.int .i64 m.d) ∧ Below w.heap.size w w') (w.alloc (.cells #[.int .i64 m.f, .int .i64 m.p, .int .i64 m.c, .slice sa m.st.length sc, .slice oa m.os.length oc, .int .i64 m.d] 47))) := by
    have n := (box6 (new_block w (.cells #[.int .i64 m.f, .int .i64 m.p, .int .i64 m.c, .slice sa m.st.length sc, .slice oa m.os.length oc, .int .i64 m.d] 47))).1
    exact ⟨n.1, n.2.1, n.2.2.1, n.2.2.2.1, n.2.2.2.2.1, n.2.2.2.2.2, below_alloc1 _ _⟩
  have HX := hide (And.intro hR (And.intro hs ho))
  clear hR hs ho
  go_enter Tryz.func51, Tryz.ntmps51
  go_wp2_with fail
  refine wp_region_held_drew (S := (fun w' => w'.cell? ⟨w.heap.size, 0, none⟩ = some (.int .i64 m.f) ∧ w'.cell? ⟨w.heap.size, 1, none⟩ = some (.int .i64 m.p) ∧ w'.cell? ⟨w.heap.size, 2, none⟩ = some (.int .i64 m.c) ∧ w'.cell? ⟨w.heap.size, 3, none⟩ = some (.slice sa m.st.length sc) ∧ w'.cell? ⟨w.heap.size, 4, none⟩ = some (.slice oa m.os.length oc) ∧ w'.cell? ⟨w.heap.size, 5, none⟩ = some (.int .i64 m.d) ∧ Below w.heap.size w w')) (by kernel_rfl) ((unhide HSA).2 _ (unhide HS0)) (fun hHeld => ?_)
  refine wpAnyH_take (i := 0) (oi := { dst := some 8, op := Go.Op.move (Go.Operand.tmp 0), type := 23, pos := "l5_mach.go:131", after := #[], guard := none }) (v := ?v1_0) rfl (by kernel_rfl) (by kernel_rfl) (by kernel_rfl) (fun _ _ _ h => h) (Or.inl ⟨by rfl, ?y1_0⟩) (by assumption) ?r1_0
  case y1_0 => (intro w hSw; (try dsimp only at hSw); go_simp; try (with_reducible rfl))
  try simp only [Act.put, List.setIfInBounds_toArray, List.set_cons_zero, List.set_cons_succ]
  refine wpAnyH_take (i := 1) (oi := { dst := some 9, op := Go.Op.move (Go.Operand.tmp 0), type := 23, pos := "l5_mach.go:131", after := #[], guard := none }) (v := ?v4_1) rfl (by kernel_rfl) (by kernel_rfl) (by kernel_rfl) (fun _ _ _ h => h) (Or.inl ⟨by rfl, ?y4_1⟩) (by assumption) ?r4_1
  case y4_1 => (intro w hSw; (try dsimp only at hSw); go_simp; try (with_reducible rfl))
  try simp only [Act.put, List.setIfInBounds_toArray, List.set_cons_zero, List.set_cons_succ]
  refine wpAnyH_take (i := 3) (oi := { dst := some 11, op := Go.Op.fieldAddr 47 (Go.Operand.tmp 3) 0, type := 0, pos := "l5_mach.go:131", after := #[], guard := none }) (v := ?v7_3) rfl (by kernel_rfl) (by kernel_rfl) (by kernel_rfl) (fun _ _ _ h => h) (Or.inl ⟨by rfl, ?y7_3⟩) (by assumption) ?r7_3
  case y7_3 => (intro w hSw; (try dsimp only at hSw); go_simp; try (with_reducible rfl))
  try simp only [Act.put, List.setIfInBounds_toArray, List.set_cons_zero, List.set_cons_succ]
  refine wpAnyH_take (i := 4) (oi := { dst := some 12, op := Go.Op.load 31 (Go.Operand.tmp 11), type := 31, pos := "l5_mach.go:131", after := #[{ on := 3, ground := Go.Ground.data }], guard := none }) (v := ?v10_4) rfl (by kernel_rfl) (by kernel_rfl) (by kernel_rfl) (fun _ _ _ h => h) (Or.inl ⟨by rfl, ?y10_4⟩) (by assumption) ?r10_4
  case y10_4 => (intro w hSw; (try dsimp only at hSw); go_simp; try (with_reducible rfl))
  try simp only [Act.put, List.setIfInBounds_toArray, List.set_cons_zero, List.set_cons_succ]
  refine wpAnyH_take (i := 5) (oi := { dst := some 13, op := Go.Op.fieldAddr 47 (Go.Operand.tmp 3) 1, type := 0, pos := "l5_mach.go:131", after := #[], guard := none }) (v := ?v13_5) rfl (by kernel_rfl) (by kernel_rfl) (by kernel_rfl) (fun _ _ _ h => h) (Or.inl ⟨by rfl, ?y13_5⟩) (by assumption) ?r13_5
  case y13_5 => (intro w hSw; (try dsimp only at hSw); go_simp; try (with_reducible rfl))
  try simp only [Act.put, List.setIfInBounds_toArray, List.set_cons_zero, List.set_cons_succ]
  refine wpAnyH_take (i := 6) (oi := { dst := some 14, op := Go.Op.load 3 (Go.Operand.tmp 13), type := 3, pos := "l5_mach.go:131", after := #[{ on := 5, ground := Go.Ground.data }], guard := none }) (v := ?v16_6) rfl (by kernel_rfl) (by kernel_rfl) (by kernel_rfl) (fun _ _ _ h => h) (Or.inl ⟨by rfl, ?y16_6⟩) (by assumption) ?r16_6
  case y16_6 => (intro w hSw; (try dsimp only at hSw); go_simp; try (with_reducible rfl))
  try simp only [Act.put, List.setIfInBounds_toArray, List.set_cons_zero, List.set_cons_succ]
  refine wpAnyH_take (i := 7) (oi := { dst := some 15, op := Go.Op.fieldAddr 47 (Go.Operand.tmp 3) 3, type := 0, pos := "l5_mach.go:131", after := #[], guard := none }) (v := ?v19_7) rfl (by kernel_rfl) (by kernel_rfl) (by kernel_rfl) (fun _ _ _ h => h) (Or.inl ⟨by rfl, ?y19_7⟩) (by assumption) ?r19_7
  case y19_7 => (intro w hSw; (try dsimp only at hSw); go_simp; try (with_reducible rfl))
  try simp only [Act.put, List.setIfInBounds_toArray, List.set_cons_zero, List.set_cons_succ]
  refine wpAnyH_take (i := 8) (oi := { dst := some 16, op := Go.Op.load 24 (Go.Operand.tmp 15), type := 24, pos := "l5_mach.go:131", after := #[{ on := 7, ground := Go.Ground.data }], guard := none }) (v := ?v22_8) rfl (by kernel_rfl) (by kernel_rfl) (by kernel_rfl) (fun _ _ _ h => h) (Or.inl ⟨by rfl, ?y22_8⟩) (by assumption) ?r22_8
  case y22_8 => (intro w hSw; (try dsimp only at hSw); go_simp; try (with_reducible rfl))
  try simp only [Act.put, List.setIfInBounds_toArray, List.set_cons_zero, List.set_cons_succ]
  refine wpAnyH_take (i := 10) (oi := { dst := some 18, op := Go.Op.fieldAddr 47 (Go.Operand.tmp 3) 4, type := 0, pos := "l5_mach.go:131", after := #[], guard := none }) (v := ?v25_10) rfl (by kernel_rfl) (by kernel_rfl) (by kernel_rfl) (fun _ _ _ h => h) (Or.inl ⟨by rfl, ?y25_10⟩) (by assumption) ?r25_10
  case y25_10 => (intro w hSw; (try dsimp only at hSw); go_simp; try (with_reducible rfl))
  try simp only [Act.put, List.setIfInBounds_toArray, List.set_cons_zero, List.set_cons_succ]
  refine wpAnyH_take (i := 11) (oi := { dst := some 19, op := Go.Op.load 3 (Go.Operand.tmp 18), type := 3, pos := "l5_mach.go:131", after := #[{ on := 10, ground := Go.Ground.data }], guard := none }) (v := ?v28_11) rfl (by kernel_rfl) (by kernel_rfl) (by kernel_rfl) (fun _ _ _ h => h) (Or.inl ⟨by rfl, ?y28_11⟩) (by assumption) ?r28_11
  case y28_11 => (intro w hSw; (try dsimp only at hSw); go_simp; try (with_reducible rfl))
  try simp only [Act.put, List.setIfInBounds_toArray, List.set_cons_zero, List.set_cons_succ]
  refine wpAnyH_ready (rs := [2]) (by kernel_rfl) (by simp) (AllReadyH.cons (o := { dst := some 10, op := Go.Op.call { callee := Go.Callee.value (Go.Operand.func 80), args := #[Go.Operand.tmp 9], argTypes := #[23] }, type := 70, pos := "l5_mach.go:131", after := #[{ on := 1, ground := Go.Ground.data }], guard := none }) rfl (fun K hK => ?_) AllReadyH.nil)
  go_simp
  go_at_call 80
  refine (places_any a cap fs _ hcap hcm h40 ((unhide HX).1.below (q6 hHeld))).mono ?_
  rintro e wk ⟨rfl, hM, hbk⟩
  have hmb : w.heap.size ≤ (w.alloc (.cells #[.int .i64 m.f, .int .i64 m.p, .int .i64 m.c, .slice sa m.st.length sc, .slice oa m.os.length oc, .int .i64 m.d] 47)).drew.heap.size := (q6 hHeld).size
  replace hHeld := (unhide HSA).1 _ _ hbk hHeld
  go_wp2_with fail
  refine hK.out _ _ hHeld (fun _ => ?_)
  clear hK K hbk
  try simp only [Act.put, List.setIfInBounds_toArray, List.set_cons_zero, List.set_cons_succ]
  refine wpAnyH_ready (rs := [9]) (by kernel_rfl) (by simp) (AllReadyH.cons (o := { dst := some 17, op := Go.Op.call { callee := Go.Callee.builtin Go.Builtin.append, args := #[Go.Operand.const (Go.Value.slice none 0 0), Go.Operand.tmp 16], argTypes := #[24, 24] }, type := 24, pos := "l5_mach.go:131", after := #[{ on := 8, ground := Go.Ground.data }, { on := 2, ground := Go.Ground.chain }], guard := none }) rfl (fun K hK => ?_) AllReadyH.nil)
  obtain ⟨a1, c1, w1, hrun, hO, hgk⟩ := nums_onto (ci := oc) (v := .slice none 0 0) (q6 hHeld).size ⟨rfl, .inl ⟨rfl, rfl⟩⟩ ((unhide HX).2.2.below (q6 hHeld)) hl2 24
  refine step_run rfl (.const (.slice none 0 0)) (.tmp 16) 24 24 rfl _ _ _ (by simp [Act.eval]) (by simp [Act.eval]) hrun ?_
  have hbk : Below wk.heap.size wk w1 := (Below.refl _ _).grown hgk (Nat.le_refl _) (fun g hg => by cases hg)
  replace hM := map_below hM hbk
  replace hHeld := (unhide HSA).1 _ _ hbk hHeld
  refine hK.out _ _ hHeld (fun _ => ?_)
  clear hK K hbk hrun hgk
  try simp only [Act.put, List.setIfInBounds_toArray, List.set_cons_zero, List.set_cons_succ]
  refine wpAnyH_take (i := 12) (oi := { dst := some 20, op := Go.Op.build 138 #[(0, Go.Operand.tmp 8), (1, Go.Operand.tmp 10), (2, Go.Operand.tmp 12), (3, Go.Operand.tmp 14), (5, Go.Operand.tmp 17), (6, Go.Operand.tmp 19)], type := 138, pos := "l5_mach.go:131", after := #[{ on := 0, ground := Go.Ground.data }, { on := 2, ground := Go.Ground.data }, { on := 4, ground := Go.Ground.data }, { on := 6, ground := Go.Ground.data }, { on := 9, ground := Go.Ground.data }, { on := 11, ground := Go.Ground.data }], guard := none }) (v := ?v35_12) rfl (by kernel_rfl) (by kernel_rfl) (by kernel_rfl) (fun _ _ _ h => h) (Or.inl ⟨by rfl, ?y35_12⟩) (by assumption) ?r35_12
  case y35_12 => (intro w hSw; (try dsimp only at hSw); go_simp; try (with_reducible rfl))
  try simp only [Act.put, List.setIfInBounds_toArray, List.set_cons_zero, List.set_cons_succ]
  refine wpAnyH_ready (rs := [13]) (by kernel_rfl) (by simp) (AllReadyH.cons (o := { dst := some 21, op := Go.Op.box 138 (Go.Operand.tmp 20), type := 95, pos := "l5_mach.go:131", after := #[{ on := 12, ground := Go.Ground.data }], guard := none }) rfl (fun K hK => ?_) AllReadyH.nil)
  go_simp
  have HI : ∀ o, o = Obj.cells (runL (.slice a fs.length cap) (w.heap.size + 1) m.f m.p m.c [⟨0, 0⟩, ⟨0, 0⟩, ⟨0, 0⟩, ⟨0, 0⟩, ⟨0, 0⟩] 0 (.slice a1 m.os.length c1) m.d).toArray 138 → Hid (RunIs w (w1.alloc o) w1.heap.size (w.heap.size + 1) (.slice a fs.length cap) fs { m with st := [] }) := fun o e => by
    subst e
    refine ⟨[⟨0, 0⟩, ⟨0, 0⟩, ⟨0, 0⟩, ⟨0, 0⟩, ⟨0, 0⟩], .slice a1 m.os.length c1, ⟨rfl, new_block w1 _⟩, rfl, by simp, (q6 hHeld).size, num_below hO (below_alloc1 _ _), ?_, by omega, bl_alloc (q6 hHeld) _⟩
    have hM2 := map_below hM (below_alloc1 w1 (Obj.cells (runL (.slice a fs.length cap) (w.heap.size + 1) m.f m.p m.c [⟨0, 0⟩, ⟨0, 0⟩, ⟨0, 0⟩, ⟨0, 0⟩, ⟨0, 0⟩] 0 (.slice a1 m.os.length c1) m.d).toArray 138))
    simpa using hM2
  have HI2 := HI _ rfl
  replace hHeld := (unhide HSA).alloc hHeld (Obj.cells (runL (.slice a fs.length cap) (w.heap.size + 1) m.f m.p m.c [⟨0, 0⟩, ⟨0, 0⟩, ⟨0, 0⟩, ⟨0, 0⟩, ⟨0, 0⟩] 0 (.slice a1 m.os.length c1) m.d).toArray 138)
  refine hK.out _ _ hHeld (fun _ => ?_)
  clear hK K HI hM hO hmb
  try simp only [Act.put, List.setIfInBounds_toArray, List.set_cons_zero, List.set_cons_succ]
  refine wpAnyH_take (i := 14) (oi := { dst := some 5, op := Go.Op.assign (Go.Operand.tmp 21), type := 95, pos := "l5_mach.go:131", after := #[{ on := 13, ground := Go.Ground.data }, { on := 9, ground := Go.Ground.chain }, { on := 0, ground := Go.Ground.phase }, { on := 1, ground := Go.Ground.phase }, { on := 2, ground := Go.Ground.phase }, { on := 3, ground := Go.Ground.phase }, { on := 4, ground := Go.Ground.phase }, { on := 5, ground := Go.Ground.phase }, { on := 6, ground := Go.Ground.phase }, { on := 7, ground := Go.Ground.phase }, { on := 8, ground := Go.Ground.phase }, { on := 9, ground := Go.Ground.phase }, { on := 10, ground := Go.Ground.phase }, { on := 11, ground := Go.Ground.phase }, { on := 12, ground := Go.Ground.phase }, { on := 13, ground := Go.Ground.phase }], guard := none }) (v := ?v40_14) rfl (by kernel_rfl) (by kernel_rfl) (by kernel_rfl) (fun _ _ _ h => h) (Or.inl ⟨by rfl, ?y40_14⟩) (by assumption) ?r40_14
  case y40_14 => (intro w hSw; (try dsimp only at hSw); go_simp; try (with_reducible rfl))
  try simp only [Act.put, List.setIfInBounds_toArray, List.set_cons_zero, List.set_cons_succ]
  refine wpAnyH_done (by kernel_rfl) ?_ _
  have hq3 : (w1.alloc (Obj.cells #[.slice a fs.length cap, .map (some (w.heap.size + 1)), .int .i64 m.f, .int .i64 m.p, .int .i64 m.c, .int .i64 0, .int .i64 0, .int .i64 0, .int .i64 0, .int .i64 0, .int .i64 0, .int .i64 0, .int .i64 0, .int .i64 0, .int .i64 0, .int .i64 0, .slice a1 m.os.length c1, .int .i64 m.d] 138)).cell? ⟨w.heap.size, 3, none⟩ = some (.slice sa m.st.length sc) := hHeld.2.2.2.1
  have HI3 : Hid (RunIs w (w1.alloc (Obj.cells #[.slice a fs.length cap, .map (some (w.heap.size + 1)), .int .i64 m.f, .int .i64 m.p, .int .i64 m.c, .int .i64 0, .int .i64 0, .int .i64 0, .int .i64 0, .int .i64 0, .int .i64 0, .int .i64 0, .int .i64 0, .int .i64 0, .int .i64 0, .int .i64 0, .slice a1 m.os.length c1, .int .i64 m.d] 138)) w1.heap.size (w.heap.size + 1) (.slice a fs.length cap) fs { m with st := [] }) := HI2
  clear hHeld HI2
  generalize w1.heap.size = R at *
  generalize w1.alloc (Obj.cells #[.slice a fs.length cap, .map (some (w.heap.size + 1)), .int .i64 m.f, .int .i64 m.p, .int .i64 m.c, .int .i64 0, .int .i64 0, .int .i64 0, .int .i64 0, .int .i64 0, .int .i64 0, .int .i64 0, .int .i64 0, .int .i64 0, .int .i64 0, .int .i64 0, .slice a1 m.os.length c1, .int .i64 m.d] 138) = w2 at *
  go_wp2_with fail
  clear hq3
  have hn5 : (m.st.length : Int) ≤ 5 := by omega
  go_loopw [25] (fun i w' => ∃ k : Nat, k ≤ m.st.length ∧ i = .int .i64 k ∧ Hid (RunIs w w' R (w.heap.size + 1) (.slice a fs.length cap) fs { m with st := m.st.take k })) (fun i _ => m.st.length - (intOf i).toNat)
  case atStart => exact ⟨0, Nat.zero_le _, rfl, unhide HI3⟩
  case round =>
    obtain ⟨k, hk, rfl, HR⟩ := hrel
    clear HI3
    by_cases hkl : k < m.st.length
    · have hB : Below w.heap.size w wr := by obtain ⟨_, _, _, _, _, _, _, _, _, h8⟩ := unhide HR; exact h8
      obtain ⟨b, off, rfl⟩ := (unhide HX).2.1.get (by omega)
      obtain ⟨c0, c1⟩ := ((unhide HX).2.1.below hB).cells hkl
      have hkl' : (k : Int) < (m.st.length : Int) := by omega
      have HK : Hid (m.st.take (k + 1) = m.st.take k ++ [m.st[k]]) := List.take_succ_eq_append_getElem hkl
      have hlk : (m.st.take k).length = k := by rw [List.length_take]; omega
      generalize m.st[k] = y at *
      clear hB
      have HRA := hide (((unhide HR).below (below_alloc1 wr (.cells #[.int .i64 y.f, .int .i64 y.p] 31))).drew)
      obtain ⟨xs, ov, g1, g2, g3, g4, g5, g6, g7, g8⟩ := unhide HRA
      have HB := hide g1
      have HL := hide (And.intro g2 (And.intro g4 (And.intro g5 (And.intro g6 (And.intro g7 g8)))))
      have HLK := hide hlk
      clear g1 g2 g3 g4 g5 g6 g7 g8 hlk
      go_wp2_with fail
      go_region_with (go_at_call 95; refine (push_any R _ _ m.f m.p m.c xs _ ov m.d y _ (by show (m.st.take k).length < 5; rw [unhide HLK]; omega) (unhide HB)).mono ?_; rintro e w3 ⟨rfl, hB3, hbut⟩)
      all_goals
        have HR3 : Hid (RunIs w w3 R (w.heap.size + 1) (.slice a fs.length cap) fs { m with st := m.st.take (k + 1) }) := by
          obtain ⟨g2, g4, g5, g6, g7, g8⟩ := unhide HL
          show RunIs _ _ _ _ _ _ _
          rw [unhide HK]
          have hx := (unhide HB).1
          exact RunIs.turn (m := { m with st := m.st.take k }) (m' := { m with st := m.st.take k ++ [y] }) (xs' := xs.set (m.st.take k).length y) (unhide HB) g4 g5 g6 g7 g8 hbut (by show RunBox _ _ _ _ _ _ _ _ (m.st.take k ++ [y]).length _ _; rw [List.length_append]; exact hB3) (by show (xs.set _ _).take (m.st.take k ++ [y]).length = m.st.take k ++ [y]; rw [List.length_append]; show (xs.set _ _).take ((m.st.take k).length + 1) = _; rw [set_take (by rw [unhide HLK]; omega)]; exact congrArg (· ++ [y]) g2) (by show (m.st.take k ++ [y]).length ≤ 5; rw [List.length_append, unhide HLK]; simp; omega) rfl
        clear hB3 hbut HL HB HRA HR
        go_wp2_with fail
        exact ⟨⟨k + 1, by omega, by go_num, unhide HR3⟩, by simp [intOf]; omega⟩
    · have hke : k = m.st.length := by omega
      have HR4 : Hid (RunIs w wr R (w.heap.size + 1) (.slice a fs.length cap) fs m) := by
        have := unhide HR
        rw [hke, List.take_length] at this
        exact this
      clear HR
      go_wp2_with fail
      go_ret
      exact ⟨R, w.heap.size + 1, rfl, unhide HR4⟩
end Go.Proofs.YtjbhbkkkjdpamaaGreat.MImpl
