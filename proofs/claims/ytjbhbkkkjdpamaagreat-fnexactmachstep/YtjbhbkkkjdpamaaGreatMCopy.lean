/- The contract of the specification's copy of a machine. -/
import Derived.Test.YtjbhbkkkjdpamaaGreatMSpecC
import Derived.Deep.AppendSrc
import Derived.Deep.Upon
namespace Go.Proofs.YtjbhbkkkjdpamaaGreat.MCopy
open Go.ChangeShapes Go.WideShapes Go.ChangeAt Go.RowKit Go.Joins Go.WideMaps Go.Maps Go.Deep
open Go.Proofs.YtjbhbkkkjdpamaaGreat.Base Go.Proofs.YtjbhbkkkjdpamaaGreat.InsA Go.Proofs.YtjbhbkkkjdpamaaGreat.Funs Go.Proofs.YtjbhbkkkjdpamaaGreat.Open Go.Proofs.YtjbhbkkkjdpamaaGreat.Keep Go.Proofs.YtjbhbkkkjdpamaaGreat.UnitS Go.Proofs.YtjbhbkkkjdpamaaGreat.UnitM Go.Proofs.YtjbhbkkkjdpamaaGreat.WantsI Go.Proofs.YtjbhbkkkjdpamaaGreat.Mach Go.Proofs.YtjbhbkkkjdpamaaGreat.Mark Go.Proofs.YtjbhbkkkjdpamaaGreat.Sum Go.Proofs.YtjbhbkkkjdpamaaGreat.KeepD Go.Proofs.YtjbhbkkkjdpamaaGreat.MOk Go.Proofs.YtjbhbkkkjdpamaaGreat.MD Go.Proofs.YtjbhbkkkjdpamaaGreat.MRun Go.Proofs.YtjbhbkkkjdpamaaGreat.MDeed Go.Proofs.YtjbhbkkkjdpamaaGreat.MSay Go.Proofs.YtjbhbkkkjdpamaaGreat.MSpec Go.Proofs.YtjbhbkkkjdpamaaGreat.MSpecB
set_option linter.unusedVariables false
set_option maxRecDepth 100000

theorem flat_cells {w : World} {ad : Addr} {st : List SpotD} (hr : SpotRow w (some ad) st) : ∀ j u, (flatS st)[j]? = some u → w.cell? (ad.add j) = some u := fun j u hj => by
  rcases hr with rfl | ⟨b, off, e, h⟩
  · simp [flatS] at hj
  · obtain rfl : ad = ⟨b, off, none⟩ := Option.some.inj e
    have hl := (List.getElem?_eq_some_iff.1 hj).1
    rw [flat_len] at hl
    obtain ⟨h1, h2⟩ := flat_at st (j / 2) (by omega)
    obtain ⟨g1, g2⟩ := h (j / 2) (by omega)
    rw [add_plain]
    by_cases e2 : j % 2 = 0
    · have ej : j = j / 2 * 2 := by omega
      rw [ej] at hj ⊢
      rw [h1] at hj
      rw [← Option.some.inj hj]; exact g1
    · have ej : j = j / 2 * 2 + 1 := by omega
      rw [ej] at hj ⊢
      rw [h2] at hj
      rw [← Option.some.inj hj, ← Nat.add_assoc]; exact g2
theorem num_cells {w : World} {ad : Addr} {os : List Int} (hr : NumRow w (some ad) os) : ∀ j u, (os.map (Value.int .i64))[j]? = some u → w.cell? (ad.add j) = some u := fun j u hj => by
  rcases hr with rfl | ⟨b, off, e, h⟩
  · simp at hj
  · obtain rfl : ad = ⟨b, off, none⟩ := Option.some.inj e
    have hl := (List.getElem?_eq_some_iff.1 hj).1
    rw [List.length_map] at hl
    have h1 := h j hl
    rw [add_plain]
    rw [List.getElem?_map, List.getElem?_eq_getElem hl] at hj
    rw [← Option.some.inj hj]; exact h1
/-- Places behind nothing. -/
theorem spots_onto {w : World} {B : Nat} {v : Value} (hB : B ≤ w.heap.size) (h : SpotOwn w B v []) {a : Option Addr} {ci : Nat} {st : List SpotD} (hr : SpotRow w a st) (hl : st.length ≤ 1048576) (ty : TypeId) :
    ∃ a' c' w', (Builtin.append_ #[45, 45] ty #[v, .slice a st.length ci]).run Tryz.prog w = .ok (.slice a' st.length c') w' ∧ SpotOwn w' B (.slice a' st.length c') st ∧ w.grownBy w' v.ownBlock := by
  obtain ⟨i, hi, hz0, hz1, hz2⟩ := infoSpotP
  cases a with
  | none =>
    have hnil : st = [] := by
      rcases hr with hr | ⟨b, off, e, _⟩
      · exact hr
      · cases e
    subst hnil
    obtain ⟨va, vc, e, _⟩ := spot_form h
    subst e
    refine ⟨va, vc, w, ?_, h, World.grownBy.refl _ _⟩
    obtain ⟨_, ⟨e, h0⟩ | ⟨g, cap, cur, e, _, _, hn, _⟩⟩ := h
    · simp only [Value.slice.injEq] at e
      obtain ⟨rfl, _, rfl⟩ := e
      exact run_append_nothing w _ _ ty _ i Tryz.underlying45 hi _ _ _ (Nat.le_refl _) _ (Src.ofNil w Tryz.underlying45 ci)
    · simp only [Value.slice.injEq] at e
      obtain ⟨rfl, _, rfl⟩ := e
      exact run_append_nothing w _ _ ty _ i Tryz.underlying45 hi _ _ _ hn _ (Src.ofNil w Tryz.underlying45 ci)
  | some ad =>
    obtain ⟨v', w', hr', ho', hg', _⟩ := run_append_own_at (P := Tryz.prog) w B 45 ty 31 i _ 2 16 Tryz.underlying45 hi hz0 hz1 hz2 rfl (by decide) v 0 [] h ad st.length ci (flatS st) (flat_len st) (flat_cells hr) (flat_one st) (by unfold maxLen; omega) (by omega) hB
    have hO : SpotOwn w' B v' st := by
      show World.ownsRow _ _ _ _ _ _ _
      simpa using ho'
    obtain ⟨a', c', e, _⟩ := spot_form hO
    subst e
    exact ⟨a', c', w', hr', hO, hg'⟩
theorem nums_onto {w : World} {B : Nat} {v : Value} (hB : B ≤ w.heap.size) (h : NumOwn w B v []) {a : Option Addr} {ci : Nat} {os : List Int} (hr : NumRow w a os) (hl : os.length ≤ 1048576) (ty : TypeId) :
    ∃ a' c' w', (Builtin.append_ #[24, 24] ty #[v, .slice a os.length ci]).run Tryz.prog w = .ok (.slice a' os.length c') w' ∧ NumOwn w' B (.slice a' os.length c') os ∧ w.grownBy w' v.ownBlock := by
  obtain ⟨i, hi, hz0, hz1, hz2⟩ := infoIntP
  cases a with
  | none =>
    have hnil : os = [] := by
      rcases hr with hr | ⟨b, off, e, _⟩
      · exact hr
      · cases e
    subst hnil
    obtain ⟨va, vc, e, _⟩ := num_form h
    subst e
    refine ⟨va, vc, w, ?_, h, World.grownBy.refl _ _⟩
    obtain ⟨_, ⟨e, h0⟩ | ⟨g, cap, cur, e, _, _, hn, _⟩⟩ := h
    · simp only [Value.slice.injEq] at e
      obtain ⟨rfl, _, rfl⟩ := e
      exact run_append_nothing w _ _ ty _ i Tryz.underlying24 hi _ _ _ (Nat.le_refl _) _ (Src.ofNil w Tryz.underlying24 ci)
    · simp only [Value.slice.injEq] at e
      obtain ⟨rfl, _, rfl⟩ := e
      exact run_append_nothing w _ _ ty _ i Tryz.underlying24 hi _ _ _ hn _ (Src.ofNil w Tryz.underlying24 ci)
  | some ad =>
    obtain ⟨v', w', hr', ho', hg', _⟩ := run_append_own_at (P := Tryz.prog) w B 24 ty 3 i _ 1 8 Tryz.underlying24 hi hz0 hz1 hz2 rfl (by decide) v 0 [] h ad os.length ci (os.map (Value.int .i64)) (by simp) (num_cells hr) (by simp [Value.oneCell']) (by unfold maxLen; omega) (by omega) hB
    have hO : NumOwn w' B v' os := by
      show World.ownsRow _ _ _ _ _ _ _
      simpa using ho'
    obtain ⟨a', c', e, _⟩ := num_form hO
    subst e
    exact ⟨a', c', w', hr', hO, hg'⟩
theorem spot_made (w : World) {B : Nat} (hB : B ≤ w.heap.size) : SpotOwn (w.alloc (.cells #[] 31)) B (.slice (some ⟨w.heap.size, 0, none⟩) 0 0) [] :=
  ⟨by simp [flatS], .inr ⟨_, _, _, rfl, hB, new_block w _, Nat.le_refl _, Nat.zero_le _, rfl, rfl⟩⟩
theorem num_made (w : World) {B : Nat} (hB : B ≤ w.heap.size) : NumOwn (w.alloc (.cells #[] 3)) B (.slice (some ⟨w.heap.size, 0, none⟩) 0 0) [] :=
  ⟨by simp, .inr ⟨_, _, _, rfl, hB, new_block w _, Nat.le_refl _, Nat.zero_le _, rfl, rfl⟩⟩
/-- A block for a machine's answer. -/
def ResAt (w : World) (N : Nat) : Prop := ∃ v0 v1 v2 v3 v4 v5, w.heap[N]? = some (.cells #[v0, v1, v2, v3, v4, v5] 47)
theorem Stable.res (N : Nat) : Stable (fun w => ResAt w N) := ⟨fun w w' hb ⟨v0, v1, v2, v3, v4, v5, h⟩ => ⟨v0, v1, v2, v3, v4, v5, box_below h hb⟩, fun w h => h⟩
theorem mach_ne {w : World} {row : Option Nat} {N : Nat} {C : Array Value} (hN : w.heap[N]? = some (.cells C 47)) (hv : ∀ g, row = some g → ∃ C, w.heap[g]? = some (Obj.cells C 3) ∨ w.heap[g]? = some (Obj.cells C 31)) : row ≠ some N := fun e => by
  obtain ⟨C', hx | hx⟩ := hv N e <;> (rw [hN] at hx; simp at hx)
theorem copy_grown {w w1 w2 : World} {row : Option Nat} {v0 v1 v2 v3 v4 v5 : Value} {t : TypeId} (h : w1.heap[w.heap.size]? = some (.cells #[v0, v1, v2, v3, v4, v5] 47) ∧ ResAt w1 (w.heap.size + 1) ∧ Below w.heap.size w w1) (hg : w1.grownBy w2 row) (hv : ∀ g, row = some g → ∃ C, w1.heap[g]? = some (Obj.cells C 3) ∨ w1.heap[g]? = some (Obj.cells C 31)) (hrow : ∀ g, row = some g → w.heap.size ≤ g) :
    w2.heap[w.heap.size]? = some (.cells #[v0, v1, v2, v3, v4, v5] 47) ∧ ResAt w2 (w.heap.size + 1) ∧ Below w.heap.size w w2 := by
  obtain ⟨h1, ⟨u0, u1, u2, u3, u4, u5, h2⟩, h3⟩ := h
  exact ⟨grown_box hg h1 (mach_ne h1 hv), ⟨u0, u1, u2, u3, u4, u5, grown_box hg h2 (mach_ne h2 hv)⟩, h3.grown hg h3.size hrow⟩
theorem S_of {w' : World} {N M : Nat} {W : World} {v0 v1 v2 v3 v4 v5 : Value} (h : w'.heap[N]? = some (.cells #[v0, v1, v2, v3, v4, v5] 47) ∧ ResAt w' M ∧ Below W.heap.size W w') : w'.cell? ⟨N, 0, none⟩ = some v0 ∧ w'.cell? ⟨N, 1, none⟩ = some v1 ∧ w'.cell? ⟨N, 2, none⟩ = some v2 ∧ w'.cell? ⟨N, 3, none⟩ = some v3 ∧ w'.cell? ⟨N, 4, none⟩ = some v4 ∧ w'.cell? ⟨N, 5, none⟩ = some v5 ∧ w'.heap[N]? = some (.cells #[v0, v1, v2, v3, v4, v5] 47) ∧ ResAt w' M ∧ Below W.heap.size W w' := by
  have x := (box6 h.1).1
  exact ⟨x.1, x.2.1, x.2.2.1, x.2.2.2.1, x.2.2.2.2.1, x.2.2.2.2.2, h.1, h.2.1, h.2.2⟩
set_option maxHeartbeats 8000000 in
theorem copy_any (m : MD) (sa oa : Option Addr) (sc oc : Nat) (w : World) (hl1 : m.st.length ≤ 1048576) (hl2 : m.os.length ≤ 1048576) (hs : SpotRow w sa m.st) (ho : NumRow w oa m.os) :
    Calls Tryz.prog 44 #[.agg (aggM m (.slice sa m.st.length sc) (.slice oa m.os.length oc))] w fun e w' => ∃ sv ov, e = .returned (.agg (aggM m sv ov)) ∧ OwnM w w' sv ov m := by
  unfold aggM
  have HS := hide hs
  have HN := hide ho
  clear hs ho
  have HSA : Hid (Stable (fun w' => w'.cell? ⟨w.heap.size, 0, none⟩ = some (.int .i64 m.f) ∧ w'.cell? ⟨w.heap.size, 1, none⟩ = some (.int .i64 m.p) ∧ w'.cell? ⟨w.heap.size, 2, none⟩ = some (.int .i64 m.c) ∧ w'.cell? ⟨w.heap.size, 3, none⟩ = some (.slice sa m.st.length sc) ∧ w'.cell? ⟨w.heap.size, 4, none⟩ = some (.slice oa m.os.length oc) ∧ w'.cell? ⟨w.heap.size, 5, none⟩ = some (.int .i64 m.d) ∧ w'.heap[w.heap.size]? = some (.cells #[.int .i64 m.f, .int .i64 m.p, .int .i64 m.c, .slice sa m.st.length sc, .slice oa m.os.length oc, .int .i64 m.d] 47) ∧ ResAt w' (w.heap.size + 1) ∧ Below w.heap.size w w')) := (Stable.cell _ _).and ((Stable.cell _ _).and ((Stable.cell _ _).and ((Stable.cell _ _).and ((Stable.cell _ _).and ((Stable.cell _ _).and ((Stable.box _ _).and ((Stable.res _).and (Stable.below w))))))))
  have HS0 : Hid ((fun w' => w'.cell? ⟨w.heap.size, 0, none⟩ = some (.int .i64 m.f) ∧ w'.cell? ⟨w.heap.size, 1, none⟩ = some (.int .i64 m.p) ∧ w'.cell? ⟨w.heap.size, 2, none⟩ = some (.int .i64 m.c) ∧ w'.cell? ⟨w.heap.size, 3, none⟩ = some (.slice sa m.st.length sc) ∧ w'.cell? ⟨w.heap.size, 4, none⟩ = some (.slice oa m.os.length oc) ∧ w'.cell? ⟨w.heap.size, 5, none⟩ = some (.int .i64 m.d) ∧ w'.heap[w.heap.size]? = some (.cells #[.int .i64 m.f, .int .i64 m.p, .int .i64 m.c, .slice sa m.st.length sc, .slice oa m.os.length oc, .int .i64 m.d] 47) ∧ ResAt w' (w.heap.size + 1) ∧ Below w.heap.size w w') ((w.alloc (.cells #[.int .i64 m.f, .int .i64 m.p, .int .i64 m.c, .slice sa m.st.length sc, .slice oa m.os.length oc, .int .i64 m.d] 47)).alloc (.cells #[.int .i64 0, .int .i64 0, .int .i64 0, .slice none 0 0, .slice none 0 0, .int .i64 0] 47))) := S_of ⟨box_below (new_block w _) (below_alloc1 _ _), ⟨_, _, _, _, _, _, res6 w _ _ _ _ _ _ _ _⟩, below_alloc2 _ _ _⟩
  go_enter Tryz.func44, Tryz.ntmps44
  go_wp2_with fail
  refine wp_region_held_drew (S := (fun w' => w'.cell? ⟨w.heap.size, 0, none⟩ = some (.int .i64 m.f) ∧ w'.cell? ⟨w.heap.size, 1, none⟩ = some (.int .i64 m.p) ∧ w'.cell? ⟨w.heap.size, 2, none⟩ = some (.int .i64 m.c) ∧ w'.cell? ⟨w.heap.size, 3, none⟩ = some (.slice sa m.st.length sc) ∧ w'.cell? ⟨w.heap.size, 4, none⟩ = some (.slice oa m.os.length oc) ∧ w'.cell? ⟨w.heap.size, 5, none⟩ = some (.int .i64 m.d) ∧ w'.heap[w.heap.size]? = some (.cells #[.int .i64 m.f, .int .i64 m.p, .int .i64 m.c, .slice sa m.st.length sc, .slice oa m.os.length oc, .int .i64 m.d] 47) ∧ ResAt w' (w.heap.size + 1) ∧ Below w.heap.size w w')) (by kernel_rfl) ((unhide HSA).2 _ (unhide HS0)) (fun hHeld => ?_)
  refine wpAnyH_take (i := 0) (oi := { dst := some 3, op := Go.Op.fieldAddr 47 (Go.Operand.tmp 1) 0, type := 0, pos := "l5_mach.go:56", after := #[], guard := none }) (v := ?v0_0) rfl (by kernel_rfl) (by kernel_rfl) (by kernel_rfl) (fun _ _ _ h => h) (Or.inl ⟨by rfl, ?y0_0⟩) (by assumption) ?r0_0
  case y0_0 => (intro w hSw; (try dsimp only at hSw); go_simp; try (with_reducible rfl))
  try simp only [Act.put, List.setIfInBounds_toArray, List.set_cons_zero, List.set_cons_succ]
  refine wpAnyH_take (i := 1) (oi := { dst := some 4, op := Go.Op.load 31 (Go.Operand.tmp 3), type := 31, pos := "l5_mach.go:56", after := #[{ on := 0, ground := Go.Ground.data }], guard := none }) (v := ?v3_1) rfl (by kernel_rfl) (by kernel_rfl) (by kernel_rfl) (fun _ _ _ h => h) (Or.inl ⟨by rfl, ?y3_1⟩) (by assumption) ?r3_1
  case y3_1 => (intro w hSw; (try dsimp only at hSw); go_simp; try (with_reducible rfl))
  try simp only [Act.put, List.setIfInBounds_toArray, List.set_cons_zero, List.set_cons_succ]
  refine wpAnyH_take (i := 2) (oi := { dst := some 5, op := Go.Op.fieldAddr 47 (Go.Operand.tmp 1) 1, type := 0, pos := "l5_mach.go:56", after := #[], guard := none }) (v := ?v6_2) rfl (by kernel_rfl) (by kernel_rfl) (by kernel_rfl) (fun _ _ _ h => h) (Or.inl ⟨by rfl, ?y6_2⟩) (by assumption) ?r6_2
  case y6_2 => (intro w hSw; (try dsimp only at hSw); go_simp; try (with_reducible rfl))
  try simp only [Act.put, List.setIfInBounds_toArray, List.set_cons_zero, List.set_cons_succ]
  refine wpAnyH_take (i := 3) (oi := { dst := some 6, op := Go.Op.load 3 (Go.Operand.tmp 5), type := 3, pos := "l5_mach.go:56", after := #[{ on := 2, ground := Go.Ground.data }], guard := none }) (v := ?v9_3) rfl (by kernel_rfl) (by kernel_rfl) (by kernel_rfl) (fun _ _ _ h => h) (Or.inl ⟨by rfl, ?y9_3⟩) (by assumption) ?r9_3
  case y9_3 => (intro w hSw; (try dsimp only at hSw); go_simp; try (with_reducible rfl))
  try simp only [Act.put, List.setIfInBounds_toArray, List.set_cons_zero, List.set_cons_succ]
  refine wpAnyH_take (i := 5) (oi := { dst := some 8, op := Go.Op.fieldAddr 47 (Go.Operand.tmp 1) 2, type := 0, pos := "l5_mach.go:56", after := #[], guard := none }) (v := ?v12_5) rfl (by kernel_rfl) (by kernel_rfl) (by kernel_rfl) (fun _ _ _ h => h) (Or.inl ⟨by rfl, ?y12_5⟩) (by assumption) ?r12_5
  case y12_5 => (intro w hSw; (try dsimp only at hSw); go_simp; try (with_reducible rfl))
  try simp only [Act.put, List.setIfInBounds_toArray, List.set_cons_zero, List.set_cons_succ]
  refine wpAnyH_take (i := 6) (oi := { dst := some 9, op := Go.Op.load 45 (Go.Operand.tmp 8), type := 45, pos := "l5_mach.go:56", after := #[{ on := 5, ground := Go.Ground.data }], guard := none }) (v := ?v15_6) rfl (by kernel_rfl) (by kernel_rfl) (by kernel_rfl) (fun _ _ _ h => h) (Or.inl ⟨by rfl, ?y15_6⟩) (by assumption) ?r15_6
  case y15_6 => (intro w hSw; (try dsimp only at hSw); go_simp; try (with_reducible rfl))
  try simp only [Act.put, List.setIfInBounds_toArray, List.set_cons_zero, List.set_cons_succ]
  refine wpAnyH_take (i := 9) (oi := { dst := some 12, op := Go.Op.fieldAddr 47 (Go.Operand.tmp 1) 3, type := 0, pos := "l5_mach.go:56", after := #[], guard := none }) (v := ?v18_9) rfl (by kernel_rfl) (by kernel_rfl) (by kernel_rfl) (fun _ _ _ h => h) (Or.inl ⟨by rfl, ?y18_9⟩) (by assumption) ?r18_9
  case y18_9 => (intro w hSw; (try dsimp only at hSw); go_simp; try (with_reducible rfl))
  try simp only [Act.put, List.setIfInBounds_toArray, List.set_cons_zero, List.set_cons_succ]
  refine wpAnyH_take (i := 10) (oi := { dst := some 13, op := Go.Op.load 24 (Go.Operand.tmp 12), type := 24, pos := "l5_mach.go:56", after := #[{ on := 9, ground := Go.Ground.data }], guard := none }) (v := ?v21_10) rfl (by kernel_rfl) (by kernel_rfl) (by kernel_rfl) (fun _ _ _ h => h) (Or.inl ⟨by rfl, ?y21_10⟩) (by assumption) ?r21_10
  case y21_10 => (intro w hSw; (try dsimp only at hSw); go_simp; try (with_reducible rfl))
  try simp only [Act.put, List.setIfInBounds_toArray, List.set_cons_zero, List.set_cons_succ]
  refine wpAnyH_take (i := 12) (oi := { dst := some 15, op := Go.Op.fieldAddr 47 (Go.Operand.tmp 1) 4, type := 0, pos := "l5_mach.go:56", after := #[], guard := none }) (v := ?v24_12) rfl (by kernel_rfl) (by kernel_rfl) (by kernel_rfl) (fun _ _ _ h => h) (Or.inl ⟨by rfl, ?y24_12⟩) (by assumption) ?r24_12
  case y24_12 => (intro w hSw; (try dsimp only at hSw); go_simp; try (with_reducible rfl))
  try simp only [Act.put, List.setIfInBounds_toArray, List.set_cons_zero, List.set_cons_succ]
  refine wpAnyH_take (i := 13) (oi := { dst := some 16, op := Go.Op.load 3 (Go.Operand.tmp 15), type := 3, pos := "l5_mach.go:56", after := #[{ on := 12, ground := Go.Ground.data }], guard := none }) (v := ?v27_13) rfl (by kernel_rfl) (by kernel_rfl) (by kernel_rfl) (fun _ _ _ h => h) (Or.inl ⟨by rfl, ?y27_13⟩) (by assumption) ?r27_13
  case y27_13 => (intro w hSw; (try dsimp only at hSw); go_simp; try (with_reducible rfl))
  try simp only [Act.put, List.setIfInBounds_toArray, List.set_cons_zero, List.set_cons_succ]
  refine wpAnyH_ready (rs := [4, 8]) (by kernel_rfl) (by simp) ?_
  refine AllReadyH.cons (o := { dst := some 7, op := Go.Op.buildSlice 45 0 #[], type := 45, pos := "l5_mach.go:56", after := #[], guard := none }) rfl (fun K hK => ?_) ?_
  · skip
    go_simp
    have hsz := hHeld.2.2.2.2.2.2.2.2.size
    have hP := spot_made _ hsz
    replace hHeld := (unhide HSA).alloc hHeld (.cells #[] 31)
    refine hK.out _ _ hHeld (fun _ => ?_)
    clear hK K
    try simp only [Act.put, List.setIfInBounds_toArray, List.set_cons_zero, List.set_cons_succ]
    refine wpAnyH_ready (rs := [7, 8]) (by kernel_rfl) (by simp) ?_
    refine AllReadyH.cons (o := { dst := some 10, op := Go.Op.call { callee := Go.Callee.builtin Go.Builtin.append, args := #[Go.Operand.tmp 7, Go.Operand.tmp 9], argTypes := #[45, 45] }, type := 45, pos := "l5_mach.go:56", after := #[{ on := 4, ground := Go.Ground.data }, { on := 6, ground := Go.Ground.data }], guard := none }) rfl (fun K hK => ?_) ?_
    · skip
      obtain ⟨a1, c1, w1, hrun, hO1, hg1⟩ := spots_onto (ci := sc) hHeld.2.2.2.2.2.2.2.2.size hP ((unhide HS).below hHeld.2.2.2.2.2.2.2.2) hl1 45
      refine step_run rfl (.tmp 7) (.tmp 9) 45 45 rfl _ _ _ (by simp [Act.eval]) (by simp [Act.eval]) hrun ?_
      replace hHeld := S_of (copy_grown (t := 0) hHeld.2.2.2.2.2.2 hg1 (spot_block hP) (fun g hg => (World.ownsRow.lt hP g hg).1))
      clear hrun hg1 hP
      refine hK.out _ _ hHeld (fun _ => ?_)
      clear hK K
      try simp only [Act.put, List.setIfInBounds_toArray, List.set_cons_zero, List.set_cons_succ]
      refine wpAnyH_ready (rs := [8]) (by kernel_rfl) (by simp) ?_
      refine AllReadyH.cons (o := { dst := some 11, op := Go.Op.buildSlice 24 0 #[], type := 24, pos := "l5_mach.go:56", after := #[], guard := none }) rfl (fun K hK => ?_) AllReadyH.nil
      have hP := hO1
      go_simp
      have hsz := hHeld.2.2.2.2.2.2.2.2.size
      have hQ := num_made _ hsz
      have hP := spot_below hP (below_alloc1 _ (.cells #[] 3))
      replace hHeld := (unhide HSA).alloc hHeld (.cells #[] 3)
      refine hK.out _ _ hHeld (fun _ => ?_)
      clear hK K
      try simp only [Act.put, List.setIfInBounds_toArray, List.set_cons_zero, List.set_cons_succ]
      clear hO1
      have hO1 := hP
      refine wpAnyH_ready (rs := [11]) (by kernel_rfl) (by simp) ?_
      refine AllReadyH.cons (o := { dst := some 14, op := Go.Op.call { callee := Go.Callee.builtin Go.Builtin.append, args := #[Go.Operand.tmp 11, Go.Operand.tmp 13], argTypes := #[24, 24] }, type := 24, pos := "l5_mach.go:56", after := #[{ on := 8, ground := Go.Ground.data }, { on := 10, ground := Go.Ground.data }, { on := 7, ground := Go.Ground.chain }], guard := none }) rfl (fun K hK => ?_) AllReadyH.nil
      obtain ⟨a2, c2, w2, hrun, hO2, hg2⟩ := nums_onto (ci := oc) hHeld.2.2.2.2.2.2.2.2.size hQ ((unhide HN).below hHeld.2.2.2.2.2.2.2.2) hl2 24
      refine step_run rfl (.tmp 11) (.tmp 13) 24 24 rfl _ _ _ (by simp [Act.eval]) (by simp [Act.eval]) hrun ?_
      replace hO1 := spot_kept hO1 hg2 (apart hO1 hQ)
      replace hHeld := S_of (copy_grown (t := 0) hHeld.2.2.2.2.2.2 hg2 (num_block hQ) (fun g hg => (World.ownsRow.lt hQ g hg).1))
      clear hrun hg2 hQ
      refine hK.out _ _ hHeld (fun _ => ?_)
      clear hK K
      try simp only [Act.put, List.setIfInBounds_toArray, List.set_cons_zero, List.set_cons_succ]
      refine wpAnyH_take (i := 14) (oi := { dst := some 17, op := Go.Op.build 47 #[(0, Go.Operand.tmp 4), (1, Go.Operand.tmp 6), (2, Go.Operand.tmp 10), (3, Go.Operand.tmp 14), (4, Go.Operand.tmp 16)], type := 47, pos := "l5_mach.go:56", after := #[{ on := 1, ground := Go.Ground.data }, { on := 3, ground := Go.Ground.data }, { on := 7, ground := Go.Ground.data }, { on := 11, ground := Go.Ground.data }, { on := 13, ground := Go.Ground.data }], guard := none }) (v := ?v72_14) rfl (by kernel_rfl) (by kernel_rfl) (by kernel_rfl) (fun _ _ _ h => h) (Or.inl ⟨by rfl, ?y72_14⟩) (by assumption) ?r72_14
      case y72_14 => (intro w hSw; (try dsimp only at hSw); go_simp; try (with_reducible rfl))
      try simp only [Act.put, List.setIfInBounds_toArray, List.set_cons_zero, List.set_cons_succ]
      refine wpAnyH_ready (rs := [15]) (by kernel_rfl) (by simp) ?_
      refine AllReadyH.cons (o := { dst := none, op := Go.Op.store 47 (Go.Operand.tmp 2) (Go.Operand.tmp 17), type := 0, pos := "l5_mach.go:56", after := #[{ on := 14, ground := Go.Ground.data }, { on := 11, ground := Go.Ground.chain }, { on := 0, ground := Go.Ground.phase }, { on := 1, ground := Go.Ground.phase }, { on := 2, ground := Go.Ground.phase }, { on := 3, ground := Go.Ground.phase }, { on := 4, ground := Go.Ground.phase }, { on := 5, ground := Go.Ground.phase }, { on := 6, ground := Go.Ground.phase }, { on := 7, ground := Go.Ground.phase }, { on := 8, ground := Go.Ground.phase }, { on := 9, ground := Go.Ground.phase }, { on := 10, ground := Go.Ground.phase }, { on := 11, ground := Go.Ground.phase }, { on := 12, ground := Go.Ground.phase }, { on := 13, ground := Go.Ground.phase }, { on := 14, ground := Go.Ground.phase }], guard := none }) rfl (fun K hK => ?_) AllReadyH.nil
      obtain ⟨u0, u1, u2, u3, u4, u5, hres⟩ := hHeld.2.2.2.2.2.2.2.1
      have hrN := box6 hres
      have hwM : OwnM w w2 (.slice a1 m.st.length c1) (.slice a2 m.os.length c2) m := ⟨hO1, hO2, hHeld.2.2.2.2.2.2.2.2⟩
      have hBOX := hHeld.2.2.2.2.2.2.1
      clear hO1 hO2
      go_simp
      refine hK.out _ _ (S_of ⟨?_, ⟨.int .i64 m.f, .int .i64 m.p, .int .i64 m.c, .slice a1 m.st.length c1, .slice a2 m.os.length c2, .int .i64 m.d, ?_⟩, ?_⟩) (fun _ => ?_)
      · repeat (with_reducible refine set_other ?_ (by omega))
        exact hBOX
      · exact eq_cells (block_setCell (block_setCell (block_setCell (block_setCell (block_setCell (block_setCell hres _) _) _) _) _) _) (by simp)
      · repeat (with_reducible refine Below.setCell ?_ (by show w.heap.size ≤ w.heap.size + 1; omega) _)
        exact hwM.2.2
      clear hK K hHeld
      try simp only [Act.put, List.setIfInBounds_toArray, List.set_cons_zero, List.set_cons_succ]
      refine wpAnyH_done (by kernel_rfl) ?_ _
      have HM1 : Hid (MachAt w2 (w.heap.size + 1)) := ⟨_, hres⟩
      have HWM := hide hwM
      clear hres hBOX hwM
      go_wp2_with fail
      refine bodyPost_ret (v := .agg (aggM m (.slice a1 m.st.length c1) (.slice a2 m.os.length c2))) (by simp [results, Tryz.results44, go_sem, aggM, hrN]) rfl ⟨_, _, rfl, ?_⟩
      repeat (with_reducible refine OwnM.set ?_ (by (repeat (with_reducible refine MachAt.set ?_)); exact unhide HM1) (by omega))
      exact unhide HWM
    refine AllReadyH.cons (o := { dst := some 11, op := Go.Op.buildSlice 24 0 #[], type := 24, pos := "l5_mach.go:56", after := #[], guard := none }) rfl (fun K hK => ?_) AllReadyH.nil
    go_simp
    have hsz := hHeld.2.2.2.2.2.2.2.2.size
    have hQ := num_made _ hsz
    have hP := spot_below hP (below_alloc1 _ (.cells #[] 3))
    replace hHeld := (unhide HSA).alloc hHeld (.cells #[] 3)
    refine hK.out _ _ hHeld (fun _ => ?_)
    clear hK K
    try simp only [Act.put, List.setIfInBounds_toArray, List.set_cons_zero, List.set_cons_succ]
    refine wpAnyH_ready (rs := [7]) (by kernel_rfl) (by simp) ?_
    refine AllReadyH.cons (o := { dst := some 10, op := Go.Op.call { callee := Go.Callee.builtin Go.Builtin.append, args := #[Go.Operand.tmp 7, Go.Operand.tmp 9], argTypes := #[45, 45] }, type := 45, pos := "l5_mach.go:56", after := #[{ on := 4, ground := Go.Ground.data }, { on := 6, ground := Go.Ground.data }], guard := none }) rfl (fun K hK => ?_) AllReadyH.nil
    obtain ⟨a1, c1, w1, hrun, hO1, hg1⟩ := spots_onto (ci := sc) hHeld.2.2.2.2.2.2.2.2.size hP ((unhide HS).below hHeld.2.2.2.2.2.2.2.2) hl1 45
    refine step_run rfl (.tmp 7) (.tmp 9) 45 45 rfl _ _ _ (by simp [Act.eval]) (by simp [Act.eval]) hrun ?_
    replace hQ := num_kept hQ hg1 (apart' hP hQ)
    replace hHeld := S_of (copy_grown (t := 0) hHeld.2.2.2.2.2.2 hg1 (spot_block hP) (fun g hg => (World.ownsRow.lt hP g hg).1))
    clear hrun hg1 hP
    refine hK.out _ _ hHeld (fun _ => ?_)
    clear hK K
    try simp only [Act.put, List.setIfInBounds_toArray, List.set_cons_zero, List.set_cons_succ]
    refine wpAnyH_ready (rs := [11]) (by kernel_rfl) (by simp) ?_
    refine AllReadyH.cons (o := { dst := some 14, op := Go.Op.call { callee := Go.Callee.builtin Go.Builtin.append, args := #[Go.Operand.tmp 11, Go.Operand.tmp 13], argTypes := #[24, 24] }, type := 24, pos := "l5_mach.go:56", after := #[{ on := 8, ground := Go.Ground.data }, { on := 10, ground := Go.Ground.data }, { on := 7, ground := Go.Ground.chain }], guard := none }) rfl (fun K hK => ?_) AllReadyH.nil
    obtain ⟨a2, c2, w2, hrun, hO2, hg2⟩ := nums_onto (ci := oc) hHeld.2.2.2.2.2.2.2.2.size hQ ((unhide HN).below hHeld.2.2.2.2.2.2.2.2) hl2 24
    refine step_run rfl (.tmp 11) (.tmp 13) 24 24 rfl _ _ _ (by simp [Act.eval]) (by simp [Act.eval]) hrun ?_
    replace hO1 := spot_kept hO1 hg2 (apart hO1 hQ)
    replace hHeld := S_of (copy_grown (t := 0) hHeld.2.2.2.2.2.2 hg2 (num_block hQ) (fun g hg => (World.ownsRow.lt hQ g hg).1))
    clear hrun hg2 hQ
    refine hK.out _ _ hHeld (fun _ => ?_)
    clear hK K
    try simp only [Act.put, List.setIfInBounds_toArray, List.set_cons_zero, List.set_cons_succ]
    refine wpAnyH_take (i := 14) (oi := { dst := some 17, op := Go.Op.build 47 #[(0, Go.Operand.tmp 4), (1, Go.Operand.tmp 6), (2, Go.Operand.tmp 10), (3, Go.Operand.tmp 14), (4, Go.Operand.tmp 16)], type := 47, pos := "l5_mach.go:56", after := #[{ on := 1, ground := Go.Ground.data }, { on := 3, ground := Go.Ground.data }, { on := 7, ground := Go.Ground.data }, { on := 11, ground := Go.Ground.data }, { on := 13, ground := Go.Ground.data }], guard := none }) (v := ?v126_14) rfl (by kernel_rfl) (by kernel_rfl) (by kernel_rfl) (fun _ _ _ h => h) (Or.inl ⟨by rfl, ?y126_14⟩) (by assumption) ?r126_14
    case y126_14 => (intro w hSw; (try dsimp only at hSw); go_simp; try (with_reducible rfl))
    try simp only [Act.put, List.setIfInBounds_toArray, List.set_cons_zero, List.set_cons_succ]
    refine wpAnyH_ready (rs := [15]) (by kernel_rfl) (by simp) ?_
    refine AllReadyH.cons (o := { dst := none, op := Go.Op.store 47 (Go.Operand.tmp 2) (Go.Operand.tmp 17), type := 0, pos := "l5_mach.go:56", after := #[{ on := 14, ground := Go.Ground.data }, { on := 11, ground := Go.Ground.chain }, { on := 0, ground := Go.Ground.phase }, { on := 1, ground := Go.Ground.phase }, { on := 2, ground := Go.Ground.phase }, { on := 3, ground := Go.Ground.phase }, { on := 4, ground := Go.Ground.phase }, { on := 5, ground := Go.Ground.phase }, { on := 6, ground := Go.Ground.phase }, { on := 7, ground := Go.Ground.phase }, { on := 8, ground := Go.Ground.phase }, { on := 9, ground := Go.Ground.phase }, { on := 10, ground := Go.Ground.phase }, { on := 11, ground := Go.Ground.phase }, { on := 12, ground := Go.Ground.phase }, { on := 13, ground := Go.Ground.phase }, { on := 14, ground := Go.Ground.phase }], guard := none }) rfl (fun K hK => ?_) AllReadyH.nil
    obtain ⟨u0, u1, u2, u3, u4, u5, hres⟩ := hHeld.2.2.2.2.2.2.2.1
    have hrN := box6 hres
    have hwM : OwnM w w2 (.slice a1 m.st.length c1) (.slice a2 m.os.length c2) m := ⟨hO1, hO2, hHeld.2.2.2.2.2.2.2.2⟩
    have hBOX := hHeld.2.2.2.2.2.2.1
    clear hO1 hO2
    go_simp
    refine hK.out _ _ (S_of ⟨?_, ⟨.int .i64 m.f, .int .i64 m.p, .int .i64 m.c, .slice a1 m.st.length c1, .slice a2 m.os.length c2, .int .i64 m.d, ?_⟩, ?_⟩) (fun _ => ?_)
    · repeat (with_reducible refine set_other ?_ (by omega))
      exact hBOX
    · exact eq_cells (block_setCell (block_setCell (block_setCell (block_setCell (block_setCell (block_setCell hres _) _) _) _) _) _) (by simp)
    · repeat (with_reducible refine Below.setCell ?_ (by show w.heap.size ≤ w.heap.size + 1; omega) _)
      exact hwM.2.2
    clear hK K hHeld
    try simp only [Act.put, List.setIfInBounds_toArray, List.set_cons_zero, List.set_cons_succ]
    refine wpAnyH_done (by kernel_rfl) ?_ _
    have HM1 : Hid (MachAt w2 (w.heap.size + 1)) := ⟨_, hres⟩
    have HWM := hide hwM
    clear hres hBOX hwM
    go_wp2_with fail
    refine bodyPost_ret (v := .agg (aggM m (.slice a1 m.st.length c1) (.slice a2 m.os.length c2))) (by simp [results, Tryz.results44, go_sem, aggM, hrN]) rfl ⟨_, _, rfl, ?_⟩
    repeat (with_reducible refine OwnM.set ?_ (by (repeat (with_reducible refine MachAt.set ?_)); exact unhide HM1) (by omega))
    exact unhide HWM
  refine AllReadyH.cons (o := { dst := some 11, op := Go.Op.buildSlice 24 0 #[], type := 24, pos := "l5_mach.go:56", after := #[], guard := none }) rfl (fun K hK => ?_) AllReadyH.nil
  go_simp
  have hsz := hHeld.2.2.2.2.2.2.2.2.size
  have hQ := num_made _ hsz
  replace hHeld := (unhide HSA).alloc hHeld (.cells #[] 3)
  refine hK.out _ _ hHeld (fun _ => ?_)
  clear hK K
  try simp only [Act.put, List.setIfInBounds_toArray, List.set_cons_zero, List.set_cons_succ]
  refine wpAnyH_ready (rs := [4]) (by kernel_rfl) (by simp) ?_
  refine AllReadyH.cons (o := { dst := some 7, op := Go.Op.buildSlice 45 0 #[], type := 45, pos := "l5_mach.go:56", after := #[], guard := none }) rfl (fun K hK => ?_) AllReadyH.nil
  go_simp
  have hsz := hHeld.2.2.2.2.2.2.2.2.size
  have hP := spot_made _ hsz
  have hQ := num_below hQ (below_alloc1 _ (.cells #[] 31))
  replace hHeld := (unhide HSA).alloc hHeld (.cells #[] 31)
  refine hK.out _ _ hHeld (fun _ => ?_)
  clear hK K
  try simp only [Act.put, List.setIfInBounds_toArray, List.set_cons_zero, List.set_cons_succ]
  refine wpAnyH_ready (rs := [7]) (by kernel_rfl) (by simp) ?_
  refine AllReadyH.cons (o := { dst := some 10, op := Go.Op.call { callee := Go.Callee.builtin Go.Builtin.append, args := #[Go.Operand.tmp 7, Go.Operand.tmp 9], argTypes := #[45, 45] }, type := 45, pos := "l5_mach.go:56", after := #[{ on := 4, ground := Go.Ground.data }, { on := 6, ground := Go.Ground.data }], guard := none }) rfl (fun K hK => ?_) AllReadyH.nil
  obtain ⟨a1, c1, w1, hrun, hO1, hg1⟩ := spots_onto (ci := sc) hHeld.2.2.2.2.2.2.2.2.size hP ((unhide HS).below hHeld.2.2.2.2.2.2.2.2) hl1 45
  refine step_run rfl (.tmp 7) (.tmp 9) 45 45 rfl _ _ _ (by simp [Act.eval]) (by simp [Act.eval]) hrun ?_
  replace hQ := num_kept hQ hg1 (apart' hP hQ)
  replace hHeld := S_of (copy_grown (t := 0) hHeld.2.2.2.2.2.2 hg1 (spot_block hP) (fun g hg => (World.ownsRow.lt hP g hg).1))
  clear hrun hg1 hP
  refine hK.out _ _ hHeld (fun _ => ?_)
  clear hK K
  try simp only [Act.put, List.setIfInBounds_toArray, List.set_cons_zero, List.set_cons_succ]
  refine wpAnyH_ready (rs := [11]) (by kernel_rfl) (by simp) ?_
  refine AllReadyH.cons (o := { dst := some 14, op := Go.Op.call { callee := Go.Callee.builtin Go.Builtin.append, args := #[Go.Operand.tmp 11, Go.Operand.tmp 13], argTypes := #[24, 24] }, type := 24, pos := "l5_mach.go:56", after := #[{ on := 8, ground := Go.Ground.data }, { on := 10, ground := Go.Ground.data }, { on := 7, ground := Go.Ground.chain }], guard := none }) rfl (fun K hK => ?_) AllReadyH.nil
  obtain ⟨a2, c2, w2, hrun, hO2, hg2⟩ := nums_onto (ci := oc) hHeld.2.2.2.2.2.2.2.2.size hQ ((unhide HN).below hHeld.2.2.2.2.2.2.2.2) hl2 24
  refine step_run rfl (.tmp 11) (.tmp 13) 24 24 rfl _ _ _ (by simp [Act.eval]) (by simp [Act.eval]) hrun ?_
  replace hO1 := spot_kept hO1 hg2 (apart hO1 hQ)
  replace hHeld := S_of (copy_grown (t := 0) hHeld.2.2.2.2.2.2 hg2 (num_block hQ) (fun g hg => (World.ownsRow.lt hQ g hg).1))
  clear hrun hg2 hQ
  refine hK.out _ _ hHeld (fun _ => ?_)
  clear hK K
  try simp only [Act.put, List.setIfInBounds_toArray, List.set_cons_zero, List.set_cons_succ]
  refine wpAnyH_take (i := 14) (oi := { dst := some 17, op := Go.Op.build 47 #[(0, Go.Operand.tmp 4), (1, Go.Operand.tmp 6), (2, Go.Operand.tmp 10), (3, Go.Operand.tmp 14), (4, Go.Operand.tmp 16)], type := 47, pos := "l5_mach.go:56", after := #[{ on := 1, ground := Go.Ground.data }, { on := 3, ground := Go.Ground.data }, { on := 7, ground := Go.Ground.data }, { on := 11, ground := Go.Ground.data }, { on := 13, ground := Go.Ground.data }], guard := none }) (v := ?v189_14) rfl (by kernel_rfl) (by kernel_rfl) (by kernel_rfl) (fun _ _ _ h => h) (Or.inl ⟨by rfl, ?y189_14⟩) (by assumption) ?r189_14
  case y189_14 => (intro w hSw; (try dsimp only at hSw); go_simp; try (with_reducible rfl))
  try simp only [Act.put, List.setIfInBounds_toArray, List.set_cons_zero, List.set_cons_succ]
  refine wpAnyH_ready (rs := [15]) (by kernel_rfl) (by simp) ?_
  refine AllReadyH.cons (o := { dst := none, op := Go.Op.store 47 (Go.Operand.tmp 2) (Go.Operand.tmp 17), type := 0, pos := "l5_mach.go:56", after := #[{ on := 14, ground := Go.Ground.data }, { on := 11, ground := Go.Ground.chain }, { on := 0, ground := Go.Ground.phase }, { on := 1, ground := Go.Ground.phase }, { on := 2, ground := Go.Ground.phase }, { on := 3, ground := Go.Ground.phase }, { on := 4, ground := Go.Ground.phase }, { on := 5, ground := Go.Ground.phase }, { on := 6, ground := Go.Ground.phase }, { on := 7, ground := Go.Ground.phase }, { on := 8, ground := Go.Ground.phase }, { on := 9, ground := Go.Ground.phase }, { on := 10, ground := Go.Ground.phase }, { on := 11, ground := Go.Ground.phase }, { on := 12, ground := Go.Ground.phase }, { on := 13, ground := Go.Ground.phase }, { on := 14, ground := Go.Ground.phase }], guard := none }) rfl (fun K hK => ?_) AllReadyH.nil
  obtain ⟨u0, u1, u2, u3, u4, u5, hres⟩ := hHeld.2.2.2.2.2.2.2.1
  have hrN := box6 hres
  have hwM : OwnM w w2 (.slice a1 m.st.length c1) (.slice a2 m.os.length c2) m := ⟨hO1, hO2, hHeld.2.2.2.2.2.2.2.2⟩
  have hBOX := hHeld.2.2.2.2.2.2.1
  clear hO1 hO2
  go_simp
  refine hK.out _ _ (S_of ⟨?_, ⟨.int .i64 m.f, .int .i64 m.p, .int .i64 m.c, .slice a1 m.st.length c1, .slice a2 m.os.length c2, .int .i64 m.d, ?_⟩, ?_⟩) (fun _ => ?_)
  · repeat (with_reducible refine set_other ?_ (by omega))
    exact hBOX
  · exact eq_cells (block_setCell (block_setCell (block_setCell (block_setCell (block_setCell (block_setCell hres _) _) _) _) _) _) (by simp)
  · repeat (with_reducible refine Below.setCell ?_ (by show w.heap.size ≤ w.heap.size + 1; omega) _)
    exact hwM.2.2
  clear hK K hHeld
  try simp only [Act.put, List.setIfInBounds_toArray, List.set_cons_zero, List.set_cons_succ]
  refine wpAnyH_done (by kernel_rfl) ?_ _
  have HM1 : Hid (MachAt w2 (w.heap.size + 1)) := ⟨_, hres⟩
  have HWM := hide hwM
  clear hres hBOX hwM
  go_wp2_with fail
  refine bodyPost_ret (v := .agg (aggM m (.slice a1 m.st.length c1) (.slice a2 m.os.length c2))) (by simp [results, Tryz.results44, go_sem, aggM, hrN]) rfl ⟨_, _, rfl, ?_⟩
  repeat (with_reducible refine OwnM.set ?_ (by (repeat (with_reducible refine MachAt.set ?_)); exact unhide HM1) (by omega))
  exact unhide HWM
end Go.Proofs.YtjbhbkkkjdpamaaGreat.MCopy
