/- The specification's FoldOne and FoldAll. -/
import Derived.Test.YthbbmookhcalkaaGreatDoorFoldP
import Derived.Test.YthbbmookhcalkaaGreatDoorKeepL
import Derived.Deep.RegionHeld3
namespace Go.Proofs.YthbbmookhcalkaaGreatDoor.FoldS
open Go.ChangeShapes Go.WideShapes Go.ChangeAt Go.RowKit Go.Joins Go.Deep
open Go.Proofs.YthbbmookhcalkaaGreatDoor.Base Go.Proofs.YthbbmookhcalkaaGreatDoor.InsA Go.Proofs.YthbbmookhcalkaaGreatDoor.InsB Go.Proofs.YthbbmookhcalkaaGreatDoor.Funs Go.Proofs.YthbbmookhcalkaaGreatDoor.Open Go.Proofs.YthbbmookhcalkaaGreatDoor.FunS Go.Proofs.YthbbmookhcalkaaGreatDoor.Keep Go.Proofs.YthbbmookhcalkaaGreatDoor.UnitS Go.Proofs.YthbbmookhcalkaaGreatDoor.UU Go.Proofs.YthbbmookhcalkaaGreatDoor.Concat Go.Proofs.YthbbmookhcalkaaGreatDoor.KeepC Go.Proofs.YthbbmookhcalkaaGreatDoor.KeepD Go.Proofs.YthbbmookhcalkaaGreatDoor.KeepA Go.Proofs.YthbbmookhcalkaaGreatDoor.KeepO Go.Proofs.YthbbmookhcalkaaGreatDoor.KeepL Go.Proofs.YthbbmookhcalkaaGreatDoor.FoldR Go.Proofs.YthbbmookhcalkaaGreatDoor.FoldN Go.Proofs.YthbbmookhcalkaaGreatDoor.FoldD Go.Proofs.YthbbmookhcalkaaGreatDoor.FoldC Go.Proofs.YthbbmookhcalkaaGreatDoor.FoldK Go.Proofs.YthbbmookhcalkaaGreatDoor.FoldJ Go.Proofs.YthbbmookhcalkaaGreatDoor.FoldP
open Go.Proofs.YthbbmookhcalkaaGreatDoor.FTwo (twoR twoR_none twoR_some specTwo_any)
set_option linter.unusedVariables false
set_option maxRecDepth 100000

theorem ren_sizes {s t : ByteArray} {xs : List InsD} (hx : ∀ x ∈ xs, x.s.size ≤ maxLen) (ht : t.size ≤ maxLen) : ∀ y ∈ renB s t xs, y.s.size ≤ maxLen := by
  intro y hy
  unfold renB at hy
  obtain ⟨x, hx', rfl⟩ := List.mem_map.1 hy
  exact renI_size (hx x hx') ht
theorem one_at {g : List FunD} {i kk m : Nat} (hm : m < g.length) (hk : kk < g.length) (hi : i < g.length) (hne : m ≠ kk) : oneN g i kk (m + 1) = oneN g i kk m ++ [⟨g[m].nm, g[m].wk, renB g[kk].nm g[i].nm g[m].body⟩] := by
  rw [oneN_more hne]
  unfold nmA bdA
  rw [getD_is hm, getD_is hk, getD_is hi]
/-- The list behind one step. -/
def stepL (g : List FunD) : Option (Nat × Nat) → List FunD
  | none => g
  | some (i, k) => oneL g i k
/-- What l10One leaves: what it was given, or a list without one function, readable. -/
def Stepped (w : World) (g : List FunD) (r : Option (Nat × Nat)) (e : Ending) (w' : World) : Prop :=
  ∃ (a : Option Addr) (cap : Nat) (g' : List FunD), e = .returned (.tuple #[.slice a g'.length cap, .bool r.isSome]) ∧ g'.length ≤ cap ∧ cap ≤ maxLen ∧ FunRow w' a g' ∧ g' = stepL g r ∧ Below w.heap.size w w'
/-- The first step, from a program as it is. -/
theorem one_left_id {fs : List FunD} (hp : Prg fs) {i k : Nat} (hik : i < k) (hk : k < fs.length) (ho : OneB fs i k) : oneL (left fs id) i k = left fs (upd id i k) := by
  have hlen : (left fs id).length = fs.length := by rw [left_id hp]
  unfold oneL oneN left leftN
  have hri : Root fs id := fun i _ => ⟨Nat.le_refl _, rfl⟩
  rw [stays_upd hri hik rfl rfl, stays_id]
  rw [left_id hp] at hlen
  have e : ((List.range fs.length).map (leftF fs id)) = fs := by
    have := left_id hp
    unfold left leftN at this
    rw [stays_id] at this
    exact this
  rw [e]
  refine List.map_congr_left fun x hx => ?_
  unfold leftF
  rw [← ren_upd hp hri hik hk, ren_id hp (List.mem_range.1 (List.mem_filter.1 hx).1)]
set_option maxHeartbeats 8000000 in
theorem specOne_any (a : Option Addr) (cap : Nat) (g : List FunD) (w : World) (hcap : g.length ≤ cap) (hcm : cap ≤ maxLen) (hl : g.length ≤ 1000) (hbd : ∀ f ∈ g, 0 < f.body.length ∧ f.body.length ≤ 1000) (hR : FunRow w a g) (r : Option (Nat × Nat)) (hr : TwoIs g 0 r) :
    Calls Tryz.prog 46 #[.slice a g.length cap] w (Stepped w g r) := by
  have HR := hide hR
  have HBD := hide hbd
  clear hR hbd
  cases r with
  | none =>
    have HE := hide (twoR_none hr)
    go_enter Tryz.func46, Tryz.ntmps46
    go_wp2_with fail
    refine (specTwo_any a cap g _ hcap hcm (unhide HR) 0 0 false (unhide HE)).mono ?_
    rintro e w1 ⟨rfl, hb1⟩
    go_wp2_with fail
    exact bodyPost_ret (by simp [results, Tryz.results46, go_sem]) rfl ⟨a, cap, g, rfl, hcap, hcm, (unhide HR).below hb1, rfl, hb1⟩
  | some ik =>
  obtain ⟨i, kk⟩ := ik
  have hik := hr.2.1
  have hkk := hr.2.2.1
  have hii : i < g.length := by omega
  have HE := hide (twoR_some hr)
  clear hr
  obtain ⟨i1, hi1, hy0, hy1, hy2⟩ := info_fun
  obtain ⟨b, off, rfl⟩ := (unhide HR).get (by omega)
  go_enter Tryz.func46, Tryz.ntmps46
  go_wp2_with fail
  refine (specTwo_any _ cap g _ hcap hcm (unhide HR) (i : Int) (kk : Int) true (unhide HE)).mono ?_
  rintro e w1 ⟨rfl, hb1⟩
  have HR1 := hide ((unhide HR).below hb1)
  have HB1 := hide hb1
  clear HR hb1
  have hkk' : (kk : Int) < (g.length : Int) := by omega
  have hii' : (i : Int) < (g.length : Int) := by omega
  have hkk0 : (0 : Int) ≤ (kk : Int) := by omega
  have hii0 : (0 : Int) ≤ (i : Int) := by omega
  go_wp2_with fail
  go_loopw [7, 8] (fun v x w' => ∃ (k : Nat) (vs : List (FunD × Value)), k ≤ g.length ∧ x = .int .i64 k ∧ vs.length ≤ k ∧ Hid (vs.map Prod.fst = oneN g i kk k) ∧ OwnFs w' w1.heap.size v vs ∧ Below w1.heap.size w1 w') (fun _ x _ => g.length - (intOf x).toNat)
  case atStart => exact ⟨0, [], Nat.zero_le _, rfl, Nat.le_refl _, rfl, OwnFs.made _, below_alloc1 _ _⟩
  case round =>
    obtain ⟨k, vs, hk, rfl, hvk, HV, hO, hB⟩ := hrel
    have HO := hide hO
    have HB := hide hB
    obtain ⟨va, vc, ev⟩ := row_form' hO.1
    subst ev
    clear hO hB
    by_cases hkl : k < g.length
    · have hkl' : (k : Int) < (g.length : Int) := by omega
      have hk0 : (0 : Int) ≤ (k : Int) := by omega
      by_cases hkk2 : k = kk
      · have HSK : Hid (oneN g i kk (k + 1) = oneN g i kk k) := by show _ = _; rw [hkk2]; exact oneN_skip
        have hqq : (((k : Nat) : Int) == ((kk : Nat) : Int)) = true := by rw [beq_iff_eq]; omega
        clear hkk2
        go_wp2_with fail
        exact ⟨⟨k + 1, vs, by omega, by go_num, by omega, by rw [unhide HSK]; exact HV, unhide HO, unhide HB⟩, by simp [intOf]; omega⟩
      have HON := hide (one_at (i := i) hkl hkk hii hkk2)
      have hqq : (((k : Nat) : Int) == ((kk : Nat) : Int)) = false := by rw [beq_eq_false_iff_ne]; omega
      obtain ⟨ai, ci, c0, c1, c2, hn, h4, h5, h6⟩ := (unhide HR1).at hkl
      obtain ⟨_, _, d0, _⟩ := (unhide HR1).at hkk
      obtain ⟨_, _, e0, _⟩ := (unhide HR1).at hii
      obtain ⟨hb0, hb1⟩ := unhide HBD g[k] (List.getElem_mem hkl)
      have HI := hide (h6.below (unhide HB))
      have HZ := (unhide HR1).sizes
      have HRS := hide (ren_sizes (s := g[kk].nm) (HZ g[k] (List.getElem_mem hkl)).2.2 (HZ g[i] (List.getElem_mem hii)).1)
      clear h6 HZ
      generalize g[kk].nm = s at *
      generalize g[i].nm = t at *
      generalize g[k] = f at *
      obtain ⟨nm, wk, xs⟩ := f
      simp only at *
      have HSC : Hid (∀ w2, Below w1.heap.size w1 w2 → (fun w' => w'.cell? ⟨b, off + k * 3, none⟩ = some (.string nm) ∧ w'.cell? ⟨b, off + k * 3 + 1, none⟩ = some (.bool wk) ∧ w'.cell? ⟨b, off + k * 3 + 2, none⟩ = some (.slice ai xs.length ci) ∧ w'.cell? ⟨b, off + kk * 3, none⟩ = some (.string s) ∧ w'.cell? ⟨b, off + i * 3, none⟩ = some (.string t)) w2) := fun w2 hb => ⟨(hb.cell (World.block_lt_of_cell? w1 _ c0)).trans c0, (hb.cell (World.block_lt_of_cell? w1 _ c1)).trans c1, (hb.cell (World.block_lt_of_cell? w1 _ c2)).trans c2, (hb.cell (World.block_lt_of_cell? w1 _ d0)).trans d0, (hb.cell (World.block_lt_of_cell? w1 _ e0)).trans e0⟩
      have HST : Hid (Stable (fun w' => w'.cell? ⟨b, off + k * 3, none⟩ = some (.string nm) ∧ w'.cell? ⟨b, off + k * 3 + 1, none⟩ = some (.bool wk) ∧ w'.cell? ⟨b, off + k * 3 + 2, none⟩ = some (.slice ai xs.length ci) ∧ w'.cell? ⟨b, off + kk * 3, none⟩ = some (.string s) ∧ w'.cell? ⟨b, off + i * 3, none⟩ = some (.string t))) := ((Stable.cell _ _).and ((Stable.cell _ _).and ((Stable.cell _ _).and ((Stable.cell _ _).and (Stable.cell _ _)))))
      have HS := hide (unhide HSC _ (unhide HB))
      clear c0 c1 c2 d0 e0
      go_upto_region 9 with fail
      have hI : InsRow wr.drew ai xs := unhide HI
      have hO : OwnFs wr.drew w1.heap.size (.slice va vs.length vc) vs := unhide HO
      have hB : Below w1.heap.size w1 wr.drew := (unhide HB).drew
      clear HI HO HB
      refine wp_region_held_drew (S := (fun w' => w'.cell? ⟨b, off + k * 3, none⟩ = some (.string nm) ∧ w'.cell? ⟨b, off + k * 3 + 1, none⟩ = some (.bool wk) ∧ w'.cell? ⟨b, off + k * 3 + 2, none⟩ = some (.slice ai xs.length ci) ∧ w'.cell? ⟨b, off + kk * 3, none⟩ = some (.string s) ∧ w'.cell? ⟨b, off + i * 3, none⟩ = some (.string t))) (by kernel_rfl) ((unhide HST).2 _ (unhide HS)) (fun hHeld => ?_)
      generalize wr.drew = wa at *
      refine wpAnyH_take (i := 0) (oi := { dst := some 28, op := Go.Op.move (Go.Operand.tmp 7), type := 23, pos := "l10_fold.go:55", after := #[], guard := none }) (v := ?v1_0) rfl (by kernel_rfl) (by kernel_rfl) (by kernel_rfl) (fun _ _ _ h => h) (Or.inl ⟨by rfl, ?y1_0⟩) (by assumption) ?r1_0
      case y1_0 => (intro w hSw; (try dsimp only at hSw); go_simp; try (with_reducible rfl))
      try simp only [Act.put, List.setIfInBounds_toArray, List.set_cons_zero, List.set_cons_succ]
      refine wpAnyH_take (i := 1) (oi := { dst := some 29, op := Go.Op.move (Go.Operand.tmp 0), type := 23, pos := "l10_fold.go:55", after := #[], guard := none }) (v := ?v2_1) rfl (by kernel_rfl) (by kernel_rfl) (by kernel_rfl) (fun _ _ _ h => h) (Or.inl ⟨by rfl, ?y2_1⟩) (by assumption) ?r2_1
      case y2_1 => (intro w hSw; (try dsimp only at hSw); go_simp; try (with_reducible rfl))
      try simp only [Act.put, List.setIfInBounds_toArray, List.set_cons_zero, List.set_cons_succ]
      refine wpAnyH_take (i := 2) (oi := { dst := some 30, op := Go.Op.move (Go.Operand.tmp 8), type := 3, pos := "l10_fold.go:55", after := #[], guard := none }) (v := ?v3_2) rfl (by kernel_rfl) (by kernel_rfl) (by kernel_rfl) (fun _ _ _ h => h) (Or.inl ⟨by rfl, ?y3_2⟩) (by assumption) ?r3_2
      case y3_2 => (intro w hSw; (try dsimp only at hSw); go_simp; try (with_reducible rfl))
      try simp only [Act.put, List.setIfInBounds_toArray, List.set_cons_zero, List.set_cons_succ]
      refine wpAnyH_take (i := 3) (oi := { dst := some 31, op := Go.Op.indexAddr 23 (Go.Operand.tmp 29) (Go.Operand.tmp 30), type := 0, pos := "l10_fold.go:55", after := #[{ on := 1, ground := Go.Ground.data }, { on := 2, ground := Go.Ground.data }], guard := none }) (v := ?v4_3) rfl (by kernel_rfl) (by kernel_rfl) (by kernel_rfl) (fun _ _ _ h => h) (Or.inl ⟨by rfl, ?y4_3⟩) (by assumption) ?r4_3
      case y4_3 => (intro w hSw; (try dsimp only at hSw); go_simp; try (with_reducible rfl))
      try simp only [Act.put, List.setIfInBounds_toArray, List.set_cons_zero, List.set_cons_succ]
      refine wpAnyH_take (i := 4) (oi := { dst := some 32, op := Go.Op.load 28 (Go.Operand.tmp 31), type := 28, pos := "l10_fold.go:55", after := #[{ on := 3, ground := Go.Ground.data }], guard := none }) (v := ?v5_4) rfl (by kernel_rfl) (by kernel_rfl) (by kernel_rfl) (fun _ _ _ h => h) (Or.inl ⟨by rfl, ?y5_4⟩) (by assumption) ?r5_4
      case y5_4 => (intro w hSw; (try dsimp only at hSw); go_simp; try (with_reducible rfl))
      try simp only [Act.put, List.setIfInBounds_toArray, List.set_cons_zero, List.set_cons_succ]
      refine wpAnyH_take (i := 5) (oi := { dst := some 33, op := Go.Op.move (Go.Operand.tmp 0), type := 23, pos := "l10_fold.go:55", after := #[], guard := none }) (v := ?v6_5) rfl (by kernel_rfl) (by kernel_rfl) (by kernel_rfl) (fun _ _ _ h => h) (Or.inl ⟨by rfl, ?y6_5⟩) (by assumption) ?r6_5
      case y6_5 => (intro w hSw; (try dsimp only at hSw); go_simp; try (with_reducible rfl))
      try simp only [Act.put, List.setIfInBounds_toArray, List.set_cons_zero, List.set_cons_succ]
      refine wpAnyH_take (i := 6) (oi := { dst := some 34, op := Go.Op.move (Go.Operand.tmp 5), type := 3, pos := "l10_fold.go:55", after := #[], guard := none }) (v := ?v7_6) rfl (by kernel_rfl) (by kernel_rfl) (by kernel_rfl) (fun _ _ _ h => h) (Or.inl ⟨by rfl, ?y7_6⟩) (by assumption) ?r7_6
      case y7_6 => (intro w hSw; (try dsimp only at hSw); go_simp; try (with_reducible rfl))
      try simp only [Act.put, List.setIfInBounds_toArray, List.set_cons_zero, List.set_cons_succ]
      refine wpAnyH_take (i := 7) (oi := { dst := some 35, op := Go.Op.indexAddr 23 (Go.Operand.tmp 33) (Go.Operand.tmp 34), type := 0, pos := "l10_fold.go:55", after := #[{ on := 5, ground := Go.Ground.data }, { on := 6, ground := Go.Ground.data }], guard := none }) (v := ?v8_7) rfl (by kernel_rfl) (by kernel_rfl) (by kernel_rfl) (fun _ _ _ h => h) (Or.inl ⟨by rfl, ?y8_7⟩) (by assumption) ?r8_7
      case y8_7 => (intro w hSw; (try dsimp only at hSw); go_simp; try (with_reducible rfl))
      try simp only [Act.put, List.setIfInBounds_toArray, List.set_cons_zero, List.set_cons_succ]
      refine wpAnyH_take (i := 8) (oi := { dst := some 36, op := Go.Op.fieldAddr 28 (Go.Operand.tmp 35) 0, type := 0, pos := "l10_fold.go:55", after := #[{ on := 7, ground := Go.Ground.data }], guard := none }) (v := ?v9_8) rfl (by kernel_rfl) (by kernel_rfl) (by kernel_rfl) (fun _ _ _ h => h) (Or.inl ⟨by rfl, ?y9_8⟩) (by assumption) ?r9_8
      case y9_8 => (intro w hSw; (try dsimp only at hSw); go_simp; try (with_reducible rfl))
      try simp only [Act.put, List.setIfInBounds_toArray, List.set_cons_zero, List.set_cons_succ]
      refine wpAnyH_take (i := 9) (oi := { dst := some 37, op := Go.Op.load 9 (Go.Operand.tmp 36), type := 9, pos := "l10_fold.go:55", after := #[{ on := 8, ground := Go.Ground.data }], guard := none }) (v := ?v10_9) rfl (by kernel_rfl) (by kernel_rfl) (by kernel_rfl) (fun _ _ _ h => h) (Or.inl ⟨by rfl, ?y10_9⟩) (by assumption) ?r10_9
      case y10_9 => (intro w hSw; (try dsimp only at hSw); go_simp; try (with_reducible rfl))
      try simp only [Act.put, List.setIfInBounds_toArray, List.set_cons_zero, List.set_cons_succ]
      refine wpAnyH_take (i := 10) (oi := { dst := some 38, op := Go.Op.move (Go.Operand.tmp 0), type := 23, pos := "l10_fold.go:55", after := #[], guard := none }) (v := ?v11_10) rfl (by kernel_rfl) (by kernel_rfl) (by kernel_rfl) (fun _ _ _ h => h) (Or.inl ⟨by rfl, ?y11_10⟩) (by assumption) ?r11_10
      case y11_10 => (intro w hSw; (try dsimp only at hSw); go_simp; try (with_reducible rfl))
      try simp only [Act.put, List.setIfInBounds_toArray, List.set_cons_zero, List.set_cons_succ]
      refine wpAnyH_take (i := 11) (oi := { dst := some 39, op := Go.Op.move (Go.Operand.tmp 4), type := 3, pos := "l10_fold.go:55", after := #[], guard := none }) (v := ?v12_11) rfl (by kernel_rfl) (by kernel_rfl) (by kernel_rfl) (fun _ _ _ h => h) (Or.inl ⟨by rfl, ?y12_11⟩) (by assumption) ?r12_11
      case y12_11 => (intro w hSw; (try dsimp only at hSw); go_simp; try (with_reducible rfl))
      try simp only [Act.put, List.setIfInBounds_toArray, List.set_cons_zero, List.set_cons_succ]
      refine wpAnyH_take (i := 12) (oi := { dst := some 40, op := Go.Op.indexAddr 23 (Go.Operand.tmp 38) (Go.Operand.tmp 39), type := 0, pos := "l10_fold.go:55", after := #[{ on := 10, ground := Go.Ground.data }, { on := 11, ground := Go.Ground.data }], guard := none }) (v := ?v13_12) rfl (by kernel_rfl) (by kernel_rfl) (by kernel_rfl) (fun _ _ _ h => h) (Or.inl ⟨by rfl, ?y13_12⟩) (by assumption) ?r13_12
      case y13_12 => (intro w hSw; (try dsimp only at hSw); go_simp; try (with_reducible rfl))
      try simp only [Act.put, List.setIfInBounds_toArray, List.set_cons_zero, List.set_cons_succ]
      refine wpAnyH_take (i := 13) (oi := { dst := some 41, op := Go.Op.fieldAddr 28 (Go.Operand.tmp 40) 0, type := 0, pos := "l10_fold.go:55", after := #[{ on := 12, ground := Go.Ground.data }], guard := none }) (v := ?v14_13) rfl (by kernel_rfl) (by kernel_rfl) (by kernel_rfl) (fun _ _ _ h => h) (Or.inl ⟨by rfl, ?y14_13⟩) (by assumption) ?r14_13
      case y14_13 => (intro w hSw; (try dsimp only at hSw); go_simp; try (with_reducible rfl))
      try simp only [Act.put, List.setIfInBounds_toArray, List.set_cons_zero, List.set_cons_succ]
      refine wpAnyH_take (i := 14) (oi := { dst := some 42, op := Go.Op.load 9 (Go.Operand.tmp 41), type := 9, pos := "l10_fold.go:55", after := #[{ on := 13, ground := Go.Ground.data }], guard := none }) (v := ?v15_14) rfl (by kernel_rfl) (by kernel_rfl) (by kernel_rfl) (fun _ _ _ h => h) (Or.inl ⟨by rfl, ?y15_14⟩) (by assumption) ?r15_14
      case y15_14 => (intro w hSw; (try dsimp only at hSw); go_simp; try (with_reducible rfl))
      try simp only [Act.put, List.setIfInBounds_toArray, List.set_cons_zero, List.set_cons_succ]
      refine wpAnyH_ready (rs := [15]) (by kernel_rfl) (by simp) ?_
      refine AllReadyH.cons (o := { dst := some 43, op := Go.Op.call { callee := Go.Callee.value (Go.Operand.func 85), args := #[Go.Operand.tmp 32, Go.Operand.tmp 37, Go.Operand.tmp 42], argTypes := #[28, 9, 9] }, type := 28, pos := "l10_fold.go:55", after := #[{ on := 4, ground := Go.Ground.data }, { on := 9, ground := Go.Ground.data }, { on := 14, ground := Go.Ground.data }], guard := none }) rfl (fun K hK => ?_) AllReadyH.nil
      go_simp
      go_at_call 85
      refine (specName1_any nm wk ai ci xs s t _ h4 h5 hb1 hI).mono ?_
      rintro e wc ⟨v5, rfl, hO5, hbk⟩
      dsimp only at hO5 ⊢
      obtain ⟨gg, gc, rfl⟩ := insO_addr hO5 (by rw [renB_len]; exact hb0)
      have hBO : BodyO wc wa.heap.size (⟨nm, wk, renB s t xs⟩, .slice (some ⟨gg, 0, none⟩) (renB s t xs).length gc) := ⟨hO5, hn, unhide HRS, by simp [Value.ownBlock]⟩
      replace hHeld := (unhide HST).1 _ _ hbk hHeld
      generalize renB s t xs = ys at *
      clear hO5
      go_wp2_with fail
      refine hK.out _ _ hHeld (fun _ => ?_)
      clear hK K
      try simp only [Act.put, List.setIfInBounds_toArray, List.set_cons_zero, List.set_cons_succ]
      refine wpAnyH_ready (rs := [16]) (by kernel_rfl) (by simp) ?_
      refine AllReadyH.cons (o := { dst := some 44, op := Go.Op.buildSlice 23 1 #[(0, Go.Operand.tmp 43)], type := 23, pos := "l10_fold.go:55", after := #[{ on := 15, ground := Go.Ground.data }], guard := none }) rfl (fun K hK => ?_) AllReadyH.nil
      go_simp
      replace hHeld := (unhide HST).1 _ _ (below_alloc1 wc (.cells #[.string nm, .bool wk, .slice (some ⟨gg, 0, none⟩) ys.length gc] 28)) hHeld
      refine hK.out _ _ hHeld (fun _ => ?_)
      clear hK K
      try simp only [Act.put, List.setIfInBounds_toArray, List.set_cons_zero, List.set_cons_succ]
      refine wpAnyH_ready (rs := [17]) (by kernel_rfl) (by simp) ?_
      refine AllReadyH.cons (o := { dst := some 45, op := Go.Op.call { callee := Go.Callee.builtin Go.Builtin.append, args := #[Go.Operand.tmp 28, Go.Operand.tmp 44], argTypes := #[23, 23] }, type := 23, pos := "l10_fold.go:55", after := #[{ on := 0, ground := Go.Ground.data }, { on := 16, ground := Go.Ground.data }, { on := 15, ground := Go.Ground.chain }], guard := none }) rfl (fun K hK => ?_) AllReadyH.nil
      have hb3 := bl_alloc hbk (.cells #[.string nm, .bool wk, .slice (some ⟨gg, 0, none⟩) ys.length gc] 28)
      obtain ⟨v3, w3, hrun3, hown3, hgrow3, _, _⟩ := run_append_own_at (P := Tryz.prog) (wc.alloc (.cells #[.string nm, .bool wk, .slice (some ⟨gg, 0, none⟩) ys.length gc] 28)) w1.heap.size 23 23 28 i1 _ 3 48 Tryz.underlying23 hi1 hy0 hy1 hy2 rfl (by decide) (.slice va vs.length vc) vs.length (vs.flatMap encV) (row_below hO.1 hb3) ⟨wc.heap.size, 0, none⟩ 1 1 (encV (⟨nm, wk, ys⟩, .slice (some ⟨gg, 0, none⟩) ys.length gc)) rfl (funV_new wc (⟨nm, wk, ys⟩, .slice (some ⟨gg, 0, none⟩) ys.length gc)) (by simp [encV, Value.oneCell']) (by unfold maxLen; omega) (by omega) (Nat.le_trans hB.size hb3.size)
      obtain ⟨a3, c3, e3⟩ := row_form' hown3
      subst e3
      have hB3 : Below w1.heap.size w1 w3 := (bl_trans hB hb3).grown hgrow3 (bl_trans hB hb3).size (fun j hj => (World.ownsRow.lt hO.1 j hj).1)
      have HO3 := hide (OwnFs.snoc hO hb3 (BodyO.below hBO (below_alloc1 _ _)) hB.size hown3 hgrow3)
      replace hHeld := unhide HSC _ hB3
      have HB3 := hide hB3
      refine step_run rfl (.tmp 28) (.tmp 44) 23 23 rfl _ _ _ (by simp [Act.eval]) (by simp [Act.eval]) hrun3 ?_
      clear hown3 hgrow3 hB3 hrun3 hb3 hbk hBO hB hO hI
      refine hK.out _ _ hHeld (fun _ => ?_)
      clear hK K
      try simp only [Act.put, List.setIfInBounds_toArray, List.set_cons_zero, List.set_cons_succ]
      refine wpAnyH_take (i := 18) (oi := { dst := some 7, op := Go.Op.assign (Go.Operand.tmp 45), type := 23, pos := "l10_fold.go:55", after := #[{ on := 17, ground := Go.Ground.data }, { on := 17, ground := Go.Ground.chain }, { on := 0, ground := Go.Ground.phase }, { on := 1, ground := Go.Ground.phase }, { on := 2, ground := Go.Ground.phase }, { on := 3, ground := Go.Ground.phase }, { on := 4, ground := Go.Ground.phase }, { on := 5, ground := Go.Ground.phase }, { on := 6, ground := Go.Ground.phase }, { on := 7, ground := Go.Ground.phase }, { on := 8, ground := Go.Ground.phase }, { on := 9, ground := Go.Ground.phase }, { on := 10, ground := Go.Ground.phase }, { on := 11, ground := Go.Ground.phase }, { on := 12, ground := Go.Ground.phase }, { on := 13, ground := Go.Ground.phase }, { on := 14, ground := Go.Ground.phase }, { on := 15, ground := Go.Ground.phase }, { on := 16, ground := Go.Ground.phase }, { on := 17, ground := Go.Ground.phase }], guard := none }) (v := ?v16_18) rfl (by kernel_rfl) (by kernel_rfl) (by kernel_rfl) (fun _ _ _ h => h) (Or.inl ⟨by rfl, ?y16_18⟩) (by assumption) ?r16_18
      case y16_18 => (intro w hSw; (try dsimp only at hSw); go_simp; try (with_reducible rfl))
      try simp only [Act.put, List.setIfInBounds_toArray, List.set_cons_zero, List.set_cons_succ]
      refine wpAnyH_done (by kernel_rfl) ?_ _
      go_wp2_with fail
      exact ⟨⟨k + 1, vs ++ [((⟨nm, wk, ys⟩ : FunD), Value.slice (some ⟨gg, 0, none⟩) ys.length gc)], by omega, by go_num, by simp; omega, by rw [List.map_append, unhide HV, unhide HON]; rfl, unhide HO3, unhide HB3⟩, by simp [intOf]; omega⟩
    · have hke : k = g.length := by omega
      subst hke
      go_wp2_with fail
      obtain ⟨a9, c9, e9, k1, k2, k3⟩ := (unhide HO).row
      rw [unhide HV] at e9 k1 k3
      rw [e9]
      exact bodyPost_ret (by simp [results, Tryz.results46, go_sem]) rfl ⟨a9, c9, oneN g i kk g.length, rfl, k1, k2, k3, rfl, bl_trans (unhide HB1) (unhide HB)⟩
set_option maxHeartbeats 4000000 in
theorem specFoldOne_any (a : Option Addr) (cap : Nat) (fs : List FunD) (w : World) (hcap : fs.length ≤ cap) (hcm : cap ≤ maxLen) (hR : FunRow w a fs) :
    Calls Tryz.prog 14 #[.slice a fs.length cap] w (Copied w (foldOneL fs)) := by
  have HR := hide hR
  clear hR
  cases hok : keepOkB fs
  · go_enter Tryz.func14, Tryz.ntmps14
    go_wp2_with fail
    refine (specKeepOk_any a cap fs _ hcap hcm (unhide HR)).mono ?_
    rintro e w1 ⟨rfl, hb1⟩
    rw [hok]
    go_wp2_with fail
    go_ret
    exact ⟨_, [], rfl, (one_no hok).symm, (OwnFs.made w1).base hb1.size, bl_alloc hb1 _⟩
  have HS := hide (small_of hok)
  have HP := hide (prg_of hok)
  have HBD := hide (bodies_of hok)
  have h0 := (unhide HS).pos
  have hl := (unhide HS).few
  obtain ⟨r, hr⟩ := two_ex fs
  have HTW := hide hr
  clear hr
  have HG : Hid (∀ g', g' = stepL fs r → g' = foldOneL fs ∧ g'.length ≤ 40 ∧ ∀ f ∈ g', 0 < f.body.length ∧ f.body.length ≤ 1000) := by
    intro g' hg
    have hgl : g' = foldOneL fs ∧ ∃ q, St fs q ∧ g' = left fs q := by
      cases r with
      | none =>
        have e := one_none hok (unhide HTW)
        have e2 := (left_id (unhide HP)).symm.trans (left_congr (unhide HP) (fun i _ => (rt_range fs.length i).symm))
        exact ⟨hg.trans (e2.trans e.symm), id, id_st, hg.trans (left_id (unhide HP)).symm⟩
      | some ik =>
        obtain ⟨i, k⟩ := ik
        have ho := (unhide HTW).2.2.2.1
        have hik := (unhide HTW).2.1
        have hkl := (unhide HTW).2.2.1
        have e := one_some hok (unhide HTW)
        have e2 : oneL fs i k = foldOneL fs := by
          unfold foldOneL
          rw [if_pos hok, FoldD.twoN_of (unhide HTW)]
          show oneL fs i k = left fs (upd id i k)
          have h1 : oneL fs i k = oneL (left fs id) i k := by rw [left_id (unhide HP)]
          rw [h1]
          exact one_left_id (unhide HP) hik hkl ho
        obtain ⟨q, hq, hq2, _⟩ := one_left (r := id) (unhide HP) id_st hik (by rw [left_id (unhide HP)]; exact hkl) (by rw [left_id (unhide HP)]; exact ho)
        rw [left_id (unhide HP)] at hq2
        exact ⟨hg.trans e2, q, hq, hg.trans hq2⟩
    obtain ⟨h1, q, hq, hq2⟩ := hgl
    have h3 := (unhide HS).left (st_lt hq.root)
    rw [← hq2] at h3
    exact ⟨h1, h3.1, fun f hf => by have := h3.2 f hf; omega⟩
  go_enter Tryz.func14, Tryz.ntmps14
  go_wp2_with fail
  refine (specKeepOk_any a cap fs _ hcap hcm (unhide HR)).mono ?_
  rw [hok]
  rintro e w1 ⟨rfl, hb1⟩
  have HB1 := hide hb1
  have HR1 := hide ((unhide HR).below hb1)
  clear hb1
  go_wp2_with fail
  refine (specOne_any a cap fs _ hcap hcm (by omega) (unhide HBD) (unhide HR1) r (unhide HTW)).mono ?_
  rintro e w2 ⟨a2, c2, g', rfl, k1, k2, k3, hg, hb2⟩
  obtain ⟨hge, hg40, hgb⟩ := unhide HG g' hg
  have HGE := hide hge
  have HGB := hide hgb
  have HB2 := hide (bl_trans (unhide HB1) hb2)
  have HR2 := hide k3
  clear hg hge hgb k3 hb2 HG
  go_wp2_with fail
  refine (specCopy_any a2 c2 g' _ k1 k2 (by omega) (unhide HGB) (unhide HR2)).mono ?_
  rintro e w4 ⟨v4, vs4, rfl, hv4, hO4, hb4⟩
  have HV4 := hide hv4
  have HO4 := hide hO4
  clear hv4 hO4
  go_wp2_with fail
  go_ret
  exact ⟨v4, vs4, rfl, (unhide HV4).trans (unhide HGE), (unhide HO4).base (unhide HB2).size, bl_trans (unhide HB2) hb4⟩
theorem left_pos {fs : List FunD} {r : Nat → Nat} (h0 : 0 < fs.length) (h : Root fs r) : 0 < (left fs r).length := by
  rw [left_len]
  exact List.length_pos_of_mem (stays_mem.2 ⟨h0, by have := (h 0 h0).1; omega⟩)
/-- While FoldAll goes on: what is left, and whether there may be two. -/
def Going (fs g : List FunD) (b : Bool) (m : Nat) : Prop := ∃ r, St fs r ∧ g = left fs r ∧ (b = true → m = g.length) ∧ (b = false → Clo fs r)
theorem going_start {fs : List FunD} (hp : Prg fs) : Going fs fs true fs.length := ⟨id, id_st, (left_id hp).symm, fun _ => rfl, fun e => by cases e⟩
theorem going_small {fs g : List FunD} {b : Bool} {m : Nat} (hs : Small fs) (h : Going fs g b m) : 0 < g.length ∧ g.length ≤ 40 ∧ ∀ f ∈ g, 0 < f.body.length ∧ f.body.length ≤ 1000 := by
  obtain ⟨r, h1, rfl, _⟩ := h
  have h3 := hs.left (st_lt h1.root)
  exact ⟨left_pos hs.pos h1.root, h3.1, fun f hf => by have := h3.2 f hf; omega⟩
theorem going_step {fs g : List FunD} {m : Nat} (hp : Prg fs) (h : Going fs g true m) {q : Option (Nat × Nat)} (hq : TwoIs g 0 q) : Going fs (stepL g q) q.isSome (m - 1) := by
  obtain ⟨r, h1, rfl, h2, _⟩ := h
  have h2 := h2 rfl
  match q, hq with
  | none, hq => exact ⟨r, h1, rfl, (fun e => by cases e), fun _ => none_left h1 hq⟩
  | some (i, k), hq =>
    obtain ⟨s, k1, k2, k3⟩ := one_left hp h1 hq.2.1 hq.2.2.1 hq.2.2.2.1
    refine ⟨s, k1, k2, fun _ => ?_, fun e => by cases e⟩
    show m - 1 = (oneL (left fs r) i k).length
    rw [k2]
    omega
theorem going_end {fs g : List FunD} {m : Nat} (hk : keepOkB fs = true) (h : Going fs g false m) : g = foldAllL fs := by
  obtain ⟨r, h1, h2, _, h4⟩ := h
  rw [h2, all_of hk (h4 rfl) h1.fine]
set_option maxHeartbeats 4000000 in
theorem specFoldAll_any (a : Option Addr) (cap : Nat) (fs : List FunD) (w : World) (hcap : fs.length ≤ cap) (hcm : cap ≤ maxLen) (hR : FunRow w a fs) :
    Calls Tryz.prog 20 #[.slice a fs.length cap] w (Copied w (foldAllL fs)) := by
  have HR := hide hR
  clear hR
  cases hok : keepOkB fs
  · go_enter Tryz.func20, Tryz.ntmps20
    go_wp2_with fail
    refine (specKeepOk_any a cap fs _ hcap hcm (unhide HR)).mono ?_
    rintro e w1 ⟨rfl, hb1⟩
    rw [hok]
    go_wp2_with fail
    go_ret
    exact ⟨_, [], rfl, (all_no hok).symm, (OwnFs.made w1).base hb1.size, bl_alloc hb1 _⟩
  have HS := hide (small_of hok)
  have HP := hide (prg_of hok)
  have HG0 := hide (going_start (unhide HP))
  have HEND : Hid (∀ g m, Going fs g false m → g = foldAllL fs) := fun g m h => going_end hok h
  go_enter Tryz.func20, Tryz.ntmps20
  go_wp2_with fail
  refine (specKeepOk_any a cap fs _ hcap hcm (unhide HR)).mono ?_
  rw [hok]
  rintro e w1 ⟨rfl, hb1⟩
  have HB1 := hide hb1
  have HR1 := hide ((unhide HR).below hb1)
  clear hb1 HR
  go_wp2_with fail
  go_loopw [3, 4, 5] (fun v o n w' => ∃ (a' : Option Addr) (c' : Nat) (g : List FunD) (b : Bool) (m : Nat), v = .slice a' g.length c' ∧ o = .bool b ∧ n = .int .i64 (m : Int) ∧ g.length ≤ c' ∧ c' ≤ maxLen ∧ m ≤ 40 ∧ Hid (Going fs g b m) ∧ Hid (FunRow w' a' g) ∧ Hid (Below w1.heap.size w1 w')) (fun _ _ n _ => (intOf n).toNat)
  case atStart => exact ⟨a, cap, fs, true, fs.length, rfl, rfl, rfl, hcap, hcm, (unhide HS).few, HG0, HR1, Below.refl _ _⟩
  case round =>
    clear HR1 HG0
    obtain ⟨a', c', g, b, m, rfl, rfl, rfl, k1, k2, hm40, HG, HRW, HB⟩ := hrel
    obtain ⟨hg0, hg40, hgb⟩ := going_small (unhide HS) (unhide HG)
    have HGB := hide hgb
    clear hgb
    cases b with
    | true =>
      have hmg : m = g.length := by
        obtain ⟨_, _, _, h, _⟩ := unhide HG
        exact h rfl
      have hm0 : (0 : Int) < (m : Int) := by omega
      obtain ⟨q, hq⟩ := two_ex g
      have HNX := hide (going_step (unhide HP) (unhide HG) hq)
      have HQ := hide hq
      clear hq hmg
      go_wp2_with fail
      refine (specOne_any a' c' g _ k1 k2 (by omega) (unhide HGB) (unhide HRW) q (unhide HQ)).mono ?_
      rintro e w2 ⟨a2, c2, g', rfl, j1, j2, j3, hg, hb2⟩
      rw [← hg] at HNX
      have HB2 := hide (bl_trans (unhide HB) hb2)
      have HR2 := hide j3
      clear hg j3 hb2
      generalize q.isSome = bq at *
      have hmm : ((m : Int) - 1) = ((m - 1 : Nat) : Int) := by omega
      go_wp2_with fail
      exact ⟨⟨a2, c2, g', bq, m - 1, rfl, rfl, by go_num, j1, j2, by omega, HNX, HR2, HB2⟩, by simp [intOf]; omega⟩
    | false =>
      have HE := hide (unhide HEND g m (unhide HG))
      by_cases hm0 : 0 < m
      · have hm0' : (0 : Int) < (m : Int) := by omega
        go_wp2_with fail
        refine (specCopy_any a' c' g _ k1 k2 (by omega) (unhide HGB) (unhide HRW)).mono ?_
        rintro e w4 ⟨v4, vs4, rfl, hv4, hO4, hb4⟩
        have HV4 := hide hv4
        have HO4 := hide hO4
        clear hv4 hO4
        go_wp2_with fail
        go_ret
        have hBB := bl_trans (unhide HB1) (unhide HB)
        exact ⟨v4, vs4, rfl, (unhide HV4).trans (unhide HE), (unhide HO4).base hBB.size, bl_trans hBB hb4⟩
      · have hm1 : m = 0 := by omega
        subst hm1
        go_wp2_with fail
        refine (specCopy_any a' c' g _ k1 k2 (by omega) (unhide HGB) (unhide HRW)).mono ?_
        rintro e w4 ⟨v4, vs4, rfl, hv4, hO4, hb4⟩
        have HV4 := hide hv4
        have HO4 := hide hO4
        clear hv4 hO4
        go_wp2_with fail
        go_ret
        have hBB := bl_trans (unhide HB1) (unhide HB)
        exact ⟨v4, vs4, rfl, (unhide HV4).trans (unhide HE), (unhide HO4).base hBB.size, bl_trans hBB hb4⟩
theorem one_few (fs : List FunD) : (foldOneL fs).length ≤ 40 ∧ ∀ f ∈ foldOneL fs, f.body.length ≤ 1000 := by
  cases h : keepOkB fs
  · rw [one_no h]; exact ⟨Nat.zero_le _, (fun f hf => by cases hf)⟩
  · have hs := small_of h
    obtain ⟨r, hr⟩ := two_ex fs
    have key : ∃ L, Links L ∧ L.length = fs.length ∧ foldOneL fs = left fs (rt L) := by
      cases r with
      | none => exact ⟨_, range_links _, List.length_range, one_none h hr⟩
      | some ik =>
        obtain ⟨i, k⟩ := ik
        exact ⟨_, links_set (range_links _) (by rw [List.length_range]; exact hr.2.2.1) (Nat.le_of_lt hr.2.1), by rw [List.length_set, List.length_range], one_some h hr⟩
    obtain ⟨L, k1, k2, k3⟩ := key
    rw [k3]
    have h3 := hs.left (st_lt (rt_root (fs := fs) k1 k2))
    exact ⟨h3.1, fun f hf => by have := h3.2 f hf; omega⟩
theorem all_few (fs : List FunD) : (foldAllL fs).length ≤ 40 ∧ ∀ f ∈ foldAllL fs, f.body.length ≤ 1000 := by
  cases h : keepOkB fs
  · rw [all_no h]; exact ⟨Nat.zero_le _, (fun f hf => by cases hf)⟩
  · have hs := small_of h
    unfold foldAllL
    rw [if_pos h]
    by_cases he : ∃ r, Clo fs r ∧ Fine fs r
    · rw [dif_pos he]
      have h3 := hs.left (st_lt he.choose_spec.1.1)
      exact ⟨h3.1, fun f hf => by have := h3.2 f hf; omega⟩
    · rw [dif_neg he]
      refine ⟨hs.few, fun f hf => ?_⟩
      have := bodies_of h f hf
      omega
end Go.Proofs.YthbbmookhcalkaaGreatDoor.FoldS
