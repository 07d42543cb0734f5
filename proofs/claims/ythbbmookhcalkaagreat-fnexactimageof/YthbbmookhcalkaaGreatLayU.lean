/- The contract of the specification's l7Lack. -/
import Derived.Test.YthbbmookhcalkaaGreatLayT
namespace Go.Proofs.YthbbmookhcalkaaGreat.LayU
open Go.ChangeShapes Go.WideShapes Go.ChangeAt Go.RowKit Go.Joins Go.Deep
open Go.Proofs.YthbbmookhcalkaaGreat.Base Go.Proofs.YthbbmookhcalkaaGreat.InsA Go.Proofs.YthbbmookhcalkaaGreat.Funs Go.Proofs.YthbbmookhcalkaaGreat.Open Go.Proofs.YthbbmookhcalkaaGreat.FunS Go.Proofs.YthbbmookhcalkaaGreat.Keep Go.Proofs.YthbbmookhcalkaaGreat.UnitS Go.Proofs.YthbbmookhcalkaaGreat.Refs Go.Proofs.YthbbmookhcalkaaGreat.LayN Go.Proofs.YthbbmookhcalkaaGreat.LayA Go.Proofs.YthbbmookhcalkaaGreat.KeepD Go.Proofs.YthbbmookhcalkaaGreat.KeepA Go.Proofs.YthbbmookhcalkaaGreat.LayD Go.Proofs.YthbbmookhcalkaaGreat.LayS Go.Proofs.YthbbmookhcalkaaGreat.LayT
set_option linter.unusedVariables false
set_option maxRecDepth 100000

def lackV : Option (Nat × ByteArray) → Value
  | none => .tuple #[.int .i64 (-1), .string ⟨#[]⟩]
  | some (i, s) => .tuple #[.int .i64 (i : Nat), .string s]
theorem ret_lack {o : Option (Nat × ByteArray)} {v : Value} (h : v = lackV o) : Ending.returned v = .returned (lackV o) := by rw [h]
theorem lackRow_end {fs : List FunD} {st : List (List ByteArray)} {r : Int} {k m : Nat} (hm : m = lenAt fs k) (h : ∀ j, j < m → lk fs st r k j = false) : lackRow fs st r k = none := lackRow_none (fun j hj => h j (by omega))
theorem lk_at {fs : List FunD} {st : List (List ByteArray)} {r : Int} {k q : Nat} (hk : k < fs.length) (hq : q < fs[k].body.length) : lk fs st r k q = (refsB fs[k].body[q].o && decide (toI fs st r ((place fs st k : Int) + q) fs[k].body[q].s < 0)) := by
  unfold lk
  simp [List.getD, List.getElem?_eq_getElem hk, List.getElem?_eq_getElem hq]
theorem upto_step {p : Nat → Bool} {q : Nat} (h : ∀ j, j < q → p j = false) (hq : p q = false) : ∀ j, j < q + 1 → p j = false := fun j hj => by
  by_cases e : j = q
  · subst e; exact hq
  · exact h j (by omega)
theorem upto_none {p : Nat → Option Nat} {q : Nat} (h : ∀ j, j < q → p j = none) (hq : p q = none) : ∀ j, j < q + 1 → p j = none := fun j hj => by
  by_cases e : j = q
  · subst e; exact hq
  · exact h j (by omega)
theorem box3' {w : World} {v0 v1 v2 : Value} {t : TypeId} : (w.alloc (.cells #[v0, v1, v2] t)).cell? ⟨w.heap.size, 0, none⟩ = some v0 ∧ (w.alloc (.cells #[v0, v1, v2] t)).cell? ⟨w.heap.size, 1, none⟩ = some v1 ∧ (w.alloc (.cells #[v0, v1, v2] t)).cell? ⟨w.heap.size, 2, none⟩ = some v2 := (box3 (new_block w _)).1
set_option maxHeartbeats 16000000 in
theorem l7Lack_any (a na sa : Option Addr) (cap nc sc : Nat) (fs : List FunD) (ns : List Int) (st : List (List ByteArray)) (r : Int) (w : World) (hL : Lying fs ns st) (hcap : fs.length ≤ cap) (hcm : cap ≤ maxLen) (h1 : ns.length ≤ nc) (h2 : nc ≤ maxLen) (h3 : st.length ≤ sc) (h4 : sc ≤ maxLen) (hR : FunRow w a fs) (hs : NumRow w na ns) (ho : TextsRow w sa st) :
    Calls Tryz.prog 39 #[.slice a fs.length cap, .agg #[.slice na ns.length nc, .slice sa st.length sc], .int .i64 r] w fun e w' => e = .returned (lackV (lackN fs st r)) ∧ Below w.heap.size w w' := by
  have HR := hide hR
  have HS := hide hs
  have HO := hide ho
  have hB0 := below_alloc1 w (.cells #[.slice na ns.length nc, .slice sa st.length sc] 33)
  have HX := hide (new_block w (.cells #[.slice na ns.length nc, .slice sa st.length sc] 33))
  have HL := hide hL
  have h40 := hL.1
  have HTA : Hid (∀ (p : Int) (s : ByteArray) w', 0 ≤ p → p ≤ 100000000 → s.size ≤ maxLen → FunRow w' a fs → NumRow w' na ns → TextsRow w' sa st → Calls Tryz.prog 55 #[.slice a fs.length cap, .agg #[.slice na ns.length nc, .slice sa st.length sc], .int .i64 r, .int .i64 p, .string s] w' fun e w'' => e = .returned (.int .i64 (toI fs st r p s)) ∧ Below w'.heap.size w' w'') := fun p s w' e0 e1 e2 hr hn ht => l7To_any _ _ _ _ _ _ fs ns st r p s w' hL e0 e1 e2 hcap hcm h1 h2 h3 h4 hr hn ht
  clear hR hs ho hL
  have hlf : (fs.length : Int) ≤ 9223372036854775807 := by unfold maxLen at hcm; omega
  have hln : (ns.length : Int) ≤ 9223372036854775807 := by unfold maxLen at h2; omega
  go_enter Tryz.func39, Tryz.ntmps39
  go_wp2_with fail
  go_loopw [8] (fun i w' => ∃ k : Nat, k ≤ fs.length ∧ i = .int .i64 k ∧ Hid (∀ j, j < k → lackRow fs st r j = none) ∧ w'.heap[w.heap.size]? = some (.cells #[.slice na ns.length nc, .slice sa st.length sc] 33) ∧ Below w.heap.size w w') (fun i _ => fs.length - (intOf i).toNat)
  case atStart => exact ⟨0, Nat.zero_le _, rfl, fun j h => by omega, unhide HX, hB0⟩
  case round =>
    obtain ⟨k, hk, rfl, HK, hX, hB⟩ := hrel
    clear HX hB0
    have HX := hide hX
    clear hX
    by_cases hkl : k < fs.length
    · have hkl' : (k : Int) < (fs.length : Int) := by omega
      have hkn : k < ns.length := by rw [(unhide HL).len]; exact hkl
      have hkn' : (k : Int) < (ns.length : Int) := by omega
      have hk0 : (0 : Int) ≤ (k : Int) := by omega
      obtain ⟨b, off, rfl⟩ := (unhide HR).get (by omega)
      obtain ⟨nb, no, rfl⟩ := (unhide HS).get (by omega)
      have HFR := hide ((unhide HR).at hkl)
      have HNC : Hid (∀ w', NumRow w' (some ⟨nb, no, none⟩) ns → w'.cell? ⟨nb, no + k, none⟩ = some (.int .i64 (place fs st k : Nat))) := fun w' h => by
        have := h.cells hkn
        rw [(unhide HL).at hkn] at this
        exact this
      have hpb := (unhide HL).small k (by omega)
      have hfl : fs[k].body.length ≤ 10 := (unhide HL).2.1 _ (List.getElem_mem _)
      have HRW : Hid ((∀ j, j < fs[k].body.length → lk fs st r k j = false) → lackRow fs st r k = none) := lackRow_end (lenAt_is hkl).symm
      have HLK := hide (fun q (hq : q < fs[k].body.length) => lk_at (st := st) (r := r) hkl hq)
      have HSO := hide (fun q (hq : q < fs[k].body.length) (e1 : ∀ j, j < q → lk fs st r k j = false) (e2 : lk fs st r k q = true) => lackN_some hkl (unhide HK) hq e1 e2)
      obtain ⟨fi, fc, f0, f1, f2, fn, f4, f5, f6⟩ := (unhide HFR).below hB
      clear f6
      generalize fs[k] = f at *
      generalize place fs st k = pl at *
      go_wp2_with fail
      clear f0 f1 f2
      go_loopw [9] (fun i w' => ∃ q : Nat, q ≤ f.body.length ∧ i = .int .i64 q ∧ Hid (∀ j, j < q → lk fs st r k j = false) ∧ w'.heap[w.heap.size]? = some (.cells #[.slice (some ⟨nb, no, none⟩) ns.length nc, .slice sa st.length sc] 33) ∧ Below w.heap.size w w') (fun i _ => f.body.length - (intOf i).toNat)
      case atStart => exact ⟨0, Nat.zero_le _, rfl, fun j h => by omega, unhide HX, hB⟩
      case round =>
        obtain ⟨q, hq, rfl, HQ, hX, hB'⟩ := hrel
        clear HX hB
        have HX := hide hX
        clear hX
        obtain ⟨fi, fc, f0, f1, f2, fn, f4, f5, f6⟩ := (unhide HFR).below hB'
        have HF6 := hide f6
        clear f6
        by_cases hql : q < f.body.length
        · have hql' : (q : Int) < (f.body.length : Int) := by omega
          obtain ⟨ib, io, rfl⟩ := (unhide HF6).get (by omega)
          obtain ⟨i0, i1, i2, hxs⟩ := (unhide HF6).cells hql
          have HE := hide (unhide HLK q hql)
          have HSQ := hide (unhide HSO q hql (unhide HQ))
          have hwr : IntKind.i64.wrap ((pl : Int) + (q : Int)) = (pl : Int) + (q : Int) := by rw [IntKind.wrap_i64]; omega
          have HTO := hide (fun w' => unhide HTA ((pl : Int) + (q : Int)) f.body[q].s w' (by omega) (by omega) hxs)
          generalize f.body[q] = x at *
          have HSA : Hid (Stable (fun w' => w'.cell? ⟨wr.heap.size, 0, none⟩ = some (.int .i64 x.o) ∧ w'.cell? ⟨wr.heap.size, 1, none⟩ = some (.int .i64 x.n) ∧ w'.cell? ⟨wr.heap.size, 2, none⟩ = some (.string x.s) ∧ w'.cell? ⟨w.heap.size, 0, none⟩ = some (.slice (some ⟨nb, no, none⟩) ns.length nc) ∧ w'.cell? ⟨w.heap.size, 1, none⟩ = some (.slice sa st.length sc) ∧ w'.cell? ⟨nb, no + k, none⟩ = some (.int .i64 (pl : Nat)) ∧ w'.heap[w.heap.size]? = some (.cells #[.slice (some ⟨nb, no, none⟩) ns.length nc, .slice sa st.length sc] 33) ∧ FunRow w' (some ⟨b, off, none⟩) fs ∧ NumRow w' (some ⟨nb, no, none⟩) ns ∧ TextsRow w' sa st ∧ Below w.heap.size w w')) := (Stable.cell _ _).and ((Stable.cell _ _).and ((Stable.cell _ _).and ((Stable.cell _ _).and ((Stable.cell _ _).and ((Stable.cell _ _).and ((Stable.box _ _).and ((Stable.frow _ _).and ((Stable.nrow _ _).and ((Stable.tsrow _ _).and (Stable.below w))))))))))
          have HS0 : Hid ((fun w' => w'.cell? ⟨wr.heap.size, 0, none⟩ = some (.int .i64 x.o) ∧ w'.cell? ⟨wr.heap.size, 1, none⟩ = some (.int .i64 x.n) ∧ w'.cell? ⟨wr.heap.size, 2, none⟩ = some (.string x.s) ∧ w'.cell? ⟨w.heap.size, 0, none⟩ = some (.slice (some ⟨nb, no, none⟩) ns.length nc) ∧ w'.cell? ⟨w.heap.size, 1, none⟩ = some (.slice sa st.length sc) ∧ w'.cell? ⟨nb, no + k, none⟩ = some (.int .i64 (pl : Nat)) ∧ w'.heap[w.heap.size]? = some (.cells #[.slice (some ⟨nb, no, none⟩) ns.length nc, .slice sa st.length sc] 33) ∧ FunRow w' (some ⟨b, off, none⟩) fs ∧ NumRow w' (some ⟨nb, no, none⟩) ns ∧ TextsRow w' sa st ∧ Below w.heap.size w w') (wr.alloc (.cells #[.int .i64 x.o, .int .i64 x.n, .string x.s] 61))) := by
            have hb1 := below_alloc1 wr (.cells #[.int .i64 x.o, .int .i64 x.n, .string x.s] 61)
            have n3 := box3' (w := wr) (v0 := .int .i64 x.o) (v1 := .int .i64 x.n) (v2 := .string x.s) (t := 61)
            have hb2 := bl_trans hB' hb1
            have hx1 := box_below (unhide HX) hb1
            have hx2 := (box2 hx1).1
            exact ⟨n3.1, n3.2.1, n3.2.2, hx2.1, hx2.2, unhide HNC _ ((unhide HS).below hb2), hx1, (unhide HR).below hb2, (unhide HS).below hb2, (unhide HO).below hb2, hb2⟩
          clear HNC
          cases hrf : refsB x.o
          · have HLN : Hid (lk fs st r k q = false) := by show _ = _; rw [unhide HE, hrf]; rfl
            go_wp2_with fail
            clear i0 i1 i2 f0 f1 f2
            refine wp_region_held_drew (S := (fun w' => w'.cell? ⟨wr.heap.size, 0, none⟩ = some (.int .i64 x.o) ∧ w'.cell? ⟨wr.heap.size, 1, none⟩ = some (.int .i64 x.n) ∧ w'.cell? ⟨wr.heap.size, 2, none⟩ = some (.string x.s) ∧ w'.cell? ⟨w.heap.size, 0, none⟩ = some (.slice (some ⟨nb, no, none⟩) ns.length nc) ∧ w'.cell? ⟨w.heap.size, 1, none⟩ = some (.slice sa st.length sc) ∧ w'.cell? ⟨nb, no + k, none⟩ = some (.int .i64 (pl : Nat)) ∧ w'.heap[w.heap.size]? = some (.cells #[.slice (some ⟨nb, no, none⟩) ns.length nc, .slice sa st.length sc] 33) ∧ FunRow w' (some ⟨b, off, none⟩) fs ∧ NumRow w' (some ⟨nb, no, none⟩) ns ∧ TextsRow w' sa st ∧ Below w.heap.size w w')) (by kernel_rfl) ((unhide HSA).2 _ (unhide HS0)) (fun hHeld => ?_)
            refine wpAnyH_take (i := 0) (oi := { dst := some 35, op := Go.Op.load 61 (Go.Operand.tmp 10), type := 61, pos := "l7_lay.go:64", after := #[], guard := none }) (v := ?va0) rfl (by kernel_rfl) (by kernel_rfl) (by kernel_rfl) (fun _ _ _ h => h) (Or.inl ⟨by rfl, ?ya0⟩) (by assumption) ?ra0
            case ya0 => (intro w hSw; (try dsimp only at hSw); go_simp; try (with_reducible rfl))
            try simp only [Act.put, List.setIfInBounds_toArray, List.set_cons_zero, List.set_cons_succ]
            refine wpAnyH_ready (rs := [1]) (by kernel_rfl) (by simp) (AllReadyH.cons (o := { dst := some 36, op := Go.Op.call { callee := Go.Callee.value (Go.Operand.func 54), args := #[Go.Operand.tmp 35], argTypes := #[61] }, type := 4, pos := "l7_lay.go:64", after := #[{ on := 0, ground := Go.Ground.data }], guard := none }) rfl (fun K hK => ?_) AllReadyH.nil)
            go_simp
            go_at_call 54
            refine (specRefs_any _ _ _ _).mono ?_
            rw [hrf]
            rintro e wk ⟨rfl, hbk⟩
            replace hHeld := (unhide HSA).1 _ _ hbk hHeld
            go_wp2_with fail
            refine hK.out _ _ hHeld (fun _ => ?_)
            clear hK K hbk
            try simp only [Act.put, List.setIfInBounds_toArray, List.set_cons_zero, List.set_cons_succ]
            refine wpAnyH_take (i := 2) (oi := { dst := some 37, op := Go.Op.move (Go.Operand.tmp 36), type := 4, pos := "l7_lay.go:64", after := #[{ on := 1, ground := Go.Ground.data }, { on := 1, ground := Go.Ground.chain }], guard := none }) (v := ?va2) rfl (by kernel_rfl) (by kernel_rfl) (by kernel_rfl) (fun _ _ _ h => h) (Or.inl ⟨by rfl, ?ya2⟩) (by assumption) ?ra2
            case ya2 => (intro w hSw; (try dsimp only at hSw); go_simp; try (with_reducible rfl))
            try simp only [Act.put, List.setIfInBounds_toArray, List.set_cons_zero, List.set_cons_succ]
            refine wpAnyH_take (i := 3) (oi := { dst := some 38, op := Go.Op.move (Go.Operand.tmp 0), type := 31, pos := "l7_lay.go:64", after := #[{ on := 2, ground := Go.Ground.guard }], guard := some (2, true) }) (v := undef) rfl (by kernel_rfl) (by kernel_rfl) (by kernel_rfl) (fun _ _ _ h => h) (Or.inr ⟨by rfl, rfl⟩) (by assumption) ?_
            try simp only [Act.put, List.setIfInBounds_toArray, List.set_cons_zero, List.set_cons_succ]
            refine wpAnyH_take (i := 4) (oi := { dst := some 39, op := Go.Op.load 33 (Go.Operand.tmp 4), type := 33, pos := "l7_lay.go:64", after := #[{ on := 2, ground := Go.Ground.guard }], guard := some (2, true) }) (v := undef) rfl (by kernel_rfl) (by kernel_rfl) (by kernel_rfl) (fun _ _ _ h => h) (Or.inr ⟨by rfl, rfl⟩) (by assumption) ?_
            try simp only [Act.put, List.setIfInBounds_toArray, List.set_cons_zero, List.set_cons_succ]
            refine wpAnyH_take (i := 5) (oi := { dst := some 40, op := Go.Op.move (Go.Operand.tmp 2), type := 3, pos := "l7_lay.go:64", after := #[{ on := 2, ground := Go.Ground.guard }], guard := some (2, true) }) (v := undef) rfl (by kernel_rfl) (by kernel_rfl) (by kernel_rfl) (fun _ _ _ h => h) (Or.inr ⟨by rfl, rfl⟩) (by assumption) ?_
            try simp only [Act.put, List.setIfInBounds_toArray, List.set_cons_zero, List.set_cons_succ]
            refine wpAnyH_take (i := 6) (oi := { dst := some 41, op := Go.Op.fieldAddr 33 (Go.Operand.tmp 4) 0, type := 0, pos := "l7_lay.go:64", after := #[{ on := 2, ground := Go.Ground.guard }], guard := some (2, true) }) (v := undef) rfl (by kernel_rfl) (by kernel_rfl) (by kernel_rfl) (fun _ _ _ h => h) (Or.inr ⟨by rfl, rfl⟩) (by assumption) ?_
            try simp only [Act.put, List.setIfInBounds_toArray, List.set_cons_zero, List.set_cons_succ]
            refine wpAnyH_take (i := 7) (oi := { dst := some 42, op := Go.Op.load 23 (Go.Operand.tmp 41), type := 23, pos := "l7_lay.go:64", after := #[{ on := 6, ground := Go.Ground.data }, { on := 2, ground := Go.Ground.guard }], guard := some (2, true) }) (v := undef) rfl (by kernel_rfl) (by kernel_rfl) (by kernel_rfl) (fun _ _ _ h => h) (Or.inr ⟨by rfl, rfl⟩) (by assumption) ?_
            try simp only [Act.put, List.setIfInBounds_toArray, List.set_cons_zero, List.set_cons_succ]
            refine wpAnyH_take (i := 8) (oi := { dst := some 43, op := Go.Op.move (Go.Operand.tmp 8), type := 3, pos := "l7_lay.go:64", after := #[{ on := 2, ground := Go.Ground.guard }], guard := some (2, true) }) (v := undef) rfl (by kernel_rfl) (by kernel_rfl) (by kernel_rfl) (fun _ _ _ h => h) (Or.inr ⟨by rfl, rfl⟩) (by assumption) ?_
            try simp only [Act.put, List.setIfInBounds_toArray, List.set_cons_zero, List.set_cons_succ]
            refine wpAnyH_take (i := 9) (oi := { dst := some 44, op := Go.Op.indexAddr 23 (Go.Operand.tmp 42) (Go.Operand.tmp 43), type := 0, pos := "l7_lay.go:64", after := #[{ on := 7, ground := Go.Ground.data }, { on := 8, ground := Go.Ground.data }, { on := 2, ground := Go.Ground.guard }], guard := some (2, true) }) (v := undef) rfl (by kernel_rfl) (by kernel_rfl) (by kernel_rfl) (fun _ _ _ h => h) (Or.inr ⟨by rfl, rfl⟩) (by assumption) ?_
            try simp only [Act.put, List.setIfInBounds_toArray, List.set_cons_zero, List.set_cons_succ]
            refine wpAnyH_take (i := 10) (oi := { dst := some 45, op := Go.Op.load 3 (Go.Operand.tmp 44), type := 3, pos := "l7_lay.go:64", after := #[{ on := 9, ground := Go.Ground.data }, { on := 2, ground := Go.Ground.guard }], guard := some (2, true) }) (v := undef) rfl (by kernel_rfl) (by kernel_rfl) (by kernel_rfl) (fun _ _ _ h => h) (Or.inr ⟨by rfl, rfl⟩) (by assumption) ?_
            try simp only [Act.put, List.setIfInBounds_toArray, List.set_cons_zero, List.set_cons_succ]
            refine wpAnyH_take (i := 11) (oi := { dst := some 46, op := Go.Op.move (Go.Operand.tmp 9), type := 3, pos := "l7_lay.go:64", after := #[{ on := 2, ground := Go.Ground.guard }], guard := some (2, true) }) (v := undef) rfl (by kernel_rfl) (by kernel_rfl) (by kernel_rfl) (fun _ _ _ h => h) (Or.inr ⟨by rfl, rfl⟩) (by assumption) ?_
            try simp only [Act.put, List.setIfInBounds_toArray, List.set_cons_zero, List.set_cons_succ]
            refine wpAnyH_take (i := 12) (oi := { dst := some 47, op := Go.Op.binOp Go.BinOp.add 3 (Go.Operand.tmp 45) (Go.Operand.tmp 46) 3, type := 3, pos := "l7_lay.go:64", after := #[{ on := 10, ground := Go.Ground.data }, { on := 11, ground := Go.Ground.data }, { on := 2, ground := Go.Ground.guard }], guard := some (2, true) }) (v := undef) rfl (by kernel_rfl) (by kernel_rfl) (by kernel_rfl) (fun _ _ _ h => h) (Or.inr ⟨by rfl, rfl⟩) (by assumption) ?_
            try simp only [Act.put, List.setIfInBounds_toArray, List.set_cons_zero, List.set_cons_succ]
            refine wpAnyH_take (i := 13) (oi := { dst := some 48, op := Go.Op.fieldAddr 61 (Go.Operand.tmp 10) 2, type := 0, pos := "l7_lay.go:64", after := #[{ on := 2, ground := Go.Ground.guard }], guard := some (2, true) }) (v := undef) rfl (by kernel_rfl) (by kernel_rfl) (by kernel_rfl) (fun _ _ _ h => h) (Or.inr ⟨by rfl, rfl⟩) (by assumption) ?_
            try simp only [Act.put, List.setIfInBounds_toArray, List.set_cons_zero, List.set_cons_succ]
            refine wpAnyH_take (i := 14) (oi := { dst := some 49, op := Go.Op.load 9 (Go.Operand.tmp 48), type := 9, pos := "l7_lay.go:64", after := #[{ on := 13, ground := Go.Ground.data }, { on := 2, ground := Go.Ground.guard }], guard := some (2, true) }) (v := undef) rfl (by kernel_rfl) (by kernel_rfl) (by kernel_rfl) (fun _ _ _ h => h) (Or.inr ⟨by rfl, rfl⟩) (by assumption) ?_
            try simp only [Act.put, List.setIfInBounds_toArray, List.set_cons_zero, List.set_cons_succ]
            refine wpAnyH_take (i := 15) (oi := { dst := some 50, op := Go.Op.call { callee := Go.Callee.value (Go.Operand.func 55), args := #[Go.Operand.tmp 38, Go.Operand.tmp 39, Go.Operand.tmp 40, Go.Operand.tmp 47, Go.Operand.tmp 49], argTypes := #[31, 33, 3, 3, 9] }, type := 3, pos := "l7_lay.go:64", after := #[{ on := 3, ground := Go.Ground.data }, { on := 4, ground := Go.Ground.data }, { on := 5, ground := Go.Ground.data }, { on := 12, ground := Go.Ground.data }, { on := 14, ground := Go.Ground.data }, { on := 2, ground := Go.Ground.chain }, { on := 2, ground := Go.Ground.guard }], guard := some (2, true) }) (v := undef) rfl (by kernel_rfl) (by kernel_rfl) (by kernel_rfl) (fun _ _ _ h => h) (Or.inr ⟨by rfl, rfl⟩) (by assumption) ?_
            try simp only [Act.put, List.setIfInBounds_toArray, List.set_cons_zero, List.set_cons_succ]
            refine wpAnyH_take (i := 16) (oi := { dst := some 51, op := Go.Op.binOp Go.BinOp.lss 3 (Go.Operand.tmp 50) (Go.Operand.const (Go.Value.int Go.IntKind.i64 0)) 3, type := 4, pos := "l7_lay.go:64", after := #[{ on := 15, ground := Go.Ground.data }, { on := 2, ground := Go.Ground.guard }], guard := some (2, true) }) (v := undef) rfl (by kernel_rfl) (by kernel_rfl) (by kernel_rfl) (fun _ _ _ h => h) (Or.inr ⟨by rfl, rfl⟩) (by assumption) ?_
            try simp only [Act.put, List.setIfInBounds_toArray, List.set_cons_zero, List.set_cons_succ]
            refine wpAnyH_take (i := 17) (oi := { dst := some 52, op := Go.Op.pick (Go.Operand.tmp 37) (Go.Operand.tmp 51) (Go.Operand.const (Go.Value.bool false)), type := 4, pos := "l7_lay.go:64", after := #[{ on := 2, ground := Go.Ground.data }, { on := 16, ground := Go.Ground.data }], guard := none }) (v := ?va17) rfl (by kernel_rfl) (by kernel_rfl) (by kernel_rfl) (fun _ _ _ h => h) (Or.inl ⟨by rfl, ?ya17⟩) (by assumption) ?ra17
            case ya17 => (intro w hSw; (try dsimp only at hSw); go_simp; try (with_reducible rfl))
            try simp only [Act.put, List.setIfInBounds_toArray, List.set_cons_zero, List.set_cons_succ]
            refine wpAnyH_done (by kernel_rfl) ?_ _
            have hB9 := hHeld.2.2.2.2.2.2.2.2.2.2
            have HX9 := hide hHeld.2.2.2.2.2.2.1
            clear hHeld
            go_wp2_with fail
            exact ⟨⟨q + 1, by omega, by go_num, upto_step (unhide HQ) (unhide HLN), unhide HX9, hB9⟩, by simp [intOf]; omega⟩
          · cases hto : decide (toI fs st r ((pl : Int) + (q : Int)) x.s < 0)
            · have HLN : Hid (lk fs st r k q = false) := by show _ = _; rw [unhide HE, hrf, hto]; rfl
              generalize toI fs st r ((pl : Int) + (q : Int)) x.s = tz at *
              go_wp2_with fail
              clear i0 i1 i2 f0 f1 f2
              refine wp_region_held_drew (S := (fun w' => w'.cell? ⟨wr.heap.size, 0, none⟩ = some (.int .i64 x.o) ∧ w'.cell? ⟨wr.heap.size, 1, none⟩ = some (.int .i64 x.n) ∧ w'.cell? ⟨wr.heap.size, 2, none⟩ = some (.string x.s) ∧ w'.cell? ⟨w.heap.size, 0, none⟩ = some (.slice (some ⟨nb, no, none⟩) ns.length nc) ∧ w'.cell? ⟨w.heap.size, 1, none⟩ = some (.slice sa st.length sc) ∧ w'.cell? ⟨nb, no + k, none⟩ = some (.int .i64 (pl : Nat)) ∧ w'.heap[w.heap.size]? = some (.cells #[.slice (some ⟨nb, no, none⟩) ns.length nc, .slice sa st.length sc] 33) ∧ FunRow w' (some ⟨b, off, none⟩) fs ∧ NumRow w' (some ⟨nb, no, none⟩) ns ∧ TextsRow w' sa st ∧ Below w.heap.size w w')) (by kernel_rfl) ((unhide HSA).2 _ (unhide HS0)) (fun hHeld => ?_)
              refine wpAnyH_take (i := 0) (oi := { dst := some 35, op := Go.Op.load 61 (Go.Operand.tmp 10), type := 61, pos := "l7_lay.go:64", after := #[], guard := none }) (v := ?vb0) rfl (by kernel_rfl) (by kernel_rfl) (by kernel_rfl) (fun _ _ _ h => h) (Or.inl ⟨by rfl, ?yb0⟩) (by assumption) ?rb0
              case yb0 => (intro w hSw; (try dsimp only at hSw); go_simp; try (with_reducible rfl))
              try simp only [Act.put, List.setIfInBounds_toArray, List.set_cons_zero, List.set_cons_succ]
              try simp only [hwr, hto]
              refine wpAnyH_ready (rs := [1]) (by kernel_rfl) (by simp) (AllReadyH.cons (o := { dst := some 36, op := Go.Op.call { callee := Go.Callee.value (Go.Operand.func 54), args := #[Go.Operand.tmp 35], argTypes := #[61] }, type := 4, pos := "l7_lay.go:64", after := #[{ on := 0, ground := Go.Ground.data }], guard := none }) rfl (fun K hK => ?_) AllReadyH.nil)
              go_simp
              go_at_call 54
              refine (specRefs_any _ _ _ _).mono ?_
              rw [hrf]
              rintro e wk ⟨rfl, hbk⟩
              replace hHeld := (unhide HSA).1 _ _ hbk hHeld
              go_wp2_with fail
              refine hK.out _ _ hHeld (fun _ => ?_)
              clear hK K hbk
              try simp only [Act.put, List.setIfInBounds_toArray, List.set_cons_zero, List.set_cons_succ]
              try simp only [hwr, hto]
              refine wpAnyH_take (i := 2) (oi := { dst := some 37, op := Go.Op.move (Go.Operand.tmp 36), type := 4, pos := "l7_lay.go:64", after := #[{ on := 1, ground := Go.Ground.data }, { on := 1, ground := Go.Ground.chain }], guard := none }) (v := ?vb2) rfl (by kernel_rfl) (by kernel_rfl) (by kernel_rfl) (fun _ _ _ h => h) (Or.inl ⟨by rfl, ?yb2⟩) (by assumption) ?rb2
              case yb2 => (intro w hSw; (try dsimp only at hSw); go_simp; try (with_reducible rfl))
              try simp only [Act.put, List.setIfInBounds_toArray, List.set_cons_zero, List.set_cons_succ]
              try simp only [hwr, hto]
              refine wpAnyH_take (i := 3) (oi := { dst := some 38, op := Go.Op.move (Go.Operand.tmp 0), type := 31, pos := "l7_lay.go:64", after := #[{ on := 2, ground := Go.Ground.guard }], guard := some (2, true) }) (v := ?vb3) rfl (by kernel_rfl) (by kernel_rfl) (by kernel_rfl) (fun _ _ _ h => h) (Or.inl ⟨by rfl, ?yb3⟩) (by assumption) ?rb3
              case yb3 => (intro w hSw; (try dsimp only at hSw); go_simp; try (with_reducible rfl))
              try simp only [Act.put, List.setIfInBounds_toArray, List.set_cons_zero, List.set_cons_succ]
              try simp only [hwr, hto]
              refine wpAnyH_take (i := 4) (oi := { dst := some 39, op := Go.Op.load 33 (Go.Operand.tmp 4), type := 33, pos := "l7_lay.go:64", after := #[{ on := 2, ground := Go.Ground.guard }], guard := some (2, true) }) (v := ?vb4) rfl (by kernel_rfl) (by kernel_rfl) (by kernel_rfl) (fun _ _ _ h => h) (Or.inl ⟨by rfl, ?yb4⟩) (by assumption) ?rb4
              case yb4 => (intro w hSw; (try dsimp only at hSw); go_simp; try (with_reducible rfl))
              try simp only [Act.put, List.setIfInBounds_toArray, List.set_cons_zero, List.set_cons_succ]
              try simp only [hwr, hto]
              refine wpAnyH_take (i := 5) (oi := { dst := some 40, op := Go.Op.move (Go.Operand.tmp 2), type := 3, pos := "l7_lay.go:64", after := #[{ on := 2, ground := Go.Ground.guard }], guard := some (2, true) }) (v := ?vb5) rfl (by kernel_rfl) (by kernel_rfl) (by kernel_rfl) (fun _ _ _ h => h) (Or.inl ⟨by rfl, ?yb5⟩) (by assumption) ?rb5
              case yb5 => (intro w hSw; (try dsimp only at hSw); go_simp; try (with_reducible rfl))
              try simp only [Act.put, List.setIfInBounds_toArray, List.set_cons_zero, List.set_cons_succ]
              try simp only [hwr, hto]
              refine wpAnyH_take (i := 6) (oi := { dst := some 41, op := Go.Op.fieldAddr 33 (Go.Operand.tmp 4) 0, type := 0, pos := "l7_lay.go:64", after := #[{ on := 2, ground := Go.Ground.guard }], guard := some (2, true) }) (v := ?vb6) rfl (by kernel_rfl) (by kernel_rfl) (by kernel_rfl) (fun _ _ _ h => h) (Or.inl ⟨by rfl, ?yb6⟩) (by assumption) ?rb6
              case yb6 => (intro w hSw; (try dsimp only at hSw); go_simp; try (with_reducible rfl))
              try simp only [Act.put, List.setIfInBounds_toArray, List.set_cons_zero, List.set_cons_succ]
              try simp only [hwr, hto]
              refine wpAnyH_take (i := 7) (oi := { dst := some 42, op := Go.Op.load 23 (Go.Operand.tmp 41), type := 23, pos := "l7_lay.go:64", after := #[{ on := 6, ground := Go.Ground.data }, { on := 2, ground := Go.Ground.guard }], guard := some (2, true) }) (v := ?vb7) rfl (by kernel_rfl) (by kernel_rfl) (by kernel_rfl) (fun _ _ _ h => h) (Or.inl ⟨by rfl, ?yb7⟩) (by assumption) ?rb7
              case yb7 => (intro w hSw; (try dsimp only at hSw); go_simp; try (with_reducible rfl))
              try simp only [Act.put, List.setIfInBounds_toArray, List.set_cons_zero, List.set_cons_succ]
              try simp only [hwr, hto]
              refine wpAnyH_take (i := 8) (oi := { dst := some 43, op := Go.Op.move (Go.Operand.tmp 8), type := 3, pos := "l7_lay.go:64", after := #[{ on := 2, ground := Go.Ground.guard }], guard := some (2, true) }) (v := ?vb8) rfl (by kernel_rfl) (by kernel_rfl) (by kernel_rfl) (fun _ _ _ h => h) (Or.inl ⟨by rfl, ?yb8⟩) (by assumption) ?rb8
              case yb8 => (intro w hSw; (try dsimp only at hSw); go_simp; try (with_reducible rfl))
              try simp only [Act.put, List.setIfInBounds_toArray, List.set_cons_zero, List.set_cons_succ]
              try simp only [hwr, hto]
              refine wpAnyH_take (i := 9) (oi := { dst := some 44, op := Go.Op.indexAddr 23 (Go.Operand.tmp 42) (Go.Operand.tmp 43), type := 0, pos := "l7_lay.go:64", after := #[{ on := 7, ground := Go.Ground.data }, { on := 8, ground := Go.Ground.data }, { on := 2, ground := Go.Ground.guard }], guard := some (2, true) }) (v := ?vb9) rfl (by kernel_rfl) (by kernel_rfl) (by kernel_rfl) (fun _ _ _ h => h) (Or.inl ⟨by rfl, ?yb9⟩) (by assumption) ?rb9
              case yb9 => (intro w hSw; (try dsimp only at hSw); go_simp; try (with_reducible rfl))
              try simp only [Act.put, List.setIfInBounds_toArray, List.set_cons_zero, List.set_cons_succ]
              try simp only [hwr, hto]
              refine wpAnyH_take (i := 10) (oi := { dst := some 45, op := Go.Op.load 3 (Go.Operand.tmp 44), type := 3, pos := "l7_lay.go:64", after := #[{ on := 9, ground := Go.Ground.data }, { on := 2, ground := Go.Ground.guard }], guard := some (2, true) }) (v := ?vb10) rfl (by kernel_rfl) (by kernel_rfl) (by kernel_rfl) (fun _ _ _ h => h) (Or.inl ⟨by rfl, ?yb10⟩) (by assumption) ?rb10
              case yb10 => (intro w hSw; (try dsimp only at hSw); go_simp; try (with_reducible rfl))
              try simp only [Act.put, List.setIfInBounds_toArray, List.set_cons_zero, List.set_cons_succ]
              try simp only [hwr, hto]
              refine wpAnyH_take (i := 11) (oi := { dst := some 46, op := Go.Op.move (Go.Operand.tmp 9), type := 3, pos := "l7_lay.go:64", after := #[{ on := 2, ground := Go.Ground.guard }], guard := some (2, true) }) (v := ?vb11) rfl (by kernel_rfl) (by kernel_rfl) (by kernel_rfl) (fun _ _ _ h => h) (Or.inl ⟨by rfl, ?yb11⟩) (by assumption) ?rb11
              case yb11 => (intro w hSw; (try dsimp only at hSw); go_simp; try (with_reducible rfl))
              try simp only [Act.put, List.setIfInBounds_toArray, List.set_cons_zero, List.set_cons_succ]
              try simp only [hwr, hto]
              refine wpAnyH_take (i := 12) (oi := { dst := some 47, op := Go.Op.binOp Go.BinOp.add 3 (Go.Operand.tmp 45) (Go.Operand.tmp 46) 3, type := 3, pos := "l7_lay.go:64", after := #[{ on := 10, ground := Go.Ground.data }, { on := 11, ground := Go.Ground.data }, { on := 2, ground := Go.Ground.guard }], guard := some (2, true) }) (v := ?vb12) rfl (by kernel_rfl) (by kernel_rfl) (by kernel_rfl) (fun _ _ _ h => h) (Or.inl ⟨by rfl, ?yb12⟩) (by assumption) ?rb12
              case yb12 => (intro w hSw; (try dsimp only at hSw); go_simp; try (with_reducible rfl))
              try simp only [Act.put, List.setIfInBounds_toArray, List.set_cons_zero, List.set_cons_succ]
              try simp only [hwr, hto]
              refine wpAnyH_take (i := 13) (oi := { dst := some 48, op := Go.Op.fieldAddr 61 (Go.Operand.tmp 10) 2, type := 0, pos := "l7_lay.go:64", after := #[{ on := 2, ground := Go.Ground.guard }], guard := some (2, true) }) (v := ?vb13) rfl (by kernel_rfl) (by kernel_rfl) (by kernel_rfl) (fun _ _ _ h => h) (Or.inl ⟨by rfl, ?yb13⟩) (by assumption) ?rb13
              case yb13 => (intro w hSw; (try dsimp only at hSw); go_simp; try (with_reducible rfl))
              try simp only [Act.put, List.setIfInBounds_toArray, List.set_cons_zero, List.set_cons_succ]
              try simp only [hwr, hto]
              refine wpAnyH_take (i := 14) (oi := { dst := some 49, op := Go.Op.load 9 (Go.Operand.tmp 48), type := 9, pos := "l7_lay.go:64", after := #[{ on := 13, ground := Go.Ground.data }, { on := 2, ground := Go.Ground.guard }], guard := some (2, true) }) (v := ?vb14) rfl (by kernel_rfl) (by kernel_rfl) (by kernel_rfl) (fun _ _ _ h => h) (Or.inl ⟨by rfl, ?yb14⟩) (by assumption) ?rb14
              case yb14 => (intro w hSw; (try dsimp only at hSw); go_simp; try (with_reducible rfl))
              try simp only [Act.put, List.setIfInBounds_toArray, List.set_cons_zero, List.set_cons_succ]
              try simp only [hwr, hto]
              refine wpAnyH_ready (rs := [15]) (by kernel_rfl) (by simp) (AllReadyH.cons (o := { dst := some 50, op := Go.Op.call { callee := Go.Callee.value (Go.Operand.func 55), args := #[Go.Operand.tmp 38, Go.Operand.tmp 39, Go.Operand.tmp 40, Go.Operand.tmp 47, Go.Operand.tmp 49], argTypes := #[31, 33, 3, 3, 9] }, type := 3, pos := "l7_lay.go:64", after := #[{ on := 3, ground := Go.Ground.data }, { on := 4, ground := Go.Ground.data }, { on := 5, ground := Go.Ground.data }, { on := 12, ground := Go.Ground.data }, { on := 14, ground := Go.Ground.data }, { on := 2, ground := Go.Ground.chain }, { on := 2, ground := Go.Ground.guard }], guard := some (2, true) }) rfl (fun K hK => ?_) AllReadyH.nil)
              go_simp
              go_at_call 55
              refine (unhide HTO _ hHeld.2.2.2.2.2.2.2.1 hHeld.2.2.2.2.2.2.2.2.1 hHeld.2.2.2.2.2.2.2.2.2.1).mono ?_
              rintro e wk ⟨rfl, hbk⟩
              replace hHeld := (unhide HSA).1 _ _ hbk hHeld
              go_wp2_with fail
              refine hK.out _ _ hHeld (fun _ => ?_)
              clear hK K hbk
              try simp only [Act.put, List.setIfInBounds_toArray, List.set_cons_zero, List.set_cons_succ]
              try simp only [hwr, hto]
              refine wpAnyH_take (i := 16) (oi := { dst := some 51, op := Go.Op.binOp Go.BinOp.lss 3 (Go.Operand.tmp 50) (Go.Operand.const (Go.Value.int Go.IntKind.i64 0)) 3, type := 4, pos := "l7_lay.go:64", after := #[{ on := 15, ground := Go.Ground.data }, { on := 2, ground := Go.Ground.guard }], guard := some (2, true) }) (v := ?vb16) rfl (by kernel_rfl) (by kernel_rfl) (by kernel_rfl) (fun _ _ _ h => h) (Or.inl ⟨by rfl, ?yb16⟩) (by assumption) ?rb16
              case yb16 => (intro w hSw; (try dsimp only at hSw); go_simp; try (with_reducible rfl))
              try simp only [Act.put, List.setIfInBounds_toArray, List.set_cons_zero, List.set_cons_succ]
              try simp only [hwr, hto]
              refine wpAnyH_take (i := 17) (oi := { dst := some 52, op := Go.Op.pick (Go.Operand.tmp 37) (Go.Operand.tmp 51) (Go.Operand.const (Go.Value.bool false)), type := 4, pos := "l7_lay.go:64", after := #[{ on := 2, ground := Go.Ground.data }, { on := 16, ground := Go.Ground.data }], guard := none }) (v := ?vb17) rfl (by kernel_rfl) (by kernel_rfl) (by kernel_rfl) (fun _ _ _ h => h) (Or.inl ⟨by rfl, ?yb17⟩) (by assumption) ?rb17
              case yb17 => (intro w hSw; (try dsimp only at hSw); go_simp; try (with_reducible rfl))
              try simp only [Act.put, List.setIfInBounds_toArray, List.set_cons_zero, List.set_cons_succ]
              try simp only [hwr, hto]
              refine wpAnyH_done (by kernel_rfl) ?_ _
              have hB9 := hHeld.2.2.2.2.2.2.2.2.2.2
              have HX9 := hide hHeld.2.2.2.2.2.2.1
              clear hHeld
              go_wp2_with fail
              exact ⟨⟨q + 1, by omega, by go_num, upto_step (unhide HQ) (unhide HLN), unhide HX9, hB9⟩, by simp [intOf]; omega⟩
            · have HLN : Hid (lackN fs st r = some (k, x.s)) := unhide HSQ (by rw [unhide HE, hrf, hto]; rfl)
              generalize toI fs st r ((pl : Int) + (q : Int)) x.s = tz at *
              go_wp2_with fail
              clear i0 i1 i2 f0 f1 f2
              refine wp_region_held_drew (S := (fun w' => w'.cell? ⟨wr.heap.size, 0, none⟩ = some (.int .i64 x.o) ∧ w'.cell? ⟨wr.heap.size, 1, none⟩ = some (.int .i64 x.n) ∧ w'.cell? ⟨wr.heap.size, 2, none⟩ = some (.string x.s) ∧ w'.cell? ⟨w.heap.size, 0, none⟩ = some (.slice (some ⟨nb, no, none⟩) ns.length nc) ∧ w'.cell? ⟨w.heap.size, 1, none⟩ = some (.slice sa st.length sc) ∧ w'.cell? ⟨nb, no + k, none⟩ = some (.int .i64 (pl : Nat)) ∧ w'.heap[w.heap.size]? = some (.cells #[.slice (some ⟨nb, no, none⟩) ns.length nc, .slice sa st.length sc] 33) ∧ FunRow w' (some ⟨b, off, none⟩) fs ∧ NumRow w' (some ⟨nb, no, none⟩) ns ∧ TextsRow w' sa st ∧ Below w.heap.size w w')) (by kernel_rfl) ((unhide HSA).2 _ (unhide HS0)) (fun hHeld => ?_)
              refine wpAnyH_take (i := 0) (oi := { dst := some 35, op := Go.Op.load 61 (Go.Operand.tmp 10), type := 61, pos := "l7_lay.go:64", after := #[], guard := none }) (v := ?vc0) rfl (by kernel_rfl) (by kernel_rfl) (by kernel_rfl) (fun _ _ _ h => h) (Or.inl ⟨by rfl, ?yc0⟩) (by assumption) ?rc0
              case yc0 => (intro w hSw; (try dsimp only at hSw); go_simp; try (with_reducible rfl))
              try simp only [Act.put, List.setIfInBounds_toArray, List.set_cons_zero, List.set_cons_succ]
              try simp only [hwr, hto]
              refine wpAnyH_ready (rs := [1]) (by kernel_rfl) (by simp) (AllReadyH.cons (o := { dst := some 36, op := Go.Op.call { callee := Go.Callee.value (Go.Operand.func 54), args := #[Go.Operand.tmp 35], argTypes := #[61] }, type := 4, pos := "l7_lay.go:64", after := #[{ on := 0, ground := Go.Ground.data }], guard := none }) rfl (fun K hK => ?_) AllReadyH.nil)
              go_simp
              go_at_call 54
              refine (specRefs_any _ _ _ _).mono ?_
              rw [hrf]
              rintro e wk ⟨rfl, hbk⟩
              replace hHeld := (unhide HSA).1 _ _ hbk hHeld
              go_wp2_with fail
              refine hK.out _ _ hHeld (fun _ => ?_)
              clear hK K hbk
              try simp only [Act.put, List.setIfInBounds_toArray, List.set_cons_zero, List.set_cons_succ]
              try simp only [hwr, hto]
              refine wpAnyH_take (i := 2) (oi := { dst := some 37, op := Go.Op.move (Go.Operand.tmp 36), type := 4, pos := "l7_lay.go:64", after := #[{ on := 1, ground := Go.Ground.data }, { on := 1, ground := Go.Ground.chain }], guard := none }) (v := ?vc2) rfl (by kernel_rfl) (by kernel_rfl) (by kernel_rfl) (fun _ _ _ h => h) (Or.inl ⟨by rfl, ?yc2⟩) (by assumption) ?rc2
              case yc2 => (intro w hSw; (try dsimp only at hSw); go_simp; try (with_reducible rfl))
              try simp only [Act.put, List.setIfInBounds_toArray, List.set_cons_zero, List.set_cons_succ]
              try simp only [hwr, hto]
              refine wpAnyH_take (i := 3) (oi := { dst := some 38, op := Go.Op.move (Go.Operand.tmp 0), type := 31, pos := "l7_lay.go:64", after := #[{ on := 2, ground := Go.Ground.guard }], guard := some (2, true) }) (v := ?vc3) rfl (by kernel_rfl) (by kernel_rfl) (by kernel_rfl) (fun _ _ _ h => h) (Or.inl ⟨by rfl, ?yc3⟩) (by assumption) ?rc3
              case yc3 => (intro w hSw; (try dsimp only at hSw); go_simp; try (with_reducible rfl))
              try simp only [Act.put, List.setIfInBounds_toArray, List.set_cons_zero, List.set_cons_succ]
              try simp only [hwr, hto]
              refine wpAnyH_take (i := 4) (oi := { dst := some 39, op := Go.Op.load 33 (Go.Operand.tmp 4), type := 33, pos := "l7_lay.go:64", after := #[{ on := 2, ground := Go.Ground.guard }], guard := some (2, true) }) (v := ?vc4) rfl (by kernel_rfl) (by kernel_rfl) (by kernel_rfl) (fun _ _ _ h => h) (Or.inl ⟨by rfl, ?yc4⟩) (by assumption) ?rc4
              case yc4 => (intro w hSw; (try dsimp only at hSw); go_simp; try (with_reducible rfl))
              try simp only [Act.put, List.setIfInBounds_toArray, List.set_cons_zero, List.set_cons_succ]
              try simp only [hwr, hto]
              refine wpAnyH_take (i := 5) (oi := { dst := some 40, op := Go.Op.move (Go.Operand.tmp 2), type := 3, pos := "l7_lay.go:64", after := #[{ on := 2, ground := Go.Ground.guard }], guard := some (2, true) }) (v := ?vc5) rfl (by kernel_rfl) (by kernel_rfl) (by kernel_rfl) (fun _ _ _ h => h) (Or.inl ⟨by rfl, ?yc5⟩) (by assumption) ?rc5
              case yc5 => (intro w hSw; (try dsimp only at hSw); go_simp; try (with_reducible rfl))
              try simp only [Act.put, List.setIfInBounds_toArray, List.set_cons_zero, List.set_cons_succ]
              try simp only [hwr, hto]
              refine wpAnyH_take (i := 6) (oi := { dst := some 41, op := Go.Op.fieldAddr 33 (Go.Operand.tmp 4) 0, type := 0, pos := "l7_lay.go:64", after := #[{ on := 2, ground := Go.Ground.guard }], guard := some (2, true) }) (v := ?vc6) rfl (by kernel_rfl) (by kernel_rfl) (by kernel_rfl) (fun _ _ _ h => h) (Or.inl ⟨by rfl, ?yc6⟩) (by assumption) ?rc6
              case yc6 => (intro w hSw; (try dsimp only at hSw); go_simp; try (with_reducible rfl))
              try simp only [Act.put, List.setIfInBounds_toArray, List.set_cons_zero, List.set_cons_succ]
              try simp only [hwr, hto]
              refine wpAnyH_take (i := 7) (oi := { dst := some 42, op := Go.Op.load 23 (Go.Operand.tmp 41), type := 23, pos := "l7_lay.go:64", after := #[{ on := 6, ground := Go.Ground.data }, { on := 2, ground := Go.Ground.guard }], guard := some (2, true) }) (v := ?vc7) rfl (by kernel_rfl) (by kernel_rfl) (by kernel_rfl) (fun _ _ _ h => h) (Or.inl ⟨by rfl, ?yc7⟩) (by assumption) ?rc7
              case yc7 => (intro w hSw; (try dsimp only at hSw); go_simp; try (with_reducible rfl))
              try simp only [Act.put, List.setIfInBounds_toArray, List.set_cons_zero, List.set_cons_succ]
              try simp only [hwr, hto]
              refine wpAnyH_take (i := 8) (oi := { dst := some 43, op := Go.Op.move (Go.Operand.tmp 8), type := 3, pos := "l7_lay.go:64", after := #[{ on := 2, ground := Go.Ground.guard }], guard := some (2, true) }) (v := ?vc8) rfl (by kernel_rfl) (by kernel_rfl) (by kernel_rfl) (fun _ _ _ h => h) (Or.inl ⟨by rfl, ?yc8⟩) (by assumption) ?rc8
              case yc8 => (intro w hSw; (try dsimp only at hSw); go_simp; try (with_reducible rfl))
              try simp only [Act.put, List.setIfInBounds_toArray, List.set_cons_zero, List.set_cons_succ]
              try simp only [hwr, hto]
              refine wpAnyH_take (i := 9) (oi := { dst := some 44, op := Go.Op.indexAddr 23 (Go.Operand.tmp 42) (Go.Operand.tmp 43), type := 0, pos := "l7_lay.go:64", after := #[{ on := 7, ground := Go.Ground.data }, { on := 8, ground := Go.Ground.data }, { on := 2, ground := Go.Ground.guard }], guard := some (2, true) }) (v := ?vc9) rfl (by kernel_rfl) (by kernel_rfl) (by kernel_rfl) (fun _ _ _ h => h) (Or.inl ⟨by rfl, ?yc9⟩) (by assumption) ?rc9
              case yc9 => (intro w hSw; (try dsimp only at hSw); go_simp; try (with_reducible rfl))
              try simp only [Act.put, List.setIfInBounds_toArray, List.set_cons_zero, List.set_cons_succ]
              try simp only [hwr, hto]
              refine wpAnyH_take (i := 10) (oi := { dst := some 45, op := Go.Op.load 3 (Go.Operand.tmp 44), type := 3, pos := "l7_lay.go:64", after := #[{ on := 9, ground := Go.Ground.data }, { on := 2, ground := Go.Ground.guard }], guard := some (2, true) }) (v := ?vc10) rfl (by kernel_rfl) (by kernel_rfl) (by kernel_rfl) (fun _ _ _ h => h) (Or.inl ⟨by rfl, ?yc10⟩) (by assumption) ?rc10
              case yc10 => (intro w hSw; (try dsimp only at hSw); go_simp; try (with_reducible rfl))
              try simp only [Act.put, List.setIfInBounds_toArray, List.set_cons_zero, List.set_cons_succ]
              try simp only [hwr, hto]
              refine wpAnyH_take (i := 11) (oi := { dst := some 46, op := Go.Op.move (Go.Operand.tmp 9), type := 3, pos := "l7_lay.go:64", after := #[{ on := 2, ground := Go.Ground.guard }], guard := some (2, true) }) (v := ?vc11) rfl (by kernel_rfl) (by kernel_rfl) (by kernel_rfl) (fun _ _ _ h => h) (Or.inl ⟨by rfl, ?yc11⟩) (by assumption) ?rc11
              case yc11 => (intro w hSw; (try dsimp only at hSw); go_simp; try (with_reducible rfl))
              try simp only [Act.put, List.setIfInBounds_toArray, List.set_cons_zero, List.set_cons_succ]
              try simp only [hwr, hto]
              refine wpAnyH_take (i := 12) (oi := { dst := some 47, op := Go.Op.binOp Go.BinOp.add 3 (Go.Operand.tmp 45) (Go.Operand.tmp 46) 3, type := 3, pos := "l7_lay.go:64", after := #[{ on := 10, ground := Go.Ground.data }, { on := 11, ground := Go.Ground.data }, { on := 2, ground := Go.Ground.guard }], guard := some (2, true) }) (v := ?vc12) rfl (by kernel_rfl) (by kernel_rfl) (by kernel_rfl) (fun _ _ _ h => h) (Or.inl ⟨by rfl, ?yc12⟩) (by assumption) ?rc12
              case yc12 => (intro w hSw; (try dsimp only at hSw); go_simp; try (with_reducible rfl))
              try simp only [Act.put, List.setIfInBounds_toArray, List.set_cons_zero, List.set_cons_succ]
              try simp only [hwr, hto]
              refine wpAnyH_take (i := 13) (oi := { dst := some 48, op := Go.Op.fieldAddr 61 (Go.Operand.tmp 10) 2, type := 0, pos := "l7_lay.go:64", after := #[{ on := 2, ground := Go.Ground.guard }], guard := some (2, true) }) (v := ?vc13) rfl (by kernel_rfl) (by kernel_rfl) (by kernel_rfl) (fun _ _ _ h => h) (Or.inl ⟨by rfl, ?yc13⟩) (by assumption) ?rc13
              case yc13 => (intro w hSw; (try dsimp only at hSw); go_simp; try (with_reducible rfl))
              try simp only [Act.put, List.setIfInBounds_toArray, List.set_cons_zero, List.set_cons_succ]
              try simp only [hwr, hto]
              refine wpAnyH_take (i := 14) (oi := { dst := some 49, op := Go.Op.load 9 (Go.Operand.tmp 48), type := 9, pos := "l7_lay.go:64", after := #[{ on := 13, ground := Go.Ground.data }, { on := 2, ground := Go.Ground.guard }], guard := some (2, true) }) (v := ?vc14) rfl (by kernel_rfl) (by kernel_rfl) (by kernel_rfl) (fun _ _ _ h => h) (Or.inl ⟨by rfl, ?yc14⟩) (by assumption) ?rc14
              case yc14 => (intro w hSw; (try dsimp only at hSw); go_simp; try (with_reducible rfl))
              try simp only [Act.put, List.setIfInBounds_toArray, List.set_cons_zero, List.set_cons_succ]
              try simp only [hwr, hto]
              refine wpAnyH_ready (rs := [15]) (by kernel_rfl) (by simp) (AllReadyH.cons (o := { dst := some 50, op := Go.Op.call { callee := Go.Callee.value (Go.Operand.func 55), args := #[Go.Operand.tmp 38, Go.Operand.tmp 39, Go.Operand.tmp 40, Go.Operand.tmp 47, Go.Operand.tmp 49], argTypes := #[31, 33, 3, 3, 9] }, type := 3, pos := "l7_lay.go:64", after := #[{ on := 3, ground := Go.Ground.data }, { on := 4, ground := Go.Ground.data }, { on := 5, ground := Go.Ground.data }, { on := 12, ground := Go.Ground.data }, { on := 14, ground := Go.Ground.data }, { on := 2, ground := Go.Ground.chain }, { on := 2, ground := Go.Ground.guard }], guard := some (2, true) }) rfl (fun K hK => ?_) AllReadyH.nil)
              go_simp
              go_at_call 55
              refine (unhide HTO _ hHeld.2.2.2.2.2.2.2.1 hHeld.2.2.2.2.2.2.2.2.1 hHeld.2.2.2.2.2.2.2.2.2.1).mono ?_
              rintro e wk ⟨rfl, hbk⟩
              replace hHeld := (unhide HSA).1 _ _ hbk hHeld
              go_wp2_with fail
              refine hK.out _ _ hHeld (fun _ => ?_)
              clear hK K hbk
              try simp only [Act.put, List.setIfInBounds_toArray, List.set_cons_zero, List.set_cons_succ]
              try simp only [hwr, hto]
              refine wpAnyH_take (i := 16) (oi := { dst := some 51, op := Go.Op.binOp Go.BinOp.lss 3 (Go.Operand.tmp 50) (Go.Operand.const (Go.Value.int Go.IntKind.i64 0)) 3, type := 4, pos := "l7_lay.go:64", after := #[{ on := 15, ground := Go.Ground.data }, { on := 2, ground := Go.Ground.guard }], guard := some (2, true) }) (v := ?vc16) rfl (by kernel_rfl) (by kernel_rfl) (by kernel_rfl) (fun _ _ _ h => h) (Or.inl ⟨by rfl, ?yc16⟩) (by assumption) ?rc16
              case yc16 => (intro w hSw; (try dsimp only at hSw); go_simp; try (with_reducible rfl))
              try simp only [Act.put, List.setIfInBounds_toArray, List.set_cons_zero, List.set_cons_succ]
              try simp only [hwr, hto]
              refine wpAnyH_take (i := 17) (oi := { dst := some 52, op := Go.Op.pick (Go.Operand.tmp 37) (Go.Operand.tmp 51) (Go.Operand.const (Go.Value.bool false)), type := 4, pos := "l7_lay.go:64", after := #[{ on := 2, ground := Go.Ground.data }, { on := 16, ground := Go.Ground.data }], guard := none }) (v := ?vc17) rfl (by kernel_rfl) (by kernel_rfl) (by kernel_rfl) (fun _ _ _ h => h) (Or.inl ⟨by rfl, ?yc17⟩) (by assumption) ?rc17
              case yc17 => (intro w hSw; (try dsimp only at hSw); go_simp; try (with_reducible rfl))
              try simp only [Act.put, List.setIfInBounds_toArray, List.set_cons_zero, List.set_cons_succ]
              try simp only [hwr, hto]
              refine wpAnyH_done (by kernel_rfl) ?_ _
              have hB9 := hHeld.2.2.2.2.2.2.2.2.2.2
              have x0 := hHeld.1
              have x1 := hHeld.2.1
              have x2 := hHeld.2.2.1
              clear hHeld
              go_wp2_with fail
              go_quiet (fail)
              go_wp2_with fail
              go_ret2
              exact ⟨by rw [unhide HLN]; rfl, by first | exact hB9 | exact bl_drewN hB9 _ | exact hB9.drew⟩
        · have hql' : ¬ (q : Int) < (f.body.length : Int) := by omega
          have HKX := hide (upto_none (unhide HK) (unhide HRW (fun j hj => unhide HQ j (by omega))))
          go_wp2_with fail
          exact ⟨⟨k + 1, by omega, by go_num, unhide HKX, unhide HX, hB'⟩, by simp [intOf]; omega⟩
    · have hkl' : ¬ (k : Int) < (fs.length : Int) := by omega
      have HE : Hid (lackN fs st r = none) := lackN_none (fun i hi => unhide HK i (by omega))
      go_wp2_with fail
      go_ret2
      exact ⟨by rw [unhide HE]; rfl, hB⟩
end Go.Proofs.YthbbmookhcalkaaGreat.LayU
