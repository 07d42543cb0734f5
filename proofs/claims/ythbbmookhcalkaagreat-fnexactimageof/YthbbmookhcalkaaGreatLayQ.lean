/- The contracts of the program's firstFar, LayTo, LayOk. -/
import Derived.Test.YthbbmookhcalkaaGreatLayP
namespace Go.Proofs.YthbbmookhcalkaaGreat.LayQ
open Go.ChangeShapes Go.WideShapes Go.ChangeAt Go.RowKit Go.Joins Go.WideMaps Go.Maps Go.Deep
open Go.Proofs.YthbbmookhcalkaaGreat.Base Go.Proofs.YthbbmookhcalkaaGreat.InsA Go.Proofs.YthbbmookhcalkaaGreat.Funs Go.Proofs.YthbbmookhcalkaaGreat.Open Go.Proofs.YthbbmookhcalkaaGreat.Keep Go.Proofs.YthbbmookhcalkaaGreat.UnitS Go.Proofs.YthbbmookhcalkaaGreat.UnitM Go.Proofs.YthbbmookhcalkaaGreat.Refs Go.Proofs.YthbbmookhcalkaaGreat.LayN Go.Proofs.YthbbmookhcalkaaGreat.LayA Go.Proofs.YthbbmookhcalkaaGreat.KeepD Go.Proofs.YthbbmookhcalkaaGreat.KeepA Go.Proofs.YthbbmookhcalkaaGreat.LayD Go.Proofs.YthbbmookhcalkaaGreat.LayS Go.Proofs.YthbbmookhcalkaaGreat.LayT Go.Proofs.YthbbmookhcalkaaGreat.LayU Go.Proofs.YthbbmookhcalkaaGreat.LayG Go.Proofs.YthbbmookhcalkaaGreat.LayH Go.Proofs.YthbbmookhcalkaaGreat.LayJ Go.Proofs.YthbbmookhcalkaaGreat.LayK Go.Proofs.YthbbmookhcalkaaGreat.LayV Go.Proofs.YthbbmookhcalkaaGreat.LayM Go.Proofs.YthbbmookhcalkaaGreat.LayO Go.Proofs.YthbbmookhcalkaaGreat.LayP
set_option linter.unusedVariables false
set_option maxRecDepth 100000

/-- An error that tells what is out of reach, or none. -/
def farV : Option (Nat × ByteArray) → Value
  | none => .nilIface
  | some (i, s) => .iface 100 (.agg #[.int .i64 (i : Nat), .string s])
theorem ret_far {o : Option (Nat × ByteArray)} {v : Value} (h : v = farV o) : Ending.returned v = .returned (farV o) := by rw [h]
set_option maxHeartbeats 16000000 in
theorem firstFar_any (a na : Option Addr) (cap nc B1 B2 sz : Nat) (fs : List FunD) (ns : List Int) (st : List (List ByteArray)) (r : Int) (w : World) (hL : Lying fs ns st) (hst : ∀ ss ∈ st, ∀ x ∈ ss, 0 ≤ findI fs x) (hap : apartF fs = true) (hcap : fs.length ≤ cap) (hcm : cap ≤ maxLen) (hR : FunRow w a fs) (hG : GA w na nc B1 B2 fs st) :
    Calls Tryz.prog 46 #[.agg #[.slice na fs.length nc, .map (some B1), .map (some B2), .int .i64 (sz : Int)], .slice a fs.length cap, .int .i64 r] w fun e w' => e = .returned (farV (lackN fs st r)) ∧ Below w.heap.size w w' := by
  have HR := hide hR
  have HG := hide hG
  have hB0 := below_alloc1 w (.cells #[.slice na fs.length nc, .map (some B1), .map (some B2), .int .i64 (sz : Int)] 58)
  have HX := hide (new_block w (.cells #[.slice na fs.length nc, .map (some B1), .map (some B2), .int .i64 (sz : Int)] 58))
  have HL := hide hL
  have h40 := hL.1
  have HTA : Hid (∀ (p : Int) (s : ByteArray) w', 0 ≤ p → p ≤ 100000000 → s.size ≤ maxLen → GA w' na nc B1 B2 fs st → Calls Tryz.prog 48 #[.agg #[.slice na fs.length nc, .map (some B1), .map (some B2), .int .i64 (sz : Int)], .int .i64 r, .int .i64 p, .string s] w' fun e w'' => e = .returned (.int .i64 (toI fs st r p s)) ∧ Below w'.heap.size w' w'') := fun p s w' e0 e1 e2 hg => to_any na nc B1 B2 sz fs ns st r p s w' hL hst hap e0 e1 e2 hg
  clear hR hG hL hst hap
  have hlf : (fs.length : Int) ≤ 9223372036854775807 := by unfold maxLen at hcm; omega
  go_enter Tryz.func46, Tryz.ntmps46
  go_wp2_with fail
  go_loopw [13] (fun i w' => ∃ k : Nat, k ≤ fs.length ∧ i = .int .i64 k ∧ Hid (∀ j, j < k → lackRow fs st r j = none) ∧ w'.heap[w.heap.size]? = some (.cells #[.slice na fs.length nc, .map (some B1), .map (some B2), .int .i64 (sz : Int)] 58) ∧ Below w.heap.size w w') (fun i _ => fs.length - (intOf i).toNat)
  case atStart => exact ⟨0, Nat.zero_le _, rfl, fun j h => by omega, unhide HX, hB0⟩
  case round =>
    obtain ⟨k, hk, rfl, HK, hX, hB⟩ := hrel
    clear HX hB0
    have HX := hide hX
    clear hX
    by_cases hkl : k < fs.length
    · have hkl' : (k : Int) < (fs.length : Int) := by omega
      have hk0 : (0 : Int) ≤ (k : Int) := by omega
      have hkp : k < (placesTo fs st fs.length).length := by rw [placesTo_len]; exact hkl
      obtain ⟨b, off, rfl⟩ := (unhide HR).get (by omega)
      obtain ⟨gb, go', rfl⟩ := (unhide HG).2.2.2.2.get (by omega)
      have HFR := hide ((unhide HR).at hkl)
      have HNC : Hid (∀ w', GA w' (some ⟨gb, go', none⟩) nc B1 B2 fs st → w'.cell? ⟨gb, go' + k, none⟩ = some (.int .i64 (place fs st k : Nat))) := fun w' h => by
        have := h.2.2.2.2.cells hkp
        rw [placesTo_at hkp] at this
        exact this
      have hpb := (unhide HL).small k (by omega)
      have hfl : fs[k].body.length ≤ 10 := (unhide HL).2.1 _ (List.getElem_mem _)
      have HRW : Hid ((∀ j, j < fs[k].body.length → lk fs st r k j = false) → lackRow fs st r k = none) := lackRow_end (lenAt_is hkl).symm
      have HLK := hide (fun q (hq : q < fs[k].body.length) => lk_at (st := st) (r := r) hkl hq)
      have HSO := hide (fun q (hq : q < fs[k].body.length) (e1 : ∀ j, j < q → lk fs st r k j = false) (e2 : lk fs st r k q = true) => lackN_some hkl (unhide HK) hq e1 e2)
      obtain ⟨fi, fc, f0, f1, f2, fn, f4, f5, f6⟩ := (unhide HFR).below hB
      have HF6 := hide (f6.below (below_alloc1 wr (.cells #[.string fs[k].nm, .bool fs[k].wk, .slice fi fs[k].body.length fc] 51)))
      have HX1 := hide (box_below (unhide HX) (below_alloc1 wr (.cells #[.string fs[k].nm, .bool fs[k].wk, .slice fi fs[k].body.length fc] 51)))
      have hB1 := bl_alloc hB (.cells #[.string fs[k].nm, .bool fs[k].wk, .slice fi fs[k].body.length fc] 51)
      clear f6 hkp HX hB
      generalize fs[k] = f at *
      generalize place fs st k = pl at *
      go_wp2_with fail
      clear f0 f1 f2
      generalize wr.alloc (.cells #[.string f.nm, .bool f.wk, .slice fi f.body.length fc] 51) = W1 at *
      go_loopw [21] (fun i w' => ∃ q : Nat, q ≤ f.body.length ∧ i = .int .i64 q ∧ Hid (∀ j, j < q → lk fs st r k j = false) ∧ w'.heap[w.heap.size]? = some (.cells #[.slice (some ⟨gb, go', none⟩) fs.length nc, .map (some B1), .map (some B2), .int .i64 (sz : Int)] 58) ∧ Below W1.heap.size W1 w' ∧ Below w.heap.size w w') (fun i _ => f.body.length - (intOf i).toNat)
      case atStart => exact ⟨0, Nat.zero_le _, rfl, fun j h => by omega, unhide HX1, Below.refl _ _, hB1⟩
      case round =>
        obtain ⟨q, hq, rfl, HQ, hX, hBW, hB'⟩ := hrel
        clear HX1 hB1
        have HX := hide hX
        clear hX
        by_cases hql : q < f.body.length
        · have hql' : (q : Int) < (f.body.length : Int) := by omega
          obtain ⟨ib, io, rfl⟩ := (unhide HF6).get (by omega)
          obtain ⟨i0, i1, i2, hxs⟩ := ((unhide HF6).below hBW).cells hql
          have HE := hide (unhide HLK q hql)
          have HSQ := hide (unhide HSO q hql (unhide HQ))
          have hwr : IntKind.i64.wrap ((pl : Int) + (q : Int)) = (pl : Int) + (q : Int) := by rw [IntKind.wrap_i64]; omega
          have HTO := hide (fun w' => unhide HTA ((pl : Int) + (q : Int)) f.body[q].s w' (by omega) (by omega) hxs)
          generalize f.body[q] = x at *
          have HSA : Hid (Stable (fun w' => w'.cell? ⟨wr.heap.size, 0, none⟩ = some (.int .i64 x.o) ∧ w'.cell? ⟨wr.heap.size, 1, none⟩ = some (.int .i64 x.n) ∧ w'.cell? ⟨wr.heap.size, 2, none⟩ = some (.string x.s) ∧ w'.cell? ⟨w.heap.size, 0, none⟩ = some (.slice (some ⟨gb, go', none⟩) fs.length nc) ∧ w'.cell? ⟨w.heap.size, 1, none⟩ = some (.map (some B1)) ∧ w'.cell? ⟨w.heap.size, 2, none⟩ = some (.map (some B2)) ∧ w'.cell? ⟨w.heap.size, 3, none⟩ = some (.int .i64 (sz : Int)) ∧ w'.cell? ⟨gb, go' + k, none⟩ = some (.int .i64 (pl : Nat)) ∧ w'.heap[w.heap.size]? = some (.cells #[.slice (some ⟨gb, go', none⟩) fs.length nc, .map (some B1), .map (some B2), .int .i64 (sz : Int)] 58) ∧ GA w' (some ⟨gb, go', none⟩) nc B1 B2 fs st ∧ FunRow w' (some ⟨b, off, none⟩) fs ∧ Below W1.heap.size W1 w' ∧ Below w.heap.size w w')) := (Stable.cell _ _).and ((Stable.cell _ _).and ((Stable.cell _ _).and ((Stable.cell _ _).and ((Stable.cell _ _).and ((Stable.cell _ _).and ((Stable.cell _ _).and ((Stable.cell _ _).and ((Stable.box _ _).and ((Stable.ga _ _ _ _ _ _).and ((Stable.frow _ _).and ((Stable.below W1).and (Stable.below w))))))))))))
          have hbx := below_alloc1 wr (.cells #[.int .i64 x.o, .int .i64 x.n, .string x.s] 61)
          have HBW := hide (bl_trans hBW hbx)
          have HS0 : Hid ((fun w' => w'.cell? ⟨wr.heap.size, 0, none⟩ = some (.int .i64 x.o) ∧ w'.cell? ⟨wr.heap.size, 1, none⟩ = some (.int .i64 x.n) ∧ w'.cell? ⟨wr.heap.size, 2, none⟩ = some (.string x.s) ∧ w'.cell? ⟨w.heap.size, 0, none⟩ = some (.slice (some ⟨gb, go', none⟩) fs.length nc) ∧ w'.cell? ⟨w.heap.size, 1, none⟩ = some (.map (some B1)) ∧ w'.cell? ⟨w.heap.size, 2, none⟩ = some (.map (some B2)) ∧ w'.cell? ⟨w.heap.size, 3, none⟩ = some (.int .i64 (sz : Int)) ∧ w'.cell? ⟨gb, go' + k, none⟩ = some (.int .i64 (pl : Nat)) ∧ w'.heap[w.heap.size]? = some (.cells #[.slice (some ⟨gb, go', none⟩) fs.length nc, .map (some B1), .map (some B2), .int .i64 (sz : Int)] 58) ∧ GA w' (some ⟨gb, go', none⟩) nc B1 B2 fs st ∧ FunRow w' (some ⟨b, off, none⟩) fs ∧ Below W1.heap.size W1 w' ∧ Below w.heap.size w w') (wr.alloc (.cells #[.int .i64 x.o, .int .i64 x.n, .string x.s] 61))) := by
            have n3 := box3' (w := wr) (v0 := .int .i64 x.o) (v1 := .int .i64 x.n) (v2 := .string x.s) (t := 61)
            have hb2 := bl_trans hB' hbx
            have hx1 := box_below (unhide HX) hbx
            have hx2 := (box4 hx1).1
            exact ⟨n3.1, n3.2.1, n3.2.2, hx2.1, hx2.2.1, hx2.2.2.1, hx2.2.2.2, unhide HNC _ ((unhide HG).below hb2), hx1, (unhide HG).below hb2, (unhide HR).below hb2, unhide HBW, hb2⟩
          clear HNC hbx
          cases hrf : refsB x.o
          · have HLN : Hid (lk fs st r k q = false) := by show _ = _; rw [unhide HE, hrf]; rfl
            go_wp2_with fail
            clear i0 i1 i2
            refine wp_region_held_drew (S := (fun w' => w'.cell? ⟨wr.heap.size, 0, none⟩ = some (.int .i64 x.o) ∧ w'.cell? ⟨wr.heap.size, 1, none⟩ = some (.int .i64 x.n) ∧ w'.cell? ⟨wr.heap.size, 2, none⟩ = some (.string x.s) ∧ w'.cell? ⟨w.heap.size, 0, none⟩ = some (.slice (some ⟨gb, go', none⟩) fs.length nc) ∧ w'.cell? ⟨w.heap.size, 1, none⟩ = some (.map (some B1)) ∧ w'.cell? ⟨w.heap.size, 2, none⟩ = some (.map (some B2)) ∧ w'.cell? ⟨w.heap.size, 3, none⟩ = some (.int .i64 (sz : Int)) ∧ w'.cell? ⟨gb, go' + k, none⟩ = some (.int .i64 (pl : Nat)) ∧ w'.heap[w.heap.size]? = some (.cells #[.slice (some ⟨gb, go', none⟩) fs.length nc, .map (some B1), .map (some B2), .int .i64 (sz : Int)] 58) ∧ GA w' (some ⟨gb, go', none⟩) nc B1 B2 fs st ∧ FunRow w' (some ⟨b, off, none⟩) fs ∧ Below W1.heap.size W1 w' ∧ Below w.heap.size w w')) (by kernel_rfl) ((unhide HSA).2 _ (unhide HS0)) (fun hHeld => ?_)
            refine wpAnyH_take (i := 0) (oi := { dst := some 26, op := Go.Op.load 61 (Go.Operand.tmp 10), type := 61, pos := "l7_lay.go:190", after := #[], guard := none }) (v := ?va0) rfl (by kernel_rfl) (by kernel_rfl) (by kernel_rfl) (fun _ _ _ h => h) (Or.inl ⟨by rfl, ?ya0⟩) (by assumption) ?ra0
            case ya0 => (intro w hSw; (try dsimp only at hSw); go_simp; try (with_reducible rfl))
            try simp only [Act.put, List.setIfInBounds_toArray, List.set_cons_zero, List.set_cons_succ]
            refine wpAnyH_ready (rs := [1]) (by kernel_rfl) (by simp) (AllReadyH.cons (o := { dst := some 27, op := Go.Op.call { callee := Go.Callee.value (Go.Operand.func 47), args := #[Go.Operand.tmp 26], argTypes := #[61] }, type := 4, pos := "l7_lay.go:190", after := #[{ on := 0, ground := Go.Ground.data }], guard := none }) rfl (fun K hK => ?_) AllReadyH.nil)
            go_simp
            go_at_call 47
            refine (implRefs_any _ _ _ _).mono ?_
            rw [hrf]
            rintro e wk ⟨rfl, hbk⟩
            replace hHeld := (unhide HSA).1 _ _ hbk hHeld
            go_wp2_with fail
            refine hK.out _ _ hHeld (fun _ => ?_)
            clear hK K hbk
            try simp only [Act.put, List.setIfInBounds_toArray, List.set_cons_zero, List.set_cons_succ]
            refine wpAnyH_take (i := 2) (oi := { dst := some 28, op := Go.Op.move (Go.Operand.tmp 27), type := 4, pos := "l7_lay.go:190", after := #[{ on := 1, ground := Go.Ground.data }, { on := 1, ground := Go.Ground.chain }], guard := none }) (v := ?va2) rfl (by kernel_rfl) (by kernel_rfl) (by kernel_rfl) (fun _ _ _ h => h) (Or.inl ⟨by rfl, ?ya2⟩) (by assumption) ?ra2
            case ya2 => (intro w hSw; (try dsimp only at hSw); go_simp; try (with_reducible rfl))
            try simp only [Act.put, List.setIfInBounds_toArray, List.set_cons_zero, List.set_cons_succ]
            refine wpAnyH_take (i := 3) (oi := { dst := some 29, op := Go.Op.load 58 (Go.Operand.tmp 3), type := 58, pos := "l7_lay.go:190", after := #[{ on := 2, ground := Go.Ground.guard }], guard := some (2, true) }) (v := undef) rfl (by kernel_rfl) (by kernel_rfl) (by kernel_rfl) (fun _ _ _ h => h) (Or.inr ⟨by rfl, rfl⟩) (by assumption) ?_
            try simp only [Act.put, List.setIfInBounds_toArray, List.set_cons_zero, List.set_cons_succ]
            refine wpAnyH_take (i := 4) (oi := { dst := some 30, op := Go.Op.move (Go.Operand.tmp 2), type := 3, pos := "l7_lay.go:190", after := #[{ on := 2, ground := Go.Ground.guard }], guard := some (2, true) }) (v := undef) rfl (by kernel_rfl) (by kernel_rfl) (by kernel_rfl) (fun _ _ _ h => h) (Or.inr ⟨by rfl, rfl⟩) (by assumption) ?_
            try simp only [Act.put, List.setIfInBounds_toArray, List.set_cons_zero, List.set_cons_succ]
            refine wpAnyH_take (i := 5) (oi := { dst := some 31, op := Go.Op.fieldAddr 58 (Go.Operand.tmp 3) 0, type := 0, pos := "l7_lay.go:190", after := #[{ on := 2, ground := Go.Ground.guard }], guard := some (2, true) }) (v := undef) rfl (by kernel_rfl) (by kernel_rfl) (by kernel_rfl) (fun _ _ _ h => h) (Or.inr ⟨by rfl, rfl⟩) (by assumption) ?_
            try simp only [Act.put, List.setIfInBounds_toArray, List.set_cons_zero, List.set_cons_succ]
            refine wpAnyH_take (i := 6) (oi := { dst := some 32, op := Go.Op.load 23 (Go.Operand.tmp 31), type := 23, pos := "l7_lay.go:190", after := #[{ on := 5, ground := Go.Ground.data }, { on := 2, ground := Go.Ground.guard }], guard := some (2, true) }) (v := undef) rfl (by kernel_rfl) (by kernel_rfl) (by kernel_rfl) (fun _ _ _ h => h) (Or.inr ⟨by rfl, rfl⟩) (by assumption) ?_
            try simp only [Act.put, List.setIfInBounds_toArray, List.set_cons_zero, List.set_cons_succ]
            refine wpAnyH_take (i := 7) (oi := { dst := some 33, op := Go.Op.move (Go.Operand.tmp 7), type := 3, pos := "l7_lay.go:190", after := #[{ on := 2, ground := Go.Ground.guard }], guard := some (2, true) }) (v := undef) rfl (by kernel_rfl) (by kernel_rfl) (by kernel_rfl) (fun _ _ _ h => h) (Or.inr ⟨by rfl, rfl⟩) (by assumption) ?_
            try simp only [Act.put, List.setIfInBounds_toArray, List.set_cons_zero, List.set_cons_succ]
            refine wpAnyH_take (i := 8) (oi := { dst := some 34, op := Go.Op.indexAddr 23 (Go.Operand.tmp 32) (Go.Operand.tmp 33), type := 0, pos := "l7_lay.go:190", after := #[{ on := 6, ground := Go.Ground.data }, { on := 7, ground := Go.Ground.data }, { on := 2, ground := Go.Ground.guard }], guard := some (2, true) }) (v := undef) rfl (by kernel_rfl) (by kernel_rfl) (by kernel_rfl) (fun _ _ _ h => h) (Or.inr ⟨by rfl, rfl⟩) (by assumption) ?_
            try simp only [Act.put, List.setIfInBounds_toArray, List.set_cons_zero, List.set_cons_succ]
            refine wpAnyH_take (i := 9) (oi := { dst := some 35, op := Go.Op.load 3 (Go.Operand.tmp 34), type := 3, pos := "l7_lay.go:190", after := #[{ on := 8, ground := Go.Ground.data }, { on := 2, ground := Go.Ground.guard }], guard := some (2, true) }) (v := undef) rfl (by kernel_rfl) (by kernel_rfl) (by kernel_rfl) (fun _ _ _ h => h) (Or.inr ⟨by rfl, rfl⟩) (by assumption) ?_
            try simp only [Act.put, List.setIfInBounds_toArray, List.set_cons_zero, List.set_cons_succ]
            refine wpAnyH_take (i := 10) (oi := { dst := some 36, op := Go.Op.move (Go.Operand.tmp 9), type := 3, pos := "l7_lay.go:190", after := #[{ on := 2, ground := Go.Ground.guard }], guard := some (2, true) }) (v := undef) rfl (by kernel_rfl) (by kernel_rfl) (by kernel_rfl) (fun _ _ _ h => h) (Or.inr ⟨by rfl, rfl⟩) (by assumption) ?_
            try simp only [Act.put, List.setIfInBounds_toArray, List.set_cons_zero, List.set_cons_succ]
            refine wpAnyH_take (i := 11) (oi := { dst := some 37, op := Go.Op.binOp Go.BinOp.add 3 (Go.Operand.tmp 35) (Go.Operand.tmp 36) 3, type := 3, pos := "l7_lay.go:190", after := #[{ on := 9, ground := Go.Ground.data }, { on := 10, ground := Go.Ground.data }, { on := 2, ground := Go.Ground.guard }], guard := some (2, true) }) (v := undef) rfl (by kernel_rfl) (by kernel_rfl) (by kernel_rfl) (fun _ _ _ h => h) (Or.inr ⟨by rfl, rfl⟩) (by assumption) ?_
            try simp only [Act.put, List.setIfInBounds_toArray, List.set_cons_zero, List.set_cons_succ]
            refine wpAnyH_take (i := 12) (oi := { dst := some 38, op := Go.Op.fieldAddr 61 (Go.Operand.tmp 10) 2, type := 0, pos := "l7_lay.go:190", after := #[{ on := 2, ground := Go.Ground.guard }], guard := some (2, true) }) (v := undef) rfl (by kernel_rfl) (by kernel_rfl) (by kernel_rfl) (fun _ _ _ h => h) (Or.inr ⟨by rfl, rfl⟩) (by assumption) ?_
            try simp only [Act.put, List.setIfInBounds_toArray, List.set_cons_zero, List.set_cons_succ]
            refine wpAnyH_take (i := 13) (oi := { dst := some 39, op := Go.Op.load 9 (Go.Operand.tmp 38), type := 9, pos := "l7_lay.go:190", after := #[{ on := 12, ground := Go.Ground.data }, { on := 2, ground := Go.Ground.guard }], guard := some (2, true) }) (v := undef) rfl (by kernel_rfl) (by kernel_rfl) (by kernel_rfl) (fun _ _ _ h => h) (Or.inr ⟨by rfl, rfl⟩) (by assumption) ?_
            try simp only [Act.put, List.setIfInBounds_toArray, List.set_cons_zero, List.set_cons_succ]
            refine wpAnyH_take (i := 14) (oi := { dst := some 40, op := Go.Op.call { callee := Go.Callee.value (Go.Operand.func 48), args := #[Go.Operand.tmp 29, Go.Operand.tmp 30, Go.Operand.tmp 37, Go.Operand.tmp 39], argTypes := #[58, 3, 3, 9] }, type := 3, pos := "l7_lay.go:190", after := #[{ on := 3, ground := Go.Ground.data }, { on := 4, ground := Go.Ground.data }, { on := 11, ground := Go.Ground.data }, { on := 13, ground := Go.Ground.data }, { on := 2, ground := Go.Ground.chain }, { on := 2, ground := Go.Ground.guard }], guard := some (2, true) }) (v := undef) rfl (by kernel_rfl) (by kernel_rfl) (by kernel_rfl) (fun _ _ _ h => h) (Or.inr ⟨by rfl, rfl⟩) (by assumption) ?_
            try simp only [Act.put, List.setIfInBounds_toArray, List.set_cons_zero, List.set_cons_succ]
            refine wpAnyH_take (i := 15) (oi := { dst := some 41, op := Go.Op.binOp Go.BinOp.lss 3 (Go.Operand.tmp 40) (Go.Operand.const (Go.Value.int Go.IntKind.i64 0)) 3, type := 4, pos := "l7_lay.go:190", after := #[{ on := 14, ground := Go.Ground.data }, { on := 2, ground := Go.Ground.guard }], guard := some (2, true) }) (v := undef) rfl (by kernel_rfl) (by kernel_rfl) (by kernel_rfl) (fun _ _ _ h => h) (Or.inr ⟨by rfl, rfl⟩) (by assumption) ?_
            try simp only [Act.put, List.setIfInBounds_toArray, List.set_cons_zero, List.set_cons_succ]
            refine wpAnyH_take (i := 16) (oi := { dst := some 42, op := Go.Op.pick (Go.Operand.tmp 28) (Go.Operand.tmp 41) (Go.Operand.const (Go.Value.bool false)), type := 4, pos := "l7_lay.go:190", after := #[{ on := 2, ground := Go.Ground.data }, { on := 15, ground := Go.Ground.data }], guard := none }) (v := ?va16) rfl (by kernel_rfl) (by kernel_rfl) (by kernel_rfl) (fun _ _ _ h => h) (Or.inl ⟨by rfl, ?ya16⟩) (by assumption) ?ra16
            case ya16 => (intro w hSw; (try dsimp only at hSw); go_simp; try (with_reducible rfl))
            try simp only [Act.put, List.setIfInBounds_toArray, List.set_cons_zero, List.set_cons_succ]
            refine wpAnyH_done (by kernel_rfl) ?_ _
            have hB9 := hHeld.2.2.2.2.2.2.2.2.2.2.2.2
            have HX9 := hide hHeld.2.2.2.2.2.2.2.2.1
            have hB8 := hHeld.2.2.2.2.2.2.2.2.2.2.2.1
            clear hHeld
            go_wp2_with fail
            exact ⟨⟨q + 1, by omega, by go_num, upto_step (unhide HQ) (unhide HLN), unhide HX9, hB8, hB9⟩, by simp [intOf]; omega⟩
          · cases hto : decide (toI fs st r ((pl : Int) + (q : Int)) x.s < 0)
            · have HLN : Hid (lk fs st r k q = false) := by show _ = _; rw [unhide HE, hrf, hto]; rfl
              generalize toI fs st r ((pl : Int) + (q : Int)) x.s = tz at *
              go_wp2_with fail
              clear i0 i1 i2
              refine wp_region_held_drew (S := (fun w' => w'.cell? ⟨wr.heap.size, 0, none⟩ = some (.int .i64 x.o) ∧ w'.cell? ⟨wr.heap.size, 1, none⟩ = some (.int .i64 x.n) ∧ w'.cell? ⟨wr.heap.size, 2, none⟩ = some (.string x.s) ∧ w'.cell? ⟨w.heap.size, 0, none⟩ = some (.slice (some ⟨gb, go', none⟩) fs.length nc) ∧ w'.cell? ⟨w.heap.size, 1, none⟩ = some (.map (some B1)) ∧ w'.cell? ⟨w.heap.size, 2, none⟩ = some (.map (some B2)) ∧ w'.cell? ⟨w.heap.size, 3, none⟩ = some (.int .i64 (sz : Int)) ∧ w'.cell? ⟨gb, go' + k, none⟩ = some (.int .i64 (pl : Nat)) ∧ w'.heap[w.heap.size]? = some (.cells #[.slice (some ⟨gb, go', none⟩) fs.length nc, .map (some B1), .map (some B2), .int .i64 (sz : Int)] 58) ∧ GA w' (some ⟨gb, go', none⟩) nc B1 B2 fs st ∧ FunRow w' (some ⟨b, off, none⟩) fs ∧ Below W1.heap.size W1 w' ∧ Below w.heap.size w w')) (by kernel_rfl) ((unhide HSA).2 _ (unhide HS0)) (fun hHeld => ?_)
              refine wpAnyH_take (i := 0) (oi := { dst := some 26, op := Go.Op.load 61 (Go.Operand.tmp 10), type := 61, pos := "l7_lay.go:190", after := #[], guard := none }) (v := ?vb0) rfl (by kernel_rfl) (by kernel_rfl) (by kernel_rfl) (fun _ _ _ h => h) (Or.inl ⟨by rfl, ?yb0⟩) (by assumption) ?rb0
              case yb0 => (intro w hSw; (try dsimp only at hSw); go_simp; try (with_reducible rfl))
              try simp only [Act.put, List.setIfInBounds_toArray, List.set_cons_zero, List.set_cons_succ]
              try simp only [hwr, hto]
              refine wpAnyH_ready (rs := [1]) (by kernel_rfl) (by simp) (AllReadyH.cons (o := { dst := some 27, op := Go.Op.call { callee := Go.Callee.value (Go.Operand.func 47), args := #[Go.Operand.tmp 26], argTypes := #[61] }, type := 4, pos := "l7_lay.go:190", after := #[{ on := 0, ground := Go.Ground.data }], guard := none }) rfl (fun K hK => ?_) AllReadyH.nil)
              go_simp
              go_at_call 47
              refine (implRefs_any _ _ _ _).mono ?_
              rw [hrf]
              rintro e wk ⟨rfl, hbk⟩
              replace hHeld := (unhide HSA).1 _ _ hbk hHeld
              go_wp2_with fail
              refine hK.out _ _ hHeld (fun _ => ?_)
              clear hK K hbk
              try simp only [Act.put, List.setIfInBounds_toArray, List.set_cons_zero, List.set_cons_succ]
              try simp only [hwr, hto]
              refine wpAnyH_take (i := 2) (oi := { dst := some 28, op := Go.Op.move (Go.Operand.tmp 27), type := 4, pos := "l7_lay.go:190", after := #[{ on := 1, ground := Go.Ground.data }, { on := 1, ground := Go.Ground.chain }], guard := none }) (v := ?vb2) rfl (by kernel_rfl) (by kernel_rfl) (by kernel_rfl) (fun _ _ _ h => h) (Or.inl ⟨by rfl, ?yb2⟩) (by assumption) ?rb2
              case yb2 => (intro w hSw; (try dsimp only at hSw); go_simp; try (with_reducible rfl))
              try simp only [Act.put, List.setIfInBounds_toArray, List.set_cons_zero, List.set_cons_succ]
              try simp only [hwr, hto]
              refine wpAnyH_take (i := 3) (oi := { dst := some 29, op := Go.Op.load 58 (Go.Operand.tmp 3), type := 58, pos := "l7_lay.go:190", after := #[{ on := 2, ground := Go.Ground.guard }], guard := some (2, true) }) (v := ?vb3) rfl (by kernel_rfl) (by kernel_rfl) (by kernel_rfl) (fun _ _ _ h => h) (Or.inl ⟨by rfl, ?yb3⟩) (by assumption) ?rb3
              case yb3 => (intro w hSw; (try dsimp only at hSw); go_simp; try (with_reducible rfl))
              try simp only [Act.put, List.setIfInBounds_toArray, List.set_cons_zero, List.set_cons_succ]
              try simp only [hwr, hto]
              refine wpAnyH_take (i := 4) (oi := { dst := some 30, op := Go.Op.move (Go.Operand.tmp 2), type := 3, pos := "l7_lay.go:190", after := #[{ on := 2, ground := Go.Ground.guard }], guard := some (2, true) }) (v := ?vb4) rfl (by kernel_rfl) (by kernel_rfl) (by kernel_rfl) (fun _ _ _ h => h) (Or.inl ⟨by rfl, ?yb4⟩) (by assumption) ?rb4
              case yb4 => (intro w hSw; (try dsimp only at hSw); go_simp; try (with_reducible rfl))
              try simp only [Act.put, List.setIfInBounds_toArray, List.set_cons_zero, List.set_cons_succ]
              try simp only [hwr, hto]
              refine wpAnyH_take (i := 5) (oi := { dst := some 31, op := Go.Op.fieldAddr 58 (Go.Operand.tmp 3) 0, type := 0, pos := "l7_lay.go:190", after := #[{ on := 2, ground := Go.Ground.guard }], guard := some (2, true) }) (v := ?vb5) rfl (by kernel_rfl) (by kernel_rfl) (by kernel_rfl) (fun _ _ _ h => h) (Or.inl ⟨by rfl, ?yb5⟩) (by assumption) ?rb5
              case yb5 => (intro w hSw; (try dsimp only at hSw); go_simp; try (with_reducible rfl))
              try simp only [Act.put, List.setIfInBounds_toArray, List.set_cons_zero, List.set_cons_succ]
              try simp only [hwr, hto]
              refine wpAnyH_take (i := 6) (oi := { dst := some 32, op := Go.Op.load 23 (Go.Operand.tmp 31), type := 23, pos := "l7_lay.go:190", after := #[{ on := 5, ground := Go.Ground.data }, { on := 2, ground := Go.Ground.guard }], guard := some (2, true) }) (v := ?vb6) rfl (by kernel_rfl) (by kernel_rfl) (by kernel_rfl) (fun _ _ _ h => h) (Or.inl ⟨by rfl, ?yb6⟩) (by assumption) ?rb6
              case yb6 => (intro w hSw; (try dsimp only at hSw); go_simp; try (with_reducible rfl))
              try simp only [Act.put, List.setIfInBounds_toArray, List.set_cons_zero, List.set_cons_succ]
              try simp only [hwr, hto]
              refine wpAnyH_take (i := 7) (oi := { dst := some 33, op := Go.Op.move (Go.Operand.tmp 7), type := 3, pos := "l7_lay.go:190", after := #[{ on := 2, ground := Go.Ground.guard }], guard := some (2, true) }) (v := ?vb7) rfl (by kernel_rfl) (by kernel_rfl) (by kernel_rfl) (fun _ _ _ h => h) (Or.inl ⟨by rfl, ?yb7⟩) (by assumption) ?rb7
              case yb7 => (intro w hSw; (try dsimp only at hSw); go_simp; try (with_reducible rfl))
              try simp only [Act.put, List.setIfInBounds_toArray, List.set_cons_zero, List.set_cons_succ]
              try simp only [hwr, hto]
              refine wpAnyH_take (i := 8) (oi := { dst := some 34, op := Go.Op.indexAddr 23 (Go.Operand.tmp 32) (Go.Operand.tmp 33), type := 0, pos := "l7_lay.go:190", after := #[{ on := 6, ground := Go.Ground.data }, { on := 7, ground := Go.Ground.data }, { on := 2, ground := Go.Ground.guard }], guard := some (2, true) }) (v := ?vb8) rfl (by kernel_rfl) (by kernel_rfl) (by kernel_rfl) (fun _ _ _ h => h) (Or.inl ⟨by rfl, ?yb8⟩) (by assumption) ?rb8
              case yb8 => (intro w hSw; (try dsimp only at hSw); go_simp; try (with_reducible rfl))
              try simp only [Act.put, List.setIfInBounds_toArray, List.set_cons_zero, List.set_cons_succ]
              try simp only [hwr, hto]
              refine wpAnyH_take (i := 9) (oi := { dst := some 35, op := Go.Op.load 3 (Go.Operand.tmp 34), type := 3, pos := "l7_lay.go:190", after := #[{ on := 8, ground := Go.Ground.data }, { on := 2, ground := Go.Ground.guard }], guard := some (2, true) }) (v := ?vb9) rfl (by kernel_rfl) (by kernel_rfl) (by kernel_rfl) (fun _ _ _ h => h) (Or.inl ⟨by rfl, ?yb9⟩) (by assumption) ?rb9
              case yb9 => (intro w hSw; (try dsimp only at hSw); go_simp; try (with_reducible rfl))
              try simp only [Act.put, List.setIfInBounds_toArray, List.set_cons_zero, List.set_cons_succ]
              try simp only [hwr, hto]
              refine wpAnyH_take (i := 10) (oi := { dst := some 36, op := Go.Op.move (Go.Operand.tmp 9), type := 3, pos := "l7_lay.go:190", after := #[{ on := 2, ground := Go.Ground.guard }], guard := some (2, true) }) (v := ?vb10) rfl (by kernel_rfl) (by kernel_rfl) (by kernel_rfl) (fun _ _ _ h => h) (Or.inl ⟨by rfl, ?yb10⟩) (by assumption) ?rb10
              case yb10 => (intro w hSw; (try dsimp only at hSw); go_simp; try (with_reducible rfl))
              try simp only [Act.put, List.setIfInBounds_toArray, List.set_cons_zero, List.set_cons_succ]
              try simp only [hwr, hto]
              refine wpAnyH_take (i := 11) (oi := { dst := some 37, op := Go.Op.binOp Go.BinOp.add 3 (Go.Operand.tmp 35) (Go.Operand.tmp 36) 3, type := 3, pos := "l7_lay.go:190", after := #[{ on := 9, ground := Go.Ground.data }, { on := 10, ground := Go.Ground.data }, { on := 2, ground := Go.Ground.guard }], guard := some (2, true) }) (v := ?vb11) rfl (by kernel_rfl) (by kernel_rfl) (by kernel_rfl) (fun _ _ _ h => h) (Or.inl ⟨by rfl, ?yb11⟩) (by assumption) ?rb11
              case yb11 => (intro w hSw; (try dsimp only at hSw); go_simp; try (with_reducible rfl))
              try simp only [Act.put, List.setIfInBounds_toArray, List.set_cons_zero, List.set_cons_succ]
              try simp only [hwr, hto]
              refine wpAnyH_take (i := 12) (oi := { dst := some 38, op := Go.Op.fieldAddr 61 (Go.Operand.tmp 10) 2, type := 0, pos := "l7_lay.go:190", after := #[{ on := 2, ground := Go.Ground.guard }], guard := some (2, true) }) (v := ?vb12) rfl (by kernel_rfl) (by kernel_rfl) (by kernel_rfl) (fun _ _ _ h => h) (Or.inl ⟨by rfl, ?yb12⟩) (by assumption) ?rb12
              case yb12 => (intro w hSw; (try dsimp only at hSw); go_simp; try (with_reducible rfl))
              try simp only [Act.put, List.setIfInBounds_toArray, List.set_cons_zero, List.set_cons_succ]
              try simp only [hwr, hto]
              refine wpAnyH_take (i := 13) (oi := { dst := some 39, op := Go.Op.load 9 (Go.Operand.tmp 38), type := 9, pos := "l7_lay.go:190", after := #[{ on := 12, ground := Go.Ground.data }, { on := 2, ground := Go.Ground.guard }], guard := some (2, true) }) (v := ?vb13) rfl (by kernel_rfl) (by kernel_rfl) (by kernel_rfl) (fun _ _ _ h => h) (Or.inl ⟨by rfl, ?yb13⟩) (by assumption) ?rb13
              case yb13 => (intro w hSw; (try dsimp only at hSw); go_simp; try (with_reducible rfl))
              try simp only [Act.put, List.setIfInBounds_toArray, List.set_cons_zero, List.set_cons_succ]
              try simp only [hwr, hto]
              refine wpAnyH_ready (rs := [14]) (by kernel_rfl) (by simp) (AllReadyH.cons (o := { dst := some 40, op := Go.Op.call { callee := Go.Callee.value (Go.Operand.func 48), args := #[Go.Operand.tmp 29, Go.Operand.tmp 30, Go.Operand.tmp 37, Go.Operand.tmp 39], argTypes := #[58, 3, 3, 9] }, type := 3, pos := "l7_lay.go:190", after := #[{ on := 3, ground := Go.Ground.data }, { on := 4, ground := Go.Ground.data }, { on := 11, ground := Go.Ground.data }, { on := 13, ground := Go.Ground.data }, { on := 2, ground := Go.Ground.chain }, { on := 2, ground := Go.Ground.guard }], guard := some (2, true) }) rfl (fun K hK => ?_) AllReadyH.nil)
              go_simp
              go_at_call 48
              refine (unhide HTO _ hHeld.2.2.2.2.2.2.2.2.2.1).mono ?_
              rintro e wk ⟨rfl, hbk⟩
              replace hHeld := (unhide HSA).1 _ _ hbk hHeld
              go_wp2_with fail
              refine hK.out _ _ hHeld (fun _ => ?_)
              clear hK K hbk
              try simp only [Act.put, List.setIfInBounds_toArray, List.set_cons_zero, List.set_cons_succ]
              try simp only [hwr, hto]
              refine wpAnyH_take (i := 15) (oi := { dst := some 41, op := Go.Op.binOp Go.BinOp.lss 3 (Go.Operand.tmp 40) (Go.Operand.const (Go.Value.int Go.IntKind.i64 0)) 3, type := 4, pos := "l7_lay.go:190", after := #[{ on := 14, ground := Go.Ground.data }, { on := 2, ground := Go.Ground.guard }], guard := some (2, true) }) (v := ?vb15) rfl (by kernel_rfl) (by kernel_rfl) (by kernel_rfl) (fun _ _ _ h => h) (Or.inl ⟨by rfl, ?yb15⟩) (by assumption) ?rb15
              case yb15 => (intro w hSw; (try dsimp only at hSw); go_simp; try (with_reducible rfl))
              try simp only [Act.put, List.setIfInBounds_toArray, List.set_cons_zero, List.set_cons_succ]
              try simp only [hwr, hto]
              refine wpAnyH_take (i := 16) (oi := { dst := some 42, op := Go.Op.pick (Go.Operand.tmp 28) (Go.Operand.tmp 41) (Go.Operand.const (Go.Value.bool false)), type := 4, pos := "l7_lay.go:190", after := #[{ on := 2, ground := Go.Ground.data }, { on := 15, ground := Go.Ground.data }], guard := none }) (v := ?vb16) rfl (by kernel_rfl) (by kernel_rfl) (by kernel_rfl) (fun _ _ _ h => h) (Or.inl ⟨by rfl, ?yb16⟩) (by assumption) ?rb16
              case yb16 => (intro w hSw; (try dsimp only at hSw); go_simp; try (with_reducible rfl))
              try simp only [Act.put, List.setIfInBounds_toArray, List.set_cons_zero, List.set_cons_succ]
              try simp only [hwr, hto]
              refine wpAnyH_done (by kernel_rfl) ?_ _
              have hB9 := hHeld.2.2.2.2.2.2.2.2.2.2.2.2
              have HX9 := hide hHeld.2.2.2.2.2.2.2.2.1
              have hB8 := hHeld.2.2.2.2.2.2.2.2.2.2.2.1
              clear hHeld
              go_wp2_with fail
              exact ⟨⟨q + 1, by omega, by go_num, upto_step (unhide HQ) (unhide HLN), unhide HX9, hB8, hB9⟩, by simp [intOf]; omega⟩
            · have HLN : Hid (lackN fs st r = some (k, x.s)) := unhide HSQ (by rw [unhide HE, hrf, hto]; rfl)
              generalize toI fs st r ((pl : Int) + (q : Int)) x.s = tz at *
              go_wp2_with fail
              clear i0 i1 i2
              refine wp_region_held_drew (S := (fun w' => w'.cell? ⟨wr.heap.size, 0, none⟩ = some (.int .i64 x.o) ∧ w'.cell? ⟨wr.heap.size, 1, none⟩ = some (.int .i64 x.n) ∧ w'.cell? ⟨wr.heap.size, 2, none⟩ = some (.string x.s) ∧ w'.cell? ⟨w.heap.size, 0, none⟩ = some (.slice (some ⟨gb, go', none⟩) fs.length nc) ∧ w'.cell? ⟨w.heap.size, 1, none⟩ = some (.map (some B1)) ∧ w'.cell? ⟨w.heap.size, 2, none⟩ = some (.map (some B2)) ∧ w'.cell? ⟨w.heap.size, 3, none⟩ = some (.int .i64 (sz : Int)) ∧ w'.cell? ⟨gb, go' + k, none⟩ = some (.int .i64 (pl : Nat)) ∧ w'.heap[w.heap.size]? = some (.cells #[.slice (some ⟨gb, go', none⟩) fs.length nc, .map (some B1), .map (some B2), .int .i64 (sz : Int)] 58) ∧ GA w' (some ⟨gb, go', none⟩) nc B1 B2 fs st ∧ FunRow w' (some ⟨b, off, none⟩) fs ∧ Below W1.heap.size W1 w' ∧ Below w.heap.size w w')) (by kernel_rfl) ((unhide HSA).2 _ (unhide HS0)) (fun hHeld => ?_)
              refine wpAnyH_take (i := 0) (oi := { dst := some 26, op := Go.Op.load 61 (Go.Operand.tmp 10), type := 61, pos := "l7_lay.go:190", after := #[], guard := none }) (v := ?vc0) rfl (by kernel_rfl) (by kernel_rfl) (by kernel_rfl) (fun _ _ _ h => h) (Or.inl ⟨by rfl, ?yc0⟩) (by assumption) ?rc0
              case yc0 => (intro w hSw; (try dsimp only at hSw); go_simp; try (with_reducible rfl))
              try simp only [Act.put, List.setIfInBounds_toArray, List.set_cons_zero, List.set_cons_succ]
              try simp only [hwr, hto]
              refine wpAnyH_ready (rs := [1]) (by kernel_rfl) (by simp) (AllReadyH.cons (o := { dst := some 27, op := Go.Op.call { callee := Go.Callee.value (Go.Operand.func 47), args := #[Go.Operand.tmp 26], argTypes := #[61] }, type := 4, pos := "l7_lay.go:190", after := #[{ on := 0, ground := Go.Ground.data }], guard := none }) rfl (fun K hK => ?_) AllReadyH.nil)
              go_simp
              go_at_call 47
              refine (implRefs_any _ _ _ _).mono ?_
              rw [hrf]
              rintro e wk ⟨rfl, hbk⟩
              replace hHeld := (unhide HSA).1 _ _ hbk hHeld
              go_wp2_with fail
              refine hK.out _ _ hHeld (fun _ => ?_)
              clear hK K hbk
              try simp only [Act.put, List.setIfInBounds_toArray, List.set_cons_zero, List.set_cons_succ]
              try simp only [hwr, hto]
              refine wpAnyH_take (i := 2) (oi := { dst := some 28, op := Go.Op.move (Go.Operand.tmp 27), type := 4, pos := "l7_lay.go:190", after := #[{ on := 1, ground := Go.Ground.data }, { on := 1, ground := Go.Ground.chain }], guard := none }) (v := ?vc2) rfl (by kernel_rfl) (by kernel_rfl) (by kernel_rfl) (fun _ _ _ h => h) (Or.inl ⟨by rfl, ?yc2⟩) (by assumption) ?rc2
              case yc2 => (intro w hSw; (try dsimp only at hSw); go_simp; try (with_reducible rfl))
              try simp only [Act.put, List.setIfInBounds_toArray, List.set_cons_zero, List.set_cons_succ]
              try simp only [hwr, hto]
              refine wpAnyH_take (i := 3) (oi := { dst := some 29, op := Go.Op.load 58 (Go.Operand.tmp 3), type := 58, pos := "l7_lay.go:190", after := #[{ on := 2, ground := Go.Ground.guard }], guard := some (2, true) }) (v := ?vc3) rfl (by kernel_rfl) (by kernel_rfl) (by kernel_rfl) (fun _ _ _ h => h) (Or.inl ⟨by rfl, ?yc3⟩) (by assumption) ?rc3
              case yc3 => (intro w hSw; (try dsimp only at hSw); go_simp; try (with_reducible rfl))
              try simp only [Act.put, List.setIfInBounds_toArray, List.set_cons_zero, List.set_cons_succ]
              try simp only [hwr, hto]
              refine wpAnyH_take (i := 4) (oi := { dst := some 30, op := Go.Op.move (Go.Operand.tmp 2), type := 3, pos := "l7_lay.go:190", after := #[{ on := 2, ground := Go.Ground.guard }], guard := some (2, true) }) (v := ?vc4) rfl (by kernel_rfl) (by kernel_rfl) (by kernel_rfl) (fun _ _ _ h => h) (Or.inl ⟨by rfl, ?yc4⟩) (by assumption) ?rc4
              case yc4 => (intro w hSw; (try dsimp only at hSw); go_simp; try (with_reducible rfl))
              try simp only [Act.put, List.setIfInBounds_toArray, List.set_cons_zero, List.set_cons_succ]
              try simp only [hwr, hto]
              refine wpAnyH_take (i := 5) (oi := { dst := some 31, op := Go.Op.fieldAddr 58 (Go.Operand.tmp 3) 0, type := 0, pos := "l7_lay.go:190", after := #[{ on := 2, ground := Go.Ground.guard }], guard := some (2, true) }) (v := ?vc5) rfl (by kernel_rfl) (by kernel_rfl) (by kernel_rfl) (fun _ _ _ h => h) (Or.inl ⟨by rfl, ?yc5⟩) (by assumption) ?rc5
              case yc5 => (intro w hSw; (try dsimp only at hSw); go_simp; try (with_reducible rfl))
              try simp only [Act.put, List.setIfInBounds_toArray, List.set_cons_zero, List.set_cons_succ]
              try simp only [hwr, hto]
              refine wpAnyH_take (i := 6) (oi := { dst := some 32, op := Go.Op.load 23 (Go.Operand.tmp 31), type := 23, pos := "l7_lay.go:190", after := #[{ on := 5, ground := Go.Ground.data }, { on := 2, ground := Go.Ground.guard }], guard := some (2, true) }) (v := ?vc6) rfl (by kernel_rfl) (by kernel_rfl) (by kernel_rfl) (fun _ _ _ h => h) (Or.inl ⟨by rfl, ?yc6⟩) (by assumption) ?rc6
              case yc6 => (intro w hSw; (try dsimp only at hSw); go_simp; try (with_reducible rfl))
              try simp only [Act.put, List.setIfInBounds_toArray, List.set_cons_zero, List.set_cons_succ]
              try simp only [hwr, hto]
              refine wpAnyH_take (i := 7) (oi := { dst := some 33, op := Go.Op.move (Go.Operand.tmp 7), type := 3, pos := "l7_lay.go:190", after := #[{ on := 2, ground := Go.Ground.guard }], guard := some (2, true) }) (v := ?vc7) rfl (by kernel_rfl) (by kernel_rfl) (by kernel_rfl) (fun _ _ _ h => h) (Or.inl ⟨by rfl, ?yc7⟩) (by assumption) ?rc7
              case yc7 => (intro w hSw; (try dsimp only at hSw); go_simp; try (with_reducible rfl))
              try simp only [Act.put, List.setIfInBounds_toArray, List.set_cons_zero, List.set_cons_succ]
              try simp only [hwr, hto]
              refine wpAnyH_take (i := 8) (oi := { dst := some 34, op := Go.Op.indexAddr 23 (Go.Operand.tmp 32) (Go.Operand.tmp 33), type := 0, pos := "l7_lay.go:190", after := #[{ on := 6, ground := Go.Ground.data }, { on := 7, ground := Go.Ground.data }, { on := 2, ground := Go.Ground.guard }], guard := some (2, true) }) (v := ?vc8) rfl (by kernel_rfl) (by kernel_rfl) (by kernel_rfl) (fun _ _ _ h => h) (Or.inl ⟨by rfl, ?yc8⟩) (by assumption) ?rc8
              case yc8 => (intro w hSw; (try dsimp only at hSw); go_simp; try (with_reducible rfl))
              try simp only [Act.put, List.setIfInBounds_toArray, List.set_cons_zero, List.set_cons_succ]
              try simp only [hwr, hto]
              refine wpAnyH_take (i := 9) (oi := { dst := some 35, op := Go.Op.load 3 (Go.Operand.tmp 34), type := 3, pos := "l7_lay.go:190", after := #[{ on := 8, ground := Go.Ground.data }, { on := 2, ground := Go.Ground.guard }], guard := some (2, true) }) (v := ?vc9) rfl (by kernel_rfl) (by kernel_rfl) (by kernel_rfl) (fun _ _ _ h => h) (Or.inl ⟨by rfl, ?yc9⟩) (by assumption) ?rc9
              case yc9 => (intro w hSw; (try dsimp only at hSw); go_simp; try (with_reducible rfl))
              try simp only [Act.put, List.setIfInBounds_toArray, List.set_cons_zero, List.set_cons_succ]
              try simp only [hwr, hto]
              refine wpAnyH_take (i := 10) (oi := { dst := some 36, op := Go.Op.move (Go.Operand.tmp 9), type := 3, pos := "l7_lay.go:190", after := #[{ on := 2, ground := Go.Ground.guard }], guard := some (2, true) }) (v := ?vc10) rfl (by kernel_rfl) (by kernel_rfl) (by kernel_rfl) (fun _ _ _ h => h) (Or.inl ⟨by rfl, ?yc10⟩) (by assumption) ?rc10
              case yc10 => (intro w hSw; (try dsimp only at hSw); go_simp; try (with_reducible rfl))
              try simp only [Act.put, List.setIfInBounds_toArray, List.set_cons_zero, List.set_cons_succ]
              try simp only [hwr, hto]
              refine wpAnyH_take (i := 11) (oi := { dst := some 37, op := Go.Op.binOp Go.BinOp.add 3 (Go.Operand.tmp 35) (Go.Operand.tmp 36) 3, type := 3, pos := "l7_lay.go:190", after := #[{ on := 9, ground := Go.Ground.data }, { on := 10, ground := Go.Ground.data }, { on := 2, ground := Go.Ground.guard }], guard := some (2, true) }) (v := ?vc11) rfl (by kernel_rfl) (by kernel_rfl) (by kernel_rfl) (fun _ _ _ h => h) (Or.inl ⟨by rfl, ?yc11⟩) (by assumption) ?rc11
              case yc11 => (intro w hSw; (try dsimp only at hSw); go_simp; try (with_reducible rfl))
              try simp only [Act.put, List.setIfInBounds_toArray, List.set_cons_zero, List.set_cons_succ]
              try simp only [hwr, hto]
              refine wpAnyH_take (i := 12) (oi := { dst := some 38, op := Go.Op.fieldAddr 61 (Go.Operand.tmp 10) 2, type := 0, pos := "l7_lay.go:190", after := #[{ on := 2, ground := Go.Ground.guard }], guard := some (2, true) }) (v := ?vc12) rfl (by kernel_rfl) (by kernel_rfl) (by kernel_rfl) (fun _ _ _ h => h) (Or.inl ⟨by rfl, ?yc12⟩) (by assumption) ?rc12
              case yc12 => (intro w hSw; (try dsimp only at hSw); go_simp; try (with_reducible rfl))
              try simp only [Act.put, List.setIfInBounds_toArray, List.set_cons_zero, List.set_cons_succ]
              try simp only [hwr, hto]
              refine wpAnyH_take (i := 13) (oi := { dst := some 39, op := Go.Op.load 9 (Go.Operand.tmp 38), type := 9, pos := "l7_lay.go:190", after := #[{ on := 12, ground := Go.Ground.data }, { on := 2, ground := Go.Ground.guard }], guard := some (2, true) }) (v := ?vc13) rfl (by kernel_rfl) (by kernel_rfl) (by kernel_rfl) (fun _ _ _ h => h) (Or.inl ⟨by rfl, ?yc13⟩) (by assumption) ?rc13
              case yc13 => (intro w hSw; (try dsimp only at hSw); go_simp; try (with_reducible rfl))
              try simp only [Act.put, List.setIfInBounds_toArray, List.set_cons_zero, List.set_cons_succ]
              try simp only [hwr, hto]
              refine wpAnyH_ready (rs := [14]) (by kernel_rfl) (by simp) (AllReadyH.cons (o := { dst := some 40, op := Go.Op.call { callee := Go.Callee.value (Go.Operand.func 48), args := #[Go.Operand.tmp 29, Go.Operand.tmp 30, Go.Operand.tmp 37, Go.Operand.tmp 39], argTypes := #[58, 3, 3, 9] }, type := 3, pos := "l7_lay.go:190", after := #[{ on := 3, ground := Go.Ground.data }, { on := 4, ground := Go.Ground.data }, { on := 11, ground := Go.Ground.data }, { on := 13, ground := Go.Ground.data }, { on := 2, ground := Go.Ground.chain }, { on := 2, ground := Go.Ground.guard }], guard := some (2, true) }) rfl (fun K hK => ?_) AllReadyH.nil)
              go_simp
              go_at_call 48
              refine (unhide HTO _ hHeld.2.2.2.2.2.2.2.2.2.1).mono ?_
              rintro e wk ⟨rfl, hbk⟩
              replace hHeld := (unhide HSA).1 _ _ hbk hHeld
              go_wp2_with fail
              refine hK.out _ _ hHeld (fun _ => ?_)
              clear hK K hbk
              try simp only [Act.put, List.setIfInBounds_toArray, List.set_cons_zero, List.set_cons_succ]
              try simp only [hwr, hto]
              refine wpAnyH_take (i := 15) (oi := { dst := some 41, op := Go.Op.binOp Go.BinOp.lss 3 (Go.Operand.tmp 40) (Go.Operand.const (Go.Value.int Go.IntKind.i64 0)) 3, type := 4, pos := "l7_lay.go:190", after := #[{ on := 14, ground := Go.Ground.data }, { on := 2, ground := Go.Ground.guard }], guard := some (2, true) }) (v := ?vc15) rfl (by kernel_rfl) (by kernel_rfl) (by kernel_rfl) (fun _ _ _ h => h) (Or.inl ⟨by rfl, ?yc15⟩) (by assumption) ?rc15
              case yc15 => (intro w hSw; (try dsimp only at hSw); go_simp; try (with_reducible rfl))
              try simp only [Act.put, List.setIfInBounds_toArray, List.set_cons_zero, List.set_cons_succ]
              try simp only [hwr, hto]
              refine wpAnyH_take (i := 16) (oi := { dst := some 42, op := Go.Op.pick (Go.Operand.tmp 28) (Go.Operand.tmp 41) (Go.Operand.const (Go.Value.bool false)), type := 4, pos := "l7_lay.go:190", after := #[{ on := 2, ground := Go.Ground.data }, { on := 15, ground := Go.Ground.data }], guard := none }) (v := ?vc16) rfl (by kernel_rfl) (by kernel_rfl) (by kernel_rfl) (fun _ _ _ h => h) (Or.inl ⟨by rfl, ?yc16⟩) (by assumption) ?rc16
              case yc16 => (intro w hSw; (try dsimp only at hSw); go_simp; try (with_reducible rfl))
              try simp only [Act.put, List.setIfInBounds_toArray, List.set_cons_zero, List.set_cons_succ]
              try simp only [hwr, hto]
              refine wpAnyH_done (by kernel_rfl) ?_ _
              have hB9 := hHeld.2.2.2.2.2.2.2.2.2.2.2.2
              have x2 := hHeld.2.2.1
              clear hHeld
              go_wp2_with fail
              go_ret
              exact ⟨ret_far (by rw [unhide HLN]; rfl), hB9⟩
        · have hql' : ¬ (q : Int) < (f.body.length : Int) := by omega
          have HKX := hide (upto_none (unhide HK) (unhide HRW (fun j hj => unhide HQ j (by omega))))
          go_wp2_with fail
          exact ⟨⟨k + 1, by omega, by go_num, unhide HKX, unhide HX, hB'⟩, by simp [intOf]; omega⟩
    · have hkl' : ¬ (k : Int) < (fs.length : Int) := by omega
      have HE : Hid (lackN fs st r = none) := lackN_none (fun i hi => unhide HK i (by omega))
      go_wp2_with fail
      go_ret
      exact ⟨ret_far (by rw [unhide HE]; rfl), hB⟩
theorem form_names {fs : List FunD} {ns : List Int} {st : List (List ByteArray)} (h : formB fs ns st = true) : (∀ ss ∈ st, ∀ x ∈ ss, 0 ≤ findI fs x) ∧ apartF fs = true := by
  obtain ⟨h1, _, h3, _⟩ := form_parts h
  exact ⟨fun ss hs x hx => (stones_parts (h3 ss hs)).1 x hx, (keep_parts h1).2.2.2.1⟩
theorem reach_no {r : Int} (h : reachB r = false) : r < 1 ∨ 100 < r := by
  unfold reachB at h
  by_cases h1 : r < 1
  · exact .inl h1
  · refine .inr ?_
    simp at h
    omega
theorem reach_yes {r : Int} (h : reachB r = true) : 1 ≤ r ∧ r ≤ 100 := by
  unfold reachB at h
  simpa using h
set_option maxHeartbeats 4000000 in
theorem implLayOk_any (a : Option Addr) (cap : Nat) (fs : List FunD) (rr : Int) (na sa : Option Addr) (nc sc : Nat) (ns : List Int) (st : List (List ByteArray)) (w : World) (hcap : fs.length ≤ cap) (hcm : cap ≤ maxLen) (h1 : ns.length ≤ nc) (h2 : nc ≤ maxLen) (h3 : st.length ≤ sc) (h4 : sc ≤ maxLen) (hft : FewT st) (hR : FunRow w a fs) (hs : NumRow w na ns) (ho : TextsRow w sa st) :
    Calls Tryz.prog 25 #[.slice a fs.length cap, .int .i64 rr, .agg #[.slice na ns.length nc, .slice sa st.length sc]] w fun e w' => e = .returned (.bool (layOkB fs rr ns st)) ∧ Below w.heap.size w w' := by
  have HR := hide hR
  have HS := hide hs
  have HO := hide ho
  have hB0 := below_alloc1 w (.cells #[.slice na ns.length nc, .slice sa st.length sc] 33)
  clear hR hs ho
  go_enter Tryz.func25, Tryz.ntmps25
  go_wp2_with fail
  refine (groundAsLaid_any _ _ _ _ _ _ fs ns st _ hcap hcm h1 h2 h3 h4 hft ((unhide HR).below hB0) ((unhide HS).below hB0) ((unhide HO).below hB0)).mono ?_
  rintro e w1 hge
  obtain ⟨hb1, ⟨hf, rfl⟩ | ⟨hf, na', nc', G, B1, B2, rfl, hG⟩⟩ := ground_ways hge
  · have HE := hide (layOk_form (r := rr) hf)
    have hB1 := bl_trans hB0 hb1
    clear hge
    go_wp2_with fail
    go_ret
    exact ⟨ret_bool (unhide HE).symm, bl_alloc hB1 _⟩
  have HL := hide (lying_of hf hft)
  have hb2 := below_alloc1 w1 (.cells #[.slice na' fs.length nc', .map (some B1), .map (some B2), .int .i64 (place fs st fs.length : Nat)] 58)
  have hB1 := bl_trans (bl_trans hB0 hb1) hb2
  have HGA := hide ((GA.of (unhide HL) hG).below hb2)
  have hZ := box4 (new_block w1 (.cells #[.slice na' fs.length nc', .map (some B1), .map (some B2), .int .i64 (place fs st fs.length : Nat)] 58))
  have HNO := hide (fun h => layOk_reach (fs := fs) (ns := ns) (st := st) (r := rr) h)
  have HYES := hide (fun e1 e2 => layOk_end (r := rr) hf e1 e2)
  have HFF := hide (fun sz w' (hr : FunRow w' a fs) (hg : GA w' na' nc' B1 B2 fs st) => firstFar_any a na' cap nc' B1 B2 sz fs ns st rr w' (unhide HL) (form_names hf).1 (form_names hf).2 hcap hcm hr hg)
  clear hge hG hB0 hb1 hb2
  generalize hpl : place fs st fs.length = pl at *
  clear hpl
  cases hr : reachB rr
  · have HE : Hid (layOkB fs rr ns st = false) := unhide HNO (reach_no hr)
    go_wp2_with fail
    refine (reachOk_any _ _).mono ?_
    rw [hr]
    rintro e w2 ⟨rfl, rfl⟩
    go_wp2_with fail
    go_ret
    exact ⟨ret_bool (unhide HE).symm, hB1⟩
  have HE := hide (unhide HYES (reach_yes hr).1 (reach_yes hr).2)
  cases hq : lackN fs st rr with
  | none =>
    go_wp2_with fail
    refine (reachOk_any _ _).mono ?_
    rw [hr]
    rintro e w2 ⟨rfl, rfl⟩
    go_wp2_with fail
    refine (unhide HFF _ _ ((unhide HR).below hB1) (unhide HGA)).mono ?_
    rw [hq]
    unfold farV
    rintro e w3 ⟨rfl, hb3⟩
    have hB3 := bl_trans hB1 hb3
    clear hZ
    go_wp2_with fail
    go_ret
    exact ⟨ret_bool (by rw [unhide HE, hq]; rfl), hB3⟩
  | some y =>
    obtain ⟨i, s⟩ := y
    go_wp2_with fail
    refine (reachOk_any _ _).mono ?_
    rw [hr]
    rintro e w2 ⟨rfl, rfl⟩
    go_wp2_with fail
    refine (unhide HFF _ _ ((unhide HR).below hB1) (unhide HGA)).mono ?_
    rw [hq]
    unfold farV
    rintro e w3 ⟨rfl, hb3⟩
    have hB3 := bl_trans hB1 hb3
    clear hZ
    go_wp2_with fail
    go_ret
    exact ⟨ret_bool (by rw [unhide HE, hq]; rfl), hB3⟩
end Go.Proofs.YthbbmookhcalkaaGreat.LayQ
