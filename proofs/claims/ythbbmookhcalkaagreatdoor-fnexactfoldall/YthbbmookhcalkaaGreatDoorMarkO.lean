/- Marks in functions that lie in memory of their own: written, and looked for again. -/
import Derived.Test.YthbbmookhcalkaaGreatDoorMarkU
import Derived.Test.YthbbmookhcalkaaGreatDoorConcat
namespace Go.Proofs.YthbbmookhcalkaaGreatDoor.MarkO
open Go.ChangeShapes Go.WideShapes Go.ChangeAt Go.RowKit Go.Joins
open Go.Proofs.YthbbmookhcalkaaGreatDoor.Base Go.Proofs.YthbbmookhcalkaaGreatDoor.InsA Go.Proofs.YthbbmookhcalkaaGreatDoor.Funs Go.Proofs.YthbbmookhcalkaaGreatDoor.Open Go.Proofs.YthbbmookhcalkaaGreatDoor.Keep Go.Proofs.YthbbmookhcalkaaGreatDoor.Units Go.Proofs.YthbbmookhcalkaaGreatDoor.Refs Go.Proofs.YthbbmookhcalkaaGreatDoor.Mark Go.Proofs.YthbbmookhcalkaaGreatDoor.MarkF Go.Proofs.YthbbmookhcalkaaGreatDoor.MarkU Go.Proofs.YthbbmookhcalkaaGreatDoor.Concat
set_option linter.unusedVariables false
set_option maxRecDepth 100000

theorem mi_below {w w' : World} {R k z n : Nat} (h : MarkedI w R k z n) (hb : Below w.heap.size w w') : MarkedI w' R k z n := by
  obtain ⟨C, hC, h⟩ := h
  exact ⟨C, box_below hC hb, h⟩
theorem mi_but {w w' : World} {R k z n g : Nat} (h : MarkedI w R k z n) (hb : But g w w') (hne : R ≠ g) : MarkedI w' R k z n := by
  obtain ⟨C, hC, h⟩ := h
  exact ⟨C, hb.box hC hne, h⟩
theorem mi_set {w : World} {R k z n g i : Nat} {v : Value} (h : MarkedI w R k z n) (hne : R ≠ g) : MarkedI (w.setCell ⟨g, i, none⟩ v) R k z n := by
  obtain ⟨C, hC, h⟩ := h
  exact ⟨C, (Below.heap_setCell w ⟨g, i, none⟩ v R (fun e => hne e)).trans hC, h⟩

set_option maxHeartbeats 2000000 in
theorem heldInsS_any (R n cap k z : Nat) (hk : 0 < k) (hkm : k + n * 3 ≤ 1125899906842624) (hn : n * 3 ≤ z) (w : World) (hO : MarkedI w R k z n) :
    Calls Tryz.prog 53 #[.slice (some ⟨R, 0, none⟩) n cap, .int .i64 k] w fun e w' => e = .returned (.int .i64 ((k + n * 3 : Nat) : Int)) ∧ Below w.heap.size w w' := by
  have HO := hide hO
  clear hO
  go_enter Tryz.func53, Tryz.ntmps53
  go_wp2_with fail
  go_loopw [1, 5] (fun kk i w' => ∃ j : Nat, j ≤ n ∧ i = .int .i64 j ∧ kk = .int .i64 ((k : Int) + (j : Int) * 3) ∧ Below w.heap.size w w') (fun _ i _ => n - (intOf i).toNat)
  case atStart => exact ⟨0, Nat.zero_le _, rfl, by simp, Below.refl _ _⟩
  case round =>
    obtain ⟨j, hj, rfl, rfl, hB⟩ := hrel
    by_cases hjl : j < n
    · have hjl' : (j : Int) < (n : Int) := by omega
      obtain ⟨C, hC, hz, hm⟩ := mi_below (unhide HO) hB
      obtain ⟨m0, m1, m2⟩ := hm j hjl
      have c0 : wr.cell? ⟨R, j * 3, none⟩ = some (.int .i64 ((k : Int) + (j : Int) * 3)) := by rw [cell_of_block hC]; exact m0
      have c1 : wr.cell? ⟨R, j * 3 + 1, none⟩ = some (.int .i64 ((k : Int) + (j : Int) * 3 + 1)) := by rw [cell_of_block hC]; exact m1
      have c2 : wr.cell? ⟨R, j * 3 + 2, none⟩ = some (.string (mk (k + j * 3 + 2))) := by rw [cell_of_block hC]; exact m2
      have hS0 := And.intro c0 (And.intro c1 (And.intro c2 hB))
      generalize hmk : mk (k + j * 3 + 2) = m at *
      have HST : Hid (Stable (fun w' => w'.cell? ⟨R, j * 3, none⟩ = some (.int .i64 ((k : Int) + (j : Int) * 3)) ∧ w'.cell? ⟨R, j * 3 + 1, none⟩ = some (.int .i64 ((k : Int) + (j : Int) * 3 + 1)) ∧ w'.cell? ⟨R, j * 3 + 2, none⟩ = some (.string m) ∧ Below w.heap.size w w')) := (Stable.cell _ _).and ((Stable.cell _ _).and ((Stable.cell _ _).and (Stable.below w)))
      clear hm hC m0 m1 m2
      go_wp2_with fail
      go_region_held3 (fun w' => w'.cell? ⟨R, j * 3, none⟩ = some (.int .i64 ((k : Int) + (j : Int) * 3)) ∧ w'.cell? ⟨R, j * 3 + 1, none⟩ = some (.int .i64 ((k : Int) + (j : Int) * 3 + 1)) ∧ w'.cell? ⟨R, j * 3 + 2, none⟩ = some (.string m) ∧ Below w.heap.size w w') (first | assumption | (refine (unhide HST).1 _ _ hbk ?_; assumption) | (refine (unhide HST).2 _ ?_; assumption))
        (first | (go_at_call 51; refine (markText_any (k + j * 3 + 2) (by omega) (by omega) _).mono ?_; rw [hmk]; rintro e wk1 ⟨rfl, hbk⟩))
      have hS1 : (fun w' => w'.cell? ⟨R, j * 3, none⟩ = some (.int .i64 ((k : Int) + (j : Int) * 3)) ∧ w'.cell? ⟨R, j * 3 + 1, none⟩ = some (.int .i64 ((k : Int) + (j : Int) * 3 + 1)) ∧ w'.cell? ⟨R, j * 3 + 2, none⟩ = some (.string m) ∧ Below w.heap.size w w') wk1 := by assumption
      have hB1 := hS1.2.2.2
      clear hS0 hS1
      go_wp2_with fail
      exact ⟨⟨j + 1, by omega, by go_num, by go_num, hB1⟩, by simp [intOf]; omega⟩
    · have hjl' : ¬ (j : Int) < (n : Int) := by omega
      go_wp2_with fail
      go_ret
      exact ⟨ret_int (by omega), hB⟩

/-- Functions in block g, the first m of them marked; their instructions each in a block of its own. -/
def MarkedF (w : World) (g k n : Nat) (Rs ls cs : Nat → Nat) (m : Nat) : Prop :=
  ∃ C, w.heap[g]? = some (.cells C 28 (0, 0)) ∧ n * 3 ≤ C.size ∧ (∀ i, i < n → C[i * 3 + 2]? = some (.slice (some ⟨Rs i, 0, none⟩) (ls i) (cs i))) ∧ (∀ i, i < m → C[i * 3]? = some (.string (mk (k + cntL ls i))) ∧ C[i * 3 + 1]? = some (.bool (((k + cntL ls i : Nat) : Int) % 3 == 2))) ∧ ∀ i, i < n → Rs i ≠ g ∧ ∃ z, ls i * 3 ≤ z ∧ MarkedI w (Rs i) (k + cntL ls i + 2) z (if i < m then ls i else 0)
theorem MarkedF.below {w w' : World} {g k n m : Nat} {Rs ls cs : Nat → Nat} (h : MarkedF w g k n Rs ls cs m) (hb : Below w.heap.size w w') : MarkedF w' g k n Rs ls cs m := by
  obtain ⟨C, hC, h1, h2, h3, h4⟩ := h
  exact ⟨C, box_below hC hb, h1, h2, h3, fun i hi => by obtain ⟨a, z, b, c⟩ := h4 i hi; exact ⟨a, z, b, mi_below c hb⟩⟩
theorem MarkedF.set {w : World} {g k n m : Nat} {Rs ls cs : Nat → Nat} (h : MarkedF w g k n Rs ls cs m) {j : Nat} (v : Value) (hj : ∀ i, i < n → j ≠ i * 3 + 2) (hm : ∀ i, i < m → j ≠ i * 3 ∧ j ≠ i * 3 + 1) : MarkedF (w.setCell ⟨g, j, none⟩ v) g k n Rs ls cs m := by
  obtain ⟨C, hC, h1, h2, h3, h4⟩ := h
  refine ⟨_, block_setCell hC v, by simpa using h1, fun i hi => ?_, fun i hi => ?_, fun i hi => ?_⟩
  · rw [Array.getElem?_setIfInBounds_ne (hj i hi)]; exact h2 i hi
  · rw [Array.getElem?_setIfInBounds_ne (hm i hi).1, Array.getElem?_setIfInBounds_ne (hm i hi).2]; exact h3 i hi
  · obtain ⟨a, z, b, c⟩ := h4 i hi
    exact ⟨a, z, b, mi_set c a⟩
theorem MarkedF.step {w w3 : World} {g k n j : Nat} {Rs ls cs : Nat → Nat} (h : MarkedF w g k n Rs ls cs j) (hj : j < n) (hinj : ∀ i, i < n → Rs i = Rs j → i = j) {z : Nat} (hz : ls j * 3 ≤ z)
    (hb : But (Rs j) ((w.setCell ⟨g, j * 3, none⟩ (.string (mk (k + cntL ls j)))).setCell ⟨g, j * 3 + 1, none⟩ (.bool (((k + cntL ls j : Nat) : Int) % 3 == 2))) w3) (hm : MarkedI w3 (Rs j) (k + cntL ls j + 2) z (ls j)) : MarkedF w3 g k n Rs ls cs (j + 1) := by
  obtain ⟨C, hC, h1, h2, h3, h4⟩ := h
  have hjg := (h4 j hj).1
  refine ⟨_, hb.box (block_setCell (block_setCell hC _) _) (Ne.symm hjg), by simpa using h1, fun i hi => ?_, fun i hi => ?_, fun i hi => ?_⟩
  · rw [Array.getElem?_setIfInBounds_ne (by omega), Array.getElem?_setIfInBounds_ne (by omega)]; exact h2 i hi
  · by_cases e : i = j
    · subst e
      exact ⟨by rw [Array.getElem?_setIfInBounds_ne (by omega), Array.getElem?_setIfInBounds_self_of_lt (by omega)], by rw [Array.getElem?_setIfInBounds_self_of_lt (by simp; omega)]⟩
    · obtain ⟨a, b⟩ := h3 i (by omega)
      exact ⟨by rw [Array.getElem?_setIfInBounds_ne (by omega), Array.getElem?_setIfInBounds_ne (by omega)]; exact a, by rw [Array.getElem?_setIfInBounds_ne (by omega), Array.getElem?_setIfInBounds_ne (by omega)]; exact b⟩
  · obtain ⟨a, z', b, c⟩ := h4 i hi
    by_cases e : i = j
    · subst e
      exact ⟨a, z, hz, by rw [if_pos (by omega)]; exact hm⟩
    · refine ⟨a, z', b, ?_⟩
      have e1 : (if i < j + 1 then ls i else 0) = if i < j then ls i else 0 := by
        by_cases h : i < j
        · rw [if_pos h, if_pos (by omega)]
        · rw [if_neg h, if_neg (by omega)]
      rw [e1]
      exact mi_but (mi_set (mi_set c a) a) hb (fun h => e (hinj i hi h))
theorem MarkedF.start {w : World} {g k n : Nat} {Rs ls cs : Nat → Nat} {C : Array Value} (hC : w.heap[g]? = some (.cells C 28 (0, 0))) (hz : n * 3 ≤ C.size) (h2 : ∀ i, i < n → C[i * 3 + 2]? = some (.slice (some ⟨Rs i, 0, none⟩) (ls i) (cs i))) (h4 : ∀ i, i < n → Rs i ≠ g ∧ ∃ D, w.heap[Rs i]? = some (.cells D 105 (0, 0)) ∧ ls i * 3 ≤ D.size) : MarkedF w g k n Rs ls cs 0 :=
  ⟨C, hC, hz, h2, fun i hi => by omega, fun i hi => by
    obtain ⟨a, D, hD, hs⟩ := h4 i hi
    exact ⟨a, D.size, hs, D, hD, rfl, fun j hj => by rw [if_neg (by omega)] at hj; omega⟩⟩
theorem mod_two (q : Int) : ((q + 1) % 3 == 0) = (q % 3 == 2) := by
  rw [Bool.eq_iff_iff, beq_iff_eq, beq_iff_eq]
  omega

set_option maxHeartbeats 2000000 in
theorem markFs_any (B g n cap k : Nat) (Rs ls cs : Nat → Nat) (hk : 0 < k) (hn : n ≤ 1048576) (hbd : k + cntL ls n ≤ 1125899906842624) (hB : B ≤ g) (hRB : ∀ i, i < n → B ≤ Rs i) (hinj : ∀ i j, i < n → j < n → Rs i = Rs j → i = j) (w : World) (hBw : B ≤ w.heap.size) (hM : MarkedF w g k n Rs ls cs 0) :
    Calls Tryz.prog 18 #[.slice (some ⟨g, 0, none⟩) n cap, .int .i64 k] w fun e w' => e = .returned (.int .i64 ((k + cntL ls n : Nat) : Int)) ∧ MarkedF w' g k n Rs ls cs n ∧ Below B w w' := by
  have HM := hide hM
  clear hM
  go_enter Tryz.func18, Tryz.ntmps18
  go_wp2_with fail
  go_loopw [1, 5] (fun kk i w' => ∃ j q : Nat, j ≤ n ∧ i = .int .i64 j ∧ kk = .int .i64 (q : Int) ∧ q = k + cntL ls j ∧ MarkedF w' g k n Rs ls cs j ∧ Below B w w') (fun _ i _ => n - (intOf i).toNat)
  case atStart => exact ⟨0, k, Nat.zero_le _, rfl, rfl, rfl, unhide HM, Below.refl _ _⟩
  case round =>
    obtain ⟨j, q, hj, rfl, rfl, hq, hM, hb⟩ := hrel
    have HM := hide hM
    clear hM
    by_cases hjl : j < n
    · have hjl' : (j : Int) < (n : Int) := by omega
      have hlj := cntL_le (ls := ls) n hjl
      have hq0 : 0 < q := by omega
      have hqc : q + 1 + 1 + ls j * 3 ≤ 1125899906842624 := by omega
      have HQ : Hid (q + 1 + 1 + ls j * 3 = k + cntL ls (j + 1)) := by show _ = _; rw [cntL, hq]; omega
      have hRj := hRB j hjl
      have HSTEP := hide (fun (W W3 : World) (z : Nat) (h : MarkedF W g k n Rs ls cs j) => MarkedF.step (w := W) (w3 := W3) (z := z) h hjl (fun i hi e => hinj i j hi hjl e))
      rw [← hq] at HSTEP
      have HMI : Hid (∀ W : World, MarkedF W g k n Rs ls cs j → ∃ z, ls j * 3 ≤ z ∧ MarkedI W (Rs j) (q + 1 + 1) z 0) := fun W h => by
        obtain ⟨C, hC, h1, h2, h3, h4⟩ := h
        obtain ⟨a, z, b, c⟩ := h4 j hjl
        rw [if_neg (by omega), ← hq] at c
        exact ⟨z, b, c⟩
      clear hlj hq
      go_wp2_with fail
      refine (markText_any q hq0 (by omega) _).mono ?_
      rintro e w1 ⟨rfl, hb1⟩
      have hb' := hb.trans (hb1.mono (Nat.le_trans hBw hb.size))
      have HM1 := hide ((unhide HM).below hb1)
      clear hb1 hb HM
      obtain ⟨C, hC, hz, h2, h3, h4⟩ := unhide HM1
      obtain ⟨v0, e0⟩ : ∃ v, w1.cell? ⟨g, j * 3, none⟩ = some v := ⟨C[j * 3]'(by omega), by rw [cell_of_block hC]; exact Array.getElem?_eq_getElem _⟩
      obtain ⟨v1, e1⟩ : ∃ v, w1.cell? ⟨g, j * 3 + 1, none⟩ = some v := ⟨C[j * 3 + 1]'(by omega), by rw [cell_of_block hC]; exact Array.getElem?_eq_getElem _⟩
      have e2 : w1.cell? ⟨g, j * 3 + 2, none⟩ = some (.slice (some ⟨Rs j, 0, none⟩) (ls j) (cs j)) := by rw [cell_of_block hC]; exact h2 j hjl
      have g0 := unfrozen_of_block hC (j * 3)
      have g1 := unfrozen_of_block hC (j * 3 + 1)
      have g2 := unfrozen_of_block hC (j * 3 + 2)
      clear hC hz h2 h3 h4
      have hq' : (q : Int) ≤ 1125899906842622 := by omega
      have hq0' : (0 : Int) < (q : Int) := by omega
      go_wp2_with fail
      obtain ⟨z, hz, hmi⟩ := unhide HMI _ (((unhide HM1).set (j := j * 3) (.string (mk q)) (fun i _ => by omega) (fun i _ => by omega)).set (j := j * 3 + 1) (.bool (((q : Int) + 1) % 3 == 0)) (fun i _ => by omega) (fun i _ => by omega))
      have HMJ := hide hmi
      have hb2 := (hb'.setCell (p := ⟨g, j * 3, none⟩) hB (.string (mk q))).setCell (p := ⟨g, j * 3 + 1, none⟩) hB (.bool (((q : Int) + 1) % 3 == 0))
      clear e0 e1 e2 g0 g1 g2 hb' hmi
      refine (markInsS_any (Rs j) (ls j) (cs j) (q + 1 + 1) z (by omega) (by omega) hz _ (unhide HMJ)).mono ?_
      rintro e w3 ⟨rfl, hm3, hb3⟩
      have HM3 := hide (unhide HSTEP w1 w3 z (unhide HM1) hz (by rw [← mod_two]; exact hb3) hm3)
      have hb4 := hb2.grown hb3 (Nat.le_trans hBw hb2.size) (fun i hi => by cases hi; exact hRj)
      clear hm3 hb3 hb2 HM1
      generalize hq3 : q + 1 + 1 + ls j * 3 = q3 at *
      go_wp2_with fail
      exact ⟨⟨j + 1, q3, by omega, by go_num, rfl, unhide HQ, unhide HM3, hb4⟩, by simp [intOf]; omega⟩
    · have hjl' : ¬ (j : Int) < (n : Int) := by omega
      have hje : j = n := by omega
      subst hje
      subst hq
      go_wp2_with fail
      go_ret
      exact ⟨rfl, unhide HM, hb⟩

set_option maxHeartbeats 2000000 in
theorem heldFs_any (g n cap k : Nat) (Rs ls cs : Nat → Nat) (hk : 0 < k) (hn : n ≤ 1048576) (hbd : k + cntL ls n ≤ 1125899906842624) (w : World) (hM : MarkedF w g k n Rs ls cs n) :
    Calls Tryz.prog 19 #[.slice (some ⟨g, 0, none⟩) n cap, .int .i64 k] w fun e w' => e = .returned (.int .i64 ((k + cntL ls n : Nat) : Int)) ∧ Below w.heap.size w w' := by
  have HM := hide hM
  clear hM
  go_enter Tryz.func19, Tryz.ntmps19
  go_wp2_with fail
  go_loopw [1, 5] (fun kk i w' => ∃ j q : Nat, j ≤ n ∧ i = .int .i64 j ∧ kk = .int .i64 (q : Int) ∧ q = k + cntL ls j ∧ Below w.heap.size w w') (fun _ i _ => n - (intOf i).toNat)
  case atStart => exact ⟨0, k, Nat.zero_le _, rfl, rfl, rfl, Below.refl _ _⟩
  case round =>
    obtain ⟨j, q, hj, rfl, rfl, hq, hB⟩ := hrel
    by_cases hjl : j < n
    · have hjl' : (j : Int) < (n : Int) := by omega
      have hlj := cntL_le (ls := ls) n hjl
      have hq0 : 0 < q := by omega
      have hqc : q + 1 + 1 + ls j * 3 ≤ 1125899906842624 := by omega
      have HQ : Hid (q + 1 + 1 + ls j * 3 = k + cntL ls (j + 1)) := by show _ = _; rw [cntL, hq]; omega
      obtain ⟨C, hC, hz, h2, h3, h4⟩ := (unhide HM).below hB
      obtain ⟨m0, m1⟩ := h3 j hjl
      obtain ⟨_, z, hz2, hmi⟩ := h4 j hjl
      rw [if_pos hjl, ← hq] at hmi
      rw [← hq] at m0 m1
      have c0 : wr.cell? ⟨g, j * 3, none⟩ = some (.string (mk q)) := by rw [cell_of_block hC]; exact m0
      have c1 : wr.cell? ⟨g, j * 3 + 1, none⟩ = some (.bool (((q : Int) + 1) % 3 == 0)) := by rw [cell_of_block hC, mod_two]; exact m1
      have c2 : wr.cell? ⟨g, j * 3 + 2, none⟩ = some (.slice (some ⟨Rs j, 0, none⟩) (ls j) (cs j)) := by rw [cell_of_block hC]; exact h2 j hjl
      have HMI := hide hmi
      have hS0 := And.intro c0 (And.intro c1 (And.intro c2 hB))
      generalize hmk : mk q = m at *
      have HST : Hid (Stable (fun w' => w'.cell? ⟨g, j * 3, none⟩ = some (.string m) ∧ w'.cell? ⟨g, j * 3 + 1, none⟩ = some (.bool (((q : Int) + 1) % 3 == 0)) ∧ w'.cell? ⟨g, j * 3 + 2, none⟩ = some (.slice (some ⟨Rs j, 0, none⟩) (ls j) (cs j)) ∧ Below wr.heap.size wr w')) := (Stable.cell _ _).and ((Stable.cell _ _).and ((Stable.cell _ _).and (Stable.below wr)))
      clear hC hz h2 h3 h4 m0 m1 hmi hlj hq hS0
      have hS0 := And.intro c0 (And.intro c1 (And.intro c2 (Below.refl wr.heap.size wr)))
      have hq' : (q : Int) ≤ 1125899906842622 := by omega
      have hq0' : (0 : Int) < (q : Int) := by omega
      go_wp2_with fail
      go_region_held3 (fun w' => w'.cell? ⟨g, j * 3, none⟩ = some (.string m) ∧ w'.cell? ⟨g, j * 3 + 1, none⟩ = some (.bool (((q : Int) + 1) % 3 == 0)) ∧ w'.cell? ⟨g, j * 3 + 2, none⟩ = some (.slice (some ⟨Rs j, 0, none⟩) (ls j) (cs j)) ∧ Below wr.heap.size wr w') (first | assumption | (refine (unhide HST).1 _ _ hbk ?_; assumption) | (refine (unhide HST).2 _ ?_; assumption))
        (first | (go_at_call 51; refine (markText_any q (by omega) (by omega) _).mono ?_; rw [hmk]; rintro e wk1 ⟨rfl, hbk⟩))
      have hS1 : (fun w' => w'.cell? ⟨g, j * 3, none⟩ = some (.string m) ∧ w'.cell? ⟨g, j * 3 + 1, none⟩ = some (.bool (((q : Int) + 1) % 3 == 0)) ∧ w'.cell? ⟨g, j * 3 + 2, none⟩ = some (.slice (some ⟨Rs j, 0, none⟩) (ls j) (cs j)) ∧ Below wr.heap.size wr w') wk1 := by assumption
      obtain ⟨d0, d1, d2, hb1⟩ := hS1
      clear hS0 c0 c1 c2
      go_wp2_with fail
      refine (heldInsS_any (Rs j) (ls j) (cs j) (q + 1 + 1) z (by omega) (by omega) hz2 _ (mi_below (unhide HMI) hb1)).mono ?_
      rintro e w3 ⟨rfl, hb3⟩
      have hB3 := bl_trans hB (bl_trans hb1 hb3)
      clear hb3 hb1 d0 d1 d2 hB
      generalize hq3 : q + 1 + 1 + ls j * 3 = q3 at *
      have hq3' : ¬ (q3 : Int) < 0 := by omega
      go_wp2_with fail
      exact ⟨⟨j + 1, q3, by omega, by go_num, rfl, unhide HQ, hB3⟩, by simp [intOf]; omega⟩
    · have hjl' : ¬ (j : Int) < (n : Int) := by omega
      have hje : j = n := by omega
      subst hje
      subst hq
      go_wp2_with fail
      go_ret
      exact ⟨rfl, hB⟩
end Go.Proofs.YthbbmookhcalkaaGreatDoor.MarkO
