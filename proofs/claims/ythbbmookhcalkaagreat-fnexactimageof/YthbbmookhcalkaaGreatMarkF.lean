/- The contract of the helper that writes marks into a slice of functions. -/
import Derived.Test.YthbbmookhcalkaaGreatUnits
import Derived.Test.YthbbmookhcalkaaGreatMark
namespace Go.Proofs.YthbbmookhcalkaaGreat.MarkF
open Go.ChangeShapes Go.WideShapes Go.ChangeAt Go.RowKit Go.Joins
open Go.Proofs.YthbbmookhcalkaaGreat.Base Go.Proofs.YthbbmookhcalkaaGreat.InsA Go.Proofs.YthbbmookhcalkaaGreat.Funs Go.Proofs.YthbbmookhcalkaaGreat.Open Go.Proofs.YthbbmookhcalkaaGreat.Keep Go.Proofs.YthbbmookhcalkaaGreat.Units Go.Proofs.YthbbmookhcalkaaGreat.Refs Go.Proofs.YthbbmookhcalkaaGreat.Mark
set_option linter.unusedVariables false
set_option maxRecDepth 100000

/-- All but the blocks from R up to E stand as they stood, and there may be new ones. -/
structure Mid (R E : Nat) (w w' : World) : Prop where
  os : w'.os = w.os
  tape : w'.tape = w.tape
  output : w'.output = w.output
  size : w.heap.size ≤ w'.heap.size
  block : ∀ k, k < w.heap.size → k < R ∨ E ≤ k → w'.heap[k]? = w.heap[k]?
theorem Mid.refl (R E : Nat) (w : World) : Mid R E w w := ⟨rfl, rfl, rfl, Nat.le_refl _, fun _ _ _ => rfl⟩
theorem Mid.trans {R E : Nat} {a b c : World} (h : Mid R E a b) (k : Mid R E b c) : Mid R E a c :=
  ⟨k.os.trans h.os, k.tape.trans h.tape, k.output.trans h.output, Nat.le_trans h.size k.size, fun i hi hr => (k.block i (Nat.lt_of_lt_of_le hi h.size) hr).trans (h.block i hi hr)⟩
theorem Mid.below {R E : Nat} {a w w' : World} (h : Mid R E a w) (hb : Below w.heap.size w w') : Mid R E a w' :=
  h.trans ⟨hb.os, hb.tape, hb.output, hb.size, fun k hk _ => hb.block k hk⟩
theorem Mid.set {R E g : Nat} {a w : World} (h : Mid R E a w) (h1 : R ≤ g) (h2 : g < E) (i : Nat) (v : Value) : Mid R E a (w.setCell ⟨g, i, none⟩ v) :=
  h.trans ⟨rfl, rfl, rfl, by simp, fun k hk hr => Below.heap_setCell w ⟨g, i, none⟩ v k (fun e => by have e' : k = g := e; omega)⟩
theorem Mid.but {R E g : Nat} {a w w' : World} (h : Mid R E a w) (h1 : R ≤ g) (h2 : g < E) (hb : But g w w') : Mid R E a w' :=
  h.trans ⟨hb.os, hb.tape, hb.output, hb.size, fun k hk hr => hb.block k hk (fun e => by cases e; omega)⟩
theorem Mid.down {R E : Nat} {a w w' : World} (hB : Below a.heap.size a w) (h : Mid R E w w') (hR : a.heap.size ≤ R) : Below a.heap.size a w' :=
  ⟨h.os.trans hB.os, h.tape.trans hB.tape, h.output.trans hB.output, Nat.le_trans hB.size h.size, fun k hk => (h.block k (Nat.lt_of_lt_of_le hk hB.size) (.inl (by omega))).trans (hB.block k hk)⟩
theorem Mid.box {R E B : Nat} {w w' : World} {o : Obj} (h : Mid R E w w') (hb : w.heap[B]? = some o) (hr : B < R ∨ E ≤ B) : w'.heap[B]? = some o :=
  (h.block B (Array.getElem?_eq_some_iff.1 hb).1 hr).trans hb
theorem Mid.strOwn {R E C : Nat} {w w' : World} {v : Value} {ss : List ByteArray} (h : Mid R E w w') (hs : StrOwn w C v ss) (hr : ∀ g, v.ownBlock = some g → g < R ∨ E ≤ g) : StrOwn w' C v ss := by
  obtain ⟨h0, h1 | ⟨g, cap, cur, rfl, h2, h3, h4⟩⟩ := hs
  · exact ⟨h0, .inl h1⟩
  · exact ⟨h0, .inr ⟨g, cap, cur, rfl, h2, h.box h3 (hr g rfl), h4⟩⟩

/-- Functions whose cells lie in block R and whose instructions lie in blocks between R and E. -/
def MFun (w : World) (R E : Nat) (Rs ls : Nat → Nat) (n : Nat) : Prop :=
  ∃ C, w.heap[R]? = some (.cells C 51 (0, 0)) ∧ C.size = n * 3 ∧ (∀ i, i < n → C[i * 3 + 2]? = some (.slice (some ⟨Rs i, 0, none⟩) (ls i) (ls i))) ∧ ∀ i, i < n → R < Rs i ∧ Rs i < E ∧ ∃ D, w.heap[Rs i]? = some (.cells D 61 (0, 0)) ∧ D.size = ls i * 3
theorem OwnFuns.mfun {w : World} {R : Nat} {fs : List FunD} (h : OwnFuns w R fs fs.length) : ∃ Rs, MFun w R w.heap.size Rs (fun i => (fs.getD i default).body.length) fs.length := by
  obtain ⟨C, Rs, hC, hz, hF⟩ := h
  refine ⟨Rs, C, hC, hz, fun i hi => ?_, fun i hi => ?_⟩
  · obtain ⟨_, _, h2, _⟩ := hF i hi hi
    simpa [List.getD, List.getElem?_eq_getElem hi] using h2
  · obtain ⟨_, _, _, h3, D, hD, hS⟩ := hF i hi hi
    exact ⟨h3, (Array.getElem?_eq_some_iff.1 hD).1, D, hD, by simpa [List.getD, List.getElem?_eq_getElem hi] using hS.1⟩
theorem MFun.below {w w' : World} {R E n : Nat} {Rs ls : Nat → Nat} (h : MFun w R E Rs ls n) (hb : Below w.heap.size w w') : MFun w' R E Rs ls n := by
  obtain ⟨C, hC, hz, h2, h3⟩ := h
  exact ⟨C, box_below hC hb, hz, h2, fun i hi => by obtain ⟨a, b, D, hD, hs⟩ := h3 i hi; exact ⟨a, b, D, box_below hD hb, hs⟩⟩
theorem MFun.set {w : World} {R E n j : Nat} {Rs ls : Nat → Nat} (h : MFun w R E Rs ls n) (v : Value) (hj : ∀ i, i < n → j ≠ i * 3 + 2) : MFun (w.setCell ⟨R, j, none⟩ v) R E Rs ls n := by
  obtain ⟨C, hC, hz, h2, h3⟩ := h
  refine ⟨_, block_setCell hC v, by simp [hz], fun i hi => ?_, fun i hi => ?_⟩
  · rw [Array.getElem?_setIfInBounds_ne (hj i hi)]; exact h2 i hi
  · obtain ⟨a, b, D, hD, hs⟩ := h3 i hi
    exact ⟨a, b, D, (Below.heap_setCell w ⟨R, j, none⟩ v (Rs i) (fun e => by have e' : Rs i = R := e; omega)).trans hD, hs⟩
theorem MFun.mark {w w' : World} {R E n j k : Nat} {Rs ls : Nat → Nat} (h : MFun w R E Rs ls n) (hj : j < n) (hb : But (Rs j) w w') (hm : MarkedI w' (Rs j) k (ls j * 3) (ls j)) : MFun w' R E Rs ls n := by
  obtain ⟨C, hC, hz, h2, h3⟩ := h
  obtain ⟨a0, b0, D0, hD0, hs0⟩ := h3 j hj
  refine ⟨C, hb.box hC (by omega), hz, h2, fun i hi => ?_⟩
  obtain ⟨a, b, D, hD, hs⟩ := h3 i hi
  by_cases e : Rs i = Rs j
  · obtain ⟨D', hD', hs', _⟩ := hm
    rw [e, hD0] at hD
    simp only [Option.some.injEq, Obj.cells.injEq, and_true] at hD
    subst hD
    exact ⟨a, b, D', by rw [e]; exact hD', by omega⟩
  · exact ⟨a, b, D, hb.box hD e, hs⟩

theorem MFun.marked {w : World} {R E n j k : Nat} {Rs ls : Nat → Nat} (h : MFun w R E Rs ls n) (hj : j < n) : MarkedI w (Rs j) k (ls j * 3) 0 := by
  obtain ⟨C, hC, hz, h2, h3⟩ := h
  obtain ⟨_, _, D, hD, hs⟩ := h3 j hj
  exact ⟨D, hD, hs, fun i hi => by omega⟩

set_option maxHeartbeats 2000000 in
theorem markFunS_any (R E n cap k : Nat) (Rs ls : Nat → Nat) (hRE : R < E) (hk : 0 < k) (hk9 : k ≤ 9) (hn : n ≤ 1048576) (hl : ∀ i, i < n → ls i ≤ 1048576) (w : World) (hM : MFun w R E Rs ls n) :
    Calls Tryz.prog 13 #[.slice (some ⟨R, 0, none⟩) n cap, .int .i64 k] w fun e w' => ∃ q : Nat, 0 < q ∧ q ≤ 1125899906842624 ∧ e = .returned (.int .i64 (q : Int)) ∧ Mid R E w w' := by
  have HM := hide hM
  have HL := hide hl
  clear hM hl
  go_enter Tryz.func13, Tryz.ntmps13
  go_wp2_with fail
  go_loopw [1, 5] (fun kk i w' => ∃ j q : Nat, j ≤ n ∧ i = .int .i64 j ∧ kk = .int .i64 (q : Int) ∧ 0 < q ∧ q ≤ 9 + j * 3145730 ∧ MFun w' R E Rs ls n ∧ Mid R E w w') (fun _ i _ => n - (intOf i).toNat)
  case atStart => exact ⟨0, k, Nat.zero_le _, rfl, rfl, hk, by omega, unhide HM, Mid.refl _ _ _⟩
  case round =>
    obtain ⟨j, q, hj, rfl, rfl, hq0, hq, hM, hb⟩ := hrel
    have HM := hide hM
    clear hM
    by_cases hjl : j < n
    · have hjl' : (j : Int) < (n : Int) := by omega
      have hlj := unhide HL j hjl
      go_wp2_with fail
      refine (markText_any q hq0 (by omega) _).mono ?_
      rintro e w1 ⟨rfl, hb1⟩
      have hb' := hb.below hb1
      have HM1 := hide ((unhide HM).below hb1)
      clear hb1 hb HM
      obtain ⟨C, hC, hz, h2, h3⟩ := unhide HM1
      obtain ⟨v0, e0⟩ : ∃ v, w1.cell? ⟨R, j * 3, none⟩ = some v := ⟨C[j * 3]'(by omega), by rw [cell_of_block hC]; exact Array.getElem?_eq_getElem _⟩
      obtain ⟨v1, e1⟩ : ∃ v, w1.cell? ⟨R, j * 3 + 1, none⟩ = some v := ⟨C[j * 3 + 1]'(by omega), by rw [cell_of_block hC]; exact Array.getElem?_eq_getElem _⟩
      have e2 : w1.cell? ⟨R, j * 3 + 2, none⟩ = some (.slice (some ⟨Rs j, 0, none⟩) (ls j) (ls j)) := by rw [cell_of_block hC]; exact h2 j hjl
      have g0 := unfrozen_of_block hC (j * 3)
      have g1 := unfrozen_of_block hC (j * 3 + 1)
      have g2 := unfrozen_of_block hC (j * 3 + 2)
      obtain ⟨a3, b3, _⟩ := h3 j hjl
      clear hC hz h2 h3
      have hq' : (q : Int) ≤ 1125899906842000 := by omega
      have hq0' : (0 : Int) < (q : Int) := by omega
      go_wp2_with fail
      have HM2 := hide (((unhide HM1).set (j := j * 3) (.string (mk q)) (fun i _ => by omega)).set (j := j * 3 + 1) (.bool (((q : Int) + 1) % 3 == 0)) (fun i _ => by omega))
      have hb2 := (hb'.set (Nat.le_refl R) hRE (j * 3) (.string (mk q))).set (Nat.le_refl R) hRE (j * 3 + 1) (.bool (((q : Int) + 1) % 3 == 0))
      clear e0 e1 e2 g0 g1 g2 hb' HM1
      refine (markInsS_any (Rs j) (ls j) (ls j) (q + 1 + 1) (ls j * 3) (by omega) (by omega) (Nat.le_refl _) _ ((unhide HM2).marked hjl)).mono ?_
      rintro e w3 ⟨rfl, hm3, hb3⟩
      have HM3 := hide ((unhide HM2).mark hjl hb3 hm3)
      have hb4 := hb2.but (Nat.le_of_lt a3) b3 hb3
      clear hm3 hb3 hb2 HM2
      generalize hq3 : q + 1 + 1 + ls j * 3 = q3
      go_wp2_with fail
      exact ⟨⟨j + 1, q3, by omega, by go_num, rfl, by omega, by omega, unhide HM3, hb4⟩, by simp [intOf]; omega⟩
    · have hjl' : ¬ (j : Int) < (n : Int) := by omega
      go_wp2_with fail
      go_ret
      exact ⟨q, hq0, by omega, rfl, hb⟩
end Go.Proofs.YthbbmookhcalkaaGreat.MarkF
