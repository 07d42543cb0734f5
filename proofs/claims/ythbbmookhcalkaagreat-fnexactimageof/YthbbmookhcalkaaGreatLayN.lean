/- Slices of numbers: reading them as an argument, sizes, copies, comparisons of both sides. -/
import Derived.Test.YthbbmookhcalkaaGreatKeep
import Derived.Deep.RegionHeld3
import Derived.Deep.Strs
import Derived.Deep.QuietTactic
import Derived.BigQuiet
namespace Go.Proofs.YthbbmookhcalkaaGreat.LayN
open Go.ChangeShapes Go.WideShapes Go.ChangeAt Go.RowKit Go.Joins Go.Deep
open Go.Proofs.YthbbmookhcalkaaGreat.Base Go.Proofs.YthbbmookhcalkaaGreat.Funs Go.Proofs.YthbbmookhcalkaaGreat.Open Go.Proofs.YthbbmookhcalkaaGreat.Keep
set_option linter.unusedVariables false
set_option maxRecDepth 100000

/-- These numbers lie in a row of memory. -/
def NumRow (w : World) (a : Option Addr) (l : List Int) : Prop :=
  l = [] ∨ ∃ b off, a = some ⟨b, off, none⟩ ∧ ∀ i (h : i < l.length), w.cell? ⟨b, off + i, none⟩ = some (.int .i64 l[i])
theorem cell_below {w w' : World} {p : Addr} {v : Value} (hb : Below w.heap.size w w') (hc : w.cell? p = some v) : w'.cell? p = some v := (hb.cell (p := p) (World.block_lt_of_cell? w _ hc)).trans hc
theorem NumRow.below {w w' : World} {a : Option Addr} {l : List Int} (h : NumRow w a l) (hb : Below w.heap.size w w') : NumRow w' a l := by
  rcases h with h | ⟨b, off, ha, h⟩
  · exact .inl h
  · exact .inr ⟨b, off, ha, fun i hi => cell_below hb (h i hi)⟩
theorem NumRow.get {w : World} {a : Option Addr} {l : List Int} (h : NumRow w a l) (h0 : 0 < l.length) : ∃ b off, a = some ⟨b, off, none⟩ := by
  rcases h with h | ⟨b, off, ha, _⟩
  · rw [h] at h0; simp at h0
  · exact ⟨b, off, ha⟩
theorem NumRow.cells {w : World} {b off k : Nat} {l : List Int} (h : NumRow w (some ⟨b, off, none⟩) l) (hk : k < l.length) :
    w.cell? ⟨b, off + k, none⟩ = some (.int .i64 l[k]) := by
  rcases h with h | ⟨b', off', ha, h⟩
  · subst h; simp at hk
  · simp only [Option.some.injEq, Addr.mk.injEq, and_true] at ha
    obtain ⟨rfl, rfl⟩ := ha
    exact h k hk
theorem Stable.nrow (a : Option Addr) (l : List Int) : Stable (fun w => NumRow w a l) := ⟨fun w w' hb hs => hs.below hb, fun w hs => hs⟩
def FilledN (C : Array Value) (l : List Int) (k : Nat) : Prop :=
  C.size = l.length ∧ ∀ i (h : i < l.length), i < k → C[i]? = some (.int .i64 l[i])
def OwnNums (w : World) (R : Nat) (l : List Int) (k : Nat) : Prop := ∃ C, w.heap[R]? = some (.cells C 3) ∧ FilledN C l k
theorem OwnNums.row {w : World} {R : Nat} {l : List Int} (h : OwnNums w R l l.length) : NumRow w (some ⟨R, 0, none⟩) l := by
  obtain ⟨C, hC, hF⟩ := h
  refine .inr ⟨R, 0, rfl, fun i hi => ?_⟩
  simp only [Nat.zero_add]
  rw [cell_of_block hC]
  exact hF.2 i hi hi
theorem OwnNums.below {w w' : World} {R k : Nat} {l : List Int} (h : OwnNums w R l k) (hb : Below w.heap.size w w') : OwnNums w' R l k := by
  obtain ⟨C, hC, hF⟩ := h
  exact ⟨C, box_below hC hb, hF⟩
theorem OwnNums.set {w : World} {R k B o : Nat} {l : List Int} (h : OwnNums w R l k) (hB : B ≠ R) (v : Value) : OwnNums (w.setCell ⟨B, o, none⟩ v) R l k := by
  obtain ⟨C, hC, hF⟩ := h
  exact ⟨C, (Below.heap_setCell w ⟨B, o, none⟩ v R (Ne.symm hB)).trans hC, hF⟩
theorem infoInt : (Tryz.prog.info? 3).map (fun i => (i.zero, i.size, i.bytes)) = some (some (.int .i64 0), 1, 8) := by kernel_rfl
theorem makeNums (n : Nat) (hn : n ≤ 1048576) (w : World) : (Instr.makeSlice 23 (.int .i64 (n : Int)) (.int .i64 (n : Int))).run Tryz.prog w = .ok (.slice (some ⟨w.heap.size, 0, none⟩) n n) (w.alloc (.cells (madeCells #[.int .i64 0] n) 3)) := by
  obtain ⟨i, hi, h⟩ := Option.map_eq_some_iff.1 infoInt
  simp only [Prod.mk.injEq] at h
  obtain ⟨h1, h2, h3⟩ := h
  have := run_make (P := Tryz.prog) w 23 3 i _ Tryz.underlying23 hi h1 .i64 .i64 (n : Int) (n : Int) (by omega) (Int.le_refl _) (by rw [h3]; omega) (by omega)
  rw [h2] at this
  simpa [Value.cells] using this
theorem nums_step {w : World} {R k : Nat} {C : Array Value} {l : List Int} (hC : w.heap[R]? = some (.cells C 3)) (hF : FilledN C l k) (hk : k < l.length) :
    OwnNums (w.setCell ⟨R, k, none⟩ (.int .i64 l[k])) R l (k + 1) := by
  refine ⟨_, block_setCell hC _, ?_, ?_⟩
  · simp [hF.1]
  · intro i hi hlt
    have hs := hF.1
    by_cases hik : i = k
    · subst hik
      rw [Array.getElem?_setIfInBounds_self_of_lt (by omega)]
    · rw [Array.getElem?_setIfInBounds_ne (by omega)]; exact hF.2 i hi (by omega)
set_option maxHeartbeats 1000000 in
theorem toIntS_any (a : Option Addr) (cap : Nat) (xs : List Int) (w : World) (hlen : xs.length ≤ 1048576) (hcap : xs.length ≤ cap) (hcm : cap ≤ maxLen) (hrow : NumRow w a xs) :
    Calls Tryz.prog 23 #[.slice a xs.length cap] w fun e w' => e = .returned (.slice (some ⟨w.heap.size, 0, none⟩) xs.length xs.length) ∧ OwnNums w' w.heap.size xs xs.length ∧ Below w.heap.size w w' := by
  have HR := hide hrow
  clear hrow
  have hmk := makeNums xs.length hlen
  go_enter Tryz.func23, Tryz.ntmps23
  go_wp2_with fail
  go_loopw [4] (fun i w' => ∃ k : Nat, k ≤ xs.length ∧ i = .int .i64 k ∧ OwnNums w' w.heap.size xs k ∧ Below w.heap.size w w') (fun i _ => xs.length - (intOf i).toNat)
  case atStart => exact ⟨0, Nat.zero_le _, rfl, ⟨_, new_block w _, by simp [size_madeCells], fun i h h0 => by omega⟩, below_alloc1 _ _⟩
  case round =>
    obtain ⟨k, hk, rfl, hO, hB⟩ := hrel
    obtain ⟨C, hC, hF⟩ := hO
    have HC := hide hC
    have HF := hide hF
    clear hC hF hmk
    by_cases hkl : k < xs.length
    · have hrow := (unhide HR).below hB
      obtain ⟨b, off, rfl⟩ := hrow.get (by omega)
      have c0 := hrow.cells hkl
      clear hrow
      have hkl' : (k : Int) < (xs.length : Int) := by omega
      have hCs : C.size = xs.length := (unhide HF).1
      obtain ⟨v0, e0⟩ : ∃ v, wr.cell? ⟨w.heap.size, k, none⟩ = some v := ⟨C[k]'(by omega), by rw [cell_of_block (unhide HC)]; exact Array.getElem?_eq_getElem _⟩
      have g0 := unfrozen_of_block (unhide HC) k
      clear hCs
      go_wp2_with fail
      exact ⟨⟨k + 1, by omega, by go_num, nums_step (unhide HC) (unhide HF) hkl, hB.setCell (Nat.le_refl _) _⟩, by simp [intOf]; omega⟩
    · have hke : k = xs.length := by omega
      subst hke
      go_wp2_with fail
      go_ret
      exact ⟨rfl, ⟨C, unhide HC, unhide HF⟩, hB⟩
theorem set_other {w : World} {B R o : Nat} {v : Value} {ob : Obj} (h : w.heap[R]? = some ob) (hB : B ≠ R) : (w.setCell ⟨B, o, none⟩ v).heap[R]? = some ob := (Below.heap_setCell w ⟨B, o, none⟩ v R (Ne.symm hB)).trans h
set_option maxHeartbeats 1000000 in
theorem eqIntS_same (a a' : Option Addr) (cap cap' : Nat) (xs : List Int) (w : World) (hcap : xs.length ≤ cap) (hcm : cap ≤ maxLen) (hR : NumRow w a xs) (hQ : NumRow w a' xs) :
    Calls Tryz.prog 30 #[.slice a xs.length cap, .slice a' xs.length cap'] w fun e w' => e = .returned (.bool true) ∧ Below w.heap.size w w' := by
  have HR := hide hR
  have HQ := hide hQ
  clear hR hQ
  unfold maxLen at hcm
  have hlen : (xs.length : Int) ≤ 9223372036854775807 := by omega
  go_enter Tryz.func30, Tryz.ntmps30
  go_wp2_with fail
  go_loopw [5] (fun i w' => ∃ k : Nat, k ≤ xs.length ∧ i = .int .i64 k ∧ Below w.heap.size w w') (fun i _ => xs.length - (intOf i).toNat)
  case atStart => exact ⟨0, Nat.zero_le _, rfl, Below.refl _ _⟩
  case round =>
    obtain ⟨k, hk, rfl, hB⟩ := hrel
    by_cases hkl : k < xs.length
    · obtain ⟨b, off, rfl⟩ := (unhide HR).get (by omega)
      obtain ⟨b', off', rfl⟩ := (unhide HQ).get (by omega)
      have c0 := ((unhide HR).below hB).cells hkl
      have d0 := ((unhide HQ).below hB).cells hkl
      have hkl' : (k : Int) < (xs.length : Int) := by omega
      have hk0 : (0 : Int) ≤ (k : Int) := by omega
      generalize xs[k] = x at *
      go_wp2_with fail
      go_quiet (fail)
      go_wp2_with fail
      exact ⟨⟨k + 1, by omega, by go_num, by first | exact hB | exact bl_drewN hB _ | exact hB.drew⟩, by simp [intOf]; omega⟩
    · go_wp2_with fail
      go_ret
      exact ⟨rfl, hB⟩
theorem cellsNum : Tryz.prog.cellsOf 3 = 1 := by kernel_rfl
theorem one {W : World} {base : Nat} {a : Addr} {i : Nat} {cs : List Value} (h : W.cells? base (a.add (i * 1)) 1 = some cs) :
    ∃ v0, cs = [v0] ∧ W.cell? (a.add i) = some v0 := by
  obtain ⟨_, hlen, hcell⟩ := World.cells?_some h
  match cs, hlen with
  | [v0], _ =>
    have e0 := hcell 0 (by omega)
    rw [add_add] at e0
    exact ⟨v0, rfl, by simpa using e0⟩
theorem open2 {H : Type} {enc : TypeId × Value → H} {P : Program} {W : World} {base : Nat} {spare : Nat → Bool} {held : Bool} {t : TypeId} {f0 f1 : Field} {v0 v1 : Value} {n : Nat} {x : DataW H × List MemPlace} (hs : P.underlying t = some (.struct #[f0, f1])) (hone : oneCellFields P #[f0, f1] = true)
    (h : DataW.trod enc P W base spare held n t [v0, v1] = some x) :
    ∃ y0 y1 k, DataW.trod enc P W base spare held k f0.type [v0] = some y0 ∧ DataW.trod enc P W base spare held k f1.type [v1] = some y1 := by
  obtain ⟨y0, y1, k, hx, _, h0, h1⟩ := trod_struct2 hs h
  obtain ⟨o0, k0⟩ := hone_of hone 0 f0 rfl
  obtain ⟨o1, k1⟩ := hone_of hone 1 f1 rfl
  exact ⟨y0, y1, k, by simpa [o0, k0] using h0, by simpa [o1, k1] using h1⟩
theorem numRow_of {H : Type} {enc : TypeId × Value → H} {W : World} {base : Nat} {spare : Nat → Bool} {held : Bool} {n : Nat} {v : Value} {y : DataW H × List MemPlace} (h : DataW.trod enc Tryz.prog W base spare held n 23 [v] = some y) :
    ∃ (a : Option Addr) (cap : Nat) (xs : List Int), v = .slice a xs.length cap ∧ xs.length ≤ cap ∧ cap ≤ maxLen ∧ NumRow W a xs := by
  rcases open_slice Tryz.underlying23 h with ⟨hcs, _⟩ | ⟨a, len, cap, m, n', D, Pl, hcs, hb, hl, hm, hmm, hy, hx⟩
  · exact ⟨none, 0, [], by simpa using hcs, Nat.le_refl _, Nat.zero_le _, .inl rfl⟩
  · have hlm : len ≤ m := by rw [hmm]; split <;> omega
    rw [cellsNum] at hx
    have each : ∀ i, i < len → ∃ x : Int, W.cell? (a.add i) = some (.int .i64 x) := fun i hi => by
      obtain ⟨cs', h1, h2⟩ := hx i (by omega)
      obtain ⟨v0, rfl, c0⟩ := one h1
      obtain ⟨op, e0, _, _⟩ := DataW.trod_int Tryz.underlying3 h2
      simp at e0
      subst e0
      exact ⟨op, c0⟩
    obtain ⟨f, hf⟩ := choose_lt each
    refine ⟨some a, cap, (List.range len).map f, by simpa using hcs, by simpa using hl, hm, ?_⟩
    by_cases h0 : len = 0
    · subst h0; exact .inl rfl
    · have ha := addr_of (by simpa using hf 0 (by omega))
      refine .inr ⟨a.block, a.off, by rw [← ha], fun i hi => ?_⟩
      have hi' : i < len := by simpa using hi
      have c0 := hf i hi'
      rw [ha, add_plain] at c0
      simp only [List.getElem_map, List.getElem_range]
      exact c0
theorem list_ne {α : Type} [DecidableEq α] {xs ys : List α} {k : Nat} (hx : k < xs.length) (hy : k < ys.length) (h : xs[k] ≠ ys[k]) : false = decide (xs = ys) := by
  symm; rw [decide_eq_false_iff_not]
  intro e; subst e; exact h rfl
theorem list_len {α : Type} [DecidableEq α] {xs ys : List α} (h : xs.length ≠ ys.length) : false = decide (xs = ys) := by
  symm; rw [decide_eq_false_iff_not]
  intro e; subst e; exact h rfl
/-- The first k are the same. -/
def AlikeN {α : Type} (xs ys : List α) (k : Nat) : Prop := ∀ i (h : i < xs.length) (h' : i < ys.length), i < k → xs[i] = ys[i]
theorem list_eq {α : Type} [DecidableEq α] {xs ys : List α} {k : Nat} (hx : xs.length = k) (hy : ys.length = k) (h : AlikeN xs ys k) : true = decide (xs = ys) := by
  symm; rw [decide_eq_true_iff]
  exact List.ext_getElem (by omega) fun i h1 h2 => h i h1 h2 (by omega)
theorem AlikeN.step {α : Type} {xs ys : List α} {k : Nat} (h : AlikeN xs ys k) (hx : k < xs.length) (hy : k < ys.length) (e : xs[k] = ys[k]) : AlikeN xs ys (k + 1) := fun i h1 h2 hk => by
  by_cases hik : i = k
  · subst hik; exact e
  · exact h i h1 h2 (by omega)
theorem AlikeN.zero {α : Type} (xs ys : List α) : AlikeN xs ys 0 := fun i _ _ h => by omega
set_option maxHeartbeats 2000000 in
theorem equalInts_any (a a' : Option Addr) (cap cap' : Nat) (xs ys : List Int) (w : World) (hcap : xs.length ≤ cap) (hcm : cap ≤ maxLen) (hcap' : ys.length ≤ cap') (hcm' : cap' ≤ maxLen) (hR : NumRow w a xs) (hQ : NumRow w a' ys) :
    Calls Tryz.prog 60 #[.slice a xs.length cap, .slice a' ys.length cap'] w fun e w' => e = .returned (.bool (decide (xs = ys))) ∧ Below w.heap.size w w' := by
  have HR := hide hR
  have HQ := hide hQ
  clear hR hQ
  unfold maxLen at hcm hcm'
  by_cases hl : xs.length = ys.length
  · obtain ⟨n, hx, hy⟩ : ∃ n, xs.length = n ∧ ys.length = n := ⟨_, rfl, hl.symm⟩
    clear hl
    rw [hx, hy]
    have HX := hide hx
    have HY := hide hy
    have hn : (n : Int) ≤ 9223372036854775807 := by omega
    clear hx hy hcap hcap'
    go_enter Tryz.func60, Tryz.ntmps60
    go_wp2_with fail
    go_loopw [13] (fun i w' => ∃ k : Nat, k ≤ n ∧ i = .int .i64 k ∧ AlikeN xs ys k ∧ Below w.heap.size w w') (fun i _ => n - (intOf i).toNat)
    case atStart => exact ⟨0, Nat.zero_le _, rfl, AlikeN.zero _ _, Below.refl _ _⟩
    case round =>
      obtain ⟨k, hk, rfl, hA, hB⟩ := hrel
      have HA := hide hA
      clear hA
      by_cases hkl : k < n
      · have hkx : k < xs.length := by have := unhide HX; omega
        have hky : k < ys.length := by have := unhide HY; omega
        obtain ⟨b, off, rfl⟩ := (unhide HR).get (by omega)
        obtain ⟨b', off', rfl⟩ := (unhide HQ).get (by omega)
        have c0 := ((unhide HR).below hB).cells hkx
        have d0 := ((unhide HQ).below hB).cells hky
        have hkl' : (k : Int) < (n : Int) := by omega
        have hk0 : (0 : Int) ≤ (k : Int) := by omega
        by_cases he : xs[k] = ys[k]
        · have HE := hide ((unhide HA).step hkx hky he)
          rw [← he] at d0
          generalize xs[k] = x at *
          clear he
          go_wp2_with fail
          go_quiet (fail)
          go_wp2_with fail
          exact ⟨⟨k + 1, by omega, by go_num, unhide HE, by first | exact hB | exact bl_drewN hB _ | exact hB.drew⟩, by simp [intOf]; omega⟩
        · have HE := hide (list_ne hkx hky he)
          generalize xs[k] = x at *
          generalize ys[k] = y at *
          go_wp2_with fail
          go_quiet (fail)
          go_wp2_with fail
          go_ret
          exact ⟨ret_bool (unhide HE), by first | exact hB | exact bl_drewN hB _ | exact hB.drew⟩
      · have hke : k = n := by omega
        have HE := hide (list_eq (unhide HX) (unhide HY) (hke ▸ unhide HA))
        go_wp2_with fail
        go_ret
        exact ⟨ret_bool (unhide HE), hB⟩
  · have HE := hide (list_len hl)
    have hl' : ¬ (xs.length : Int) = (ys.length : Int) := by omega
    go_enter Tryz.func60, Tryz.ntmps60
    go_wp2_with fail
    go_ret
    exact ⟨ret_bool (unhide HE), Below.refl _ _⟩
end Go.Proofs.YthbbmookhcalkaaGreat.LayN
