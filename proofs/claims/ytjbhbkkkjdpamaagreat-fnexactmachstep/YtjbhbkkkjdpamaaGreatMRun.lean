/- The contracts of the program's runner: its stack of calls, and what lies in its memory. -/
import Derived.Test.YtjbhbkkkjdpamaaGreatMD
import Derived.Test.YtjbhbkkkjdpamaaGreatMark
import Derived.Deep.RegionLaw
import Derived.Deep.QuietTactic
import Derived.BigQuiet
import Derived.BigRegion
namespace Go.Proofs.YtjbhbkkkjdpamaaGreat.MRun
open Go.ChangeShapes Go.WideShapes Go.ChangeAt Go.RowKit Go.Joins Go.WideMaps Go.Maps
open Go.Proofs.YtjbhbkkkjdpamaaGreat.Base Go.Proofs.YtjbhbkkkjdpamaaGreat.InsA Go.Proofs.YtjbhbkkkjdpamaaGreat.Funs Go.Proofs.YtjbhbkkkjdpamaaGreat.Open Go.Proofs.YtjbhbkkkjdpamaaGreat.Keep Go.Proofs.YtjbhbkkkjdpamaaGreat.UnitS Go.Proofs.YtjbhbkkkjdpamaaGreat.UnitM Go.Proofs.YtjbhbkkkjdpamaaGreat.Mach Go.Proofs.YtjbhbkkkjdpamaaGreat.Mark Go.Proofs.YtjbhbkkkjdpamaaGreat.MOk Go.Proofs.YtjbhbkkkjdpamaaGreat.MD
set_option linter.unusedVariables false
set_option maxRecDepth 100000

def flatS (xs : List SpotD) : List Value := xs.flatMap fun s => [.int .i64 s.f, .int .i64 s.p]
/-- The cells of a runner. -/
def runL (pv : Value) (mb : Nat) (f p c : Int) (xs : List SpotD) (n : Nat) (ov : Value) (d : Int) : List Value :=
  [pv, .map (some mb), .int .i64 f, .int .i64 p, .int .i64 c] ++ flatS xs ++ [.int .i64 n, ov, .int .i64 d]
/-- A runner in block R. -/
def RunBox (w : World) (R : Nat) (pv : Value) (mb : Nat) (f p c : Int) (xs : List SpotD) (n : Nat) (ov : Value) (d : Int) : Prop :=
  xs.length = 5 ∧ w.heap[R]? = some (.cells (runL pv mb f p c xs n ov d).toArray 138)
theorem five {xs : List SpotD} (h : xs.length = 5) : ∃ x0 x1 x2 x3 x4, xs = [x0, x1, x2, x3, x4] := by
  match xs, h with
  | [x0, x1, x2, x3, x4], _ => exact ⟨x0, x1, x2, x3, x4, rfl⟩
theorem RunBox.below {w w' : World} {R : Nat} {pv : Value} {mb : Nat} {f p c : Int} {xs : List SpotD} {n : Nat} {ov : Value} {d : Int} (h : RunBox w R pv mb f p c xs n ov d) (hb : Below w.heap.size w w') : RunBox w' R pv mb f p c xs n ov d := ⟨h.1, box_below h.2 hb⟩
/-- A cell of it. -/
theorem RunBox.cell {w : World} {R : Nat} {pv : Value} {mb : Nat} {f p c : Int} {xs : List SpotD} {n : Nat} {ov : Value} {d : Int} (h : RunBox w R pv mb f p c xs n ov d) (i : Nat) {v : Value} (hv : (runL pv mb f p c xs n ov d)[i]? = some v) : w.cell? ⟨R, i, none⟩ = some v := by
  rw [cell_of_block h.2]; simpa using hv
theorem RunBox.thaw {w : World} {R : Nat} {pv : Value} {mb : Nat} {f p c : Int} {xs : List SpotD} {n : Nat} {ov : Value} {d : Int} (h : RunBox w R pv mb f p c xs n ov d) (i : Nat) : w.frozen? ⟨R, i, none⟩ = false := unfrozen_of_block h.2 i
theorem spots_at {xs : List SpotD} (h : xs.length = 5) (pv : Value) (mb : Nat) (f p c : Int) (n : Nat) (ov : Value) (d : Int) : (runL pv mb f p c xs n ov d)[15]? = some (.int .i64 n) ∧ (runL pv mb f p c xs n ov d)[16]? = some ov ∧ (runL pv mb f p c xs n ov d)[17]? = some (.int .i64 d) := by
  obtain ⟨x0, x1, x2, x3, x4, rfl⟩ := five h
  exact ⟨rfl, rfl, rfl⟩
theorem eq_cells {w : World} {R : Nat} {C C' : Array Value} {t : TypeId} (h : w.heap[R]? = some (.cells C t)) (e : C = C') : w.heap[R]? = some (.cells C' t) := by rw [← e]; exact h
theorem but_end {R : Nat} {w w1 : World} (h : But R w w1) (o : Obj) : But R w (w1.alloc o).drew := (h.below (below_alloc1 _ o)).below (Below.refl _ _).drew

set_option maxHeartbeats 4000000 in
theorem push_any (R : Nat) (pv : Value) (mb : Nat) (f p c : Int) (xs : List SpotD) (n : Nat) (ov : Value) (d : Int) (s : SpotD) (w : World) (hn : n < 5) (h : RunBox w R pv mb f p c xs n ov d) :
    Calls Tryz.prog 95 #[.pointer (some ⟨R, 5, none⟩), .agg #[.int .i64 s.f, .int .i64 s.p]] w fun e w' => e = .returned (.bool true) ∧ RunBox w' R pv mb f p c (xs.set n s) (n + 1) ov d ∧ But R w w' := by
  obtain ⟨x0, x1, x2, x3, x4, rfl⟩ := five h.1
  have HB := hide h
  have hR : R < w.heap.size := (Array.getElem?_eq_some_iff.1 h.2).1
  clear h
  obtain rfl | rfl | rfl | rfl | rfl : n = 0 ∨ n = 1 ∨ n = 2 ∨ n = 3 ∨ n = 4 := by omega
  all_goals
    have q0 := (unhide HB).cell 5 rfl
    have q1 := (unhide HB).cell 6 rfl
    have q2 := (unhide HB).cell 7 rfl
    have q3 := (unhide HB).cell 8 rfl
    have q4 := (unhide HB).cell 9 rfl
    have q5 := (unhide HB).cell 10 rfl
    have q6 := (unhide HB).cell 11 rfl
    have q7 := (unhide HB).cell 12 rfl
    have q8 := (unhide HB).cell 13 rfl
    have q9 := (unhide HB).cell 14 rfl
    have qn := (unhide HB).cell 15 rfl
    have z0 := (unhide HB).thaw 5
    have z1 := (unhide HB).thaw 6
    have z2 := (unhide HB).thaw 7
    have z3 := (unhide HB).thaw 8
    have z4 := (unhide HB).thaw 9
    have z5 := (unhide HB).thaw 10
    have z6 := (unhide HB).thaw 11
    have z7 := (unhide HB).thaw 12
    have z8 := (unhide HB).thaw 13
    have z9 := (unhide HB).thaw 14
    have zn := (unhide HB).thaw 15
    go_enter Tryz.func95, Tryz.ntmps95
    go_wp2_with fail
    go_region
    go_wp2_with fail
    go_ret
    refine ⟨rfl, ⟨rfl, ?_⟩, but_end ((((But.refl R w).set _ _).set _ _).set _ _) _⟩
    exact eq_cells (box_drew (box_below (block_setCell (block_setCell (block_setCell (unhide HB).2 _) _) _) (below_alloc1 _ _))) rfl
set_option maxHeartbeats 1000000 in
theorem push_full (R : Nat) (pv : Value) (mb : Nat) (f p c : Int) (xs : List SpotD) (ov : Value) (d : Int) (s : SpotD) (w : World) (h : RunBox w R pv mb f p c xs 5 ov d) :
    Calls Tryz.prog 95 #[.pointer (some ⟨R, 5, none⟩), .agg #[.int .i64 s.f, .int .i64 s.p]] w fun e w' => e = .returned (.bool false) ∧ Below w.heap.size w w' := by
  obtain ⟨x0, x1, x2, x3, x4, rfl⟩ := five h.1
  have hR : R < w.heap.size := (Array.getElem?_eq_some_iff.1 h.2).1
  have qn := h.cell 15 rfl
  clear h
  go_enter Tryz.func95, Tryz.ntmps95
  go_wp2_with fail
  go_ret
  exact ⟨rfl, below_alloc1 _ _⟩
set_option maxHeartbeats 4000000 in
theorem pop_any (R : Nat) (pv : Value) (mb : Nat) (f p c : Int) (xs : List SpotD) (n : Nat) (ov : Value) (d : Int) (w : World) (hn : n < 5) (h : RunBox w R pv mb f p c xs (n + 1) ov d) :
    Calls Tryz.prog 209 #[.pointer (some ⟨R, 5, none⟩)] w fun e w' => e = .returned (.tuple #[.agg #[.int .i64 (xs.getD n default).f, .int .i64 (xs.getD n default).p], .bool true]) ∧ RunBox w' R pv mb f p c xs n ov d ∧ But R w w' := by
  obtain ⟨x0, x1, x2, x3, x4, rfl⟩ := five h.1
  have HB := hide h
  have hR : R < w.heap.size := (Array.getElem?_eq_some_iff.1 h.2).1
  clear h
  obtain rfl | rfl | rfl | rfl | rfl : n = 0 ∨ n = 1 ∨ n = 2 ∨ n = 3 ∨ n = 4 := by omega
  all_goals
    have q0 := (unhide HB).cell 5 rfl
    have q1 := (unhide HB).cell 6 rfl
    have q2 := (unhide HB).cell 7 rfl
    have q3 := (unhide HB).cell 8 rfl
    have q4 := (unhide HB).cell 9 rfl
    have q5 := (unhide HB).cell 10 rfl
    have q6 := (unhide HB).cell 11 rfl
    have q7 := (unhide HB).cell 12 rfl
    have q8 := (unhide HB).cell 13 rfl
    have q9 := (unhide HB).cell 14 rfl
    have qn := (unhide HB).cell 15 rfl
    have zn := (unhide HB).thaw 15
    go_enter Tryz.func209, Tryz.ntmps209
    go_wp2_with fail
    go_region
    go_wp2_with fail
    refine bodyPost_ret (v := .tuple #[.agg #[.int .i64 _, .int .i64 _], .bool true]) (by simp [results, Tryz.results209, go_sem]) rfl ⟨rfl, ⟨rfl, ?_⟩, but_end ((But.refl R w).set _ _) _⟩
    exact eq_cells (box_drew (box_below (block_setCell (unhide HB).2 _) (below_alloc1 _ _))) rfl
set_option maxHeartbeats 1000000 in
theorem pop_none (R : Nat) (pv : Value) (mb : Nat) (f p c : Int) (xs : List SpotD) (ov : Value) (d : Int) (w : World) (h : RunBox w R pv mb f p c xs 0 ov d) :
    Calls Tryz.prog 209 #[.pointer (some ⟨R, 5, none⟩)] w fun e w' => e = .returned (.tuple #[.agg #[.int .i64 0, .int .i64 0], .bool false]) ∧ Below w.heap.size w w' := by
  obtain ⟨x0, x1, x2, x3, x4, rfl⟩ := five h.1
  have hR : R < w.heap.size := (Array.getElem?_eq_some_iff.1 h.2).1
  have qn := h.cell 15 rfl
  clear h
  go_enter Tryz.func209, Tryz.ntmps209
  go_wp2_with fail
  exact bodyPost_ret (v := .tuple #[.agg #[.int .i64 0, .int .i64 0], .bool false]) (by simp [results, Tryz.results209, go_sem]) rfl ⟨rfl, below_alloc1 _ _⟩
/-- Places of the call's own, in a slice. -/
def SpotOwn (w : World) (B : Nat) (v : Value) (st : List SpotD) : Prop := w.ownsRow B 31 2 v st.length (flatS st)
def NumOwn (w : World) (B : Nat) (v : Value) (os : List Int) : Prop := w.ownsRow B 3 1 v os.length (os.map (Value.int .i64))
theorem infoSpotP : ∃ i, Tryz.prog.info? 31 = some i ∧ i.zero = some (.agg #[.int .i64 0, .int .i64 0]) ∧ i.size = 2 ∧ i.bytes = 16 := by
  obtain ⟨i, hi, h⟩ := Option.map_eq_some_iff.1 infoSpot
  simp only [Prod.mk.injEq] at h
  exact ⟨i, hi, h.1, h.2.1, h.2.2⟩
theorem infoIntP : ∃ i, Tryz.prog.info? 3 = some i ∧ i.zero = some (.int .i64 0) ∧ i.size = 1 ∧ i.bytes = 8 := by
  obtain ⟨i, hi, h⟩ := Option.map_eq_some_iff.1 infoInt
  simp only [Prod.mk.injEq] at h
  exact ⟨i, hi, h.1, h.2.1, h.2.2⟩
theorem flat_len (xs : List SpotD) : (flatS xs).length = xs.length * 2 := by
  induction xs with
  | nil => rfl
  | cons x r ih => simp [flatS] at ih ⊢; omega
theorem flat_one (xs : List SpotD) : ∀ u ∈ flatS xs, u.oneCell' = true := by
  intro u hu
  unfold flatS at hu
  obtain ⟨s, _, hs⟩ := List.mem_flatMap.1 hu
  simp at hs
  rcases hs with rfl | rfl <;> rfl
theorem flat_append (xs ys : List SpotD) : flatS (xs ++ ys) = flatS xs ++ flatS ys := by simp [flatS]
theorem step_run {P : Program} {ops : Array Oper} {o : Oper} {a : Act} {w w' : World} {K : Act → World → Prop} {Q : Exit → Act → World → Prop} {E : Prop} (hgd : o.guard = none) (s x : Operand) (t tx : TypeId)
    (ho : o.op = Op.call { callee := Callee.builtin Builtin.append, args := #[s, x], argTypes := #[t, tx] }) (v u v' : Value) (hs : a.eval s = v) (hx : a.eval x = u) (hr : (Builtin.append_ #[t, tx] o.type #[v, u]).run P w = .ok v' w') (hK : K (a.put o.dst v') w') :
    if Region.wanted o (yielded ops a.tmps) = true then Oper.wp P o a w K Q else E := by
  have hw : Region.wanted o (yielded ops a.tmps) = true := by simp [Region.wanted, hgd]
  rw [if_pos hw]
  unfold Oper.wp
  simp [execOp, ho, resolve, invoke, builtin, hs, hx, hr, Result.andThen]
  exact hK
theorem stack_cells {w : World} {R : Nat} {pv : Value} {mb : Nat} {f p c : Int} {xs : List SpotD} {n : Nat} {ov : Value} {d : Int} (h : RunBox w R pv mb f p c xs n ov d) (hn : n ≤ 5) : ∀ j u, (flatS (xs.take n))[j]? = some u → w.drew.cell? ((⟨R, 5, none⟩ : Addr).add j) = some u := fun j u hj => by
  have hj' : j < (flatS (xs.take n)).length := (List.getElem?_eq_some_iff.1 hj).1
  have e : flatS xs = flatS (xs.take n) ++ flatS (xs.drop n) := by rw [← flat_append, List.take_append_drop]
  have h1 : (runL pv mb f p c xs n ov d)[5 + j]? = some u := by
    unfold runL
    rw [List.append_assoc, List.getElem?_append_right (by simp), e, List.append_assoc]
    simp only [List.length_cons, List.length_nil, Nat.add_sub_cancel_left]
    rw [List.getElem?_append_left (by simpa using hj')]
    simpa using hj
  rw [add_plain]
  exact h.cell (5 + j) h1
set_option maxHeartbeats 4000000 in
theorem list_any (R : Nat) (pv : Value) (mb : Nat) (f p c : Int) (xs : List SpotD) (n : Nat) (ov : Value) (d : Int) (w : World) (hn : n ≤ 5) (h : RunBox w R pv mb f p c xs n ov d) :
    Calls Tryz.prog 97 #[.pointer (some ⟨R, 5, none⟩)] w fun e w' => ∃ v, e = .returned v ∧ SpotOwn w' w.heap.size v (xs.take n) ∧ Below w.heap.size w w' := by
  obtain ⟨i0, hi, hz0, hz1, hz2⟩ := infoSpotP
  have hR : R < w.heap.size := (Array.getElem?_eq_some_iff.1 h.2).1
  have hl : (xs.take n).length = n := by rw [List.length_take, h.1]; omega
  have qn := h.cell 15 (spots_at h.1 pv mb f p c n ov d).1
  obtain ⟨v, w1, hrun, hown, hgrow, _, _⟩ := run_append_own_at (P := Tryz.prog) w.drew w.heap.size 45 45 31 i0 _ 2 16 Tryz.underlying45 hi hz0 hz1 hz2 rfl (by decide) (.slice none 0 0) 0 [] (World.ownsRow_nil _ _ _ _) ⟨R, 5, none⟩ n 5 (flatS (xs.take n)) (by rw [flat_len, hl]) (stack_cells h hn) (flat_one _) (by unfold maxLen; omega) (by omega) (Nat.le_refl _)
  have HO : Hid (SpotOwn w1 w.heap.size v (xs.take n)) := by
    show World.ownsRow _ _ _ _ _ _ _
    rw [hl]; simpa using hown
  have HB : Hid (Below w.heap.size w w1) := (Below.refl _ _).drew.grown hgrow (Nat.le_refl _) (fun g hg => by cases hg)
  have HRUN := hide hrun
  clear h hrun hown hgrow hi hz0 hz1 hz2
  have hn' : (n : Int) ≤ 5 := by omega
  have hn0 : (0 : Int) ≤ (n : Int) := by omega
  go_enter Tryz.func97, Tryz.ntmps97
  go_wp2_with fail
  go_region_law (refine step_run rfl (.const (.slice none 0 0)) (.tmp 10) 45 45 rfl _ _ _ (by simp [Act.eval]) (by simp [Act.eval, Act.put]) (unhide HRUN) ?_)
  all_goals (go_wp2_with fail)
  all_goals go_ret
  all_goals (exact ⟨v, rfl, unhide HO, unhide HB⟩)
end Go.Proofs.YtjbhbkkkjdpamaaGreat.MRun
