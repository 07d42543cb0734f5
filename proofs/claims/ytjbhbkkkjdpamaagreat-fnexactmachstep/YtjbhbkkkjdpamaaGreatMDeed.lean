/- The contracts of the program's runner: the next place, the first of a name, and what each instruction does. -/
import Derived.Test.YtjbhbkkkjdpamaaGreatMRun
import Derived.Test.YtjbhbkkkjdpamaaGreatWantsI
import Derived.Deep.RegionWith
import Derived.Deep.RegionHeld3
import Derived.Maps.OwnOps
import Derived.OwnWalk
namespace Go.Proofs.YtjbhbkkkjdpamaaGreat.MDeed
open Go.ChangeShapes Go.WideShapes Go.ChangeAt Go.RowKit Go.Joins Go.WideMaps Go.Maps
open Go.Proofs.YtjbhbkkkjdpamaaGreat.Base Go.Proofs.YtjbhbkkkjdpamaaGreat.InsA Go.Proofs.YtjbhbkkkjdpamaaGreat.Funs Go.Proofs.YtjbhbkkkjdpamaaGreat.Open Go.Proofs.YtjbhbkkkjdpamaaGreat.Keep Go.Proofs.YtjbhbkkkjdpamaaGreat.UnitS Go.Proofs.YtjbhbkkkjdpamaaGreat.UnitM Go.Proofs.YtjbhbkkkjdpamaaGreat.WantsI Go.Proofs.YtjbhbkkkjdpamaaGreat.Mach Go.Proofs.YtjbhbkkkjdpamaaGreat.Mark Go.Proofs.YtjbhbkkkjdpamaaGreat.Sum Go.Proofs.YtjbhbkkkjdpamaaGreat.MOk Go.Proofs.YtjbhbkkkjdpamaaGreat.MD Go.Proofs.YtjbhbkkkjdpamaaGreat.MRun
set_option linter.unusedVariables false
set_option maxRecDepth 100000

set_option maxHeartbeats 2000000 in
theorem next_any (R : Nat) (pv : Value) (mb : Nat) (f p c : Int) (xs : List SpotD) (n : Nat) (ov : Value) (d : Int) (w : World) (hp : 0 ≤ p) (hp2 : p ≤ 100) (h : RunBox w R pv mb f p c xs n ov d) :
    Calls Tryz.prog 201 #[.pointer (some ⟨R, 0, none⟩)] w fun e w' => e = .returned (.agg #[.int .i64 f, .int .i64 (p + 1)]) ∧ Below w.heap.size w w' := by
  have hR : R < w.heap.size := (Array.getElem?_eq_some_iff.1 h.2).1
  have q2 := h.cell 2 rfl
  have q3 := h.cell 3 rfl
  clear h
  go_enter Tryz.func201, Tryz.ntmps201
  go_wp2_with fail
  go_region
  go_wp2_with fail
  exact bodyPost_ret (v := .agg #[.int .i64 f, .int .i64 (p + 1)]) (by simp [results, Tryz.results201, go_sem]) rfl ⟨rfl, (below_alloc1 _ _).drew⟩
set_option maxHeartbeats 2000000 in
theorem begin_any (R : Nat) (pv : Value) (mb : Nat) (f p c : Int) (xs : List SpotD) (n : Nat) (ov : Value) (d : Int) (fs : List FunD) (s : ByteArray) (w : World) (hs : s.size ≤ maxLen) (hf : 0 ≤ findI fs s) (hM : w.ownsMap Tryz.prog 9 (plainElem Tryz.prog 3) mb fs.length (PD fs fs.length)) (h : RunBox w R pv mb f p c xs n ov d) :
    Calls Tryz.prog 205 #[.pointer (some ⟨R, 0, none⟩), .string s] w fun e w' => e = .returned (.agg #[.int .i64 (findI fs s), .int .i64 0]) ∧ Below w.heap.size w w' := by
  have hR : R < w.heap.size := (Array.getElem?_eq_some_iff.1 h.2).1
  have q1 := h.cell 1 rfl
  clear h
  have hkey : keyOf Tryz.prog 9 (.string s) = some (keyS s) := keyOf_string_mk Tryz.underlying9 hs
  have HM := hide (map_below hM (below_alloc1 w (.cells #[.int .i64 0, .int .i64 0] 31)))
  have HH : Hid (has (PD fs fs.length) (keyS s) = true) := by
    cases hh : has (PD fs fs.length) (keyS s)
    · have := no_find hh; omega
    · rfl
  clear hM
  go_enter Tryz.func205, Tryz.ntmps205
  go_wp2_with (first
    | (at_lookup; refine wpList_lookup_own_int _ rfl _ _ 70 rfl 9 3 .i64 lawS Tryz.underlying70 Tryz.underlying3 (zeroI _) mb fs.length _ rfl (unhide HM) _ _ rfl hkey ?_; intro c1 hat hwc; have hc1 := at_find (unhide HH) hat; subst hc1; clear hat hwc)
    | fail)
  exact bodyPost_ret (v := .agg #[.int .i64 (findI fs s), .int .i64 0]) (by simp [results, Tryz.results205, go_sem]) rfl ⟨rfl, below_alloc1 _ _⟩
/-- A runner that holds a machine; W0: the world in which it was made. -/
def RunIs (W0 w : World) (R mb : Nat) (pv : Value) (fs : List FunD) (m : MD) : Prop :=
  ∃ xs ov, RunBox w R pv mb m.f m.p m.c xs m.st.length ov m.d ∧ xs.take m.st.length = m.st ∧ m.st.length ≤ 5 ∧ W0.heap.size ≤ R ∧ NumOwn w W0.heap.size ov m.os ∧ w.ownsMap Tryz.prog 9 (plainElem Tryz.prog 3) mb fs.length (PD fs fs.length) ∧ W0.heap.size ≤ mb ∧ Below W0.heap.size W0 w
/-- What an instruction has turned, but for the place and the end. -/
def holdM (m m1 : MD) : MD := { m1 with f := m.f, p := m.p, d := m.d }
/-- What it answers. -/
def tellM (m : MD) : Value := .tuple #[.agg #[.int .i64 m.f, .int .i64 m.p], .int .i64 m.d]
theorem num_below {w w' : World} {B : Nat} {v : Value} {os : List Int} (h : NumOwn w B v os) (hb : Below w.heap.size w w') : NumOwn w' B v os := by
  obtain ⟨h0, h1 | ⟨g, cap, cur, hv, hB, hg, hr⟩⟩ := h
  · exact ⟨h0, .inl h1⟩
  · exact ⟨h0, .inr ⟨g, cap, cur, hv, hB, box_below hg hb, hr⟩⟩
theorem spot_below {w w' : World} {B : Nat} {v : Value} {st : List SpotD} (h : SpotOwn w B v st) (hb : Below w.heap.size w w') : SpotOwn w' B v st := by
  obtain ⟨h0, h1 | ⟨g, cap, cur, hv, hB, hg, hr⟩⟩ := h
  · exact ⟨h0, .inl h1⟩
  · exact ⟨h0, .inr ⟨g, cap, cur, hv, hB, box_below hg hb, hr⟩⟩
theorem RunIs.below {W0 w w' : World} {R mb : Nat} {pv : Value} {fs : List FunD} {m : MD} (h : RunIs W0 w R mb pv fs m) (hb : Below w.heap.size w w') : RunIs W0 w' R mb pv fs m := by
  obtain ⟨xs, ov, h1, h2, h3, h4, h5, h6, h7, h8⟩ := h
  exact ⟨xs, ov, h1.below hb, h2, h3, h4, num_below h5 hb, map_below h6 hb, h7, bl_trans h8 hb⟩
theorem num_but {w w' : World} {g B : Nat} {v : Value} {os : List Int} (h : NumOwn w B v os) (hb : But g w w') (hne : v.ownBlock ≠ some g) : NumOwn w' B v os := World.ownsRow.kept h hb (.inr hne)
theorem map_but {w w' : World} {P : Program} {k b n g : Nat} {R : Value → Option (DataW Unit × List MemPlace)} {D : DataW Unit} (h : w.ownsMap P k R b n D) (hb : But g w w') (hne : b ≠ g) : w'.ownsMap P k R b n D := by
  obtain ⟨es, clock, hh, F, hs, hD⟩ := h
  exact ⟨es, clock, hb.box hh hne, F, hs, hD⟩
theorem map_ne {w : World} {P : Program} {k b n R : Nat} {E : Value → Option (DataW Unit × List MemPlace)} {D : DataW Unit} {C : Array Value} {t : TypeId} {z : Nat × Nat} (h : w.ownsMap P k E b n D) (hR : w.heap[R]? = some (.cells C t z)) : b ≠ R := by
  obtain ⟨es, clock, hh, _⟩ := h
  intro e; subst e; rw [hh] at hR; cases hR
theorem num_ne {w : World} {B R : Nat} {v : Value} {os : List Int} {C : Array Value} {z : Nat × Nat} (h : NumOwn w B v os) (hR : w.heap[R]? = some (.cells C 138 z)) : v.ownBlock ≠ some R := by
  obtain ⟨_, ⟨rfl, _⟩ | ⟨g, cap, cur, rfl, _, hg, _⟩⟩ := h
  · exact fun e => by cases e
  · intro e
    have e' : g = R := by simpa [Value.ownBlock] using e
    subst e'
    rw [hg] at hR
    simp at hR
/-- Where only the runner's own block has been turned. -/
theorem RunIs.turn {W0 w w' : World} {R mb : Nat} {pv : Value} {fs : List FunD} {m m' : MD} {xs xs' : List SpotD} {ov : Value} (h1 : RunBox w R pv mb m.f m.p m.c xs m.st.length ov m.d) (h4 : W0.heap.size ≤ R) (h5 : NumOwn w W0.heap.size ov m.os) (h6 : w.ownsMap Tryz.prog 9 (plainElem Tryz.prog 3) mb fs.length (PD fs fs.length)) (h7 : W0.heap.size ≤ mb) (h8 : Below W0.heap.size W0 w)
    (hb : But R w w') (k1 : RunBox w' R pv mb m'.f m'.p m'.c xs' m'.st.length ov m'.d) (k2 : xs'.take m'.st.length = m'.st) (k3 : m'.st.length ≤ 5) (k5 : m'.os = m.os) : RunIs W0 w' R mb pv fs m' :=
  ⟨xs', ov, k1, k2, k3, h4, by rw [k5]; exact num_but h5 hb (num_ne h5 h1.2), map_but h6 hb (map_ne h6 h1.2), h7, But.down h8 hb h4⟩
theorem num_ne2 {w : World} {B R : Nat} {v : Value} {os : List Int} {C : Array Value} {z : Nat × Nat} (h : NumOwn w B v os) (hR : w.heap[R]? = some (.cells C 31 z)) : v.ownBlock ≠ some R := by
  obtain ⟨_, ⟨rfl, _⟩ | ⟨g, cap, cur, rfl, _, hg, _⟩⟩ := h
  · exact fun e => by cases e
  · intro e
    have e' : g = R := by simpa [Value.ownBlock] using e
    subst e'
    rw [hg] at hR
    simp at hR
theorem box_ne {w : World} {R N : Nat} {C D : Array Value} {z y : Nat × Nat} (hR : w.heap[R]? = some (.cells C 138 z)) (hN : w.heap[N]? = some (.cells D 31 y)) : R ≠ N := by
  intro e; subst e; rw [hR] at hN; simp at hN
/-- Where only another block, of a place, has been turned. -/
theorem RunIs.other {W0 w w' : World} {R mb N : Nat} {pv : Value} {fs : List FunD} {m : MD} {C : Array Value} (h : RunIs W0 w R mb pv fs m) (hN : w.heap[N]? = some (.cells C 31)) (h0 : W0.heap.size ≤ N) (hb : But N w w') : RunIs W0 w' R mb pv fs m := by
  obtain ⟨xs, ov, h1, h2, h3, h4, h5, h6, h7, h8⟩ := h
  exact ⟨xs, ov, ⟨h1.1, hb.box h1.2 (box_ne h1.2 hN)⟩, h2, h3, h4, num_but h5 hb (num_ne2 h5 hN), map_but h6 hb (map_ne h6 hN), h7, But.down h8 hb h0⟩
theorem box2 {w : World} {B : Nat} {v0 v1 : Value} {t : TypeId} (h : w.heap[B]? = some (.cells #[v0, v1] t)) : (w.cell? ⟨B, 0, none⟩ = some v0 ∧ w.cell? ⟨B, 1, none⟩ = some v1) ∧ w.frozen? ⟨B, 0, none⟩ = false ∧ w.frozen? ⟨B, 1, none⟩ = false :=
  ⟨⟨by rw [cell_of_block h]; rfl, by rw [cell_of_block h]; rfl⟩, unfrozen_of_block h 0, unfrozen_of_block h 1⟩
/-- The answer's place in memory, two blocks behind. -/
theorem ans2 (w : World) (o : Obj) (v0 v1 : Value) (t : TypeId) : ((w.alloc o).alloc (.cells #[v0, v1] t)).heap[w.heap.size + 1]? = some (.cells #[v0, v1] t) := by
  have := new_block (w.alloc o) (.cells #[v0, v1] t)
  simpa [World.size_alloc] using this
theorem RunIs.size {W0 w : World} {R mb : Nat} {pv : Value} {fs : List FunD} {m : MD} (h : RunIs W0 w R mb pv fs m) : W0.heap.size ≤ w.heap.size := by
  obtain ⟨_, _, _, _, _, _, _, _, _, h8⟩ := h
  exact h8.size

set_option maxHeartbeats 2000000 in
theorem end_any (W0 : World) (R mb : Nat) (pv : Value) (fs : List FunD) (m : MD) (w : World) (h : RunIs W0 w R mb pv fs m) :
    Calls Tryz.prog 210 #[.agg #[], .pointer (some ⟨R, 0, none⟩)] w fun e w' => e = .returned (tellM { m with d := 1 }) ∧ RunIs W0 w' R mb pv fs (holdM m { m with d := 1 }) := by
  have HI := hide h
  obtain ⟨xs, ov, h1, -⟩ := h
  have hR : R < w.heap.size := (Array.getElem?_eq_some_iff.1 h1.2).1
  have q2 := h1.cell 2 rfl
  have q3 := h1.cell 3 rfl
  clear h1
  go_enter Tryz.func210, Tryz.ntmps210
  go_wp2_with fail
  exact bodyPost_ret (v := tellM { m with d := 1 }) (by simp [results, Tryz.results210, go_sem, tellM]) rfl ⟨rfl, (unhide HI).below (below_alloc2 _ _ _)⟩
set_option maxHeartbeats 2000000 in
theorem go_any (W0 : World) (R mb : Nat) (pv : Value) (fs : List FunD) (m : MD) (s : ByteArray) (w : World) (hd : m.d = 0) (hs : s.size ≤ maxLen) (hf : 0 ≤ findI fs s) (h : RunIs W0 w R mb pv fs m) :
    Calls Tryz.prog 206 #[.agg #[.string s], .pointer (some ⟨R, 0, none⟩)] w fun e w' => e = .returned (tellM (MD.goTo fs m s)) ∧ RunIs W0 w' R mb pv fs (holdM m (MD.goTo fs m s)) := by
  have HI := hide (h.below (below_alloc2 w (.cells #[.string s] 176) (.cells #[.int .i64 0, .int .i64 0] 31)))
  have HN := hide (ans2 w (.cells #[.string s] 176) (.int .i64 0) (.int .i64 0) 31)
  have hsz := h.size
  have HT : Hid (tellM (MD.goTo fs m s) = .tuple #[.agg #[.int .i64 (findI fs s), .int .i64 0], .int .i64 0]) := by show _ = _; simp [tellM, MD.goTo, hd]
  clear h hd
  go_enter Tryz.func206, Tryz.ntmps206
  go_wp2_with fail
  obtain ⟨xs, ov, h1, _, _, _, _, h6, _, _⟩ := unhide HI
  refine (begin_any R pv mb m.f m.p m.c xs _ ov m.d fs s _ hs hf h6 h1).mono ?_
  rintro e w1 ⟨rfl, hb1⟩
  have HI2 := hide ((unhide HI).below hb1)
  have HN2 := hide (box_below (unhide HN) hb1)
  have hn := box2 (unhide HN2)
  clear h1 h6 hb1 HI HN
  go_wp2_with fail
  refine bodyPost_ret (v := tellM (MD.goTo fs m s)) (by rw [unhide HT]; simp [results, Tryz.results206, go_sem, hn]) rfl ⟨rfl, ?_⟩
  exact (unhide HI2).other (unhide HN2) (by omega) (((But.refl _ w1).set _ _).set _ _)
set_option maxHeartbeats 2000000 in
theorem if_any (W0 : World) (R mb : Nat) (pv : Value) (fs : List FunD) (m : MD) (s : ByteArray) (w : World) (hd : m.d = 0) (hp : 0 ≤ m.p) (hp2 : m.p ≤ 100) (hs : s.size ≤ maxLen) (hf : 0 ≤ findI fs s) (h : RunIs W0 w R mb pv fs m) :
    Calls Tryz.prog 207 #[.agg #[.string s], .pointer (some ⟨R, 0, none⟩)] w fun e w' => e = .returned (tellM (if 0 < m.c then MD.goTo fs m s else nextM m)) ∧ RunIs W0 w' R mb pv fs (holdM m (if 0 < m.c then MD.goTo fs m s else nextM m)) := by
  have HI := hide (h.below (below_alloc2 w (.cells #[.string s] 177) (.cells #[.int .i64 0, .int .i64 0] 31)))
  have HN := hide (ans2 w (.cells #[.string s] 177) (.int .i64 0) (.int .i64 0) 31)
  have hsz := h.size
  obtain ⟨xs, ov, h1, -⟩ := h
  have hR : R < w.heap.size := (Array.getElem?_eq_some_iff.1 h1.2).1
  have q4 := h1.cell 4 rfl
  clear h1 xs ov
  by_cases hc : 0 < m.c
  · rw [if_pos hc]
    have HT : Hid (tellM (MD.goTo fs m s) = .tuple #[.agg #[.int .i64 (findI fs s), .int .i64 0], .int .i64 0]) := by show _ = _; simp [tellM, MD.goTo, hd]
    clear hd
    go_enter Tryz.func207, Tryz.ntmps207
    go_wp2_with fail
    obtain ⟨xs, ov, h1, _, _, _, _, h6, _, _⟩ := unhide HI
    refine (begin_any R pv mb m.f m.p m.c xs _ ov m.d fs s _ hs hf h6 h1).mono ?_
    rintro e w1 ⟨rfl, hb1⟩
    have HI2 := hide ((unhide HI).below hb1)
    have HN2 := hide (box_below (unhide HN) hb1)
    have hn := box2 (unhide HN2)
    clear h1 h6 hb1 HI HN q4
    go_wp2_with fail
    refine bodyPost_ret (v := tellM (MD.goTo fs m s)) (by rw [unhide HT]; simp [results, Tryz.results207, go_sem, hn]) rfl ⟨rfl, ?_⟩
    exact (unhide HI2).other (unhide HN2) (by omega) (((But.refl _ w1).set _ _).set _ _)
  · rw [if_neg hc]
    have HT : Hid (tellM (nextM m) = .tuple #[.agg #[.int .i64 m.f, .int .i64 (m.p + 1)], .int .i64 0]) := by show _ = _; simp [tellM, nextM, hd]
    clear hd
    go_enter Tryz.func207, Tryz.ntmps207
    go_wp2_with fail
    obtain ⟨xs, ov, h1, _⟩ := unhide HI
    refine (next_any R pv mb m.f m.p m.c xs _ ov m.d _ hp hp2 h1).mono ?_
    rintro e w1 ⟨rfl, hb1⟩
    have HI2 := hide ((unhide HI).below hb1)
    have HN2 := hide (box_below (unhide HN) hb1)
    have hn := box2 (unhide HN2)
    clear h1 hb1 HI HN q4
    go_wp2_with fail
    refine bodyPost_ret (v := tellM (nextM m)) (by rw [unhide HT]; simp [results, Tryz.results207, go_sem, hn]) rfl ⟨rfl, ?_⟩
    exact (unhide HI2).other (unhide HN2) (by omega) (((But.refl _ w1).set _ _).set _ _)
theorem set_acc {w : World} {R : Nat} {pv : Value} {mb : Nat} {f p c : Int} {xs : List SpotD} {n : Nat} {ov : Value} {d : Int} (h : RunBox w R pv mb f p c xs n ov d) (c' : Int) : RunBox (w.setCell ⟨R, 4, none⟩ (.int .i64 c')) R pv mb f p c' xs n ov d := ⟨h.1, eq_cells (block_setCell h.2 _) (by simp [runL])⟩
theorem RunIs.acc {W0 w : World} {R mb : Nat} {pv : Value} {fs : List FunD} {m : MD} (h : RunIs W0 w R mb pv fs m) (c' : Int) : RunIs W0 (w.setCell ⟨R, 4, none⟩ (.int .i64 c')) R mb pv fs { m with c := c' } := by
  obtain ⟨xs, ov, h1, h2, h3, h4, h5, h6, h7, h8⟩ := h
  exact RunIs.turn (m := m) h1 h4 h5 h6 h7 h8 ((But.refl R w).set _ _) (set_acc h1 c') h2 h3 rfl
theorem RunIs.drew {W0 w : World} {R mb : Nat} {pv : Value} {fs : List FunD} {m : MD} (h : RunIs W0 w R mb pv fs m) : RunIs W0 w.drew R mb pv fs m := h.below (Below.refl _ _).drew
theorem ans2s (w : World) (R i : Nat) (v : Value) (o : Obj) (v0 v1 : Value) (t : TypeId) : (((w.setCell ⟨R, i, none⟩ v).alloc o).alloc (.cells #[v0, v1] t)).drew.heap[w.heap.size + 1]? = some (.cells #[v0, v1] t) := by
  have := ans2 (w.setCell ⟨R, i, none⟩ v) o v0 v1 t
  rw [World.size_setCell] at this
  exact this
set_option maxHeartbeats 2000000 in
theorem add_any (W0 : World) (R mb : Nat) (pv : Value) (fs : List FunD) (m : MD) (n : Int) (w : World) (hd : m.d = 0) (hp : 0 ≤ m.p) (hp2 : m.p ≤ 100) (h : RunIs W0 w R mb pv fs m) :
    Calls Tryz.prog 202 #[.agg #[.int .i64 n], .pointer (some ⟨R, 0, none⟩)] w fun e w' => e = .returned (tellM { m with c := sumI m.c n, p := m.p + 1 }) ∧ RunIs W0 w' R mb pv fs (holdM m { m with c := sumI m.c n, p := m.p + 1 }) := by
  have HI := hide (((h.acc (sumI m.c n)).below (below_alloc2 _ (.cells #[.int .i64 n] 173) (.cells #[.int .i64 0, .int .i64 0] 31))).drew)
  have HN := hide (ans2s w R 4 (.int .i64 (sumI m.c n)) (.cells #[.int .i64 n] 173) (.int .i64 0) (.int .i64 0) 31)
  have hsz := h.size
  obtain ⟨xs, ov, h1, -⟩ := h
  have hR : R < w.heap.size := (Array.getElem?_eq_some_iff.1 h1.2).1
  have q4 := h1.cell 4 rfl
  have z4 := h1.thaw 4
  clear h1 xs ov
  have HT : Hid (tellM { m with c := sumI m.c n, p := m.p + 1 } = .tuple #[.agg #[.int .i64 m.f, .int .i64 (m.p + 1)], .int .i64 0]) := by show _ = _; simp [tellM, hd]
  clear hd
  go_enter Tryz.func202, Tryz.ntmps202
  go_wp2_with fail
  go_region_with (go_at_call 203; refine (implInsSum_any _ _ _).mono ?_; rintro e wk ⟨rfl, rfl⟩)
  all_goals
    go_wp2_with fail
    obtain ⟨xs, ov, h1, _⟩ := unhide HI
    refine (next_any R pv mb m.f m.p (sumI m.c n) xs _ ov m.d _ hp hp2 h1).mono ?_
    rintro e w1 ⟨rfl, hb1⟩
    have HI2 := hide ((unhide HI).below hb1)
    have HN2 := hide (box_below (unhide HN) hb1)
    have hn := box2 (unhide HN2)
    clear h1 hb1 HI HN q4
    go_wp2_with fail
    refine bodyPost_ret (v := tellM { m with c := sumI m.c n, p := m.p + 1 }) (by rw [unhide HT]; simp [results, Tryz.results202, go_sem, hn]) rfl ⟨rfl, ?_⟩
    exact (unhide HI2).other (unhide HN2) (by omega) (((But.refl _ w1).set _ _).set _ _)
theorem set_take {α : Type} {xs : List α} {n : Nat} (h : n < xs.length) (s : α) : (xs.set n s).take (n + 1) = xs.take n ++ [s] := by
  rw [List.take_succ_eq_append_getElem (by simpa using h), List.getElem_set_self, List.take_set_of_le (Nat.le_refl _)]
set_option maxHeartbeats 4000000 in
theorem call_any (W0 : World) (R mb : Nat) (pv : Value) (fs : List FunD) (m : MD) (s : ByteArray) (w : World) (hd : m.d = 0) (hp : 0 ≤ m.p) (hp2 : m.p ≤ 100) (hs : s.size ≤ maxLen) (hf : 0 ≤ findI fs s) (h : RunIs W0 w R mb pv fs m) :
    Calls Tryz.prog 204 #[.agg #[.string s], .pointer (some ⟨R, 0, none⟩)] w fun e w' => e = .returned (tellM (callM fs m s)) ∧ RunIs W0 w' R mb pv fs (holdM m (callM fs m s)) := by
  have HI := hide ((h.below (below_alloc2 w (.cells #[.string s] 175) (.cells #[.int .i64 0, .int .i64 0] 31))).drew)
  have HN := hide (ans2 w (.cells #[.string s] 175) (.int .i64 0) (.int .i64 0) 31)
  have HX := hide (box_below (new_block w (.cells #[.string s] 175)) (below_alloc1 _ (.cells #[.int .i64 0, .int .i64 0] 31)))
  have hsz := h.size
  obtain ⟨xs, ov, h1, h2, h3, h4, -⟩ := h
  have hR : R < w.heap.size := (Array.getElem?_eq_some_iff.1 h1.2).1
  clear h1 h2 xs ov
  by_cases hl : m.st.length = 5
  · have HT : Hid (tellM (callM fs m s) = .tuple #[.agg #[.int .i64 m.f, .int .i64 m.p], .int .i64 2]) := by show _ = _; simp [tellM, callM, hl]
    have HH : Hid (holdM m (callM fs m s) = m) := by show _ = _; simp [holdM, callM, hl]
    obtain ⟨xs, ov, h1, _⟩ := unhide HI
    rw [hl] at h1
    have HB := hide h1
    clear h1 hd hl
    go_enter Tryz.func204, Tryz.ntmps204
    go_wp2_with fail
    go_region_with (first
      | (go_at_call 201; refine (next_any R pv mb m.f m.p m.c xs 5 ov m.d _ hp hp2 (unhide HB)).mono ?_; rintro e w1 ⟨rfl, hb1⟩)
      | (go_at_call 95; refine (push_full R pv mb m.f m.p m.c xs ov m.d ⟨m.f, m.p + 1⟩ _ ((unhide HB).below hb1)).mono ?_; rintro e w2 ⟨rfl, hb2⟩))
    have hb := bl_trans hb1 hb2
    have HI2 := hide ((unhide HI).below hb)
    have HN2 := hide (box_below (box_drew (unhide HN)) hb)
    have HB2 := (unhide HB).below hb
    have hn := box2 (unhide HN2)
    have q2 := HB2.cell 2 rfl
    have q3 := HB2.cell 3 rfl
    clear hb1 hb2 hb HI HN HB2 HB HX
    go_wp2_with fail
    refine bodyPost_ret (v := tellM (callM fs m s)) (by rw [unhide HT]; simp [results, Tryz.results204, go_sem, hn]) rfl ⟨rfl, ?_⟩
    rw [unhide HH]
    exact (unhide HI2).other (unhide HN2) (by omega) (((But.refl _ w2).set _ _).set _ _)
  · have hlt : m.st.length < 5 := by omega
    have HT : Hid (tellM (callM fs m s) = .tuple #[.agg #[.int .i64 (findI fs s), .int .i64 0], .int .i64 0]) := by show _ = _; simp [tellM, callM, hd, show ¬ 5 ≤ m.st.length by omega]
    have HH : Hid (holdM m (callM fs m s) = { m with st := m.st ++ [⟨m.f, m.p + 1⟩] }) := by show _ = _; simp [holdM, callM, show ¬ 5 ≤ m.st.length by omega]
    obtain ⟨xs, ov, h1, h2, _, _, h5, h6, h7, h8⟩ := unhide HI
    have HB := hide h1
    have HL := hide (And.intro h2 (And.intro h5 (And.intro h6 (And.intro h7 h8))))
    clear h1 h2 h5 h6 h7 h8 hd hl
    go_enter Tryz.func204, Tryz.ntmps204
    go_wp2_with fail
    go_region_with (first
      | (go_at_call 201; refine (next_any R pv mb m.f m.p m.c xs _ ov m.d _ hp hp2 (unhide HB)).mono ?_; rintro e w1 ⟨rfl, hb1⟩)
      | (go_at_call 95; refine (push_any R pv mb m.f m.p m.c xs _ ov m.d ⟨m.f, m.p + 1⟩ _ hlt ((unhide HB).below hb1)).mono ?_; rintro e w2 ⟨rfl, hB2, hbut⟩))
    have HI2 : Hid (RunIs W0 w2 R mb pv fs { m with st := m.st ++ [⟨m.f, m.p + 1⟩] }) := by
      obtain ⟨h2, h5, h6, h7, h8⟩ := unhide HL
      have hx := (unhide HB).1
      exact RunIs.turn (m := m) (xs' := xs.set m.st.length ⟨m.f, m.p + 1⟩) ((unhide HB).below hb1) h4 (num_below h5 hb1) (map_below h6 hb1) h7 (bl_trans h8 hb1) hbut (by simpa using hB2) (by show (xs.set _ _).take (m.st ++ [_]).length = _; rw [List.length_append]; show (xs.set _ _).take (m.st.length + 1) = _; rw [set_take (by omega), h2]) (by simp; omega) rfl
    have HN2 := hide (hbut.box (box_below (box_drew (unhide HN)) hb1) (by omega))
    have HX2 := hide (hbut.box (box_below (box_drew (unhide HX)) hb1) (by omega))
    have hx0 : w2.cell? ⟨w.heap.size, 0, none⟩ = some (.string s) := by rw [cell_of_block (unhide HX2)]; rfl
    clear hb1 hbut hB2 HI HN HX HX2 HB HL
    go_wp2_with fail
    obtain ⟨xs2, ov2, g1, _, _, _, _, g6, _, _⟩ := unhide HI2
    refine (begin_any R pv mb m.f m.p m.c xs2 _ ov2 m.d fs s _ hs hf g6 g1).mono ?_
    rintro e w3 ⟨rfl, hb3⟩
    have HI3 := hide ((unhide HI2).below hb3)
    have HN3 := hide (box_below (unhide HN2) hb3)
    have hn := box2 (unhide HN3)
    clear g1 g6 hb3 HI2 HN2 hx0
    go_wp2_with fail
    refine bodyPost_ret (v := tellM (callM fs m s)) (by rw [unhide HT]; simp [results, Tryz.results204, go_sem, hn]) rfl ⟨rfl, ?_⟩
    rw [unhide HH]
    exact (unhide HI3).other (unhide HN3) (by omega) (((But.refl _ w3).set _ _).set _ _)
theorem ret_last {m : MD} {k : Nat} {xs : List SpotD} (hk : m.st.length = k + 1) (h2 : xs.take m.st.length = m.st) (hx : xs.length = 5) (h3 : m.st.length ≤ 5) : retM m = { m with f := (xs.getD k default).f, p := (xs.getD k default).p, st := m.st.dropLast } ∧ xs.take m.st.dropLast.length = m.st.dropLast := by
  have hkx : k < xs.length := by omega
  have e : m.st.getLast? = some (xs.getD k default) := by
    rw [List.getLast?_eq_getElem?, hk, ← h2, List.getElem?_take_of_lt (by omega)]
    simp [List.getD, List.getElem?_eq_getElem hkx]
  constructor
  · unfold retM; rw [e]
  · have e2 : m.st.dropLast = xs.take k := by
      rw [List.dropLast_eq_take, hk, Nat.add_sub_cancel]
      conv => lhs; rw [← h2]
      rw [List.take_take, hk, Nat.min_eq_left (by omega)]
    rw [e2, List.length_take, Nat.min_eq_left (by omega)]
set_option maxHeartbeats 4000000 in
theorem ret_any (W0 : World) (R mb : Nat) (pv : Value) (fs : List FunD) (m : MD) (w : World) (hd : m.d = 0) (h : RunIs W0 w R mb pv fs m) :
    Calls Tryz.prog 208 #[.agg #[], .pointer (some ⟨R, 0, none⟩)] w fun e w' => e = .returned (tellM (retM m)) ∧ RunIs W0 w' R mb pv fs (holdM m (retM m)) := by
  have HI := hide (h.below (below_alloc2 w (.cells #[] 178) (.cells #[.int .i64 0, .int .i64 0] 31)))
  have HN := hide (ans2 w (.cells #[] 178) (.int .i64 0) (.int .i64 0) 31)
  have hsz := h.size
  obtain ⟨xs, ov, h1, h2, h3, h4, -⟩ := h
  have hR : R < w.heap.size := (Array.getElem?_eq_some_iff.1 h1.2).1
  clear h1 h2 xs ov
  obtain ⟨xs, ov, h1, h2, _, _, h5, h6, h7, h8⟩ := unhide HI
  have hx := h1.1
  by_cases hl : m.st.length = 0
  · have hn0 : m.st = [] := List.length_eq_zero_iff.1 hl
    have HT : Hid (tellM (retM m) = .tuple #[.agg #[.int .i64 m.f, .int .i64 m.p], .int .i64 3]) := by show _ = _; simp [tellM, retM, hn0]
    have HH : Hid (holdM m (retM m) = m) := by show _ = _; unfold holdM retM; rw [hn0]; cases m; simp_all
    rw [hl] at h1
    have HB := hide h1
    clear h1 hd hl hn0 h2 h5 h6 h7 h8
    go_enter Tryz.func208, Tryz.ntmps208
    go_wp2_with fail
    refine (pop_none R pv mb m.f m.p m.c xs ov m.d _ (unhide HB)).mono ?_
    rintro e w1 ⟨rfl, hb1⟩
    have HI2 := hide ((unhide HI).below hb1)
    have HN2 := hide (box_below (unhide HN) hb1)
    have hn := box2 (unhide HN2)
    have hz := hb1.size
    simp only [World.size_alloc] at hz
    have hRz : R < w1.heap.size := by omega
    have hNz : w.heap.size + 1 < w1.heap.size := by omega
    have HB2 := (unhide HB).below hb1
    have q2 := HB2.cell 2 rfl
    have q3 := HB2.cell 3 rfl
    clear HB2 hb1 HB HI HN
    go_wp2_with fail
    refine bodyPost_ret (v := tellM (retM m)) (by rw [unhide HT]; simp [results, Tryz.results208, go_sem, hn, hNz]) rfl ⟨rfl, ?_⟩
    rw [unhide HH]
    exact ((unhide HI2).other (unhide HN2) (by omega) (((But.refl _ w1).set _ _).set _ _)).below (below_alloc1 _ _)
  · obtain ⟨k, hk⟩ : ∃ k, m.st.length = k + 1 := ⟨m.st.length - 1, by omega⟩
    obtain ⟨er, et⟩ := ret_last hk h2 hx h3
    have HT : Hid (tellM (retM m) = .tuple #[.agg #[.int .i64 (xs.getD k default).f, .int .i64 (xs.getD k default).p], .int .i64 0]) := by show _ = _; rw [er]; simp [tellM, hd]
    have HH : Hid (holdM m (retM m) = { m with st := m.st.dropLast }) := by show _ = _; rw [er]; rfl
    have HL := hide (And.intro h1 (And.intro h5 (And.intro h6 (And.intro h7 (And.intro h8 (And.intro et hk))))))
    have HB : Hid (RunBox ((w.alloc (.cells #[] 178)).alloc (.cells #[.int .i64 0, .int .i64 0] 31)) R pv mb m.f m.p m.c xs (k + 1) ov m.d) := by show RunBox _ _ _ _ _ _ _ _ _ _ _; rw [← hk]; exact h1
    have hk5 : k < 5 := by omega
    clear er et h1 h2 h5 h6 h7 h8 hd hl hk
    go_enter Tryz.func208, Tryz.ntmps208
    go_wp2_with fail
    refine (pop_any R pv mb m.f m.p m.c xs k ov m.d _ hk5 (unhide HB)).mono ?_
    rintro e w1 ⟨rfl, hB1, hbut⟩
    have HI2 : Hid (RunIs W0 w1 R mb pv fs { m with st := m.st.dropLast }) := by
      obtain ⟨h1, h5, h6, h7, h8, et, hk⟩ := unhide HL
      have hdl : m.st.dropLast.length = k := by rw [List.length_dropLast, hk]; rfl
      exact RunIs.turn (m := m) (m' := { m with st := m.st.dropLast }) (xs' := xs) h1 h4 h5 h6 h7 h8 hbut (by show RunBox _ _ _ _ _ _ _ _ m.st.dropLast.length _ _; rw [hdl]; exact hB1) et (by show m.st.dropLast.length ≤ 5; omega) rfl
    have HN2 := hide (hbut.box (unhide HN) (show w.heap.size + 1 ≠ R by omega))
    have hn := box2 (unhide HN2)
    have hz := World.grownBy.size hbut
    simp only [World.size_alloc] at hz
    have hRz : R < w1.heap.size := by omega
    have hNz : w.heap.size + 1 < w1.heap.size := by omega
    clear HB hB1 hbut HI HN HL
    generalize xs.getD k default = y at *
    go_wp2_with fail
    refine bodyPost_ret (v := tellM (retM m)) (by rw [unhide HT]; simp [results, Tryz.results208, go_sem, hn, hNz]) rfl ⟨rfl, ?_⟩
    rw [unhide HH]
    exact ((unhide HI2).other (unhide HN2) (by omega) (((But.refl _ w1).set _ _).set _ _)).below (below_alloc1 _ _)
end Go.Proofs.YtjbhbkkkjdpamaaGreat.MDeed
