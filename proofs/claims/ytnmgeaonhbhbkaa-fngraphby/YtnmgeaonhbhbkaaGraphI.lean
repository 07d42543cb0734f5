/- The contract of the program's graphOf: names and steps, by numbers. -/
import Derived.Test.YtnmgeaonhbhbkaaGraphD
import Derived.Test.YtnmgeaonhbhbkaaKeepI
import Derived.Deep.RegionLaw
import Derived.Deep.AppendLies
namespace Go.Proofs.Ytnmgeaonhbhbkaa.GraphI
open Go.ChangeShapes Go.WideShapes Go.ChangeAt Go.RowKit Go.Joins Go.WideMaps Go.Maps Go.Deep
open Go.Proofs.Ytnmgeaonhbhbkaa.Base Go.Proofs.Ytnmgeaonhbhbkaa.InsA Go.Proofs.Ytnmgeaonhbhbkaa.InsB Go.Proofs.Ytnmgeaonhbhbkaa.Funs Go.Proofs.Ytnmgeaonhbhbkaa.Open Go.Proofs.Ytnmgeaonhbhbkaa.FunS Go.Proofs.Ytnmgeaonhbhbkaa.Keep Go.Proofs.Ytnmgeaonhbhbkaa.UnitS Go.Proofs.Ytnmgeaonhbhbkaa.UnitM Go.Proofs.Ytnmgeaonhbhbkaa.Refs Go.Proofs.Ytnmgeaonhbhbkaa.Mark Go.Proofs.Ytnmgeaonhbhbkaa.PickD Go.Proofs.Ytnmgeaonhbhbkaa.WantsS Go.Proofs.Ytnmgeaonhbhbkaa.WantsL Go.Proofs.Ytnmgeaonhbhbkaa.WantsI Go.Proofs.Ytnmgeaonhbhbkaa.KeepC Go.Proofs.Ytnmgeaonhbhbkaa.KeepD Go.Proofs.Ytnmgeaonhbhbkaa.KeepA Go.Proofs.Ytnmgeaonhbhbkaa.KeepR Go.Proofs.Ytnmgeaonhbhbkaa.KeepI Go.Proofs.Ytnmgeaonhbhbkaa.WayD Go.Proofs.Ytnmgeaonhbhbkaa.GraphD
set_option linter.unusedVariables false
set_option maxRecDepth 100000

def encG (s : Nat × Bool) : List Value := [.int .i64 (s.1 : Int), .bool s.2]
def flatG (ss : List (Nat × Bool)) : List Value := ss.flatMap encG
theorem flatG_len (ss : List (Nat × Bool)) : (flatG ss).length = ss.length * 2 := by
  induction ss with
  | nil => rfl
  | cons s r ih => show (encG s ++ flatG r).length = _; rw [List.length_append, ih]; simp [encG]; omega
theorem flatG_at (ss : List (Nat × Bool)) : ∀ (i : Nat) (h : i < ss.length), (flatG ss)[i * 2]? = some (.int .i64 (ss[i].1 : Int)) ∧ (flatG ss)[i * 2 + 1]? = some (.bool ss[i].2) := by
  induction ss with
  | nil => intro i h; simp at h
  | cons s r ih =>
    intro i h
    cases i with
    | zero => exact ⟨rfl, rfl⟩
    | succ i =>
      have h1 := ih i (by simpa using h)
      have e : ∀ j, (flatG (s :: r))[j + 2]? = (flatG r)[j]? := fun j => rfl
      rw [show (i + 1) * 2 = i * 2 + 2 by omega, show i * 2 + 2 + 1 = i * 2 + 1 + 2 by omega, e, e]
      simpa using h1
theorem flatG_snoc (ss : List (Nat × Bool)) (s : Nat × Bool) : flatG (ss ++ [s]) = flatG ss ++ encG s := by simp [flatG]
/-- Steps in a row of one's own. -/
def StepOwn (w : World) (B : Nat) (v : Value) (ss : List (Nat × Bool)) : Prop := w.ownsRow B 59 2 v ss.length (flatG ss)
/-- Steps that lie in a row. -/
def StepAt (w : World) (v : Value) (ss : List (Nat × Bool)) : Prop :=
  ∃ a c, v = .slice a ss.length c ∧ ss.length ≤ c ∧ c ≤ maxLen ∧ (ss = [] ∨ ∃ b off, a = some ⟨b, off, none⟩ ∧ ∀ j (h : j < ss.length), w.cell? ⟨b, off + j * 2, none⟩ = some (.int .i64 (ss[j].1 : Int)) ∧ w.cell? ⟨b, off + j * 2 + 1, none⟩ = some (.bool ss[j].2))
theorem StepOwn.at {w : World} {B : Nat} {v : Value} {ss : List (Nat × Bool)} (h : StepOwn w B v ss) : StepAt w v ss := by
  obtain ⟨_, ⟨rfl, h0⟩ | ⟨g, cap, cur, rfl, hB, hg, hn, hm, hsz, ht⟩⟩ := h
  · exact ⟨none, 0, by rw [h0], by omega, Nat.zero_le _, .inl (List.length_eq_zero_iff.1 h0)⟩
  · refine ⟨_, cap, rfl, hn, hm, .inr ⟨g, 0, rfl, fun i hi => ?_⟩⟩
    have t : ∀ j v, j < ss.length * 2 → (flatG ss)[j]? = some v → w.cell? ⟨g, j, none⟩ = some v := fun j v hj e => by
      rw [cell_of_block hg]
      rw [← ht, List.getElem?_take_of_lt hj] at e
      simpa using e
    obtain ⟨h0, h1⟩ := flatG_at ss i hi
    simp only [Nat.zero_add]
    exact ⟨t _ _ (by omega) h0, t _ _ (by omega) h1⟩
theorem StepAt.below {w w' : World} {v : Value} {ss : List (Nat × Bool)} (h : StepAt w v ss) (hb : Below w.heap.size w w') : StepAt w' v ss := by
  obtain ⟨a, c, hv, h1, h2, h3 | ⟨b, off, ha, h3⟩⟩ := h
  · exact ⟨a, c, hv, h1, h2, .inl h3⟩
  · exact ⟨a, c, hv, h1, h2, .inr ⟨b, off, ha, fun j hj => ⟨(Stable.cell _ _).1 _ _ hb (h3 j hj).1, (Stable.cell _ _).1 _ _ hb (h3 j hj).2⟩⟩⟩
/-- The steps of each, in rows of rows. -/
def StepsAt (w : World) (S n : Nat) (E : StepF) : Prop := ∀ u, u < n → ∃ v, w.cell? ⟨S, u, none⟩ = some v ∧ StepAt w v (E u)
theorem StepsAt.below {w w' : World} {S n : Nat} {E : StepF} (h : StepsAt w S n E) (hb : Below w.heap.size w w') : StepsAt w' S n E := fun u hu => by
  obtain ⟨v, h1, h2⟩ := h u hu
  exact ⟨v, (Stable.cell _ _).1 _ _ hb h1, h2.below hb⟩
def NamesAt (w : World) (b off : Nat) (fs : List FunD) : Prop := ∀ u (h : u < fs.length), w.cell? ⟨b, off + u, none⟩ = some (.string fs[u].nm)
theorem NamesAt.below {w w' : World} {b off : Nat} {fs : List FunD} (h : NamesAt w b off fs) (hb : Below w.heap.size w w') : NamesAt w' b off fs := fun u hu => (Stable.cell _ _).1 _ _ hb (h u hu)
/-- What a call of graphOf leaves. -/
def GraphIs (w : World) (fs : List FunD) (e : Ending) (w' : World) : Prop := ∃ nb no nc S, e = .returned (.agg #[.slice (some ⟨nb, no, none⟩) fs.length nc, .slice (some ⟨S, 0, none⟩) fs.length fs.length]) ∧ fs.length ≤ nc ∧ nc ≤ maxLen ∧ NamesAt w' nb no fs ∧ StepsAt w' S fs.length (steps fs) ∧ Below w.heap.size w w'

theorem infoStep : (Try.prog.info? 59).map (fun i => (i.zero, i.size, i.bytes)) = some (some (.agg #[.int .i64 0, .bool false]), 2, 16) := by kernel_rfl
theorem infoRow : (Try.prog.info? 57).map (fun i => (i.zero, i.size, i.bytes)) = some (some (.slice none 0 0), 1, 24) := by kernel_rfl
theorem makeRows (n : Nat) (hn : n ≤ 1048576) (w : World) : (Instr.makeSlice 52 (.int .i64 (n : Int)) (.int .i64 (n : Int))).run Try.prog w = .ok (.slice (some ⟨w.heap.size, 0, none⟩) n n) (w.alloc (.cells (madeCells #[.slice none 0 0] n) 57)) := by
  obtain ⟨i, hi, h⟩ := Option.map_eq_some_iff.1 infoRow
  simp only [Prod.mk.injEq] at h
  obtain ⟨h1, h2, h3⟩ := h
  have := run_make (P := Try.prog) w 52 57 i _ Try.underlying52 hi h1 .i64 .i64 (n : Int) (n : Int) (by omega) (Int.le_refl _) (by rw [h3]; omega) (by omega)
  rw [h2] at this
  simpa [Value.cells] using this
theorem made_at {z : Value} {n u : Nat} (h : u < n) : (madeCells #[z] n)[u]? = some z := by
  unfold madeCells
  simp [h, Nat.mod_one]
/-- The names of the first k. -/
def nmsK (fs : List FunD) (k : Nat) : List ByteArray := (fs.take k).map fun f => f.nm
theorem nmsK_len {fs : List FunD} {k : Nat} (h : k ≤ fs.length) : (nmsK fs k).length = k := by simp [nmsK]; omega
theorem nmsK_succ {fs : List FunD} {k : Nat} (hk : k < fs.length) : nmsK fs (k + 1) = nmsK fs k ++ [fs[k].nm] := take_name hk
/-- What stands along the way: kn names, and the steps of k. -/
structure GSt (w0 w' : World) (fs : List FunD) (m G S B kn k : Nat) (C : Array Value) (na : Option Addr) (nc : Nat) : Prop where
  g : w'.heap[G]? = some (.cells #[.slice na (nmsK fs kn).length nc, .slice (some ⟨S, 0, none⟩) fs.length fs.length] 54)
  s : w'.heap[S]? = some (.cells C 57)
  sz : C.size = fs.length
  rows : ∀ u, u < k → ∃ v, C[u]? = some v ∧ StepOwn w' B v (steps fs u)
  rest : ∀ u, k ≤ u → u < fs.length → C[u]? = some (.slice none 0 0)
  names : StrOwn w' B (.slice na (nmsK fs kn).length nc) (nmsK fs kn)
  map : w'.ownsMap Try.prog 9 (plainElem Try.prog 3) m fs.length (PD fs fs.length)
  below : Below w0.heap.size w0 w'
  base : B ≤ w'.heap.size
theorem GSt.lt {w0 w' : World} {fs : List FunD} {m G S B kn k : Nat} {C : Array Value} {na : Option Addr} {nc : Nat} (h : GSt w0 w' fs m G S B kn k C na nc) : G < w'.heap.size ∧ S < w'.heap.size := ⟨(Array.getElem?_eq_some_iff.1 h.g).1, (Array.getElem?_eq_some_iff.1 h.s).1⟩
theorem step_kept {w w' : World} {B : Nat} {v : Value} {ss : List (Nat × Bool)} {r : Option Nat} (h : StepOwn w B v ss) (hg : w.grownBy w' r) (hne : v.ownBlock = none ∨ v.ownBlock ≠ r) : StepOwn w' B v ss := World.ownsRow.kept h hg hne
/-- What a call that makes memory leaves. -/
theorem GSt.next {w0 w w' : World} {fs : List FunD} {m G S B kn k : Nat} {C : Array Value} {na : Option Addr} {nc : Nat} (h : GSt w0 w fs m G S B kn k C na nc) (hb : Below w.heap.size w w') : GSt w0 w' fs m G S B kn k C na nc :=
  ⟨box_below h.g hb, box_below h.s hb, h.sz, fun u hu => by obtain ⟨v, h1, h2⟩ := h.rows u hu; exact ⟨v, h1, row_below h2 hb⟩, h.rest, h.names.below hb, map_below h.map hb, bl_trans h.below hb, Nat.le_trans h.base hb.size⟩
/-- One name more. -/
theorem GSt.name {w0 w w4 : World} {fs : List FunD} {m G S B k : Nat} {C : Array Value} {na a4 : Option Addr} {nc c4 : Nat} (h : GSt w0 w fs m G S B k k C na nc) (hG0 : w0.heap.size ≤ G) (hm : m < B) (hG : G < B) (hS : S < B) (hmG : m ≠ G) (hSG : S ≠ G) (hk : k < fs.length) (hg : w.grownBy w4 (Value.slice na (nmsK fs k).length nc).ownBlock)
    (ho : StrOwn w4 B (.slice a4 (nmsK fs (k + 1)).length c4) (nmsK fs (k + 1))) : GSt w0 (w4.setCell ⟨G, 0, none⟩ (.slice a4 (nmsK fs (k + 1)).length c4)) fs m G S B (k + 1) k C a4 c4 := by
  have hlo : ∀ j, (Value.slice na (nmsK fs k).length nc).ownBlock = some j → B ≤ j := fun j hj => (World.ownsRow.lt h.names j hj).1
  have keep : ∀ b, b < B → w4.heap[b]? = w.heap[b]? := fun b hb => hg.block b (Nat.lt_of_lt_of_le hb h.base) (fun e => by have := hlo b e.symm; omega)
  have z4 : B ≤ w4.heap.size := Nat.le_trans h.base hg.size
  have hg4 : w4.heap[G]? = some (.cells #[.slice na (nmsK fs k).length nc, .slice (some ⟨S, 0, none⟩) fs.length fs.length] 54) := (keep G hG).trans h.g
  have hset : (w4.grownBy (w4.setCell ⟨G, 0, none⟩ (.slice a4 (nmsK fs (k + 1)).length c4)) (some G)) := (But.refl G w4).set 0 _
  refine ⟨?_, ?_, h.sz, fun u hu => ?_, h.rest, ?_, ?_, ?_, ?_⟩
  · rw [block_setCell hg4]; rfl
  · exact (hset.block S (by omega) (fun e => hSG (by cases e; rfl))).trans ((keep S hS).trans h.s)
  · obtain ⟨v, h1, h2⟩ := h.rows u hu
    refine ⟨v, h1, step_kept (step_kept h2 hg (row_ne h2 h.names (by decide))) hset ?_⟩
    refine .inr fun e => ?_
    have := (World.ownsRow.lt h2 G e).1
    omega
  · refine World.ownsRow.kept ho hset (.inr fun e => ?_)
    have := (World.ownsRow.lt ho G e).1
    omega
  · obtain ⟨es, clock, hh, F, hs', hD⟩ := h.map
    exact ⟨es, clock, (hset.block m (by omega) (fun e => hmG (by cases e; rfl))).trans ((keep m hm).trans hh), F, hs', hD⟩
  · have hb4 : Below w0.heap.size w0 w4 := h.below.grown hg h.below.size (fun j hj => by have := hlo j hj; have := h.below.size; omega)
    exact But.down hb4 hset hG0
  · have := hset.size; omega
/-- The row of the one at hand, along the way. -/
structure RowSt (W w : World) (fs : List FunD) (S k j : Nat) (C : Array Value) (xs : List InsD) (a : Option Addr) (c : Nat) : Prop where
  s : w.heap[S]? = some (.cells (C.setIfInBounds k (.slice a (stpL fs (xs.take j)).length c)) 57)
  own : StepOwn w W.heap.size (.slice a (stpL fs (xs.take j)).length c) (stpL fs (xs.take j))
  but : But S W w
theorem RowSt.next {W w w' : World} {fs : List FunD} {S k j : Nat} {C : Array Value} {xs : List InsD} {a : Option Addr} {c : Nat} (h : RowSt W w fs S k j C xs a c) (hb : Below w.heap.size w w') : RowSt W w' fs S k j C xs a c := ⟨box_below h.s hb, row_below h.own hb, h.but.below hb⟩
theorem RowSt.skip {W w : World} {fs : List FunD} {S k j : Nat} {C : Array Value} {xs : List InsD} {a : Option Addr} {c : Nat} (h : RowSt W w fs S k j C xs a c) (hj : j < xs.length) (hr : refsB xs[j].o = false) : RowSt W w fs S k (j + 1) C xs a c := by
  have e : stpL fs (xs.take (j + 1)) = stpL fs (xs.take j) := by rw [stpL_snoc fs hj, hr]; rfl
  obtain ⟨h1, h2, h3⟩ := h
  refine ⟨?_, ?_, h3⟩
  · rw [e]; exact h1
  · rw [e]; exact h2
theorem GSt.start {w0 W : World} {fs : List FunD} {m G S B kn k : Nat} {C : Array Value} {na : Option Addr} {nc : Nat} (h : GSt w0 W fs m G S B kn k C na nc) (hk : k < fs.length) (xs : List InsD) : RowSt W W fs S k 0 C xs none 0 := by
  refine ⟨?_, ?_, But.refl _ _⟩
  · have e : C.setIfInBounds k (.slice none 0 0) = C := by
      apply Array.ext_getElem?
      intro i
      by_cases e : i = k
      · subst e
        rw [Array.getElem?_setIfInBounds_self_of_lt (by rw [h.sz]; exact hk), h.rest i (Nat.le_refl _) hk]
      · rw [Array.getElem?_setIfInBounds_ne (fun e' => e e'.symm)]
    show W.heap[S]? = some (.cells (C.setIfInBounds k (.slice none 0 0)) 57)
    rw [e]; exact h.s
  · exact World.ownsRow_nil _ _ _ _
/-- All steps of the one at hand. -/
theorem GSt.row {w0 W w : World} {fs : List FunD} {m G S B kn k : Nat} {C : Array Value} {na a : Option Addr} {nc c : Nat} (h : GSt w0 W fs m G S B kn k C na nc) (hS0 : w0.heap.size ≤ S) (hm : m < B) (hG : G < B) (hS : S < B) (hmS : m ≠ S) (hSG : S ≠ G) (hk : k < fs.length) (r : RowSt W w fs S k fs[k].body.length C fs[k].body a c) :
    GSt w0 w fs m G S B kn (k + 1) (C.setIfInBounds k (.slice a (stpL fs fs[k].body).length c)) na nc := by
  obtain ⟨r1, r2, r3⟩ := r
  rw [List.take_length] at r1 r2
  have hne : ∀ {e z n : Nat} {v : Value} {xs : List Value}, W.ownsRow B e z v n xs → v.ownBlock = none ∨ v.ownBlock ≠ some S := fun h2 => .inr fun e => by
    have := (World.ownsRow.lt h2 S e).1
    omega
  refine ⟨r3.box h.g (fun e => hSG e.symm), r1, by simpa using h.sz, fun u hu => ?_, fun u h1 h2 => ?_, World.ownsRow.kept h.names r3 (hne h.names), ?_, But.down h.below r3 hS0, Nat.le_trans h.base r3.size⟩
  · by_cases e : u = k
    · subst e
      rw [steps_at hk]
      exact ⟨_, Array.getElem?_setIfInBounds_self_of_lt (by rw [h.sz]; exact hk), row_base r2 h.base⟩
    · obtain ⟨v, h1, h2⟩ := h.rows u (by omega)
      exact ⟨v, by rw [Array.getElem?_setIfInBounds_ne (fun e' => e e'.symm)]; exact h1, step_kept h2 r3 (hne h2)⟩
  · rw [Array.getElem?_setIfInBounds_ne (by omega)]
    exact h.rest u (by omega) h2
  · obtain ⟨es, clock, hh, F, hs', hD⟩ := h.map
    exact ⟨es, clock, r3.box hh hmS, F, hs', hD⟩
/-- What all is told at the end. -/
theorem GSt.done {w0 w w' : World} {fs : List FunD} {m G S B R : Nat} {C : Array Value} {na : Option Addr} {nc : Nat} (h : GSt w0 w fs m G S B fs.length fs.length C na nc) (h0 : 0 < fs.length) (hb : But R w w') (hR : R < B) (hRS : S ≠ R) : ∃ nb, na = some ⟨nb, 0, none⟩ ∧ fs.length ≤ nc ∧ nc ≤ maxLen ∧ NamesAt w' nb 0 fs ∧ StepsAt w' S fs.length (steps fs) := by
  have hne : ∀ {e z n : Nat} {v : Value} {xs : List Value}, w.ownsRow B e z v n xs → v.ownBlock = none ∨ v.ownBlock ≠ some R := fun h2 => .inr fun e => by
    have := (World.ownsRow.lt h2 R e).1
    omega
  have hs : StepsAt w' S fs.length (steps fs) := fun u hu => by
    obtain ⟨v, h1, h2⟩ := h.rows u hu
    exact ⟨v, by rw [cell_of_block (hb.box h.s hRS)]; exact h1, StepOwn.at (World.ownsRow.kept h2 hb (hne h2))⟩
  have hl := nmsK_len (Nat.le_refl fs.length)
  have hnm : StrOwn w' B (.slice na (nmsK fs fs.length).length nc) (nmsK fs fs.length) := World.ownsRow.kept h.names hb (hne h.names)
  obtain ⟨_, ⟨e, h1⟩ | ⟨g, cap, cur, e, hB, hg, hn, hm, hsz, ht⟩⟩ := hnm
  · omega
  · simp only [Value.slice.injEq] at e
    obtain ⟨rfl, _, rfl⟩ := e
    refine ⟨g, rfl, by omega, hm, fun u hu => ?_, hs⟩
    rw [cell_of_block hg]
    have e : (cur.toList.take ((nmsK fs fs.length).length * 1))[u]? = some (.string fs[u].nm) := by rw [ht]; simp [nmsK, hu]
    rw [List.getElem?_take_of_lt (by omega)] at e
    simpa using e
theorem info_step : ∃ i, Try.prog.info? 59 = some i ∧ i.zero = some (.agg #[.int .i64 0, .bool false]) ∧ i.size = 2 ∧ i.bytes = 16 := info_parts infoStep
/-- One step more. -/
theorem RowSt.more {W w X : World} {fs : List FunD} {S k j : Nat} {C : Array Value} {xs : List InsD} {a : Option Addr} {c : Nat} (h : RowSt W w fs S k j C xs a c) (hj : j < xs.length) (hr : refsB xs[j].o = true) (h10 : xs.length ≤ 10) (hk : k < C.size) (hSW : S < W.heap.size) (hb : Below w.heap.size w X) (hc : X.heap[w.heap.size]? = some (.cells #[.int .i64 ((stepOf fs xs[j]).1 : Int), .bool (stepOf fs xs[j]).2] 59)) (ty : TypeId) :
    ∃ a' c' w', (Builtin.append_ #[57, 57] ty #[.slice a (stpL fs (xs.take j)).length c, .slice (some ⟨w.heap.size, 0, none⟩) 1 1]).run Try.prog X = .ok (.slice a' (stpL fs (xs.take (j + 1))).length c') w' ∧ RowSt W (w'.setCell ⟨S, k, none⟩ (.slice a' (stpL fs (xs.take (j + 1))).length c')) fs S k (j + 1) C xs a' c' ∧ (∀ b, b < w.heap.size → (Value.slice a (stpL fs (xs.take j)).length c).ownBlock ≠ some b → w'.heap[b]? = w.heap[b]?) := by
  obtain ⟨i, hi, hz0, hz1, hz2⟩ := info_step
  obtain ⟨r1, r2, r3⟩ := h
  have hl := stpL_take_len fs xs j
  have hww := r3.size
  have e : stpL fs (xs.take (j + 1)) = stpL fs (xs.take j) ++ [stepOf fs xs[j]] := by rw [stpL_snoc fs hj, hr]; rfl
  have hnews : ∀ q u, (encG (stepOf fs xs[j]))[q]? = some u → X.cell? ((⟨w.heap.size, 0, none⟩ : Addr).add q) = some u := fun q u hq => by
    rw [add_plain, cell_of_block hc]
    match q, hq with
    | 0, hq => exact hq
    | 1, hq => exact hq
    | q + 2, hq => simp [encG] at hq
  obtain ⟨v', w', hrun, ho, hg, _⟩ := run_append_own_at (P := Try.prog) X W.heap.size 57 ty 59 i _ 2 16 Try.underlying57 hi hz0 hz1 hz2 rfl (by decide) _ _ _ (row_below r2 hb) ⟨w.heap.size, 0, none⟩ 1 1 (encG (stepOf fs xs[j])) rfl hnews (by simp [encG, Value.oneCell']) (by unfold maxLen; omega) (by omega) (Nat.le_trans hww hb.size)
  have ho' : StepOwn w' W.heap.size v' (stpL fs (xs.take (j + 1))) := by
    unfold StepOwn
    rw [e, flatG_snoc, List.length_append]
    exact ho
  obtain ⟨a', c', rfl⟩ : ∃ a' c', v' = .slice a' (stpL fs (xs.take (j + 1))).length c' := by
    obtain ⟨a', c', rfl⟩ := KeepW.row_form ho'
    exact ⟨a', c', rfl⟩
  have hlo : ∀ q, (Value.slice a (stpL fs (xs.take j)).length c).ownBlock = some q → W.heap.size ≤ q := fun q hq => (World.ownsRow.lt r2 q hq).1
  have keep : ∀ b, b < W.heap.size → w'.heap[b]? = w.heap[b]? := fun b hb' => (hg.block b (by have := hb.size; omega) (fun e => by have := hlo b e.symm; omega)).trans (hb.block b (by omega))
  have hS : w'.heap[S]? = some (.cells (C.setIfInBounds k (.slice a (stpL fs (xs.take j)).length c)) 57) := (keep S hSW).trans r1
  refine ⟨a', c', w', hrun, ⟨?_, ?_, ?_⟩, fun b hb' hne => (hg.block b (Nat.lt_of_lt_of_le hb' hb.size) (fun e => hne e.symm)).trans (hb.block b hb')⟩
  · rw [block_setCell hS]
    congr 2
    apply Array.ext_getElem?
    intro q
    by_cases eq : q = k
    · subst eq
      rw [Array.getElem?_setIfInBounds_self_of_lt (by simpa using hk), Array.getElem?_setIfInBounds_self_of_lt hk]
    · rw [Array.getElem?_setIfInBounds_ne (fun e' => eq e'.symm), Array.getElem?_setIfInBounds_ne (fun e' => eq e'.symm), Array.getElem?_setIfInBounds_ne (fun e' => eq e'.symm)]
  · exact step_kept ho' ((But.refl S w').set k _) (.inr fun e => by have := (World.ownsRow.lt ho' S e).1; omega)
  · refine But.set ?_ k _
    exact ⟨hg.os.trans (hb.os.trans r3.os), hg.tape.trans (hb.tape.trans r3.tape), hg.output.trans (hb.output.trans r3.output), Nat.le_trans hww (Nat.le_trans hb.size hg.size), fun b hb' hne => (keep b hb').trans (r3.block b hb' hne)⟩
end Go.Proofs.Ytnmgeaonhbhbkaa.GraphI
