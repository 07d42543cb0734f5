/- From the reading of an argument to the rows of memory that the walks speak of: instructions, functions, units. -/
import Derived.Test.YthbbmookhcalkaaGreatDoorFuns
import Derived.Deep.Strs
import Derived.Test.YthbbmookhcalkaaGreatDoorPk3b7a8e77
import Derived.WalkKit
import Derived.ProofKit
import Derived.OpenShut
import Derived.Below
import Derived.Outline
import Derived.Lib.SmallJoins
import Derived.Deep.QuietTactic
import Derived.BigQuiet
namespace Go.Proofs.YthbbmookhcalkaaGreatDoor.Open
open Go.ChangeShapes Go.WideShapes Go.ChangeAt Go.RowKit Go.Joins Go.Deep
open Go.Proofs.YthbbmookhcalkaaGreatDoor.Base Go.Proofs.YthbbmookhcalkaaGreatDoor.InsA Go.Proofs.YthbbmookhcalkaaGreatDoor.Funs
set_option linter.unusedVariables false
set_option maxRecDepth 100000

theorem addr_of {w : World} {x : Addr} {v : Value} (h : w.cell? (x.add 0) = some v) : x = ⟨x.block, x.off, none⟩ := by
  obtain ⟨b, off, spot⟩ := x
  have hspot : spot = none := by simpa [Addr.add] using World.cell?_spot h
  rw [hspot]

theorem cellsIns : Tryz.prog.cellsOf 163 = 3 := by kernel_rfl
instance : Inhabited InsD := ⟨⟨0, 0, ⟨#[]⟩⟩⟩

/-- Three cells of one element, by their reading. -/
theorem three {W : World} {base : Nat} {a : Addr} {i : Nat} {cs : List Value} (h : W.cells? base (a.add (i * 3)) 3 = some cs) :
    ∃ v0 v1 v2, cs = [v0, v1, v2] ∧ W.cell? (a.add (i * 3)) = some v0 ∧ W.cell? (a.add (i * 3 + 1)) = some v1 ∧ W.cell? (a.add (i * 3 + 2)) = some v2 := by
  obtain ⟨_, hlen, hcell⟩ := World.cells?_some h
  match cs, hlen with
  | [v0, v1, v2], _ =>
    have e0 := hcell 0 (by omega)
    have e1 := hcell 1 (by omega)
    have e2 := hcell 2 (by omega)
    rw [add_add] at e0 e1 e2
    exact ⟨v0, v1, v2, rfl, by simpa using e0, by simpa using e1, by simpa using e2⟩

theorem open3 {H : Type} {enc : TypeId × Value → H} {P : Program} {W : World} {base : Nat} {spare : Nat → Bool} {held : Bool} {t : TypeId} {f0 f1 f2 : Field} {v0 v1 v2 : Value} {n : Nat} {x : DataW H × List MemPlace} (hs : P.underlying t = some (.struct #[f0, f1, f2])) (hone : oneCellFields P #[f0, f1, f2] = true)
    (h : DataW.trod enc P W base spare held n t [v0, v1, v2] = some x) :
    ∃ y0 y1 y2 k, DataW.trod enc P W base spare held k f0.type [v0] = some y0 ∧ DataW.trod enc P W base spare held k f1.type [v1] = some y1 ∧ DataW.trod enc P W base spare held k f2.type [v2] = some y2 := by
  obtain ⟨y0, y1, y2, k, hx, _, h0, h1, h2⟩ := trod_struct3 hs h
  obtain ⟨o0, k0⟩ := hone_of hone 0 f0 rfl
  obtain ⟨o1, k1⟩ := hone_of hone 1 f1 rfl
  obtain ⟨o2, k2⟩ := hone_of hone 2 f2 rfl
  exact ⟨y0, y1, y2, k, by simpa [o0, k0] using h0, by simpa [o1, k1] using h1, by simpa [o2, k2] using h2⟩

theorem insRow_of {H : Type} {enc : TypeId × Value → H} {W : World} {base : Nat} {spare : Nat → Bool} {held : Bool} {n : Nat} {v : Value} {y : DataW H × List MemPlace} (h : DataW.trod enc Tryz.prog W base spare held n 76 [v] = some y) :
    ∃ (a : Option Addr) (cap : Nat) (xs : List InsD), v = .slice a xs.length cap ∧ xs.length ≤ cap ∧ cap ≤ maxLen ∧ InsRow W a xs := by
  rcases open_slice Tryz.underlying76 h with ⟨hcs, _⟩ | ⟨a, len, cap, m, n', D, Pl, hcs, hb, hl, hm, hmm, hy, hx⟩
  · exact ⟨none, 0, [], by simpa using hcs, Nat.le_refl _, Nat.zero_le _, .inl rfl⟩
  · have hlm : len ≤ m := by rw [hmm]; split <;> omega
    rw [cellsIns] at hx
    have each : ∀ i, i < len → ∃ x : InsD, W.cell? (a.add (i * 3)) = some (.int .i64 x.o) ∧ W.cell? (a.add (i * 3 + 1)) = some (.int .i64 x.n) ∧ W.cell? (a.add (i * 3 + 2)) = some (.string x.s) ∧ x.s.size ≤ maxLen := fun i hi => by
      obtain ⟨cs', h1, h2⟩ := hx i (by omega)
      obtain ⟨v0, v1, v2, rfl, c0, c1, c2⟩ := three h1
      obtain ⟨y0, y1, y2, k, g0, g1, g2⟩ := open3 Tryz.underlying163 (by kernel_rfl) h2
      obtain ⟨op, e0, _, _⟩ := DataW.trod_int Tryz.underlying3 g0
      obtain ⟨nn, e1, _, _⟩ := DataW.trod_int Tryz.underlying3 g1
      obtain ⟨ss, e2, _, ws⟩ := DataW.trod_string Tryz.underlying9 g2
      simp at e0 e1 e2
      subst e0 e1 e2
      exact ⟨⟨op, nn, ss⟩, c0, c1, c2, ws⟩
    obtain ⟨f, hf⟩ := choose_lt each
    refine ⟨some a, cap, (List.range len).map f, by simpa using hcs, by simpa using hl, hm, ?_⟩
    by_cases h0 : len = 0
    · subst h0; exact .inl rfl
    · have ha := addr_of (by simpa using (hf 0 (by omega)).1)
      refine .inr ⟨a.block, a.off, by rw [← ha], fun i hi => ?_⟩
      have hi' : i < len := by simpa using hi
      obtain ⟨c0, c1, c2, hs⟩ := hf i hi'
      rw [ha, add_plain] at c0 c1 c2
      simp only [List.getElem_map, List.getElem_range]
      exact ⟨c0, c1, c2, hs⟩

/-- A function as plain data. -/
structure FunD where
  nm : ByteArray
  wk : Bool
  body : List InsD
instance : Inhabited FunD := ⟨⟨⟨#[]⟩, false, []⟩⟩

/-- The three cells of a function, and the row of its instructions. -/
def FunAt (w : World) (b o : Nat) (f : FunD) : Prop :=
  ∃ ai ci, w.cell? ⟨b, o, none⟩ = some (.string f.nm) ∧ w.cell? ⟨b, o + 1, none⟩ = some (.bool f.wk) ∧ w.cell? ⟨b, o + 2, none⟩ = some (.slice ai f.body.length ci) ∧ f.nm.size ≤ maxLen ∧ f.body.length ≤ ci ∧ ci ≤ maxLen ∧ InsRow w ai f.body
/-- These functions lie in a row of memory. -/
def FunRow (w : World) (a : Option Addr) (l : List FunD) : Prop :=
  l = [] ∨ ∃ b off, a = some ⟨b, off, none⟩ ∧ ∀ i (h : i < l.length), FunAt w b (off + i * 3) l[i]

theorem FunAt.below {w w' : World} {b o : Nat} {f : FunD} (h : FunAt w b o f) (hb : Below w.heap.size w w') : FunAt w' b o f := by
  obtain ⟨ai, ci, h0, h1, h2, h3, h4, h5, h6⟩ := h
  have t : ∀ o v, w.cell? ⟨b, o, none⟩ = some v → w'.cell? ⟨b, o, none⟩ = some v := fun o v hc => (hb.cell (p := ⟨b, o, none⟩) (World.block_lt_of_cell? w _ hc)).trans hc
  exact ⟨ai, ci, t _ _ h0, t _ _ h1, t _ _ h2, h3, h4, h5, h6.below hb⟩
theorem FunRow.below {w w' : World} {a : Option Addr} {l : List FunD} (h : FunRow w a l) (hb : Below w.heap.size w w') : FunRow w' a l := by
  rcases h with h | ⟨b, off, ha, h⟩
  · exact .inl h
  · exact .inr ⟨b, off, ha, fun i hi => (h i hi).below hb⟩

theorem FunRow.get {w : World} {a : Option Addr} {fs : List FunD} (h : FunRow w a fs) (h0 : 0 < fs.length) : ∃ b off, a = some ⟨b, off, none⟩ := by
  rcases h with h | ⟨b, off, ha, _⟩
  · rw [h] at h0; simp at h0
  · exact ⟨b, off, ha⟩
theorem FunRow.at {w : World} {b off k : Nat} {fs : List FunD} (h : FunRow w (some ⟨b, off, none⟩) fs) (hk : k < fs.length) : FunAt w b (off + k * 3) fs[k] := by
  rcases h with h | ⟨b', off', ha, h⟩
  · subst h; simp at hk
  · simp only [Option.some.injEq, Addr.mk.injEq, and_true] at ha
    obtain ⟨rfl, rfl⟩ := ha
    exact h k hk
theorem FunRow.sizes {w : World} {a : Option Addr} {fs : List FunD} (h : FunRow w a fs) : ∀ f ∈ fs, f.nm.size ≤ maxLen ∧ f.body.length ≤ maxLen ∧ ∀ x ∈ f.body, x.s.size ≤ maxLen := by
  intro f hf
  obtain ⟨i, hi, rfl⟩ := List.getElem_of_mem hf
  rcases h with h | ⟨b, off, ha, h⟩
  · subst h; simp at hi
  · obtain ⟨ai, ci, _, _, _, h3, h4, h5, h6⟩ := h i hi
    exact ⟨h3, by omega, h6.sizes⟩

theorem keep8 {W w w' : World} {p0 p1 p2 q0 q1 q2 : Addr} {v0 v1 v2 u0 u1 u2 : Value} {a b : Option Addr} {xs ys : List InsD} (h : (w.cell? p0 = some v0 ∧ w.cell? p1 = some v1 ∧ w.cell? p2 = some v2) ∧ (w.cell? q0 = some u0 ∧ w.cell? q1 = some u1 ∧ w.cell? q2 = some u2) ∧ InsRow w a xs ∧ InsRow w b ys ∧ Below W.heap.size W w) (hb : Below w.heap.size w w') :
    (w'.cell? p0 = some v0 ∧ w'.cell? p1 = some v1 ∧ w'.cell? p2 = some v2) ∧ (w'.cell? q0 = some u0 ∧ w'.cell? q1 = some u1 ∧ w'.cell? q2 = some u2) ∧ InsRow w' a xs ∧ InsRow w' b ys ∧ Below W.heap.size W w' := by
  obtain ⟨⟨a0, a1, a2⟩, ⟨b0, b1, b2⟩, hr, hs, hW⟩ := h
  have t : ∀ p v, w.cell? p = some v → w'.cell? p = some v := fun p v hc => (hb.cell (p := p) (World.block_lt_of_cell? w _ hc)).trans hc
  exact ⟨⟨t _ _ a0, t _ _ a1, t _ _ a2⟩, ⟨t _ _ b0, t _ _ b1, t _ _ b2⟩, hr.below hb, hs.below hb, bl_trans hW hb⟩
theorem row8a {W w : World} {p0 p1 p2 q0 q1 q2 : Addr} {v0 v1 v2 u0 u1 u2 : Value} {a b : Option Addr} {xs ys : List InsD} (h : (w.cell? p0 = some v0 ∧ w.cell? p1 = some v1 ∧ w.cell? p2 = some v2) ∧ (w.cell? q0 = some u0 ∧ w.cell? q1 = some u1 ∧ w.cell? q2 = some u2) ∧ InsRow w a xs ∧ InsRow w b ys ∧ Below W.heap.size W w) : InsRow w a xs := h.2.2.1
theorem row8b {W w : World} {p0 p1 p2 q0 q1 q2 : Addr} {v0 v1 v2 u0 u1 u2 : Value} {a b : Option Addr} {xs ys : List InsD} (h : (w.cell? p0 = some v0 ∧ w.cell? p1 = some v1 ∧ w.cell? p2 = some v2) ∧ (w.cell? q0 = some u0 ∧ w.cell? q1 = some u1 ∧ w.cell? q2 = some u2) ∧ InsRow w a xs ∧ InsRow w b ys ∧ Below W.heap.size W w) : InsRow w b ys := h.2.2.2.1
theorem bel8 {W w : World} {p0 p1 p2 q0 q1 q2 : Addr} {v0 v1 v2 u0 u1 u2 : Value} {a b : Option Addr} {xs ys : List InsD} (h : (w.cell? p0 = some v0 ∧ w.cell? p1 = some v1 ∧ w.cell? p2 = some v2) ∧ (w.cell? q0 = some u0 ∧ w.cell? q1 = some u1 ∧ w.cell? q2 = some u2) ∧ InsRow w a xs ∧ InsRow w b ys ∧ Below W.heap.size W w) : Below W.heap.size W w := h.2.2.2.2
theorem keep8_drew {W w : World} {p0 p1 p2 q0 q1 q2 : Addr} {v0 v1 v2 u0 u1 u2 : Value} {a b : Option Addr} {xs ys : List InsD} (h : (w.cell? p0 = some v0 ∧ w.cell? p1 = some v1 ∧ w.cell? p2 = some v2) ∧ (w.cell? q0 = some u0 ∧ w.cell? q1 = some u1 ∧ w.cell? q2 = some u2) ∧ InsRow w a xs ∧ InsRow w b ys ∧ Below W.heap.size W w) :
    (w.drew.cell? p0 = some v0 ∧ w.drew.cell? p1 = some v1 ∧ w.drew.cell? p2 = some v2) ∧ (w.drew.cell? q0 = some u0 ∧ w.drew.cell? q1 = some u1 ∧ w.drew.cell? q2 = some u2) ∧ InsRow w.drew a xs ∧ InsRow w.drew b ys ∧ Below W.heap.size W w.drew :=
  ⟨h.1, h.2.1, h.2.2.1, h.2.2.2.1, h.2.2.2.2.drew⟩

theorem cellsFun : Tryz.prog.cellsOf 78 = 3 := by kernel_rfl
/-- A function that came in by value. -/
theorem fun_of {H : Type} {enc : TypeId × Value → H} {W : World} {base b0 : Nat} {spare : Nat → Bool} {held : Bool} {v : Value} {r : Reach} {d : DataW H} {p : List MemPlace} (hv : Value.okWide Tryz.prog W r b0 78 v) (h : DataW.Trod enc Tryz.prog W base spare held 78 v d p) :
    ∃ (nm : ByteArray) (wk : Bool) (a : Option Addr) (cap : Nat) (xs : List InsD), v = .agg #[.string nm, .bool wk, .slice a xs.length cap] ∧ nm.size ≤ maxLen ∧ xs.length ≤ cap ∧ cap ≤ maxLen ∧ InsRow W a xs := by
  obtain ⟨c0, c1, c2, y0, y1, y2, m, hv', _, _, hy0, hy1, hy2⟩ := open_agg3 Tryz.underlying78 (by kernel_rfl) cellsFun hv h
  obtain ⟨ss, e0, _, ws⟩ := DataW.trod_string Tryz.underlying9 hy0
  obtain ⟨bb, e1, _⟩ := DataW.trod_bool Tryz.underlying4 hy1
  obtain ⟨a, cap, xs, e2, hl, hm, hr⟩ := insRow_of hy2
  simp at e0 e1
  subst e0 e1 e2
  exact ⟨ss, bb, a, cap, xs, hv', ws, hl, hm, hr⟩
theorem funRow_of {H : Type} {enc : TypeId × Value → H} {W : World} {base : Nat} {spare : Nat → Bool} {held : Bool} {n : Nat} {v : Value} {y : DataW H × List MemPlace} (h : DataW.trod enc Tryz.prog W base spare held n 39 [v] = some y) :
    ∃ (a : Option Addr) (cap : Nat) (fs : List FunD), v = .slice a fs.length cap ∧ fs.length ≤ cap ∧ cap ≤ maxLen ∧ FunRow W a fs := by
  rcases open_slice Tryz.underlying39 h with ⟨hcs, _⟩ | ⟨a, len, cap, m, n', D, Pl, hcs, hb, hl, hm, hmm, hy, hx⟩
  · exact ⟨none, 0, [], by simpa using hcs, Nat.le_refl _, Nat.zero_le _, .inl rfl⟩
  · have hlm : len ≤ m := by rw [hmm]; split <;> omega
    rw [cellsFun] at hx
    have each : ∀ i, i < len → ∃ f : FunD, W.cell? (a.add (i * 3)) = some (.string f.nm) ∧ W.cell? (a.add (i * 3 + 1)) = some (.bool f.wk) ∧ ∃ ai ci, W.cell? (a.add (i * 3 + 2)) = some (.slice ai f.body.length ci) ∧ f.nm.size ≤ maxLen ∧ f.body.length ≤ ci ∧ ci ≤ maxLen ∧ InsRow W ai f.body := fun i hi => by
      obtain ⟨cs', h1, h2⟩ := hx i (by omega)
      obtain ⟨v0, v1, v2, rfl, c0, c1, c2⟩ := three h1
      obtain ⟨y0, y1, y2, k, g0, g1, g2⟩ := open3 Tryz.underlying78 (by kernel_rfl) h2
      obtain ⟨ss, e0, _, ws⟩ := DataW.trod_string Tryz.underlying9 g0
      obtain ⟨bb, e1, _⟩ := DataW.trod_bool Tryz.underlying4 g1
      obtain ⟨ai, ci, xs, e2, hl, hm, hr⟩ := insRow_of g2
      simp at e0 e1
      subst e0 e1 e2
      exact ⟨⟨ss, bb, xs⟩, c0, c1, ai, ci, c2, ws, hl, hm, hr⟩
    obtain ⟨f, hf⟩ := choose_lt each
    refine ⟨some a, cap, (List.range len).map f, by simpa using hcs, by simpa using hl, hm, ?_⟩
    by_cases h0 : len = 0
    · subst h0; exact .inl rfl
    · have ha := addr_of (by simpa using (hf 0 (by omega)).1)
      refine .inr ⟨a.block, a.off, by rw [← ha], fun i hi => ?_⟩
      have hi' : i < len := by simpa using hi
      obtain ⟨c0, c1, ai, ci, c2, hs⟩ := hf i hi'
      rw [ha, add_plain] at c0 c1 c2
      simp only [List.getElem_map, List.getElem_range]
      exact ⟨ai, ci, c0, c1, c2, hs⟩
/-- A unit that came in. -/
theorem funs_of {H : Type} {enc : TypeId × Value → H} {W : World} {base b0 : Nat} {spare : Nat → Bool} {held : Bool} {v : Value} {r : Reach} {d : DataW H} {p : List MemPlace} (hv : Value.okWide Tryz.prog W r b0 39 v) (h : DataW.Trod enc Tryz.prog W base spare held 39 v d p) :
    ∃ (a : Option Addr) (cap : Nat) (fs : List FunD), v = .slice a fs.length cap ∧ fs.length ≤ cap ∧ cap ≤ maxLen ∧ FunRow W a fs := by
  obtain ⟨a, len, cap, rfl⟩ := okWide_slice Tryz.underlying39 hv
  obtain ⟨fuel, hf⟩ := h
  exact funRow_of hf
end Go.Proofs.YthbbmookhcalkaaGreatDoor.Open
/- What a world keeps through calls that make memory alone and through draws, as one word for many facts. -/
namespace Go.Proofs.YthbbmookhcalkaaGreatDoor.Keep
open Go.ChangeShapes Go.WideShapes Go.ChangeAt Go.RowKit Go.Joins
open Go.Proofs.YthbbmookhcalkaaGreatDoor.Base Go.Proofs.YthbbmookhcalkaaGreatDoor.InsA Go.Proofs.YthbbmookhcalkaaGreatDoor.Funs Go.Proofs.YthbbmookhcalkaaGreatDoor.Open
set_option linter.unusedVariables false
set_option maxRecDepth 100000

/-- A fact on worlds that stands where only new memory is made or a draw is made. -/
def Stable (S : World → Prop) : Prop := (∀ w w', Below w.heap.size w w' → S w → S w') ∧ ∀ w, S w → S w.drew
theorem Stable.and {S T : World → Prop} (h : Stable S) (k : Stable T) : Stable (fun w => S w ∧ T w) := ⟨fun w w' hb hs => ⟨h.1 w w' hb hs.1, k.1 w w' hb hs.2⟩, fun w hs => ⟨h.2 w hs.1, k.2 w hs.2⟩⟩
theorem Stable.cell (p : Addr) (v : Value) : Stable (fun w => w.cell? p = some v) := ⟨fun w w' hb hs => (hb.cell (p := p) (World.block_lt_of_cell? w _ hs)).trans hs, fun w hs => hs⟩
theorem Stable.box (B : Nat) (o : Obj) : Stable (fun w => w.heap[B]? = some o) := ⟨fun w w' hb hs => box_below hs hb, fun w hs => hs⟩
theorem Stable.row (a : Option Addr) (xs : List InsD) : Stable (fun w => InsRow w a xs) := ⟨fun w w' hb hs => hs.below hb, fun w hs => hs⟩
theorem Stable.frow (a : Option Addr) (fs : List FunD) : Stable (fun w => FunRow w a fs) := ⟨fun w w' hb hs => hs.below hb, fun w hs => hs⟩
theorem Stable.below (W : World) : Stable (fun w => Below W.heap.size W w) := ⟨fun w w' hb hs => bl_trans hs hb, fun w hs => hs.drew⟩
theorem Stable.alloc {S : World → Prop} (h : Stable S) {w : World} (hs : S w) (o : Obj) : S (w.alloc o) := h.1 w _ (below_alloc1 w o) hs

theorem s0 {a r : Prop} (h : a ∧ r) : a := h.1
theorem s1 {p1 a r : Prop} (h : p1 ∧ a ∧ r) : a := h.2.1
theorem s2 {p1 p2 a r : Prop} (h : p1 ∧ p2 ∧ a ∧ r) : a := h.2.2.1
theorem s3 {p1 p2 p3 a r : Prop} (h : p1 ∧ p2 ∧ p3 ∧ a ∧ r) : a := h.2.2.2.1
theorem s4 {p1 p2 p3 p4 a r : Prop} (h : p1 ∧ p2 ∧ p3 ∧ p4 ∧ a ∧ r) : a := h.2.2.2.2.1
theorem s5 {p1 p2 p3 p4 p5 a r : Prop} (h : p1 ∧ p2 ∧ p3 ∧ p4 ∧ p5 ∧ a ∧ r) : a := h.2.2.2.2.2.1
theorem s6 {p1 p2 p3 p4 p5 p6 a r : Prop} (h : p1 ∧ p2 ∧ p3 ∧ p4 ∧ p5 ∧ p6 ∧ a ∧ r) : a := h.2.2.2.2.2.2.1
theorem s7 {p1 p2 p3 p4 p5 p6 p7 a r : Prop} (h : p1 ∧ p2 ∧ p3 ∧ p4 ∧ p5 ∧ p6 ∧ p7 ∧ a ∧ r) : a := h.2.2.2.2.2.2.2.1
end Go.Proofs.YthbbmookhcalkaaGreatDoor.Keep
/- The contracts of chapter 1's NameOk, of the program and of the specification: both say whether a text is 1 to 6 letters a to z. -/
namespace Go.Proofs.YthbbmookhcalkaaGreatDoor.Name
open Go.Proofs.YthbbmookhcalkaaGreatDoor.Base
open Go.ChangeShapes Go.WideShapes Go.ChangeAt Go.RowKit Go.Joins
set_option linter.unusedVariables false

def letB (c : UInt8) : Bool := decide (97 ≤ c.toNat) && decide (c.toNat ≤ 122)
def letterI (r : Int) : Bool := decide (97 ≤ r) && decide (r ≤ 122)
def lets (l : List UInt8) : Bool := l.all letB
def nameB (s : ByteArray) : Bool := lets s.data.toList && (decide (1 ≤ s.size) && decide (s.size ≤ 6))

theorem take_snoc (s : ByteArray) (k : Nat) (h : k < s.size) : s.data.toList.take (k + 1) = s.data.toList.take k ++ [s[k]] := by
  rw [List.take_succ_eq_append_getElem (by simpa using h)]; rfl
theorem lets_snoc (s : ByteArray) (k : Nat) (h : k < s.size) (hl : lets (s.data.toList.take k) = true) (h1 : 97 ≤ (s[k].toNat : Int)) (h2 : (s[k].toNat : Int) ≤ 122) : lets (s.data.toList.take (k + 1)) = true := by
  rw [take_snoc s k h]
  unfold lets at *
  rw [List.all_append, hl]
  simp only [List.all_cons, List.all_nil, letB]
  simp
  omega
theorem mem_at (s : ByteArray) (k : Nat) (h : k < s.size) : s[k] ∈ s.data.toList := by
  have : s[k] = s.data.toList[k]'(by simpa using h) := rfl
  rw [this]; exact List.getElem_mem _
theorem name_bad (s : ByteArray) (k : Nat) (h : k < s.size) (hb : (s[k].toNat : Int) < 97 ∨ 122 < (s[k].toNat : Int)) : false = nameB s := by
  have : lets s.data.toList = false := by
    unfold lets
    rw [List.all_eq_false]
    refine ⟨s[k], mem_at s k h, ?_⟩
    unfold letB
    simp
    omega
  simp [nameB, this]
theorem name_all (s : ByteArray) (k : Nat) (h : ¬ k < s.size) (hl : lets (s.data.toList.take k) = true) : (decide (1 ≤ s.size) && decide (s.size ≤ 6)) = nameB s := by
  rw [List.take_of_length_le (by simp; omega)] at hl
  simp [nameB, hl]
theorem name_short (s : ByteArray) (h : s.size < 1 ∨ 6 < s.size) : false = nameB s := by
  unfold nameB
  have : (decide (1 ≤ s.size) && decide (s.size ≤ 6)) = false := by
    simp; omega
  rw [this]; simp

theorem dec_hi {n : Nat} (h : 1 ≤ n) : decide ((n : Int) ≤ 6) = (decide (1 ≤ n) && decide (n ≤ 6)) := by
  rw [Bool.eq_iff_iff]; simp; omega
theorem dec_lo {n : Nat} (h : n < 1) : false = (decide (1 ≤ n) && decide (n ≤ 6)) := by
  rw [Bool.eq_iff_iff]; simp; omega
theorem dec_in {n : Nat} (h : 1 ≤ n) (h6 : n ≤ 6) : true = (decide (1 ≤ n) && decide (n ≤ 6)) := by
  rw [Bool.eq_iff_iff]; simp; omega
theorem rune_bad (s : ByteArray) (pos : Nat) (h : pos < s.size) (hb : (s[pos].toNat : Int) < 97 ∨ 122 < (s[pos].toNat : Int)) : letterI (Utf8.decode s pos).1 = false := by
  unfold letterI
  by_cases ha : (s[pos]'h).toNat < 128
  · rw [decode_ascii s pos h ha]
    simp
    omega
  · have := (decode_high s pos h (by omega)).1
    simp
    omega

set_option maxHeartbeats 400000 in
theorem specName_any (s : ByteArray) (w : World) (hs : s.size ≤ maxLen) :
    Calls Tryz.prog 70 #[.string s] w fun e w' => e = .returned (.bool (nameB s)) ∧ w' = w := by
  unfold maxLen at hs
  go_enter Tryz.func70, Tryz.ntmps70
  go_wp2
  go_loop [3] (fun i => ∃ k : Nat, k ≤ s.size ∧ i = .int .i64 k ∧ lets (s.data.toList.take k) = true) (fun i => s.size - (intOf i).toNat)
  case atStart => exact ⟨0, Nat.zero_le _, rfl, rfl⟩
  case round =>
    obtain ⟨k, hk, rfl, hl⟩ := hrel
    have HL : Hid (lets (s.data.toList.take k) = true) := hl
    clear hl
    by_cases hlt : k < s.size
    · go_wp2
      · go_ret
        exact ⟨ret_bool (name_bad s k hlt (by omega)), rfl⟩
      · exact ⟨⟨k + 1, by omega, by go_num, lets_snoc s k hlt HL.out (by omega) (by omega)⟩, by simp [intOf]; omega⟩
      · go_ret
        exact ⟨ret_bool (name_bad s k hlt (by omega)), rfl⟩
    · have HF : Hid ((decide (1 ≤ s.size) && decide (s.size ≤ 6)) = nameB s) := name_all s k hlt HL.out
      go_wp2
      · go_ret
        exact ⟨ret_bool (by rw [← HF.out]; exact dec_hi (by omega)), rfl⟩
      · go_ret
        exact ⟨ret_bool (by rw [← HF.out]; exact dec_lo (by omega)), rfl⟩

set_option maxHeartbeats 400000 in
theorem isLetter_any (r : Int) (w : World) :
    Calls Tryz.prog 75 #[.int .i32 r] w fun e w' => e = .returned (.bool (letterI r)) ∧ w' = w := by
  go_enter Tryz.func75, Tryz.ntmps75
  go_wp2
  all_goals (go_ret; exact ⟨ret_bool (by unfold letterI; rw [Bool.eq_iff_iff]; simp; omega), rfl⟩)

set_option maxHeartbeats 400000 in
theorem implName_any (s : ByteArray) (w : World) (hs : s.size ≤ maxLen) :
    Calls Tryz.prog 36 #[.string s] w fun e w' => e = .returned (.bool (nameB s)) ∧ Below w.heap.size w w' := by
  unfold maxLen at hs
  by_cases h1 : s.size < 1
  · have h1' : (s.size : Int) < 1 := by omega
    go_enter Tryz.func36, Tryz.ntmps36
    go_wp2
    go_ret
    exact ⟨ret_bool (name_short s (by omega)), Below.refl _ _⟩
  by_cases h2 : 6 < s.size
  · have h1' : ¬ (s.size : Int) < 1 := by omega
    have h2' : 6 < (s.size : Int) := by omega
    go_enter Tryz.func36, Tryz.ntmps36
    go_wp2
    go_ret
    exact ⟨ret_bool (name_short s (by omega)), Below.refl _ _⟩
  have h1' : ¬ (s.size : Int) < 1 := by omega
  have h2' : ¬ 6 < (s.size : Int) := by omega
  go_enter Tryz.func36, Tryz.ntmps36
  go_wp2_with fail
  go_loopw [] (fun w' => ∃ pos : Nat, pos ≤ s.size ∧ w' = w.iter s pos ∧ lets (s.data.toList.take pos) = true) (fun w' => s.size - w'.iterPos w.heap.size)
  case atStart => exact ⟨0, Nat.zero_le _, rfl, rfl⟩
  case round =>
    obtain ⟨pos, hk, rfl, hl⟩ := hrel
    have HL : Hid (lets (s.data.toList.take pos) = true) := hl
    clear hl
    by_cases hp : pos < s.size
    · by_cases hb : 97 ≤ (s[pos].toNat : Int) ∧ (s[pos].toNat : Int) ≤ 122
      · have hnx : ∀ ty, (Instr.next (.pointer (some ⟨w.heap.size, 0, none⟩)) true ty).run Tryz.prog (w.iter s pos) = _ := fun ty => run_next_ascii w s pos ty hp (by omega)
        have hl : letterI s[pos].toNat = true := by unfold letterI; simp; omega
        go_wp2_with (go_at_call 75; refine (isLetter_any _ _).mono ?_; rintro e w' ⟨rfl, rfl⟩)
        exact ⟨⟨pos + 1, by omega, rfl, lets_snoc s pos hp HL.out (by omega) (by omega)⟩, by simp; omega⟩
      · have hnx : ∀ ty, (Instr.next (.pointer (some ⟨w.heap.size, 0, none⟩)) true ty).run Tryz.prog (w.iter s pos) = _ := fun ty => run_next_any w s pos ty hp
        have hl : letterI (Utf8.decode s pos).1 = false := rune_bad s pos hp (by omega)
        go_wp2_with (go_at_call 75; refine (isLetter_any _ _).mono ?_; rintro e w' ⟨rfl, rfl⟩)
        go_ret
        exact ⟨ret_bool (name_bad s pos hp (by omega)), below_alloc1 _ _⟩
    · have hnx : ∀ ty, (Instr.next (.pointer (some ⟨w.heap.size, 0, none⟩)) true ty).run Tryz.prog (w.iter s pos) = _ := fun ty => run_next_end w s pos ty hp
      have HF : Hid ((decide (1 ≤ s.size) && decide (s.size ≤ 6)) = nameB s) := name_all s pos hp HL.out
      go_wp2
      go_ret
      exact ⟨ret_bool (by rw [← HF.out]; exact dec_in (by omega) (by omega)), below_alloc1 _ _⟩

end Go.Proofs.YthbbmookhcalkaaGreatDoor.Name
/- The contracts of chapter 1's InsOk, of the program and of the specification. -/
namespace Go.Proofs.YthbbmookhcalkaaGreatDoor.InsB
open Go.Proofs.YthbbmookhcalkaaGreatDoor.Base
open Go.ChangeShapes Go.WideShapes Go.ChangeAt Go.RowKit Go.Joins
open Go.Proofs.YthbbmookhcalkaaGreatDoor.InsA
open Go.Proofs.YthbbmookhcalkaaGreatDoor.Name (nameB specName_any)
open Go.Proofs.YthbbmookhcalkaaGreatDoor.Name (implName_any)
set_option linter.unusedVariables false

def insOkB (o n : Int) (s : ByteArray) : Bool :=
  if o = 2 then (decide (-1000 ≤ n) && decide (n ≤ 1000)) && s.toList.isEmpty
  else if o = 3 ∨ o = 4 ∨ o = 5 then n == 0 && nameB s
  else if o = 1 ∨ o = 6 ∨ o = 7 then n == 0 && s.toList.isEmpty
  else false
def cut (n : Int) : Int := if n < -1000 then -1000 else if 1000 < n then 1000 else n
def isKindB (o : Int) : Bool := decide (1 ≤ o) && decide (o ≤ 7)

theorem cut_by {n m : Int} (h : (n < -1000 ∧ m = -1000) ∨ (1000 < n ∧ m = 1000) ∨ (-1000 ≤ n ∧ n ≤ 1000 ∧ m = n)) : m = cut n := by
  unfold cut; split <;> (try split) <;> omega

set_option maxHeartbeats 400000 in
theorem cutNumber_any (n : Int) (w : World) :
    Calls Tryz.prog 99 #[.int .i64 n] w fun e w' => e = .returned (.int .i64 (cut n)) ∧ w' = w := by
  go_enter Tryz.func99, Tryz.ntmps99
  go_wp2
  all_goals (go_ret; exact ⟨ret_int (cut_by (by omega)), rfl⟩)

set_option maxHeartbeats 400000 in
theorem hasNumber_any (o : Int) (w : World) :
    Calls Tryz.prog 98 #[.int .i64 o] w fun e w' => e = .returned (.bool (o == 2)) ∧ w' = w := by
  go_enter Tryz.func98, Tryz.ntmps98
  go_wp2
  go_ret
  exact ⟨rfl, rfl⟩

set_option maxHeartbeats 400000 in
theorem isKind_any (o : Int) (w : World) :
    Calls Tryz.prog 101 #[.int .i64 o] w fun e w' => e = .returned (.bool (isKindB o)) ∧ w' = w := by
  go_enter Tryz.func101, Tryz.ntmps101
  go_wp2
  all_goals (go_ret; exact ⟨ret_bool (by unfold isKindB; rw [Bool.eq_iff_iff]; simp; omega), rfl⟩)

set_option maxHeartbeats 400000 in
theorem specOk_any (o n : Int) (s : ByteArray) (w : World) (hs : s.size ≤ maxLen) :
    Calls Tryz.prog 72 #[.agg #[.int .i64 o, .int .i64 n, .string s]] w fun e w' => e = .returned (.bool (insOkB o n s)) ∧ Below w.heap.size w w' := by
  go_enter Tryz.func72, Tryz.ntmps72
  go_wp2_with (go_at_call 70; refine (specName_any _ _ hs).mono ?_; rintro e w1 ⟨rfl, rfl⟩)
  all_goals (go_ret; exact ⟨ret_bool (by first | (simp_all [insOkB]; done) | (simp_all [insOkB]; intros; omega)), below_alloc1 _ _⟩)

set_option maxHeartbeats 400000 in
theorem implOk_add_in (n : Int) (s : ByteArray) (w : World) (hs : s.size ≤ maxLen) (h1 : -1000 ≤ n) (h2 : n ≤ 1000) :
    Calls Tryz.prog 65 #[.agg #[.int .i64 2, .int .i64 n, .string s]] w fun e w' => e = .returned (.bool (insOkB 2 n s)) ∧ Below w.heap.size w w' := by
  have hc : cut n = n := (cut_by (by omega)).symm
  go_enter Tryz.func65, Tryz.ntmps65
  go_wp2_with (go_at_call 98; refine (hasNumber_any _ _).mono ?_; rintro e w1 ⟨rfl, rfl⟩)
  go_quiet ((go_at_call 99; exact Calls.quiet_of_same (cutNumber_any _ _)))
  go_wp2
  all_goals (go_ret; exact ⟨ret_bool (by first | (simp_all [insOkB]; done) | (simp_all [insOkB]; intros; omega)), bl_drewN (below_alloc1 _ _) _⟩)

set_option maxHeartbeats 400000 in
theorem implOk_add_out (n : Int) (s : ByteArray) (w : World) (hs : s.size ≤ maxLen) (h : n < -1000 ∨ 1000 < n) :
    Calls Tryz.prog 65 #[.agg #[.int .i64 2, .int .i64 n, .string s]] w fun e w' => e = .returned (.bool (insOkB 2 n s)) ∧ Below w.heap.size w w' := by
  have hc : (n == cut n) = false := by rw [beq_eq_false_iff_ne]; unfold cut; split <;> (try split) <;> omega
  go_enter Tryz.func65, Tryz.ntmps65
  go_wp2_with (go_at_call 98; refine (hasNumber_any _ _).mono ?_; rintro e w1 ⟨rfl, rfl⟩)
  go_quiet ((go_at_call 99; exact Calls.quiet_of_same (cutNumber_any _ _)))
  go_wp2
  all_goals (go_ret; exact ⟨ret_bool (by first | (simp_all [insOkB]; done) | (simp_all [insOkB]; intros; omega)), bl_drewN (below_alloc1 _ _) _⟩)

set_option maxHeartbeats 400000 in
theorem implOk_any (o n : Int) (s : ByteArray) (w : World) (hs : s.size ≤ maxLen) :
    Calls Tryz.prog 65 #[.agg #[.int .i64 o, .int .i64 n, .string s]] w fun e w' => e = .returned (.bool (insOkB o n s)) ∧ Below w.heap.size w w' := by
  by_cases h2 : o = 2
  · subst h2
    by_cases hn : -1000 ≤ n ∧ n ≤ 1000
    · exact implOk_add_in n s w hs hn.1 hn.2
    · exact implOk_add_out n s w hs (by omega)
  · have h2' : (o == 2) = false := by simp [h2]
    go_enter Tryz.func65, Tryz.ntmps65
    go_wp2_with (first | (go_at_call 98; refine (hasNumber_any _ _).mono ?_; rintro e w1 ⟨rfl, rfl⟩) | (go_at_call 100; refine (hasName_any _ _).mono ?_; rintro e w1 ⟨rfl, rfl⟩) | (go_at_call 101; refine (isKind_any _ _).mono ?_; rintro e w1 ⟨rfl, rfl⟩) | (go_at_call 99; refine (cutNumber_any _ _).mono ?_; rintro e w1 ⟨rfl, rfl⟩) | (go_at_call 36; refine (implName_any _ _ hs).mono ?_; rintro e w1 ⟨rfl, hb⟩))
    all_goals (go_ret; exact ⟨ret_bool (by first | (simp_all [insOkB, refsB, isKindB]; done) | (simp_all [insOkB, refsB, isKindB]; intros; omega)), by first | exact below_alloc1 _ _ | exact bl_trans (below_alloc1 _ _) hb⟩)

end Go.Proofs.YthbbmookhcalkaaGreatDoor.InsB
