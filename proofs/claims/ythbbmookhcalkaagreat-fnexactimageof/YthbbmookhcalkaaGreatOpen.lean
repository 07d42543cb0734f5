/- From the reading of an argument to the rows of memory that the walks speak of: instructions, functions, units. -/
import Derived.Test.YthbbmookhcalkaaGreatFuns
import Derived.Deep.Strs
namespace Go.Proofs.YthbbmookhcalkaaGreat.Open
open Go.ChangeShapes Go.WideShapes Go.ChangeAt Go.RowKit Go.Joins Go.Deep
open Go.Proofs.YthbbmookhcalkaaGreat.Base Go.Proofs.YthbbmookhcalkaaGreat.InsA Go.Proofs.YthbbmookhcalkaaGreat.Funs
set_option linter.unusedVariables false
set_option maxRecDepth 100000

theorem addr_of {w : World} {x : Addr} {v : Value} (h : w.cell? (x.add 0) = some v) : x = ⟨x.block, x.off, none⟩ := by
  obtain ⟨b, off, spot⟩ := x
  have hspot : spot = none := by simpa [Addr.add] using World.cell?_spot h
  rw [hspot]

theorem cellsIns : Tryz.prog.cellsOf 93 = 3 := by kernel_rfl
instance : Inhabited InsD := ⟨⟨0, 0, ⟨#[]⟩⟩⟩

/-- Three cells of one element, by their reading. -/
theorem three {W : World} {base : Nat} {a : Addr} {i : Nat} {cs : List Value} (h : W.cells? base (a.add (i * 3)) 3 = some cs) :
    ∃ v0 v1 v2, cs = [v0, v1, v2] ∧ W.cell? (a.add (i * 3)) = some v0 ∧ W.cell? (a.add (i * 3 + 1)) = some v1 ∧ W.cell? (a.add (i * 3 + 2)) = some v2 := by
  obtain ⟨_, hlen, hcell⟩ := World.cells?_some h
  match cs, hlen with
  | [v0, v1, v2], _ =>
    have e0 := hcell 0 (by omega)
    have e1 := hcell 1 (by omega)
    have e2 := hcell 2 (by omega)
    rw [add_add] at e0 e1 e2
    exact ⟨v0, v1, v2, rfl, by simpa using e0, by simpa using e1, by simpa using e2⟩

theorem open3 {H : Type} {enc : TypeId × Value → H} {P : Program} {W : World} {base : Nat} {spare : Nat → Bool} {held : Bool} {t : TypeId} {f0 f1 f2 : Field} {v0 v1 v2 : Value} {n : Nat} {x : DataW H × List MemPlace} (hs : P.underlying t = some (.struct #[f0, f1, f2])) (hone : oneCellFields P #[f0, f1, f2] = true)
    (h : DataW.trod enc P W base spare held n t [v0, v1, v2] = some x) :
    ∃ y0 y1 y2 k, DataW.trod enc P W base spare held k f0.type [v0] = some y0 ∧ DataW.trod enc P W base spare held k f1.type [v1] = some y1 ∧ DataW.trod enc P W base spare held k f2.type [v2] = some y2 := by
  obtain ⟨y0, y1, y2, k, hx, _, h0, h1, h2⟩ := trod_struct3 hs h
  obtain ⟨o0, k0⟩ := hone_of hone 0 f0 rfl
  obtain ⟨o1, k1⟩ := hone_of hone 1 f1 rfl
  obtain ⟨o2, k2⟩ := hone_of hone 2 f2 rfl
  exact ⟨y0, y1, y2, k, by simpa [o0, k0] using h0, by simpa [o1, k1] using h1, by simpa [o2, k2] using h2⟩

theorem insRow_of {H : Type} {enc : TypeId × Value → H} {W : World} {base : Nat} {spare : Nat → Bool} {held : Bool} {n : Nat} {v : Value} {y : DataW H × List MemPlace} (h : DataW.trod enc Tryz.prog W base spare held n 43 [v] = some y) :
    ∃ (a : Option Addr) (cap : Nat) (xs : List InsD), v = .slice a xs.length cap ∧ xs.length ≤ cap ∧ cap ≤ maxLen ∧ InsRow W a xs := by
  rcases open_slice Tryz.underlying43 h with ⟨hcs, _⟩ | ⟨a, len, cap, m, n', D, Pl, hcs, hb, hl, hm, hmm, hy, hx⟩
  · exact ⟨none, 0, [], by simpa using hcs, Nat.le_refl _, Nat.zero_le _, .inl rfl⟩
  · have hlm : len ≤ m := by rw [hmm]; split <;> omega
    rw [cellsIns] at hx
    have each : ∀ i, i < len → ∃ x : InsD, W.cell? (a.add (i * 3)) = some (.int .i64 x.o) ∧ W.cell? (a.add (i * 3 + 1)) = some (.int .i64 x.n) ∧ W.cell? (a.add (i * 3 + 2)) = some (.string x.s) ∧ x.s.size ≤ maxLen := fun i hi => by
      obtain ⟨cs', h1, h2⟩ := hx i (by omega)
      obtain ⟨v0, v1, v2, rfl, c0, c1, c2⟩ := three h1
      obtain ⟨y0, y1, y2, k, g0, g1, g2⟩ := open3 Tryz.underlying93 (by kernel_rfl) h2
      obtain ⟨op, e0, _, _⟩ := DataW.trod_int Tryz.underlying3 g0
      obtain ⟨nn, e1, _, _⟩ := DataW.trod_int Tryz.underlying3 g1
      obtain ⟨ss, e2, _, ws⟩ := DataW.trod_string Tryz.underlying9 g2
      simp at e0 e1 e2
      subst e0 e1 e2
      exact ⟨⟨op, nn, ss⟩, c0, c1, c2, ws⟩
    obtain ⟨f, hf⟩ := choose_lt each
    refine ⟨some a, cap, (List.range len).map f, by simpa using hcs, by simpa using hl, hm, ?_⟩
    by_cases h0 : len = 0
    · subst h0; exact .inl rfl
    · have ha := addr_of (by simpa using (hf 0 (by omega)).1)
      refine .inr ⟨a.block, a.off, by rw [← ha], fun i hi => ?_⟩
      have hi' : i < len := by simpa using hi
      obtain ⟨c0, c1, c2, hs⟩ := hf i hi'
      rw [ha, add_plain] at c0 c1 c2
      simp only [List.getElem_map, List.getElem_range]
      exact ⟨c0, c1, c2, hs⟩

/-- A function as plain data. -/
structure FunD where
  nm : ByteArray
  wk : Bool
  body : List InsD
instance : Inhabited FunD := ⟨⟨⟨#[]⟩, false, []⟩⟩

/-- The three cells of a function, and the row of its instructions. -/
def FunAt (w : World) (b o : Nat) (f : FunD) : Prop :=
  ∃ ai ci, w.cell? ⟨b, o, none⟩ = some (.string f.nm) ∧ w.cell? ⟨b, o + 1, none⟩ = some (.bool f.wk) ∧ w.cell? ⟨b, o + 2, none⟩ = some (.slice ai f.body.length ci) ∧ f.nm.size ≤ maxLen ∧ f.body.length ≤ ci ∧ ci ≤ maxLen ∧ InsRow w ai f.body
/-- These functions lie in a row of memory. -/
def FunRow (w : World) (a : Option Addr) (l : List FunD) : Prop :=
  l = [] ∨ ∃ b off, a = some ⟨b, off, none⟩ ∧ ∀ i (h : i < l.length), FunAt w b (off + i * 3) l[i]

theorem FunAt.below {w w' : World} {b o : Nat} {f : FunD} (h : FunAt w b o f) (hb : Below w.heap.size w w') : FunAt w' b o f := by
  obtain ⟨ai, ci, h0, h1, h2, h3, h4, h5, h6⟩ := h
  have t : ∀ o v, w.cell? ⟨b, o, none⟩ = some v → w'.cell? ⟨b, o, none⟩ = some v := fun o v hc => (hb.cell (p := ⟨b, o, none⟩) (World.block_lt_of_cell? w _ hc)).trans hc
  exact ⟨ai, ci, t _ _ h0, t _ _ h1, t _ _ h2, h3, h4, h5, h6.below hb⟩
theorem FunRow.below {w w' : World} {a : Option Addr} {l : List FunD} (h : FunRow w a l) (hb : Below w.heap.size w w') : FunRow w' a l := by
  rcases h with h | ⟨b, off, ha, h⟩
  · exact .inl h
  · exact .inr ⟨b, off, ha, fun i hi => (h i hi).below hb⟩

theorem FunRow.get {w : World} {a : Option Addr} {fs : List FunD} (h : FunRow w a fs) (h0 : 0 < fs.length) : ∃ b off, a = some ⟨b, off, none⟩ := by
  rcases h with h | ⟨b, off, ha, _⟩
  · rw [h] at h0; simp at h0
  · exact ⟨b, off, ha⟩
theorem FunRow.at {w : World} {b off k : Nat} {fs : List FunD} (h : FunRow w (some ⟨b, off, none⟩) fs) (hk : k < fs.length) : FunAt w b (off + k * 3) fs[k] := by
  rcases h with h | ⟨b', off', ha, h⟩
  · subst h; simp at hk
  · simp only [Option.some.injEq, Addr.mk.injEq, and_true] at ha
    obtain ⟨rfl, rfl⟩ := ha
    exact h k hk
theorem FunRow.sizes {w : World} {a : Option Addr} {fs : List FunD} (h : FunRow w a fs) : ∀ f ∈ fs, f.nm.size ≤ maxLen ∧ f.body.length ≤ maxLen ∧ ∀ x ∈ f.body, x.s.size ≤ maxLen := by
  intro f hf
  obtain ⟨i, hi, rfl⟩ := List.getElem_of_mem hf
  rcases h with h | ⟨b, off, ha, h⟩
  · subst h; simp at hi
  · obtain ⟨ai, ci, _, _, _, h3, h4, h5, h6⟩ := h i hi
    exact ⟨h3, by omega, h6.sizes⟩

theorem keep8 {W w w' : World} {p0 p1 p2 q0 q1 q2 : Addr} {v0 v1 v2 u0 u1 u2 : Value} {a b : Option Addr} {xs ys : List InsD} (h : (w.cell? p0 = some v0 ∧ w.cell? p1 = some v1 ∧ w.cell? p2 = some v2) ∧ (w.cell? q0 = some u0 ∧ w.cell? q1 = some u1 ∧ w.cell? q2 = some u2) ∧ InsRow w a xs ∧ InsRow w b ys ∧ Below W.heap.size W w) (hb : Below w.heap.size w w') :
    (w'.cell? p0 = some v0 ∧ w'.cell? p1 = some v1 ∧ w'.cell? p2 = some v2) ∧ (w'.cell? q0 = some u0 ∧ w'.cell? q1 = some u1 ∧ w'.cell? q2 = some u2) ∧ InsRow w' a xs ∧ InsRow w' b ys ∧ Below W.heap.size W w' := by
  obtain ⟨⟨a0, a1, a2⟩, ⟨b0, b1, b2⟩, hr, hs, hW⟩ := h
  have t : ∀ p v, w.cell? p = some v → w'.cell? p = some v := fun p v hc => (hb.cell (p := p) (World.block_lt_of_cell? w _ hc)).trans hc
  exact ⟨⟨t _ _ a0, t _ _ a1, t _ _ a2⟩, ⟨t _ _ b0, t _ _ b1, t _ _ b2⟩, hr.below hb, hs.below hb, bl_trans hW hb⟩
theorem row8a {W w : World} {p0 p1 p2 q0 q1 q2 : Addr} {v0 v1 v2 u0 u1 u2 : Value} {a b : Option Addr} {xs ys : List InsD} (h : (w.cell? p0 = some v0 ∧ w.cell? p1 = some v1 ∧ w.cell? p2 = some v2) ∧ (w.cell? q0 = some u0 ∧ w.cell? q1 = some u1 ∧ w.cell? q2 = some u2) ∧ InsRow w a xs ∧ InsRow w b ys ∧ Below W.heap.size W w) : InsRow w a xs := h.2.2.1
theorem row8b {W w : World} {p0 p1 p2 q0 q1 q2 : Addr} {v0 v1 v2 u0 u1 u2 : Value} {a b : Option Addr} {xs ys : List InsD} (h : (w.cell? p0 = some v0 ∧ w.cell? p1 = some v1 ∧ w.cell? p2 = some v2) ∧ (w.cell? q0 = some u0 ∧ w.cell? q1 = some u1 ∧ w.cell? q2 = some u2) ∧ InsRow w a xs ∧ InsRow w b ys ∧ Below W.heap.size W w) : InsRow w b ys := h.2.2.2.1
theorem bel8 {W w : World} {p0 p1 p2 q0 q1 q2 : Addr} {v0 v1 v2 u0 u1 u2 : Value} {a b : Option Addr} {xs ys : List InsD} (h : (w.cell? p0 = some v0 ∧ w.cell? p1 = some v1 ∧ w.cell? p2 = some v2) ∧ (w.cell? q0 = some u0 ∧ w.cell? q1 = some u1 ∧ w.cell? q2 = some u2) ∧ InsRow w a xs ∧ InsRow w b ys ∧ Below W.heap.size W w) : Below W.heap.size W w := h.2.2.2.2
theorem keep8_drew {W w : World} {p0 p1 p2 q0 q1 q2 : Addr} {v0 v1 v2 u0 u1 u2 : Value} {a b : Option Addr} {xs ys : List InsD} (h : (w.cell? p0 = some v0 ∧ w.cell? p1 = some v1 ∧ w.cell? p2 = some v2) ∧ (w.cell? q0 = some u0 ∧ w.cell? q1 = some u1 ∧ w.cell? q2 = some u2) ∧ InsRow w a xs ∧ InsRow w b ys ∧ Below W.heap.size W w) :
    (w.drew.cell? p0 = some v0 ∧ w.drew.cell? p1 = some v1 ∧ w.drew.cell? p2 = some v2) ∧ (w.drew.cell? q0 = some u0 ∧ w.drew.cell? q1 = some u1 ∧ w.drew.cell? q2 = some u2) ∧ InsRow w.drew a xs ∧ InsRow w.drew b ys ∧ Below W.heap.size W w.drew :=
  ⟨h.1, h.2.1, h.2.2.1, h.2.2.2.1, h.2.2.2.2.drew⟩

theorem cellsFun : Tryz.prog.cellsOf 45 = 3 := by kernel_rfl
/-- A function that came in by value. -/
theorem fun_of {H : Type} {enc : TypeId × Value → H} {W : World} {base b0 : Nat} {spare : Nat → Bool} {held : Bool} {v : Value} {r : Reach} {d : DataW H} {p : List MemPlace} (hv : Value.okWide Tryz.prog W r b0 45 v) (h : DataW.Trod enc Tryz.prog W base spare held 45 v d p) :
    ∃ (nm : ByteArray) (wk : Bool) (a : Option Addr) (cap : Nat) (xs : List InsD), v = .agg #[.string nm, .bool wk, .slice a xs.length cap] ∧ nm.size ≤ maxLen ∧ xs.length ≤ cap ∧ cap ≤ maxLen ∧ InsRow W a xs := by
  obtain ⟨c0, c1, c2, y0, y1, y2, m, hv', _, _, hy0, hy1, hy2⟩ := open_agg3 Tryz.underlying45 (by kernel_rfl) cellsFun hv h
  obtain ⟨ss, e0, _, ws⟩ := DataW.trod_string Tryz.underlying9 hy0
  obtain ⟨bb, e1, _⟩ := DataW.trod_bool Tryz.underlying4 hy1
  obtain ⟨a, cap, xs, e2, hl, hm, hr⟩ := insRow_of hy2
  simp at e0 e1
  subst e0 e1 e2
  exact ⟨ss, bb, a, cap, xs, hv', ws, hl, hm, hr⟩
theorem funRow_of {H : Type} {enc : TypeId × Value → H} {W : World} {base : Nat} {spare : Nat → Bool} {held : Bool} {n : Nat} {v : Value} {y : DataW H × List MemPlace} (h : DataW.trod enc Tryz.prog W base spare held n 22 [v] = some y) :
    ∃ (a : Option Addr) (cap : Nat) (fs : List FunD), v = .slice a fs.length cap ∧ fs.length ≤ cap ∧ cap ≤ maxLen ∧ FunRow W a fs := by
  rcases open_slice Tryz.underlying22 h with ⟨hcs, _⟩ | ⟨a, len, cap, m, n', D, Pl, hcs, hb, hl, hm, hmm, hy, hx⟩
  · exact ⟨none, 0, [], by simpa using hcs, Nat.le_refl _, Nat.zero_le _, .inl rfl⟩
  · have hlm : len ≤ m := by rw [hmm]; split <;> omega
    rw [cellsFun] at hx
    have each : ∀ i, i < len → ∃ f : FunD, W.cell? (a.add (i * 3)) = some (.string f.nm) ∧ W.cell? (a.add (i * 3 + 1)) = some (.bool f.wk) ∧ ∃ ai ci, W.cell? (a.add (i * 3 + 2)) = some (.slice ai f.body.length ci) ∧ f.nm.size ≤ maxLen ∧ f.body.length ≤ ci ∧ ci ≤ maxLen ∧ InsRow W ai f.body := fun i hi => by
      obtain ⟨cs', h1, h2⟩ := hx i (by omega)
      obtain ⟨v0, v1, v2, rfl, c0, c1, c2⟩ := three h1
      obtain ⟨y0, y1, y2, k, g0, g1, g2⟩ := open3 Tryz.underlying45 (by kernel_rfl) h2
      obtain ⟨ss, e0, _, ws⟩ := DataW.trod_string Tryz.underlying9 g0
      obtain ⟨bb, e1, _⟩ := DataW.trod_bool Tryz.underlying4 g1
      obtain ⟨ai, ci, xs, e2, hl, hm, hr⟩ := insRow_of g2
      simp at e0 e1
      subst e0 e1 e2
      exact ⟨⟨ss, bb, xs⟩, c0, c1, ai, ci, c2, ws, hl, hm, hr⟩
    obtain ⟨f, hf⟩ := choose_lt each
    refine ⟨some a, cap, (List.range len).map f, by simpa using hcs, by simpa using hl, hm, ?_⟩
    by_cases h0 : len = 0
    · subst h0; exact .inl rfl
    · have ha := addr_of (by simpa using (hf 0 (by omega)).1)
      refine .inr ⟨a.block, a.off, by rw [← ha], fun i hi => ?_⟩
      have hi' : i < len := by simpa using hi
      obtain ⟨c0, c1, ai, ci, c2, hs⟩ := hf i hi'
      rw [ha, add_plain] at c0 c1 c2
      simp only [List.getElem_map, List.getElem_range]
      exact ⟨ai, ci, c0, c1, c2, hs⟩
/-- A unit that came in. -/
theorem funs_of {H : Type} {enc : TypeId × Value → H} {W : World} {base b0 : Nat} {spare : Nat → Bool} {held : Bool} {v : Value} {r : Reach} {d : DataW H} {p : List MemPlace} (hv : Value.okWide Tryz.prog W r b0 22 v) (h : DataW.Trod enc Tryz.prog W base spare held 22 v d p) :
    ∃ (a : Option Addr) (cap : Nat) (fs : List FunD), v = .slice a fs.length cap ∧ fs.length ≤ cap ∧ cap ≤ maxLen ∧ FunRow W a fs := by
  obtain ⟨a, len, cap, rfl⟩ := okWide_slice Tryz.underlying22 hv
  obtain ⟨fuel, hf⟩ := h
  exact funRow_of hf
end Go.Proofs.YthbbmookhcalkaaGreat.Open
