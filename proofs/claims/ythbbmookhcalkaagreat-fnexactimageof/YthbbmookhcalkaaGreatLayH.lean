/- Where all stands, while it is laid out in memory: what each step leaves. -/
import Derived.Test.YthbbmookhcalkaaGreatLayG
namespace Go.Proofs.YthbbmookhcalkaaGreat.LayH
open Go.ChangeShapes Go.WideShapes Go.ChangeAt Go.RowKit Go.Joins Go.WideMaps Go.Maps
open Go.Proofs.YthbbmookhcalkaaGreat.Base Go.Proofs.YthbbmookhcalkaaGreat.InsA Go.Proofs.YthbbmookhcalkaaGreat.Funs Go.Proofs.YthbbmookhcalkaaGreat.Open Go.Proofs.YthbbmookhcalkaaGreat.Keep Go.Proofs.YthbbmookhcalkaaGreat.UnitS Go.Proofs.YthbbmookhcalkaaGreat.UnitM Go.Proofs.YthbbmookhcalkaaGreat.Refs Go.Proofs.YthbbmookhcalkaaGreat.Mark Go.Proofs.YthbbmookhcalkaaGreat.LayN Go.Proofs.YthbbmookhcalkaaGreat.LayA Go.Proofs.YthbbmookhcalkaaGreat.LayD Go.Proofs.YthbbmookhcalkaaGreat.LayG
set_option linter.unusedVariables false
set_option maxRecDepth 100000

theorem row_form {w : World} {B : Nat} {e : TypeId} {z n : Nat} {v : Value} {xs : List Value} (h : w.ownsRow B e z v n xs) : ∃ a c, v = .slice a n c ∧ n ≤ c ∧ c ≤ maxLen := by
  obtain ⟨_, ⟨rfl, h0⟩ | ⟨g, cap, cur, rfl, hB, hg, hn, hm, hs, ht⟩⟩ := h
  · exact ⟨none, 0, by rw [h0], by omega, Nat.zero_le _⟩
  · exact ⟨_, _, rfl, hn, hm⟩
theorem grown_below {w w' : World} (h : Below w.heap.size w w') (r : Option Nat) : w.grownBy w' r := ⟨h.os, h.tape, h.output, h.size, fun q hq _ => h.block q hq⟩
theorem map_kept {w w' : World} {b n : Nat} {D : DataW Unit} {R : Value → Option (DataW Unit × List MemPlace)} (h : w.ownsMap Tryz.prog 9 R b n D) (hb : w'.heap[b]? = w.heap[b]?) : w'.ownsMap Tryz.prog 9 R b n D := by
  obtain ⟨es, clock, hh, F, hs, hD⟩ := h
  exact ⟨es, clock, hb.trans hh, F, hs, hD⟩
theorem map_lt {w : World} {b n : Nat} {D : DataW Unit} {R : Value → Option (DataW Unit × List MemPlace)} (h : w.ownsMap Tryz.prog 9 R b n D) : b < w.heap.size := by
  obtain ⟨es, clock, hh, _⟩ := h
  exact (Array.getElem?_eq_some_iff.1 hh).1
abbrev NoB (G : Nat) (v : Value) : Nat → Prop := fun q => q = G ∨ v.ownBlock = some q
structure GS (W w : World) (G B1 B2 ka kb : Nat) (l : List (ByteArray × Nat)) (sz : Nat) (na : Option Addr) (nc : Nat) (fs : List FunD) (st : List (List ByteArray)) : Prop where
  box : w.heap[G]? = some (.cells #[.slice na ka nc, .map (some B1), .map (some B2), .int .i64 (sz : Int)] 58)
  beg : w.ownsMap Tryz.prog 9 (plainElem Tryz.prog 3) B1 kb (BD fs st kb)
  grp : ∃ D, Grp w G B2 l.length D ∧ GR D l
  shn : w.Shuns B2 (NoB G (.slice na ka nc))
  row : w.ownsRow G 3 1 (.slice na ka nc) ka ((placesTo fs st ka).map (Value.int .i64))
  blw : Below W.heap.size W w
  o1 : W.heap.size ≤ B1
  o2 : B1 < B2
  o3 : B2 < G
section
variable {W w : World} {G B1 B2 ka kb k : Nat} {l : List (ByteArray × Nat)} {sz : Nat} {na : Option Addr} {nc : Nat} {fs : List FunD} {st : List (List ByteArray)}
theorem GS.ne (h : GS W w G B1 B2 ka kb l sz na nc fs st) : (Value.slice na ka nc).ownBlock ≠ some G := fun e => by
  obtain ⟨_, ⟨h1, h0⟩ | ⟨g, cap, cur, h1, hB, hg, hn, hm, hs, ht⟩⟩ := h.row
  · rw [h1] at e; cases e
  · rw [h1] at e
    cases e
    have := h.box
    rw [hg] at this
    simp at this
theorem GS.lt (h : GS W w G B1 B2 ka kb l sz na nc fs st) : G < w.heap.size := (Array.getElem?_eq_some_iff.1 h.box).1
theorem GS.next {w' : World} (h : GS W w G B1 B2 ka kb l sz na nc fs st) (hb : Below w.heap.size w w') : GS W w' G B1 B2 ka kb l sz na nc fs st := by
  obtain ⟨D, hg, hr⟩ := h.grp
  have hlt : B2 < w.heap.size := Nat.lt_trans h.o3 h.lt
  exact ⟨box_below h.box hb, map_kept h.beg (hb.block _ (map_lt h.beg)), ⟨D, hg.kept (row := none) (grown_below hb _) (by simp) (fun _ _ _ x _ => by cases x.val.ownBlock <;> simp), hr⟩, h.shn.kept (row := none) (grown_below hb _) hlt (by simp), h.row.kept (row := none) (grown_below hb _) (by cases (Value.slice na ka nc).ownBlock <;> simp), bl_trans h.blw hb, h.o1, h.o2, h.o3⟩
/-- What a store into another cell's block leaves. -/
theorem grown_set (w : World) (g o : Nat) (v : Value) : w.grownBy (w.setCell ⟨g, o, none⟩ v) (some g) := (But.refl g w).set o v
/-- The size is stored anew. -/
theorem GS.size (h : GS W w G B1 B2 ka kb l sz na nc fs st) (n : Nat) : GS W (w.setCell ⟨G, 3, none⟩ (.int .i64 (n : Int))) G B1 B2 ka kb l n na nc fs st := by
  obtain ⟨D, hg, hr⟩ := h.grp
  have hgr := grown_set w G 3 (.int .i64 (n : Int))
  have h1 := h.o1; have h2 := h.o2; have h3 := h.o3; have hl := h.lt
  refine ⟨block_setCell h.box _, map_kept h.beg (hgr.block B1 (by omega) (by simp; omega)), ⟨D, hg.kept (row := some G) hgr (by simp; omega) (h.shn.rowsOff (fun j e => by cases e; exact .inl rfl)), hr⟩, h.shn.kept (row := some G) hgr (by omega) (by simp; omega), h.row.kept hgr (.inr h.ne), h.blw.setCell (by show W.heap.size ≤ G; omega) _, h1, h2, h3⟩
/-- One place more is told behind the others. -/
theorem GS.app {X w4 : World} {v4 : Value} (h : GS W w G B1 B2 k k l (place fs st k) na nc fs st) (hb : Below w.heap.size w X) (hg4 : X.grownBy w4 (Value.slice na k nc).ownBlock) (ho : w4.ownsRow G 3 1 v4 (k + 1) ((placesTo fs st k).map (Value.int .i64) ++ [.int .i64 (place fs st k : Int)])) (hat : v4.ownBlock = (Value.slice na k nc).ownBlock ∨ v4.ownBlock = some X.heap.size) :
    ∃ na' nc', v4 = .slice na' (k + 1) nc' ∧ GS W (w4.setCell ⟨G, 0, none⟩ v4) G B1 B2 (k + 1) k l (place fs st k) na' nc' fs st := by
  have hX := h.next hb
  obtain ⟨na', nc', rfl, hc1, hc2⟩ := row_form ho
  refine ⟨na', nc', rfl, ?_⟩
  obtain ⟨D, hg, hr⟩ := h.grp
  have h1 := h.o1; have h2 := h.o2; have h3 := h.o3; have hl := h.lt; have hlX := hX.lt
  have hsh : w.Shuns B2 (NoB G (.slice na' (k + 1) nc')) := h.shn.reno hg (fun q hq => by
    rcases hq with hq | hq
    · exact .inl (.inl hq)
    · rcases hat with e | e
      · rw [e] at hq; exact .inl (.inr hq)
      · rw [e] at hq; cases hq; exact .inr hb.size)
  have hlo : ∀ q, (Value.slice na k nc).ownBlock = some q → G ≤ q := fun q hq => (World.ownsRow.lt h.row q hq).1
  have hoff : ∀ b, b < w.heap.size → b ≤ G → w4.heap[b]? = w.heap[b]? := fun b hb1 hb2 => by
    refine (hg4.block b (Nat.lt_of_lt_of_le hb1 hb.size) (fun e => ?_)).trans (hb.block b hb1)
    have := hlo b e.symm
    have : b = G := by omega
    subst this
    exact h.ne e.symm
  have hbox4 : w4.heap[G]? = _ := (hoff G hl (Nat.le_refl _)).trans h.box
  have hgr := grown_set w4 G 0 (.slice na' (k + 1) nc')
  have hl4 : w.heap.size ≤ w4.heap.size := Nat.le_trans hb.size hg4.size
  have hg4' : w.grownBy w4 (Value.slice na k nc).ownBlock := (grown_below hb _).trans hg4
  have hs4 : w4.Shuns B2 (NoB G (.slice na' (k + 1) nc')) := hsh.kept hg4' (by omega) (fun e => by have := hlo B2 e.symm; omega)
  have hk4 : Grp w4 G B2 l.length D := hg.kept hg4' (fun e => by have := hlo B2 e.symm; omega) (h.shn.rowsOff (fun j e => .inr e))
  have hne4 : (Value.slice na' (k + 1) nc').ownBlock ≠ some G := fun e => by
    rcases hat with e' | e'
    · rw [e'] at e; exact h.ne e
    · rw [e'] at e; cases e; omega
  refine ⟨block_setCell hbox4 _, map_kept h.beg ((hgr.block B1 (by omega) (by simp; omega)).trans (hoff B1 (by omega) (by omega))), ⟨D, hk4.kept (row := some G) hgr (by simp; omega) (hs4.rowsOff (fun j e => by cases e; exact .inl rfl)), hr⟩, hs4.kept (row := some G) hgr (by omega) (by simp; omega), ?_, ?_, h1, h2, h3⟩
  · rw [placesTo_succ, List.map_append]
    exact ho.kept hgr (.inr hne4)
  · exact ((h.blw.grown hg4' h.blw.size (fun j hj => by have := hlo j hj; omega)).setCell (by show W.heap.size ≤ G; omega) _)
/-- One function's beginning is told more. -/
theorem GS.put {w1 : World} (h : GS W w G B1 B2 ka k l sz na nc fs st) (hm : w1.ownsMap Tryz.prog 9 (plainElem Tryz.prog 3) B1 (k + 1) (BD fs st (k + 1))) (hg1 : w.grownBy w1 (some B1)) : GS W w1 G B1 B2 ka (k + 1) l sz na nc fs st := by
  obtain ⟨D, hg, hr⟩ := h.grp
  have h1 := h.o1; have h2 := h.o2; have h3 := h.o3; have hl := h.lt
  have hlo : ∀ q, (Value.slice na ka nc).ownBlock = some q → G ≤ q := fun q hq => (World.ownsRow.lt h.row q hq).1
  exact ⟨(hg1.block G hl (by simp; omega)).trans h.box, hm, ⟨D, hg.kept hg1 (by simp; omega) (hg.rowsAbove (fun j e => by cases e; omega)), hr⟩, h.shn.kept hg1 (by omega) (by simp; omega), h.row.kept hg1 (.inr (fun e => by have := hlo _ e; omega)), h.blw.grown hg1 h.blw.size (fun j e => by cases e; exact h1), h1, h2, h3⟩
/-- One stone more. -/
theorem GS.more {L A : World} {c : Nat} (h : GS W w G B1 B2 ka kb l sz na nc fs st) (hwL : Below w.heap.size w L) (hLA : Below L.heap.size L A) (hl : l.length ≤ 100000000) {s : ByteArray} (hs : s.size ≤ maxLen) (hx : sz ≤ 1000000000) (hc : A.heap[c]? = some (.cells #[.int .i64 (sz : Int)] 3)) (ty : TypeId) :
    ∃ v, (Instr.lookup 56 (.map (some B2)) (.string s) false).run Tryz.prog L = .ok v L ∧ ∃ v' A2, (Builtin.append_ #[23, 23] ty #[v, .slice (some ⟨c, 0, none⟩) 1 1]).run Tryz.prog A = .ok v' A2 ∧
      ∃ w3, (Instr.mapUpdate 56 (.map (some B2)) (.string s) v').run Tryz.prog A2 = .ok () w3 ∧ GS W w3 G B1 B2 ka kb (l ++ [(s, sz)]) sz na nc fs st ∧ A2.heap[G]? = w.heap[G]? ∧ ∀ q, q < B1 → w3.heap[q]? = A.heap[q]? := by
  have hL := h.next hwL
  have hA := hL.next hLA
  obtain ⟨D, hg, hr⟩ := hL.grp
  have h1 := h.o1; have h2 := h.o2; have h3 := h.o3; have hlt := hL.lt
  have hNo : ∀ q, NoB G (.slice na ka nc) q → q < L.heap.size := fun q hq => by
    rcases hq with hq | hq
    · omega
    · exact (World.ownsRow.lt hL.row q hq).2
  obtain ⟨v, r1, v', A2, r2, w3, r3, D', g3, gr3, s3, f3, b3, e3⟩ := groups_more (B := W.heap.size) hg hr hL.shn hNo hl hs hx hLA (by omega) (by omega) hc ty
  have hrow3 : w3.ownsRow G 3 1 (.slice na ka nc) ka ((placesTo fs st ka).map (Value.int .i64)) := by
    obtain ⟨q1, ⟨q2, q0⟩ | ⟨g, cap, cur, q2, hB, hgg, q3⟩⟩ := hA.row
    · exact ⟨q1, .inl ⟨q2, q0⟩⟩
    · refine ⟨q1, .inr ⟨g, cap, cur, q2, hB, ?_, q3⟩⟩
      have hgo : (Value.slice na ka nc).ownBlock = some g := by rw [q2]; rfl
      exact (f3 g (hNo g (.inr hgo)) (by omega) (.inl (.inr hgo))).trans hgg
  refine ⟨v, r1, v', A2, r2, w3, r3, ⟨(f3 G hlt (by omega) (.inl (.inl rfl))).trans hA.box, map_kept hA.beg (f3 B1 (by omega) (by omega) (.inr (by omega))), ⟨D', by rw [List.length_append]; exact g3, gr3⟩, s3, hrow3, ⟨b3.os.trans hA.blw.os, b3.tape.trans hA.blw.tape, b3.output.trans hA.blw.output, Nat.le_trans hA.blw.size b3.size, fun q hq => (b3.block q hq).trans (hA.blw.block q hq)⟩, h1, h2, h3⟩, (e3 G hlt (.inl (.inl rfl))).trans ((hA.box).trans h.box.symm), fun q hq => f3 q (by omega) (by omega) (.inr (by omega))⟩
end
end Go.Proofs.YthbbmookhcalkaaGreat.LayH
