/- The contracts of the specification's instructions: say, call, return. -/
import Derived.Test.YtjbhbkkkjdpamaaGreatMSay
import Derived.Lib.SmallJoins
namespace Go.Proofs.YtjbhbkkkjdpamaaGreat.MSpec
open Go.ChangeShapes Go.WideShapes Go.ChangeAt Go.RowKit Go.Joins Go.WideMaps Go.Maps
open Go.Proofs.YtjbhbkkkjdpamaaGreat.Base Go.Proofs.YtjbhbkkkjdpamaaGreat.InsA Go.Proofs.YtjbhbkkkjdpamaaGreat.Funs Go.Proofs.YtjbhbkkkjdpamaaGreat.Open Go.Proofs.YtjbhbkkkjdpamaaGreat.Keep Go.Proofs.YtjbhbkkkjdpamaaGreat.UnitS Go.Proofs.YtjbhbkkkjdpamaaGreat.UnitM Go.Proofs.YtjbhbkkkjdpamaaGreat.WantsI Go.Proofs.YtjbhbkkkjdpamaaGreat.Mach Go.Proofs.YtjbhbkkkjdpamaaGreat.Mark Go.Proofs.YtjbhbkkkjdpamaaGreat.Sum Go.Proofs.YtjbhbkkkjdpamaaGreat.MOk Go.Proofs.YtjbhbkkkjdpamaaGreat.MD Go.Proofs.YtjbhbkkkjdpamaaGreat.MRun Go.Proofs.YtjbhbkkkjdpamaaGreat.MDeed Go.Proofs.YtjbhbkkkjdpamaaGreat.MSay
set_option linter.unusedVariables false
set_option maxRecDepth 100000

def aggM (m : MD) (sv ov : Value) : Array Value := #[.int .i64 m.f, .int .i64 m.p, .int .i64 m.c, sv, ov, .int .i64 m.d]
/-- The two lists of a machine, of the call's own; W0: the world from which on they are. -/
def OwnM (W0 w : World) (sv ov : Value) (m : MD) : Prop := SpotOwn w W0.heap.size sv m.st ∧ NumOwn w W0.heap.size ov m.os ∧ Below W0.heap.size W0 w
/-- Blocks of other types than numbers and places stand. -/
def Keeps (w w' : World) : Prop := ∀ (N : Nat) (C : Array Value) (t : TypeId), w.heap[N]? = some (Obj.cells C t) → t ≠ 3 → t ≠ 31 → w'.heap[N]? = some (Obj.cells C t)
theorem Keeps.of {w w' : World} (hb : Below w.heap.size w w') : Keeps w w' := fun N C t h _ _ => box_below h hb
theorem Keeps.trans {a b c : World} (h : Keeps a b) (k : Keeps b c) : Keeps a c := fun N C t hN h1 h2 => k N C t (h N C t hN h1 h2) h1 h2
theorem Keeps.grown {w w' : World} {v : Value} (h : w.grownBy w' v.ownBlock) (hv : ∀ g, v.ownBlock = some g → ∃ C, w.heap[g]? = some (Obj.cells C 3) ∨ w.heap[g]? = some (Obj.cells C 31)) : Keeps w w' := fun N C t hN h1 h2 => by
  refine grown_box h hN (fun e => ?_)
  obtain ⟨C', hC | hC⟩ := hv N e
  · rw [hN] at hC; simp at hC; exact h1 hC.2
  · rw [hN] at hC; simp at hC; exact h2 hC.2
theorem num_block {w : World} {B : Nat} {v : Value} {os : List Int} (h : NumOwn w B v os) : ∀ g, v.ownBlock = some g → ∃ C, w.heap[g]? = some (Obj.cells C 3) ∨ w.heap[g]? = some (Obj.cells C 31) := by
  obtain ⟨_, ⟨rfl, _⟩ | ⟨g, cap, cur, rfl, _, hg, _⟩⟩ := h
  · intro g e; cases e
  · intro g' e
    have e' : g = g' := by simpa [Value.ownBlock] using e
    subst e'
    exact ⟨cur, .inl hg⟩
theorem spot_block {w : World} {B : Nat} {v : Value} {st : List SpotD} (h : SpotOwn w B v st) : ∀ g, v.ownBlock = some g → ∃ C, w.heap[g]? = some (Obj.cells C 3) ∨ w.heap[g]? = some (Obj.cells C 31) := by
  obtain ⟨_, ⟨rfl, _⟩ | ⟨g, cap, cur, rfl, _, hg, _⟩⟩ := h
  · intro g e; cases e
  · intro g' e
    have e' : g = g' := by simpa [Value.ownBlock] using e
    subst e'
    exact ⟨cur, .inr hg⟩
theorem num_form {w : World} {B : Nat} {v : Value} {os : List Int} (h : NumOwn w B v os) : ∃ a c, v = .slice a os.length c ∧ os.length ≤ c ∧ c ≤ maxLen := by
  obtain ⟨_, ⟨rfl, e⟩ | ⟨g, cap, cur, rfl, _, _, hn, hm, _⟩⟩ := h
  · exact ⟨none, 0, by rw [e], by omega, Nat.zero_le _⟩
  · exact ⟨_, _, rfl, hn, hm⟩
theorem spot_form {w : World} {B : Nat} {v : Value} {st : List SpotD} (h : SpotOwn w B v st) : ∃ a c, v = .slice a st.length c ∧ st.length ≤ c ∧ c ≤ maxLen := by
  obtain ⟨_, ⟨rfl, e⟩ | ⟨g, cap, cur, rfl, _, _, hn, hm, _⟩⟩ := h
  · exact ⟨none, 0, by rw [e], by omega, Nat.zero_le _⟩
  · exact ⟨_, _, rfl, hn, hm⟩
theorem num_kept {w w' : World} {B : Nat} {row : Option Nat} {v : Value} {os : List Int} (h : NumOwn w B v os) (hg : w.grownBy w' row) (hne : v.ownBlock ≠ row ∨ v.ownBlock = none) : NumOwn w' B v os := by
  obtain ⟨h0, h1 | ⟨g, cap, cur, rfl, hB, hb, hr⟩⟩ := h
  · exact ⟨h0, .inl h1⟩
  · refine ⟨h0, .inr ⟨g, cap, cur, rfl, hB, grown_box hg hb ?_, hr⟩⟩
    rcases hne with hne | hne
    · exact fun e => hne e.symm
    · cases hne
theorem spot_kept {w w' : World} {B : Nat} {row : Option Nat} {v : Value} {st : List SpotD} (h : SpotOwn w B v st) (hg : w.grownBy w' row) (hne : v.ownBlock ≠ row ∨ v.ownBlock = none) : SpotOwn w' B v st := by
  obtain ⟨h0, h1 | ⟨g, cap, cur, rfl, hB, hb, hr⟩⟩ := h
  · exact ⟨h0, .inl h1⟩
  · refine ⟨h0, .inr ⟨g, cap, cur, rfl, hB, grown_box hg hb ?_, hr⟩⟩
    rcases hne with hne | hne
    · exact fun e => hne e.symm
    · cases hne
theorem apart {w : World} {B B' : Nat} {v v' : Value} {st : List SpotD} {os : List Int} (h : SpotOwn w B v st) (h' : NumOwn w B' v' os) : v.ownBlock ≠ v'.ownBlock ∨ v.ownBlock = none := by
  obtain ⟨_, ⟨rfl, _⟩ | ⟨g, cap, cur, rfl, _, hg, _⟩⟩ := h
  · exact .inr rfl
  · left
    obtain ⟨_, ⟨rfl, _⟩ | ⟨g', cap', cur', rfl, _, hg', _⟩⟩ := h'
    · intro e; cases e
    · intro e
      have e' : g = g' := by simpa [Value.ownBlock] using e
      subst e'
      rw [hg] at hg'; simp at hg'
theorem apart' {w : World} {B B' : Nat} {v v' : Value} {st : List SpotD} {os : List Int} (h : SpotOwn w B v st) (h' : NumOwn w B' v' os) : v'.ownBlock ≠ v.ownBlock ∨ v'.ownBlock = none := by
  rcases apart h h' with e | e
  · exact .inl (Ne.symm e)
  · cases hv : v'.ownBlock
    · exact .inr rfl
    · left; rw [e]; intro x; cases x
theorem OwnM.below {W0 w w' : World} {sv ov : Value} {m : MD} (h : OwnM W0 w sv ov m) (hb : Below w.heap.size w w') : OwnM W0 w' sv ov m := ⟨spot_below h.1 hb, num_below h.2.1 hb, bl_trans h.2.2 hb⟩
/-- A machine's box. -/
def MachAt (w : World) (N : Nat) : Prop := ∃ C, w.heap[N]? = some (Obj.cells C 47)
theorem MachAt.set {w : World} {N M i : Nat} {v : Value} (h : MachAt w N) : MachAt (w.setCell ⟨M, i, none⟩ v) N := by
  obtain ⟨C, hC⟩ := h
  by_cases e : M = N
  · subst e; exact ⟨_, block_setCell hC _⟩
  · exact ⟨C, set_other hC e⟩
theorem OwnM.set {W0 w : World} {sv ov : Value} {m : MD} {N i : Nat} {v : Value} (h : OwnM W0 w sv ov m) (hN : MachAt w N) (h0 : W0.heap.size ≤ N) : OwnM W0 (w.setCell ⟨N, i, none⟩ v) sv ov m := by
  obtain ⟨C, hC⟩ := hN
  have hb : w.grownBy (w.setCell ⟨N, i, none⟩ v) (some N) := (But.refl N w).set i v
  refine ⟨spot_kept h.1 hb (.inl ?_), num_kept h.2.1 hb (.inl ?_), But.down h.2.2 hb h0⟩
  · intro e
    obtain ⟨C', hx | hx⟩ := spot_block h.1 N e <;> (rw [hC] at hx; simp at hx)
  · intro e
    obtain ⟨C', hx | hx⟩ := num_block h.2.1 N e <;> (rw [hC] at hx; simp at hx)
theorem Keeps.set {w w1 : World} {N i : Nat} {v : Value} (h : Keeps w w1) (hN : w.heap.size ≤ N) : Keeps w (w1.setCell ⟨N, i, none⟩ v) := fun M C t hM h1 h2 => by
  have := (Array.getElem?_eq_some_iff.1 hM).1
  exact set_other (h M C t hM h1 h2) (by omega)
/-- One number more. -/
theorem num_put {W0 w : World} {sv ov : Value} {m : MD} (h : OwnM W0 w sv ov m) (hl : m.os.length ≤ 30) (ty : TypeId) :
    ∃ a' c' w', (Builtin.append_ #[24, 24] ty #[ov, .slice (some ⟨w.heap.size, 0, none⟩) 1 1]).run Tryz.prog (w.alloc (.cells #[.int .i64 m.c] 3)) = .ok (.slice a' (m.os.length + 1) c') w' ∧ OwnM W0 w' sv (.slice a' (m.os.length + 1) c') { m with os := m.os ++ [m.c] } ∧ Keeps w w' ∧ w.heap.size ≤ w'.heap.size := by
  obtain ⟨i0, hi, hz0, hz1, hz2⟩ := infoIntP
  have ha := below_alloc1 w (.cells #[.int .i64 m.c] 3)
  have k := h.below ha
  obtain ⟨v', w', hrun, hown, hgrow, _, _⟩ := run_append_own_at (P := Tryz.prog) (w.alloc (.cells #[.int .i64 m.c] 3)) W0.heap.size 24 ty 3 i0 _ 1 8 Tryz.underlying24 hi hz0 hz1 hz2 rfl (by decide) ov m.os.length (m.os.map (Value.int .i64)) k.2.1 ⟨w.heap.size, 0, none⟩ 1 1 [.int .i64 m.c] rfl (cell_one_new w _ _) (by simp [Value.oneCell']) (by unfold maxLen; omega) (by omega) k.2.2.size
  have g5 : NumOwn w' W0.heap.size v' (m.os ++ [m.c]) := by
    show World.ownsRow _ _ _ _ _ _ _
    rw [List.length_append, List.map_append]; exact hown
  obtain ⟨a', c', e, _⟩ := num_form g5
  rw [List.length_append] at e
  have e' : v' = .slice a' (m.os.length + 1) c' := e
  subst e'
  exact ⟨a', c', w', hrun, ⟨spot_kept k.1 hgrow (apart k.1 k.2.1), g5, k.2.2.grown hgrow k.2.2.size (fun j hj => (World.ownsRow.lt k.2.1 j hj).1)⟩, (Keeps.of ha).trans (Keeps.grown hgrow (num_block k.2.1)), Nat.le_trans ha.size hgrow.size⟩
/-- One place more. -/
theorem spot_put {W0 w : World} {sv ov : Value} {m : MD} (h : OwnM W0 w sv ov m) (hl : m.st.length ≤ 5) (s : SpotD) (ty : TypeId) :
    ∃ a' c' w', (Builtin.append_ #[45, 45] ty #[sv, .slice (some ⟨w.heap.size, 0, none⟩) 1 1]).run Tryz.prog (w.alloc (.cells #[.int .i64 s.f, .int .i64 s.p] 31)) = .ok (.slice a' (m.st.length + 1) c') w' ∧ OwnM W0 w' (.slice a' (m.st.length + 1) c') ov { m with st := m.st ++ [s] } ∧ Keeps w w' ∧ w.heap.size ≤ w'.heap.size := by
  obtain ⟨i0, hi, hz0, hz1, hz2⟩ := infoSpotP
  have ha := below_alloc1 w (.cells #[.int .i64 s.f, .int .i64 s.p] 31)
  have k := h.below ha
  have hn := new_block w (.cells #[.int .i64 s.f, .int .i64 s.p] 31)
  obtain ⟨v', w', hrun, hown, hgrow, _, _⟩ := run_append_own_at (P := Tryz.prog) (w.alloc (.cells #[.int .i64 s.f, .int .i64 s.p] 31)) W0.heap.size 45 ty 31 i0 _ 2 16 Tryz.underlying45 hi hz0 hz1 hz2 rfl (by decide) sv m.st.length (flatS m.st) k.1 ⟨w.heap.size, 0, none⟩ 1 1 [.int .i64 s.f, .int .i64 s.p] rfl (fun j u hj => by
      rw [add_plain, Nat.zero_add, cell_of_block hn]
      simpa using hj) (by simp [Value.oneCell']) (by unfold maxLen; omega) (by omega) k.2.2.size
  have g5 : SpotOwn w' W0.heap.size v' (m.st ++ [s]) := by
    show World.ownsRow _ _ _ _ _ _ _
    rw [List.length_append, flat_append]; exact hown
  obtain ⟨a', c', e, _⟩ := spot_form g5
  rw [List.length_append] at e
  have e' : v' = .slice a' (m.st.length + 1) c' := e
  subst e'
  exact ⟨a', c', w', hrun, ⟨g5, num_kept k.2.1 hgrow (apart' k.1 k.2.1), k.2.2.grown hgrow k.2.2.size (fun j hj => (World.ownsRow.lt k.1 j hj).1)⟩, (Keeps.of ha).trans (Keeps.grown hgrow (spot_block k.1)), Nat.le_trans ha.size hgrow.size⟩
end Go.Proofs.YtjbhbkkkjdpamaaGreat.MSpec
