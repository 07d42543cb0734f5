/- Lists of a machine of an image that are the call's own: what appending to one of them leaves. -/
import Derived.Test.YtjbhbkkkjdpamaaImgD
import Derived.Test.YtjbhbkkkjdpamaaMark
import Derived.Deep.AppendSrc
import Derived.Deep.Upon
import Derived.Lib.SmallJoins
import Derived.Lib.AppendZeros
namespace Go.Proofs.Ytjbhbkkkjdpamaa.CSpec
open Go.ChangeShapes Go.WideShapes Go.ChangeAt Go.RowKit Go.Joins Go.WideMaps Go.Maps Go.Deep
open Go.Proofs.Ytjbhbkkkjdpamaa.Base Go.Proofs.Ytjbhbkkkjdpamaa.Keep Go.Proofs.Ytjbhbkkkjdpamaa.LayN Go.Proofs.Ytjbhbkkkjdpamaa.CellA Go.Proofs.Ytjbhbkkkjdpamaa.Mark Go.Proofs.Ytjbhbkkkjdpamaa.ImgD
set_option linter.unusedVariables false
set_option maxRecDepth 100000

theorem int_info : ∃ i, Try.prog.info? 3 = some i ∧ i.zero = some (.int .i64 0) ∧ i.size = 1 ∧ i.bytes = 8 := by
  obtain ⟨i, hi, h⟩ := Option.map_eq_some_iff.1 infoInt
  simp only [Prod.mk.injEq] at h
  exact ⟨i, hi, h.1, h.2.1, h.2.2⟩
theorem grown_box {w w' : World} {row : Option Nat} {N : Nat} {o : Obj} (h : w.grownBy w' row) (hb : w.heap[N]? = some o) (hne : row ≠ some N) : w'.heap[N]? = some o := (h.block N (Array.getElem?_eq_some_iff.1 hb).1 (Ne.symm hne)).trans hb
/-- A row of numbers of the call's own. -/
def IntOwn (w : World) (B : Nat) (v : Value) (os : List Int) : Prop := w.ownsRow B 3 1 v os.length (os.map (Value.int .i64))
/-- Two rows share no block. -/
def Apart (v u : Value) : Prop := v.ownBlock = none ∨ v.ownBlock ≠ u.ownBlock
theorem Apart.symm {v u : Value} (h : Apart v u) : Apart u v := by
  unfold Apart at *
  cases hu : u.ownBlock
  · exact .inl rfl
  · right
    rcases h with h | h
    · rw [h]; simp
    · rw [hu] at h; exact fun e => h e.symm
theorem int_below {w w' : World} {B : Nat} {v : Value} {os : List Int} (h : IntOwn w B v os) (hb : Below w.heap.size w w') : IntOwn w' B v os := by
  obtain ⟨h0, h1 | ⟨g, cap, cur, hv, hB, hg, hr⟩⟩ := h
  · exact ⟨h0, .inl h1⟩
  · exact ⟨h0, .inr ⟨g, cap, cur, hv, hB, box_below hg hb, hr⟩⟩
theorem int_form {w : World} {B : Nat} {v : Value} {os : List Int} (h : IntOwn w B v os) : ∃ a c, v = .slice a os.length c ∧ os.length ≤ c ∧ c ≤ maxLen := by
  obtain ⟨_, ⟨rfl, e⟩ | ⟨g, cap, cur, rfl, _, _, hn, hm, _⟩⟩ := h
  · exact ⟨none, 0, by rw [e], by omega, Nat.zero_le _⟩
  · exact ⟨_, _, rfl, hn, hm⟩
theorem int_kept {w w' : World} {B : Nat} {row : Option Nat} {v : Value} {os : List Int} (h : IntOwn w B v os) (hg : w.grownBy w' row) (hne : v.ownBlock = none ∨ v.ownBlock ≠ row) : IntOwn w' B v os := by
  obtain ⟨h0, h1 | ⟨g, cap, cur, rfl, hB, hb, hr⟩⟩ := h
  · exact ⟨h0, .inl h1⟩
  · refine ⟨h0, .inr ⟨g, cap, cur, rfl, hB, grown_box hg hb ?_, hr⟩⟩
    rcases hne with hne | hne
    · cases hne
    · exact fun e => hne e.symm
theorem int_block {w : World} {B : Nat} {v : Value} {os : List Int} (h : IntOwn w B v os) : ∀ g, v.ownBlock = some g → B ≤ g ∧ g < w.heap.size ∧ ∃ C, w.heap[g]? = some (Obj.cells C 3) := by
  obtain ⟨_, ⟨rfl, _⟩ | ⟨g, cap, cur, rfl, hB, hg, _⟩⟩ := h
  · intro g e; cases e
  · intro g' e
    have e' : g = g' := by simpa [Value.ownBlock] using e
    subst e'
    exact ⟨hB, (Array.getElem?_eq_some_iff.1 hg).1, cur, hg⟩
theorem int_row {w : World} {B : Nat} {a : Option Addr} {n c : Nat} {os : List Int} (h : IntOwn w B (.slice a n c) os) : NumRow w a os := by
  obtain ⟨_, ⟨e, h0⟩ | ⟨g, cap, cur, e, hB, hg, hn, hm, hs, ht⟩⟩ := h
  · exact .inl (List.length_eq_zero_iff.1 h0)
  · simp only [Value.slice.injEq] at e
    obtain ⟨rfl, _, _⟩ := e
    refine .inr ⟨g, 0, rfl, fun i hi => ?_⟩
    have h1 : (os.map (Value.int .i64))[i]? = some (.int .i64 os[i]) := by simp [hi]
    rw [← ht, List.getElem?_take_of_lt (by omega)] at h1
    rw [Nat.zero_add, cell_of_block hg]
    simpa using h1
theorem int_take {w : World} {B g off n c k : Nat} {st : List Int} (h : IntOwn w B (.slice (some ⟨g, off, none⟩) n c) st) (hk : k ≤ st.length) : off = 0 ∧ IntOwn w B (.slice (some ⟨g, off, none⟩) k c) (st.take k) := by
  obtain ⟨h0, ⟨e, _⟩ | ⟨g', cap, cur, e, hB, hg, hn, hm, hs, ht⟩⟩ := h
  · simp at e
  · simp only [Value.slice.injEq, Option.some.injEq, Addr.mk.injEq] at e
    obtain ⟨⟨rfl, rfl, _⟩, _, rfl⟩ := e
    have hl : (st.take k).length = k := by rw [List.length_take]; omega
    refine ⟨rfl, by simp, .inr ⟨g, c, cur, by rw [hl], hB, hg, by omega, hm, hs, ?_⟩⟩
    rw [Nat.mul_one] at ht ⊢
    have e2 : cur.toList.take (st.take k).length = (cur.toList.take st.length).take k := by rw [List.take_take, hl, Nat.min_eq_left hk]
    rw [e2, ht, List.map_take]
theorem num_cells {w : World} {ad : Addr} {os : List Int} (hr : NumRow w (some ad) os) : ∀ j u, (os.map (Value.int .i64))[j]? = some u → w.cell? (ad.add j) = some u := fun j u hj => by
  rcases hr with rfl | ⟨b, off, e, h⟩
  · simp at hj
  · obtain rfl : ad = ⟨b, off, none⟩ := Option.some.inj e
    have hl := (List.getElem?_eq_some_iff.1 hj).1
    rw [List.length_map] at hl
    have h1 := h j hl
    rw [add_plain]
    rw [List.getElem?_map, List.getElem?_eq_getElem hl] at hj
    rw [← Option.some.inj hj]; exact h1
/-- Blocks of other types than numbers stand. -/
def Keeps (w w' : World) : Prop := ∀ (N : Nat) (C : Array Value) (t : TypeId), w.heap[N]? = some (Obj.cells C t) → t ≠ 3 → w'.heap[N]? = some (Obj.cells C t)
theorem Keeps.of {w w' : World} (hb : Below w.heap.size w w') : Keeps w w' := fun N C t h _ => box_below h hb
theorem Keeps.trans {a b c : World} (h : Keeps a b) (k : Keeps b c) : Keeps a c := fun N C t hN h1 => k N C t (h N C t hN h1) h1
theorem Keeps.grown {w w' : World} {v : Value} (h : w.grownBy w' v.ownBlock) (hv : ∀ g, v.ownBlock = some g → ∃ C, w.heap[g]? = some (Obj.cells C 3)) : Keeps w w' := fun N C t hN h1 => by
  refine grown_box h hN (fun e => ?_)
  obtain ⟨C', hC⟩ := hv N e
  rw [hN] at hC; simp at hC; exact h1 hC.2
/-- The two lists of a machine, of the call's own and apart; W0: the world from which on they are. -/
def OwnC (W0 w : World) (sv ov : Value) (m : CM) : Prop := IntOwn w W0.heap.size sv m.st ∧ IntOwn w W0.heap.size ov m.os ∧ Apart sv ov ∧ Below W0.heap.size W0 w
theorem OwnC.below {W0 w w' : World} {sv ov : Value} {m : CM} (h : OwnC W0 w sv ov m) (hb : Below w.heap.size w w') : OwnC W0 w' sv ov m := ⟨int_below h.1 hb, int_below h.2.1 hb, h.2.2.1, bl_trans h.2.2.2 hb⟩
/-- One number more behind a row; another row beside it. -/
theorem int_put {W0 w : World} {v u : Value} {xs ys : List Int} (hb : Below W0.heap.size W0 w) (h : IntOwn w W0.heap.size v xs) (k : IntOwn w W0.heap.size u ys) (hap : Apart v u) (hl : xs.length ≤ 1000) (n : Int) (ty : TypeId) :
    ∃ a' c' w', (Builtin.append_ #[23, 23] ty #[v, .slice (some ⟨w.heap.size, 0, none⟩) 1 1]).run Try.prog (w.alloc (.cells #[.int .i64 n] 3)) = .ok (.slice a' (xs.length + 1) c') w' ∧ IntOwn w' W0.heap.size (.slice a' (xs.length + 1) c') (xs ++ [n]) ∧ IntOwn w' W0.heap.size u ys ∧ Apart (.slice a' (xs.length + 1) c') u ∧ Below W0.heap.size W0 w' ∧ Keeps w w' ∧ w.heap.size ≤ w'.heap.size := by
  obtain ⟨i0, hi, hz0, hz1, hz2⟩ := int_info
  have ha := below_alloc1 w (.cells #[.int .i64 n] 3)
  have h' := int_below h ha
  have k' := int_below k ha
  have hn := new_block w (.cells #[.int .i64 n] 3)
  obtain ⟨v', w', hrun, hown, hgrow, _, hblk⟩ := run_append_own_at (P := Try.prog) (w.alloc (.cells #[.int .i64 n] 3)) W0.heap.size 23 ty 3 i0 _ 1 8 Try.underlying23 hi hz0 hz1 hz2 rfl (by decide) v xs.length (xs.map (Value.int .i64)) h' ⟨w.heap.size, 0, none⟩ 1 1 [.int .i64 n] rfl (fun j x hj => by
      rw [add_plain, Nat.zero_add, cell_of_block hn]
      simpa using hj) (by simp [Value.oneCell']) (by unfold maxLen; omega) (by omega) (Nat.le_trans hb.size ha.size)
  have g5 : IntOwn w' W0.heap.size v' (xs ++ [n]) := by
    show World.ownsRow _ _ _ _ _ _ _
    rw [List.length_append, List.map_append]; exact hown
  obtain ⟨a', c', e, _⟩ := int_form g5
  rw [List.length_append] at e
  have e' : v' = .slice a' (xs.length + 1) c' := e
  subst e'
  refine ⟨a', c', w', hrun, g5, int_kept k' hgrow hap.symm, ?_, (bl_trans hb ha).grown hgrow (bl_trans hb ha).size (fun j hj => (int_block h' j hj).1), (Keeps.of ha).trans (Keeps.grown hgrow (fun g hg => (int_block h' g hg).2.2)), Nat.le_trans ha.size hgrow.size⟩
  rcases hblk with e | e
  · unfold Apart; rw [e]; exact hap
  · right
    rw [e]
    intro e2
    have := (int_block k _ e2.symm).2.1
    simp at this
    omega
theorem st_put {W0 w : World} {sv ov : Value} {m : CM} (h : OwnC W0 w sv ov m) (hl : m.st.length ≤ 5) (n : Int) (ty : TypeId) :
    ∃ a' c' w', (Builtin.append_ #[23, 23] ty #[sv, .slice (some ⟨w.heap.size, 0, none⟩) 1 1]).run Try.prog (w.alloc (.cells #[.int .i64 n] 3)) = .ok (.slice a' (m.st.length + 1) c') w' ∧ OwnC W0 w' (.slice a' (m.st.length + 1) c') ov { m with st := m.st ++ [n] } ∧ Keeps w w' ∧ w.heap.size ≤ w'.heap.size := by
  obtain ⟨a', c', w', h1, h2, h3, h4, h5, h6, h7⟩ := int_put h.2.2.2 h.1 h.2.1 h.2.2.1 (by omega) n ty
  exact ⟨a', c', w', h1, ⟨h2, h3, h4, h5⟩, h6, h7⟩
theorem os_put {W0 w : World} {sv ov : Value} {m : CM} (h : OwnC W0 w sv ov m) (hl : m.os.length ≤ 30) (n : Int) (ty : TypeId) :
    ∃ a' c' w', (Builtin.append_ #[23, 23] ty #[ov, .slice (some ⟨w.heap.size, 0, none⟩) 1 1]).run Try.prog (w.alloc (.cells #[.int .i64 n] 3)) = .ok (.slice a' (m.os.length + 1) c') w' ∧ OwnC W0 w' sv (.slice a' (m.os.length + 1) c') { m with os := m.os ++ [n] } ∧ Keeps w w' ∧ w.heap.size ≤ w'.heap.size := by
  obtain ⟨a', c', w', h1, h2, h3, h4, h5, h6, h7⟩ := int_put h.2.2.2 h.2.1 h.1 h.2.2.1.symm (by omega) n ty
  exact ⟨a', c', w', h1, ⟨h3, h2, h4.symm, h5⟩, h6, h7⟩
/-- A block of another type than numbers. -/
def OffAt (w : World) (N : Nat) : Prop := ∃ C t, w.heap[N]? = some (Obj.cells C t) ∧ t ≠ 3
theorem OffAt.set {w : World} {N M i : Nat} {v : Value} (h : OffAt w N) : OffAt (w.setCell ⟨M, i, none⟩ v) N := by
  obtain ⟨C, t, hC, ht⟩ := h
  by_cases e : M = N
  · subst e; exact ⟨_, t, block_setCell hC _, ht⟩
  · exact ⟨C, t, set_other hC e, ht⟩
theorem OffAt.below {w w' : World} {N : Nat} (h : OffAt w N) (hb : Below w.heap.size w w') : OffAt w' N := by
  obtain ⟨C, t, hC, ht⟩ := h
  exact ⟨C, t, box_below hC hb, ht⟩
theorem OwnC.set {W0 w : World} {sv ov : Value} {m : CM} {N i : Nat} {v : Value} (h : OwnC W0 w sv ov m) (hN : OffAt w N) (h0 : W0.heap.size ≤ N) : OwnC W0 (w.setCell ⟨N, i, none⟩ v) sv ov m := by
  obtain ⟨C, t, hC, ht⟩ := hN
  have hb : w.grownBy (w.setCell ⟨N, i, none⟩ v) (some N) := (But.refl N w).set i v
  refine ⟨int_kept h.1 hb (.inr ?_), int_kept h.2.1 hb (.inr ?_), h.2.2.1, But.down h.2.2.2 hb h0⟩
  · intro e
    obtain ⟨_, _, C', hx⟩ := int_block h.1 N e
    rw [hC] at hx; simp at hx; exact ht hx.2
  · intro e
    obtain ⟨_, _, C', hx⟩ := int_block h.2.1 N e
    rw [hC] at hx; simp at hx; exact ht hx.2
theorem Keeps.set {w w1 : World} {N i : Nat} {v : Value} (h : Keeps w w1) (hN : w.heap.size ≤ N) : Keeps w (w1.setCell ⟨N, i, none⟩ v) := fun M C t hM h1 => by
  have := (Array.getElem?_eq_some_iff.1 hM).1
  exact set_other (h M C t hM h1) (by omega)
theorem step_run {P : Program} {ops : Array Oper} {o : Oper} {a : Act} {w w' : World} {K : Act → World → Prop} {Q : Exit → Act → World → Prop} {E : Prop} (hgd : o.guard = none) (s x : Operand) (t tx : TypeId)
    (ho : o.op = Op.call { callee := Callee.builtin Builtin.append, args := #[s, x], argTypes := #[t, tx] }) (v u v' : Value) (hs : a.eval s = v) (hx : a.eval x = u) (hr : (Builtin.append_ #[t, tx] o.type #[v, u]).run P w = .ok v' w') (hK : K (a.put o.dst v') w') :
    if Region.wanted o (yielded ops a.tmps) = true then Oper.wp P o a w K Q else E := by
  have hw : Region.wanted o (yielded ops a.tmps) = true := by simp [Region.wanted, hgd]
  rw [if_pos hw]
  unfold Oper.wp
  simp [execOp, ho, resolve, invoke, builtin, hs, hx, hr, Result.andThen]
  exact hK
/-- Numbers behind nothing. -/
theorem ints_onto {w : World} {B : Nat} {v : Value} (hB : B ≤ w.heap.size) (h : IntOwn w B v []) {a : Option Addr} {ci : Nat} {os : List Int} (hr : NumRow w a os) (hl : os.length ≤ 1048576) (ty : TypeId) :
    ∃ a' c' w', (Builtin.append_ #[23, 23] ty #[v, .slice a os.length ci]).run Try.prog w = .ok (.slice a' os.length c') w' ∧ IntOwn w' B (.slice a' os.length c') os ∧ w.grownBy w' v.ownBlock ∧ ((Value.slice a' os.length c').ownBlock = v.ownBlock ∨ (Value.slice a' os.length c').ownBlock = some w.heap.size) := by
  obtain ⟨i, hi, hz0, hz1, hz2⟩ := int_info
  cases a with
  | none =>
    have hnil : os = [] := by
      rcases hr with hr | ⟨b, off, e, _⟩
      · exact hr
      · cases e
    subst hnil
    obtain ⟨va, vc, e, _⟩ := int_form h
    subst e
    refine ⟨va, vc, w, ?_, h, World.grownBy.refl _ _, .inl rfl⟩
    obtain ⟨_, ⟨e, h0⟩ | ⟨g, cap, cur, e, _, _, hn, _⟩⟩ := h
    · simp only [Value.slice.injEq] at e
      obtain ⟨rfl, _, rfl⟩ := e
      exact run_append_nothing w _ _ ty _ i Try.underlying23 hi _ _ _ (Nat.le_refl _) _ (Src.ofNil w Try.underlying23 ci)
    · simp only [Value.slice.injEq] at e
      obtain ⟨rfl, _, rfl⟩ := e
      exact run_append_nothing w _ _ ty _ i Try.underlying23 hi _ _ _ hn _ (Src.ofNil w Try.underlying23 ci)
  | some ad =>
    obtain ⟨v', w', hr', ho', hg', _, hblk⟩ := run_append_own_at (P := Try.prog) w B 23 ty 3 i _ 1 8 Try.underlying23 hi hz0 hz1 hz2 rfl (by decide) v 0 [] h ad os.length ci (os.map (Value.int .i64)) (by simp) (num_cells hr) (by simp [Value.oneCell']) (by unfold maxLen; omega) (by omega) hB
    have hO : IntOwn w' B v' os := by
      show World.ownsRow _ _ _ _ _ _ _
      simpa using ho'
    obtain ⟨a', c', e, _⟩ := int_form hO
    subst e
    exact ⟨a', c', w', hr', hO, hg', hblk⟩
theorem int_made (w : World) {B : Nat} (hB : B ≤ w.heap.size) : IntOwn (w.alloc (.cells #[] 3)) B (.slice (some ⟨w.heap.size, 0, none⟩) 0 0) [] :=
  ⟨by simp, .inr ⟨_, _, _, rfl, hB, new_block w _, Nat.le_refl _, Nat.zero_le _, rfl, rfl⟩⟩
def aggC (m : CM) (sv ov : Value) : Array Value := #[.int .i64 m.p, .int .i64 m.c, sv, ov, .int .i64 m.d]
/-- What a step of the specification leaves. -/
def CEnd (W0 w : World) (m : CM) (e : Ending) (w' : World) : Prop := ∃ sv ov, e = .returned (.agg (aggC m sv ov)) ∧ OwnC W0 w' sv ov m ∧ Keeps w w' ∧ w.heap.size ≤ w'.heap.size
end Go.Proofs.Ytjbhbkkkjdpamaa.CSpec
