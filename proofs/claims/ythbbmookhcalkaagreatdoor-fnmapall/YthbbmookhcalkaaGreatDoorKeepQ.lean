/- The program's queue of names: put and next. -/
import Derived.Test.YthbbmookhcalkaaGreatDoorPkfad6cd44
import Derived.Test.YthbbmookhcalkaaGreatDoorPk280c01b0
import Derived.Test.YthbbmookhcalkaaGreatDoorPk38d5a6a7
import Derived.Lib.AppendZeros
namespace Go.Proofs.YthbbmookhcalkaaGreatDoor.KeepQ
open Go.ChangeShapes Go.WideShapes Go.ChangeAt Go.RowKit Go.Joins Go.WideMaps Go.Maps Go.Deep
open Go.Proofs.YthbbmookhcalkaaGreatDoor.Base Go.Proofs.YthbbmookhcalkaaGreatDoor.InsA Go.Proofs.YthbbmookhcalkaaGreatDoor.InsB Go.Proofs.YthbbmookhcalkaaGreatDoor.Funs Go.Proofs.YthbbmookhcalkaaGreatDoor.Open Go.Proofs.YthbbmookhcalkaaGreatDoor.FunS Go.Proofs.YthbbmookhcalkaaGreatDoor.Keep Go.Proofs.YthbbmookhcalkaaGreatDoor.UnitS Go.Proofs.YthbbmookhcalkaaGreatDoor.UnitM Go.Proofs.YthbbmookhcalkaaGreatDoor.Refs Go.Proofs.YthbbmookhcalkaaGreatDoor.WantsI Go.Proofs.YthbbmookhcalkaaGreatDoor.KeepD
set_option linter.unusedVariables false
set_option maxRecDepth 100000

/-- A slice of texts of the call's own, from some place of its block on. -/
def QRow (w : World) (B : Nat) (v : Value) (ss : List ByteArray) : Prop :=
  (v = .slice none 0 0 ∧ ss = []) ∨ ∃ g off cap C, v = .slice (some ⟨g, off, none⟩) ss.length cap ∧ B ≤ g ∧ w.heap[g]? = some (.cells C 9 (0, 0)) ∧ ss.length ≤ cap ∧ off + cap ≤ C.size ∧ cap ≤ maxLen ∧ ∀ i (h : i < ss.length), C[off + i]? = some (.string ss[i])
/-- All but the blocks q, m and g stands as it stood, and there may be new ones. -/
structure QStep (q m : Nat) (g : Option Nat) (w w' : World) : Prop where
  os : w'.os = w.os
  tape : w'.tape = w.tape
  output : w'.output = w.output
  size : w.heap.size ≤ w'.heap.size
  block : ∀ k, k < w.heap.size → k ≠ q → k ≠ m → g ≠ some k → w'.heap[k]? = w.heap[k]?
theorem QStep.refl (q m : Nat) (g : Option Nat) (w : World) : QStep q m g w w := ⟨rfl, rfl, rfl, Nat.le_refl _, fun _ _ _ _ _ => rfl⟩
theorem QStep.trans {q m : Nat} {g g' : Option Nat} {w w1 w2 : World} (h : QStep q m g w w1) (k : QStep q m g' w1 w2) (hg : ∀ j, g' = some j → g = some j ∨ w.heap.size ≤ j) : QStep q m g w w2 :=
  ⟨k.os.trans h.os, k.tape.trans h.tape, k.output.trans h.output, Nat.le_trans h.size k.size, fun j hj h1 h2 h3 => (k.block j (Nat.lt_of_lt_of_le hj h.size) h1 h2 (fun e => by rcases hg j e with e' | e'; exact h3 e'; omega)).trans (h.block j hj h1 h2 h3)⟩
theorem QStep.of_below {q m : Nat} {g : Option Nat} {w w' : World} (h : Below w.heap.size w w') : QStep q m g w w' := ⟨h.os, h.tape, h.output, h.size, fun k hk _ _ _ => h.block k hk⟩
theorem QStep.of_grown {q m : Nat} {g r : Option Nat} {w w' : World} (h : w.grownBy w' r) (hr : ∀ j, r = some j → j = q ∨ j = m ∨ g = some j) : QStep q m g w w' :=
  ⟨h.os, h.tape, h.output, h.size, fun k hk h1 h2 h3 => h.block k hk (fun e => by rcases hr k e.symm with e | e | e; exact h1 e; exact h2 e; exact h3 e)⟩
theorem QStep.set {q m : Nat} {g : Option Nat} (w : World) (i : Nat) (v : Value) : QStep q m g w (w.setCell ⟨q, i, none⟩ v) :=
  ⟨rfl, rfl, rfl, by simp, fun k hk h1 _ _ => Below.heap_setCell w ⟨q, i, none⟩ v k h1⟩
theorem QStep.down {q m B : Nat} {g : Option Nat} {w0 w w' : World} (hB : Below B w0 w) (h : QStep q m g w w') (hs : B ≤ w.heap.size) (hq : B ≤ q) (hm : B ≤ m) (hg : ∀ j, g = some j → B ≤ j) : Below B w0 w' :=
  ⟨h.os.trans hB.os, h.tape.trans hB.tape, h.output.trans hB.output, Nat.le_trans hB.size h.size, fun k hk => (h.block k (by omega) (by omega) (by omega) (fun e => by have := hg k e; omega)).trans (hB.block k hk)⟩
/-- The queue: what waits, and a map of all that was in it ever. -/
def QAt (w : World) (B q m : Nat) (wv : Value) (ns ws : List ByteArray) (n : Nat) : Prop :=
  w.heap[q]? = some (.cells #[wv, .map (some m)] 999999 (0, 0)) ∧ B ≤ q ∧ B ≤ m ∧ QRow w B wv ws ∧ SetAt w m n (ns.map keyS)
theorem QRow.blk {w : World} {B : Nat} {v : Value} {ss : List ByteArray} (h : QRow w B v ss) : ∀ g, v.ownBlock = some g → B ≤ g ∧ ∃ C, w.heap[g]? = some (.cells C 9 (0, 0)) := by
  intro g hg
  rcases h with ⟨rfl, _⟩ | ⟨g', off, cap, C, rfl, hB, hb, _⟩
  · cases hg
  · cases hg; exact ⟨hB, C, hb⟩
theorem QRow.step {w w' : World} {B : Nat} {v : Value} {ss : List ByteArray} (h : QRow w B v ss) (hk : ∀ g, v.ownBlock = some g → w'.heap[g]? = w.heap[g]?) : QRow w' B v ss := by
  rcases h with h | ⟨g, off, cap, C, rfl, hB, hb, hr⟩
  · exact .inl h
  · exact .inr ⟨g, off, cap, C, rfl, hB, (hk g rfl).trans hb, hr⟩
theorem set_blk {w : World} {m n : Nat} {ls : List Lit} (h : SetAt w m n ls) : ∃ es c, w.heap[m]? = some (.map es c) := by
  obtain ⟨es, clock, hh, _⟩ := h
  exact ⟨es, clock, hh⟩
theorem set_step {w w' : World} {m n : Nat} {ls : List Lit} (h : SetAt w m n ls) (hk : w'.heap[m]? = w.heap[m]?) : SetAt w' m n ls := by
  obtain ⟨es, clock, hh, F, hs, hD⟩ := h
  exact ⟨es, clock, hk.trans hh, F, hs, hD⟩
theorem QAt.below {w w' : World} {B q m n : Nat} {wv : Value} {ns ws : List ByteArray} (h : QAt w B q m wv ns ws n) (hb : Below w.heap.size w w') : QAt w' B q m wv ns ws n := by
  obtain ⟨h1, h2, h3, h4, h5⟩ := h
  refine ⟨box_below h1 hb, h2, h3, h4.step (fun g hg => ?_), map_below h5 hb⟩
  obtain ⟨_, C, hC⟩ := h4.blk g hg
  exact hb.block g (Array.getElem?_eq_some_iff.1 hC).1
/-- What is kept where a block that is none of the queue's is written. -/
theorem QAt.grown {w w' : World} {B q m n : Nat} {wv : Value} {ns ws : List ByteArray} {r : Option Nat} (h : QAt w B q m wv ns ws n) (hg : w.grownBy w' r) (hr : ∀ j, r = some j → j < w.heap.size → ∃ C, w.heap[j]? = some (.cells C 28 (0, 0))) : QAt w' B q m wv ns ws n := by
  obtain ⟨h1, h2, h3, h4, h5⟩ := h
  have key : ∀ k o, w.heap[k]? = some o → (∀ C, o ≠ Obj.cells C 28 (0, 0)) → w'.heap[k]? = w.heap[k]? := fun k o hk hne => hg.block k (Array.getElem?_eq_some_iff.1 hk).1 (fun e => by
    obtain ⟨C, hC⟩ := hr k e.symm (Array.getElem?_eq_some_iff.1 hk).1
    rw [hk] at hC
    exact hne C (Option.some.inj hC))
  obtain ⟨es, c, hm⟩ := set_blk h5
  refine ⟨(key q _ h1 (fun C e => by simp at e)).trans h1, h2, h3, h4.step (fun g hg' => ?_), set_step h5 (key m _ hm (fun C e => by simp at e))⟩
  obtain ⟨_, C, hC⟩ := h4.blk g hg'
  exact key g _ hC (fun C e => by simp at e)

theorem infoStrQ : ∃ i, Tryz.prog.info? 9 = some i ∧ i.zero = some (.string ⟨#[]⟩) ∧ i.size = 1 ∧ i.bytes = 16 := info_parts infoStr
/-- One text more behind those that wait. -/
theorem append_q {w : World} {B : Nat} {v : Value} {ss : List ByteArray} (ty : TypeId) (s : ByteArray) {p : Addr} (hB : B ≤ w.heap.size) (h : QRow w B v ss) (hp : w.cell? (p.add 0) = some (.string s)) (hl : ss.length ≤ 1000000) :
    ∃ v' w', (Builtin.append_ #[60, 60] ty #[v, .slice (some p) 1 1]).run Tryz.prog w = .ok v' w' ∧ QRow w' B v' (ss ++ [s]) ∧ w.grownBy w' v.ownBlock ∧ (v'.ownBlock = v.ownBlock ∨ v'.ownBlock = some w.heap.size) := by
  obtain ⟨i, hi, hz0, hz1, hz2⟩ := infoStrQ
  have hnews : ∀ j u, [Value.string s][j]? = some u → w.cell? (p.add j) = some u := fun j u hj => by
    match j, hj with
    | 0, hj => rw [hp]; simpa using hj
    | j + 1, hj => simp at hj
  have h1 : ∀ u ∈ [Value.string s], u.oneCell' = true := fun u hu => by rw [List.mem_singleton.1 hu]; rfl
  rcases h with ⟨rfl, rfl⟩ | ⟨g, off, cap, C, rfl, hBg, hg, hn, hsz, hm, hc⟩
  · obtain ⟨v', w', hr, ho, hgr, _, hat⟩ := run_append_own_at (P := Tryz.prog) w B 60 ty 9 i _ 1 16 Tryz.underlying60 hi hz0 hz1 hz2 rfl (by decide) (.slice none 0 0) 0 [] (World.ownsRow_nil _ _ _ _) p 1 1 [.string s] rfl hnews h1 (by unfold maxLen; omega) (by omega) hB
    refine ⟨v', w', hr, ?_, hgr, hat⟩
    obtain ⟨_, ⟨rfl, h0⟩ | ⟨g, cap, cur, rfl, hB', hb, hn', hm', hs', ht⟩⟩ := ho
    · omega
    · refine .inr ⟨g, 0, cap, cur, rfl, hB', hb, hn', by omega, hm', fun i hi => ?_⟩
      have hi0 : i = 0 := by simpa using hi
      subst hi0
      have e : (cur.toList.take ((0 + 1) * 1))[0]? = some (.string s) := by rw [ht]; rfl
      rw [List.getElem?_take_of_lt (by omega)] at e
      simpa using e
  · by_cases hroom : ss.length + 1 ≤ cap
    · have hlt : off + ss.length < C.size := by omega
      have hr := run_append_room_src w 60 60 ty 9 i Tryz.underlying60 hi g off ss.length cap (.slice (some p) 1 1) 1 [.string s] (Src.ofSlice w Tryz.underlying60 p 1 1 [.string s] (by rw [hz1]; rfl) hnews h1) hroom
        (fun j hj => by
          have hj0 : j = 0 := by simpa using hj
          subst hj0
          rw [hz1, Nat.mul_one, Nat.add_zero, cell_of_block hg, Array.getElem?_eq_getElem hlt]; rfl)
        (fun j hj => unfrozen_of_block hg _)
      rw [hz1, Nat.mul_one] at hr
      refine ⟨_, _, hr, .inr ⟨g, off, cap, _, by simp, hBg, block_setCell hg _, by simp; omega, by simp; omega, hm, fun i hi => ?_⟩, ⟨rfl, rfl, rfl, by simp [World.setCells], fun k hk hne => Below.heap_setCell w ⟨g, off + ss.length, none⟩ _ k (fun e => hne (by have e' : k = g := e; rw [e']; rfl))⟩, .inl rfl⟩
      have hi' : i < ss.length + 1 := by simpa using hi
      by_cases e : i = ss.length
      · subst e
        rw [Array.getElem?_setIfInBounds_self_of_lt hlt]; simp
      · rw [Array.getElem?_setIfInBounds_ne (by omega), hc i (by omega), List.getElem_append_left (by omega)]
    · have holds : ∀ j u, (ss.map Value.string)[j]? = some u → w.cell? ((⟨g, off, none⟩ : Addr).add j) = some u := fun j u hj => by
        have hj' : j < ss.length := by have := (List.getElem?_eq_some_iff.1 hj).1; simpa using this
        rw [add_plain, cell_of_block hg, hc j hj']
        simpa [hj'] using hj
      have hr := run_append_grow (P := Tryz.prog) w 60 ty 9 i _ Tryz.underlying60 hi hz0 ⟨g, off, none⟩ ss.length cap (ss.map Value.string) (by rw [hz1]; simp) holds p 1 1 [.string s] (by rw [hz1]; rfl) hnews (by omega) (by omega) (growslice_fits (by omega) (by rw [hz2]; omega))
      have hge := grownCap_ge w (ss.length + 1) cap 9
      have hcm : grownCap w (ss.length + 1) cap 9 ≤ maxLen := grownCap_le_maxLen w (ss.length + 1) cap 9 (by unfold maxLen; omega)
      refine ⟨_, _, hr, .inr ⟨w.heap.size, 0, _, _, by simp, hB, heap_alloc_new w.drew _, by simpa using hge, ?_, hcm, fun i hi => ?_⟩, ⟨rfl, rfl, rfl, by simp, fun k hk _ => (below_alloc1 w.drew _).block k hk⟩, .inr rfl⟩
      · simp only [Array.size_append, List.size_toArray, size_zeroCells]
        simp [Value.cells]
        omega
      · have hi' : i < ss.length + 1 := by simpa using hi
        rw [Nat.zero_add, Array.getElem?_append_left (by simp; omega)]
        by_cases e : i = ss.length
        · subst e
          rw [Array.getElem?_append_right (by simp)]; simp
        · rw [Array.getElem?_append_left (by simp; omega)]
          simp [List.getElem_append_left (show i < ss.length by omega), show i < ss.length by omega]

theorem strAt_step {w w' : World} {v : Value} {ss : List ByteArray} (h : StrAt w v ss) (hk : ∀ g, v.ownBlock = some g → (∃ o, w.heap[g]? = some o) → w'.heap[g]? = w.heap[g]?) : StrAt w' v ss := by
  obtain ⟨a, cap, rfl, h1, h2, h3⟩ := h
  refine ⟨a, cap, rfl, h1, h2, ?_⟩
  rcases h3 with h3 | ⟨b, off, rfl, h3⟩
  · exact .inl h3
  · refine .inr ⟨b, off, rfl, fun i hi => ?_⟩
    have hb : b < w.heap.size := World.block_lt_of_cell? w _ (h3 i hi)
    rw [World.cell?_of_block (a := ⟨b, off + i, none⟩) (hk b rfl ⟨_, Array.getElem?_eq_getElem hb⟩)]
    exact h3 i hi
theorem has_keys (ns : List ByteArray) (s : ByteArray) : Maps.has (setOf (.agg []) (ns.map keyS) : DataW Unit) (keyS s) = hasB ns s := by
  rw [has_setOf _ _ _ (fun y hy => by obtain ⟨t, _, rfl⟩ := List.mem_map.1 hy; exact keyS_is t), Bool.eq_iff_iff, List.any_eq_true, hasB_iff]
  constructor
  · rintro ⟨y, hy, hs⟩
    obtain ⟨t, ht, rfl⟩ := List.mem_map.1 hy
    have e : t.toList = s.toList := by
      rw [ByteArray.toList_eq, ByteArray.toList_eq]
      simpa [keyS, Lit.sameKey] using hs
    exact List.mem_map.2 ⟨t, ht, e⟩
  · intro h
    obtain ⟨t, ht, e⟩ := List.mem_map.1 h
    refine ⟨keyS t, List.mem_map.2 ⟨t, ht, rfl⟩, ?_⟩
    rw [ByteArray.toList_eq, ByteArray.toList_eq] at e
    simp [keyS, Lit.sameKey, e]
theorem zeroUnit (w : World) : (zeroValue 146).run Tryz.prog w = .ok (.agg #[]) w := by kernel_rfl
/-- What stands behind some of the names. -/
def QPut (w w' : World) (B q m : Nat) (wv : Value) (v : Value) (ns ws rs : List ByteArray) (n k : Nat) : Prop :=
  ∃ wv' t, addN ns (rs.take k) = ns ++ t ∧ QAt w' B q m wv' (ns ++ t) (ws ++ t) (n + k) ∧ t.length ≤ k ∧ (wv'.ownBlock = wv.ownBlock ∨ ∃ g, wv'.ownBlock = some g ∧ w.heap.size ≤ g) ∧ StrAt w' v rs ∧ QStep q m wv.ownBlock w w'
theorem QAt.cells {w : World} {B q m n : Nat} {wv : Value} {ns ws : List ByteArray} (h : QAt w B q m wv ns ws n) : (w.cell? ⟨q, 0, none⟩ = some wv ∧ w.cell? ⟨q, 1, none⟩ = some (.map (some m))) ∧ w.frozen? ⟨q, 0, none⟩ = false ∧ w.frozen? ⟨q, 1, none⟩ = false :=
  ⟨⟨by rw [cell_of_block h.1]; rfl, by rw [cell_of_block h.1]; rfl⟩, unfrozen_of_block h.1 0, unfrozen_of_block h.1 1⟩
/-- A name that was in it already. -/
theorem QPut.skip {w wr : World} {B q m n k : Nat} {wv v : Value} {ns ws rs : List ByteArray} (h : QPut w wr B q m wv v ns ws rs n k) (hk : k < rs.length) (hh : hasB (addN ns (rs.take k)) rs[k] = true) (o : Obj) : QPut w (wr.alloc o) B q m wv v ns ws rs n (k + 1) := by
  obtain ⟨wv', t, h1, h2, h3, h4, h5, h6⟩ := h
  have hb := below_alloc1 wr o
  have h2' := h2.below hb
  refine ⟨wv', t, by rw [addN_snoc ns hk, addOne_has hh]; exact h1, ⟨h2'.1, h2'.2.1, h2'.2.2.1, h2'.2.2.2.1, ownsMap_mono h2'.2.2.2.2 (by omega)⟩, by omega, h4, h5.below hb, h6.trans (QStep.of_below (g := none) hb) (fun j hj => by cases hj)⟩
/-- A new name: marked, and behind all that waits. -/
theorem QPut.next {w wr w1 w2 w3 : World} {B q m n k : Nat} {wv wv' v v3 : Value} {ns ws rs t : List ByteArray} {o o2 : Obj} (hBw : B ≤ w.heap.size) (hk : k < rs.length) (hv : v.ownBlock = none ∨ v.ownBlock ≠ wv.ownBlock) (hvl : ∀ g, v.ownBlock = some g → g < w.heap.size)
    (h1 : addN ns (rs.take k) = ns ++ t) (h2 : QAt wr B q m wv' (ns ++ t) (ws ++ t) (n + k)) (h3 : t.length ≤ k) (h4 : wv'.ownBlock = wv.ownBlock ∨ ∃ g, wv'.ownBlock = some g ∧ w.heap.size ≤ g) (h5 : StrAt wr v rs) (h6 : QStep q m wv.ownBlock w wr)
    (hh : hasB (ns ++ t) rs[k] = false) (hM : w1.ownsMap Tryz.prog 9 (unitElem (H := Unit)) m (n + k + 1) ((setOf (.agg []) ((ns ++ t).map keyS) : DataW Unit).put (keyS rs[k]) (.agg []))) (hg1 : (wr.alloc o).grownBy w1 (some m))
    (hQ : QRow w2 B v3 (ws ++ t ++ [rs[k]])) (hg2 : (w1.alloc o2).grownBy w2 wv'.ownBlock) (hat : v3.ownBlock = wv'.ownBlock ∨ v3.ownBlock = some (w1.heap.size + 1)) : QPut w (w2.setCell ⟨q, 0, none⟩ v3) B q m wv v ns ws rs n (k + 1) := by
  have hb := below_alloc1 wr o
  obtain ⟨q1, q2, q3, q4, q5⟩ := h2
  obtain ⟨es, c, hmb⟩ := set_blk q5
  have hqw : q < wr.heap.size := (Array.getElem?_eq_some_iff.1 q1).1
  have hmw : m < wr.heap.size := (Array.getElem?_eq_some_iff.1 hmb).1
  have hqm : q ≠ m := fun e => by rw [e, hmb] at q1; cases q1
  have hgw : ∀ g, wv'.ownBlock = some g → g < wr.heap.size ∧ g ≠ q ∧ g ≠ m ∧ B ≤ g := fun g hg => by
    obtain ⟨hB, C, hC⟩ := q4.blk g hg
    refine ⟨(Array.getElem?_eq_some_iff.1 hC).1, fun e => ?_, fun e => ?_, hB⟩
    · rw [e, q1] at hC; simp at hC
    · rw [e, hmb] at hC; cases hC
  have z1 : wr.heap.size + 1 ≤ w1.heap.size := by have := hg1.size; simpa using this
  have z2 : w1.heap.size + 1 ≤ w2.heap.size := by have := hg2.size; simpa using this
  have k1 : ∀ k, k < wr.heap.size → k ≠ m → w1.heap[k]? = wr.heap[k]? := fun k hk hne => (hg1.block k (by simp; omega) (fun e => hne (by simpa using e))).trans (hb.block k hk)
  have k2 : ∀ k, k < w1.heap.size → wv'.ownBlock ≠ some k → w2.heap[k]? = w1.heap[k]? := fun k hk hne => (hg2.block k (by simp; omega) (fun e => hne e.symm)).trans ((below_alloc1 w1 o2).block k hk)
  have q2b : w2.heap[q]? = some (.cells #[wv', .map (some m)] 999999 (0, 0)) := by
    rw [k2 q (by omega) (fun e => (hgw q e).2.1 rfl), k1 q hqw hqm]; exact q1
  have s12 : QStep q m wv.ownBlock w (w2.setCell ⟨q, 0, none⟩ v3) := by
    refine h6.trans (g' := wv'.ownBlock) ?_ (fun j hj => by rcases h4 with e | ⟨g, e, hg⟩; exact .inl (by rw [← e]; exact hj); exact .inr (by rw [hj] at e; cases e; exact hg))
    refine ⟨?_, ?_, ?_, ?_, fun j hj n1 n2 n3 => ?_⟩
    · exact hg2.os.trans hg1.os
    · exact hg2.tape.trans hg1.tape
    · exact hg2.output.trans hg1.output
    · simp; omega
    · rw [Below.heap_setCell w2 ⟨q, 0, none⟩ v3 j n1, k2 j (by omega) n3, k1 j hj n2]
  have hset : ∀ j, j ≠ q → (w2.setCell ⟨q, 0, none⟩ v3).heap[j]? = w2.heap[j]? := fun j hj => Below.heap_setCell w2 ⟨q, 0, none⟩ v3 j hj
  have hmk : (w2.setCell ⟨q, 0, none⟩ v3).heap[m]? = w1.heap[m]? := by rw [hset m (Ne.symm hqm), k2 m (by omega) (fun e => (hgw m e).2.2.1 rfl)]
  refine ⟨v3, t ++ [rs[k]], ?_, ⟨block_setCell q2b v3, q2, q3, ?_, ?_⟩, by simp; omega, ?_, ?_, s12⟩
  · rw [addN_snoc ns hk, h1, addOne_new hh, List.append_assoc]
  · rw [← List.append_assoc]
    refine hQ.step (fun g hg => hset g (fun e => ?_))
    subst e
    rcases hat with e | e
    · exact (hgw g (by rw [← e]; exact hg)).2.1 rfl
    · rw [hg] at e; cases e; omega
  · have e : (ns ++ (t ++ [rs[k]])).map keyS = (ns ++ t).map keyS ++ [keyS rs[k]] := by rw [← List.append_assoc, List.map_append]; rfl
    rw [e]
    refine set_step (w := w1) ?_ hmk
    unfold SetAt
    rw [setOf_snoc]
    exact hM
  · rcases hat with e | e
    · rw [e]; exact h4
    · exact .inr ⟨_, e, by have := h6.size; omega⟩
  · refine strAt_step h5 (fun g hg hex => ?_)
    have hgl := hvl g hg
    have hgr : g < wr.heap.size := Nat.lt_of_lt_of_le hgl h6.size
    obtain ⟨a, cap, e, _, _, h7⟩ := h5
    rcases h7 with h7 | ⟨b, off, rfl, h7⟩
    · rw [h7] at hk; simp at hk
    · have e' : b = g := by rw [e] at hg; cases hg; rfl
      subst e'
      obtain ⟨ob, hob⟩ := hex
      have hcell := h7 k hk
      have n1 : b ≠ q := fun e => by
        rw [e, cell_of_block q1] at hcell
        have hsz := (Array.getElem?_eq_some_iff.1 hcell).1
        have : off + k = 0 ∨ off + k = 1 := by simp at hsz; omega
        rcases this with e | e <;> rw [e] at hcell <;> simp at hcell
        rw [hcell] at q4
        rcases q4 with ⟨e1, _⟩ | ⟨_, _, _, _, e1, _⟩ <;> cases e1
      have n2 : b ≠ m := fun e => by
        unfold World.cell? at hcell
        rw [show (⟨b, off + k, none⟩ : Addr).block = m from e, hmb] at hcell
        cases hcell
      have n3 : wv'.ownBlock ≠ some b := fun e => by
        rcases h4 with e1 | ⟨g', e1, hg'⟩
        · rcases hv with hv | hv
          · rw [hv] at hg; cases hg
          · exact hv (by rw [hg, ← e1, e])
        · rw [e] at e1; cases e1; omega
      rw [hset b n1, k2 b (by omega) n3, k1 b hgr n2]

/-- Behind the mark: what waits is read, and one name more put behind it. -/
theorem q_app {wr w1 : World} {o : Obj} {B q m n : Nat} {wv : Value} {nt wt : List ByteArray} {s : ByteArray} (h : QAt wr B q m wv nt wt n) (hBw : B ≤ wr.heap.size) (hg1 : (wr.alloc o).grownBy w1 (some m)) (hwl : wt.length ≤ 1000000) :
    w1.cell? ⟨q, 0, none⟩ = some wv ∧ ∀ ty, ∃ v3 w2 g3 o3 c3, v3 = .slice (some ⟨g3, o3, none⟩) (wt.length + 1) c3 ∧ (Builtin.append_ #[60, 60] ty #[wv, .slice (some ⟨w1.heap.size, 0, none⟩) 1 1]).run Tryz.prog (w1.alloc (.cells #[.string s] 9)) = .ok v3 w2 ∧ QRow w2 B v3 (wt ++ [s]) ∧ (w1.alloc (.cells #[.string s] 9)).grownBy w2 wv.ownBlock ∧ (v3.ownBlock = wv.ownBlock ∨ v3.ownBlock = some (w1.heap.size + 1)) ∧ (∃ x, w2.cell? ⟨q, 0, none⟩ = some x) ∧ w2.frozen? ⟨q, 0, none⟩ = false := by
  obtain ⟨q1, q2, q3, q4, q5⟩ := h
  obtain ⟨es, c, hmb⟩ := set_blk q5
  have hqw : q < wr.heap.size := (Array.getElem?_eq_some_iff.1 q1).1
  have hqm : q ≠ m := fun e => by rw [e, hmb] at q1; cases q1
  have z1 : wr.heap.size + 1 ≤ w1.heap.size := by have := hg1.size; simpa using this
  have k1 : ∀ k, k < wr.heap.size → k ≠ m → w1.heap[k]? = wr.heap[k]? := fun k hk hne => (hg1.block k (by simp; omega) (fun e => hne (by simpa using e))).trans ((below_alloc1 wr o).block k hk)
  have hgw : ∀ g, wv.ownBlock = some g → g < wr.heap.size ∧ g ≠ q ∧ g ≠ m := fun g hg => by
    obtain ⟨hB, C, hC⟩ := q4.blk g hg
    refine ⟨(Array.getElem?_eq_some_iff.1 hC).1, fun e => ?_, fun e => ?_⟩
    · rw [e, q1] at hC; simp at hC
    · rw [e, hmb] at hC; cases hC
  have q1' : w1.heap[q]? = some (.cells #[wv, .map (some m)] 999999 (0, 0)) := (k1 q hqw hqm).trans q1
  have q4' : QRow (w1.alloc (.cells #[.string s] 9)) B wv wt := q4.step (fun g hg => by
    obtain ⟨g1, g2, g3⟩ := hgw g hg
    rw [(below_alloc1 w1 _).block g (by omega), k1 g g1 g3])
  refine ⟨by rw [cell_of_block q1']; rfl, fun ty => ?_⟩
  obtain ⟨v3, w2, hr, hq3, hg3, hat⟩ := append_q ty s (p := ⟨w1.heap.size, 0, none⟩) (by simp; omega) q4' (cell_one_new w1 (.string s) 9 0 _ rfl) hwl
  have q1'' : w2.heap[q]? = some (.cells #[wv, .map (some m)] 999999 (0, 0)) := by
    rw [hg3.block q (by simp; omega) (fun e => (hgw q e.symm).2.1 rfl), (below_alloc1 w1 _).block q (by omega)]
    exact q1'
  obtain ⟨g3, o3, c3, e3⟩ : ∃ g3 o3 c3, v3 = .slice (some ⟨g3, o3, none⟩) (wt.length + 1) c3 := by
    rcases hq3 with ⟨_, e⟩ | ⟨g3, o3, c3, C, e, _⟩
    · simp at e
    · exact ⟨g3, o3, c3, by rw [e]; simp⟩
  refine ⟨v3, w2, g3, o3, c3, e3, hr, hq3, hg3, by simpa using hat, ⟨wv, by rw [cell_of_block q1'']; rfl⟩, unfrozen_of_block q1'' 0⟩

end Go.Proofs.YthbbmookhcalkaaGreatDoor.KeepQ
