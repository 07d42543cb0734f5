/- The contract of the specification's copy of a laying. -/
import Derived.Test.YthbbmookhcalkaaGreatDoorLayY
import Derived.Test.YthbbmookhcalkaaGreatDoorLayJ
import Derived.Deep.AppendSrc
import Derived.Deep.Upon
import Derived.Lib.AppendZeros
namespace Go.Proofs.YthbbmookhcalkaaGreatDoor.LayZ
open Go.ChangeShapes Go.WideShapes Go.ChangeAt Go.RowKit Go.Joins Go.Deep
open Go.Proofs.YthbbmookhcalkaaGreatDoor.Base Go.Proofs.YthbbmookhcalkaaGreatDoor.InsA Go.Proofs.YthbbmookhcalkaaGreatDoor.Funs Go.Proofs.YthbbmookhcalkaaGreatDoor.Open Go.Proofs.YthbbmookhcalkaaGreatDoor.FunS Go.Proofs.YthbbmookhcalkaaGreatDoor.Keep Go.Proofs.YthbbmookhcalkaaGreatDoor.UnitS Go.Proofs.YthbbmookhcalkaaGreatDoor.Refs Go.Proofs.YthbbmookhcalkaaGreatDoor.Mark Go.Proofs.YthbbmookhcalkaaGreatDoor.LayN Go.Proofs.YthbbmookhcalkaaGreatDoor.LayA Go.Proofs.YthbbmookhcalkaaGreatDoor.LayD Go.Proofs.YthbbmookhcalkaaGreatDoor.LayT Go.Proofs.YthbbmookhcalkaaGreatDoor.LayW Go.Proofs.YthbbmookhcalkaaGreatDoor.LayX Go.Proofs.YthbbmookhcalkaaGreatDoor.LayH Go.Proofs.YthbbmookhcalkaaGreatDoor.LayJ Go.Proofs.YthbbmookhcalkaaGreatDoor.LayY
set_option linter.unusedVariables false
set_option maxRecDepth 100000

theorem num_cells {w : World} {ad : Addr} {os : List Int} (hr : NumRow w (some ad) os) : ∀ j u, (os.map (Value.int .i64))[j]? = some u → w.cell? (ad.add j) = some u := fun j u hj => by
  rcases hr with rfl | ⟨b, off, e, h⟩
  · simp at hj
  · obtain rfl : ad = ⟨b, off, none⟩ := Option.some.inj e
    have hl := (List.getElem?_eq_some_iff.1 hj).1
    rw [List.length_map] at hl
    have h1 := h j hl
    rw [add_plain]
    rw [List.getElem?_map, List.getElem?_eq_getElem hl] at hj
    rw [← Option.some.inj hj]; exact h1
theorem nums_onto {w : World} {B : Nat} {v : Value} (hB : B ≤ w.heap.size) (h : w.ownsRow B 3 1 v 0 []) {a : Option Addr} {ci : Nat} {os : List Int} (hr : NumRow w a os) (hl : os.length ≤ 1048576) (ty : TypeId) :
    ∃ a' c' w', (Builtin.append_ #[33, 33] ty #[v, .slice a os.length ci]).run Tryz.prog w = .ok (.slice a' os.length c') w' ∧ w'.ownsRow B 3 1 (.slice a' os.length c') os.length (os.map (Value.int .i64)) ∧ w.grownBy w' v.ownBlock := by
  obtain ⟨i, hi, hz0, hz1, hz2⟩ := int_info
  cases a with
  | none =>
    have hnil : os = [] := by
      rcases hr with hr | ⟨b, off, e, _⟩
      · exact hr
      · cases e
    subst hnil
    obtain ⟨va, vc, e, _⟩ := form_of h
    subst e
    refine ⟨va, vc, w, ?_, h, World.grownBy.refl _ _⟩
    obtain ⟨_, ⟨e, h0⟩ | ⟨g, cap, cur, e, _, _, hn, _⟩⟩ := h
    · simp only [Value.slice.injEq] at e
      obtain ⟨rfl, _, rfl⟩ := e
      exact run_append_nothing w _ _ ty _ i Tryz.underlying33 hi _ _ _ (Nat.le_refl _) _ (Src.ofNil w Tryz.underlying33 ci)
    · simp only [Value.slice.injEq] at e
      obtain ⟨rfl, _, rfl⟩ := e
      exact run_append_nothing w _ _ ty _ i Tryz.underlying33 hi _ _ _ hn _ (Src.ofNil w Tryz.underlying33 ci)
  | some ad =>
    obtain ⟨v', w', hr', ho', hg', _⟩ := run_append_own_at (P := Tryz.prog) w B 33 ty 3 i _ 1 8 Tryz.underlying33 hi hz0 hz1 hz2 rfl (by decide) v 0 [] h ad os.length ci (os.map (Value.int .i64)) (by simp) (num_cells hr) (by simp [Value.oneCell']) (by unfold maxLen; omega) (by omega) hB
    have hO : w'.ownsRow B 3 1 v' os.length (os.map (Value.int .i64)) := by simpa using ho'
    obtain ⟨a', c', e, _⟩ := form_of hO
    subst e
    exact ⟨a', c', w', hr', hO, hg'⟩
theorem eq_cells {w : World} {b : Nat} {C D : Array Value} {t : TypeId} (h : w.heap[b]? = some (.cells C t)) (e : C = D) : w.heap[b]? = some (.cells D t) := e ▸ h
/-- What l7Copy's loop keeps: the parameter's box, the answer's, the copy's. -/
structure CS (w w' : World) (O : Nat) (pv nv : Value) (oa : Option Addr) (c : Nat) (ns : List Int) (st : List (List ByteArray)) (vs : List Value) : Prop where
  par : w'.heap[w.heap.size]? = some (.cells #[nv, pv] 47) ∨ ∃ u, w'.heap[w.heap.size]? = some (.cells #[u, pv] 47)
  res : w'.heap[w.heap.size + 1]? = some (.cells #[.slice none 0 0, .slice none 0 0] 47)
  out : w'.heap[O]? = some (.cells #[nv, .slice oa st.length c] 47)
  rows : OL w' w.heap.size nv (.slice oa st.length c) ns st vs
  blw : Below w.heap.size w w'
  lt : w.heap.size + 1 < O
theorem CS.parx {w w' : World} {O c : Nat} {pv nv : Value} {oa : Option Addr} {ns : List Int} {st : List (List ByteArray)} {vs : List Value} (h : CS w w' O pv nv oa c ns st vs) : ∃ u, w'.heap[w.heap.size]? = some (.cells #[u, pv] 47) := h.par.elim (fun h => ⟨_, h⟩) id
theorem CS.next {w w' w2 : World} {O c : Nat} {pv nv : Value} {oa : Option Addr} {ns : List Int} {st : List (List ByteArray)} {vs : List Value} (h : CS w w' O pv nv oa c ns st vs) (hb : Below w'.heap.size w' w2) : CS w w2 O pv nv oa c ns st vs :=
  ⟨.inr (by obtain ⟨u, hu⟩ := h.parx; exact ⟨u, box_below hu hb⟩), box_below h.res hb, box_below h.out hb, h.rows.next hb, h.blw.trans (hb.mono h.blw.size), h.lt⟩
/-- The copy's beginning: the numbers are copied. -/
theorem cs_start {w : World} {na : Option Addr} {nc : Nat} {pv : Value} {zs : List Int} (hn : NumRow w na zs) (hl : zs.length ≤ 1048576) (ty : TypeId) :
    ∃ a' c' w2, (Builtin.append_ #[33, 33] ty #[.slice (some ⟨w.heap.size + 1 + 1, 0, none⟩) 0 0, .slice na zs.length nc]).run Tryz.prog (((w.alloc (.cells #[.slice na zs.length nc, pv] 47)).alloc (.cells #[.slice none 0 0, .slice none 0 0] 47)).alloc (.cells #[] 3)) = .ok (.slice a' zs.length c') w2 ∧ zs.length ≤ c' ∧ c' ≤ maxLen ∧
      CS w (w2.alloc (.cells #[.slice a' zs.length c', .slice none 0 0] 47)) w2.heap.size pv (.slice a' zs.length c') none 0 zs [] [] := by
  generalize hA : w.alloc (.cells #[.slice na zs.length nc, pv] 47) = A
  have hAs : A.heap.size = w.heap.size + 1 := by rw [← hA]; simp
  have hAp : A.heap[w.heap.size]? = some (.cells #[.slice na zs.length nc, pv] 47) := by rw [← hA]; exact new_block w _
  have hAb : Below w.heap.size w A := by rw [← hA]; exact below_alloc1 _ _
  generalize hC : A.alloc (.cells #[.slice none 0 0, .slice none 0 0] 47) = C
  have hCs : C.heap.size = w.heap.size + 2 := by rw [← hC]; simp [hAs]
  rw [show w.heap.size + 1 + 1 = C.heap.size by omega]
  have hCr : C.heap[w.heap.size + 1]? = some (.cells #[.slice none 0 0, .slice none 0 0] 47) := by rw [← hC, ← hAs]; exact new_block A _
  have hbAC : Below A.heap.size A C := by rw [← hC]; exact below_alloc1 _ _
  have hCp := box_below hAp hbAC
  have hCb : Below w.heap.size w C := hAb.trans (hbAC.mono (by omega))
  have hbD := below_alloc1 C (.cells #[] 3)
  have hOm : (C.alloc (.cells #[] 3)).ownsRow C.heap.size 3 1 (.slice (some ⟨C.heap.size, 0, none⟩) 0 0) 0 [] := ⟨by simp, .inr ⟨_, _, _, rfl, Nat.le_refl _, new_block C _, Nat.le_refl _, Nat.zero_le _, rfl, rfl⟩⟩
  obtain ⟨a', c', w2, hr, ho, hg⟩ := nums_onto (ci := nc) (show C.heap.size ≤ (C.alloc (.cells #[] 3)).heap.size by simp) hOm ((hn.below hCb).below hbD) hl ty
  obtain ⟨_, _, e, hc1, hc2⟩ := form_of ho
  simp only [Value.slice.injEq] at e
  obtain ⟨rfl, _, rfl⟩ := e
  have hb2 : Below C.heap.size C w2 := hbD.grown hg hbD.size (fun j hj => by cases hj; exact Nat.le_refl _)
  have hs2 := hb2.size
  have hbE := below_alloc1 w2 (.cells #[.slice a' zs.length c', .slice none 0 0] 47)
  have hnew := new_block w2 (.cells #[.slice a' zs.length c', .slice none 0 0] 47)
  have hrow : (w2.alloc (.cells #[.slice a' zs.length c', .slice none 0 0] 47)).ownsRow w.heap.size 3 1 (.slice a' zs.length c') zs.length (zs.map (Value.int .i64)) := by
    have h1 := ho.kept (row := none) (grown_bel hbE _) (by cases (Value.slice a' zs.length c').ownBlock <;> simp)
    obtain ⟨q1, q2 | ⟨g, cap, cur, q2, q3, q4⟩⟩ := h1
    · exact ⟨q1, .inl q2⟩
    · exact ⟨q1, .inr ⟨g, cap, cur, q2, by omega, q4⟩⟩
  exact ⟨a', c', w2, hr, hc1, hc2, .inr ⟨.slice na zs.length nc, box_below (box_below hCp hb2) hbE⟩, box_below (box_below hCr hb2) hbE, hnew, ⟨hrow, World.ownsRow_nil _ _ _ _, fun i hi => absurd hi (by simp), fun i j v u _ hv => by simp at hv⟩, (hCb.trans (hb2.mono (by omega))).trans (hbE.mono (by omega)), by omega⟩
/-- What the region reads is as it was. -/
def KX (w W X : World) (O : Nat) : Prop := ∀ q, q ≤ w.heap.size ∨ q = O → X.heap[q]? = W.heap[q]?
theorem KX.cell {w W X : World} {O : Nat} (h : KX w W X O) {q i : Nat} {v : Value} (hq : q ≤ w.heap.size ∨ q = O) (hc : W.cell? ⟨q, i, none⟩ = some v) : X.cell? ⟨q, i, none⟩ = some v := (World.cell?_of_block (a := ⟨q, i, none⟩) (h q hq)).trans hc
theorem CS.more {w W : World} {O c : Nat} {pv nv : Value} {oa : Option Addr} {ns : List Int} {st : List (List ByteArray)} {vs : List Value} (h : CS w W O pv nv oa c ns st vs) (hl : st.length ≤ 1000) {a : Option Addr} {ci : Nat} {ss : List ByteArray} (hr : TextRow W a ss) (hc1 : ss.length ≤ ci) (hc2 : ci ≤ maxLen) (hsl : ss.length ≤ 1000000) (ty1 ty2 : TypeId) :
    KX w W (W.alloc (.cells #[] 9)) O ∧ ∃ a2 c2 w2, (Builtin.append_ #[60, 60] ty1 #[.slice (some ⟨W.heap.size, 0, none⟩) 0 0, .slice a ss.length ci]).run Tryz.prog (W.alloc (.cells #[] 9)) = .ok (.slice a2 ss.length c2) w2 ∧ KX w W w2 O ∧ KX w W (w2.alloc (.cells #[.slice a2 ss.length c2] 60)) O ∧
      ∃ a4 c4 w4, (Builtin.append_ #[45, 45] ty2 #[.slice oa st.length c, .slice (some ⟨w2.heap.size, 0, none⟩) 1 1]).run Tryz.prog (w2.alloc (.cells #[.slice a2 ss.length c2] 60)) = .ok (.slice a4 (st.length + 1) c4) w4 ∧ KX w W w4 O ∧ w4.frozen? ⟨O, 1, none⟩ = false ∧ (∀ q, q ≤ w.heap.size → (w4.setCell ⟨O, 1, none⟩ (.slice a4 (st.length + 1) c4)).heap[q]? = W.heap[q]?) ∧
      CS w (w4.setCell ⟨O, 1, none⟩ (.slice a4 (st.length + 1) c4)) O pv nv a4 c4 ns (st ++ [ss]) (vs ++ [.slice a2 ss.length c2]) := by
  obtain ⟨u, hu⟩ := h.parx
  have hlt := h.lt
  have hOl := (Array.getElem?_eq_some_iff.1 h.out).1
  have hPl := (Array.getElem?_eq_some_iff.1 hu).1
  obtain ⟨a2, c2, w2, r1, hO2, o2, hb2, a4, c4, w4, r2, hO4, hk1, hk2, hb4⟩ := h.rows.more (B := w.heap.size) h.blw.size hl hr hc1 hc2 hsl ty1 ty2
  have hKb : ∀ X, Below W.heap.size W X → KX w W X O := fun X hb q hq => hb.block q (by rcases hq with hq | hq <;> omega)
  have h4O : w4.heap[O]? = W.heap[O]? := hk2 O hOl ⟨_, h.out⟩
  have h4P : w4.heap[w.heap.size]? = W.heap[w.heap.size]? := hk2 _ hPl ⟨_, hu⟩
  have h4R : w4.heap[w.heap.size + 1]? = W.heap[w.heap.size + 1]? := hk2 _ (by omega) ⟨_, h.res⟩
  have hK4 : KX w W w4 O := fun q hq => by
    rcases hq with hq | rfl
    · by_cases e : q = w.heap.size
      · subst e; exact h4P
      · exact hk1 q (by omega)
    · exact h4O
  have hOb : w4.heap[O]? = some (.cells #[nv, .slice oa st.length c] 47) := h4O.trans h.out
  have hoff : ∀ (e : TypeId) (z n : Nat) (v : Value) (xs : List Value), w4.ownsRow w.heap.size e z v n xs → e ≠ 47 → v.ownBlock ≠ some O := fun e z n v xs hx he hv => by
    obtain ⟨_, ⟨h1, h0⟩ | ⟨g, cap, cur, h1, hB, hg, _⟩⟩ := hx
    · rw [h1] at hv; cases hv
    · rw [h1] at hv
      have : g = O := Option.some.inj hv
      rw [this, hOb] at hg
      simp at hg
      exact he hg.2.symm
  have hgr := grown_set w4 O 1 (.slice a4 (st.length + 1) c4)
  refine ⟨hKb _ (below_alloc1 _ _), a2, c2, w2, r1, hKb _ hb2, hKb _ (bl_trans hb2 (below_alloc1 _ _)), a4, c4, w4, r2, hK4, unfrozen_of_block hOb 1, fun q hq => ?_, ?_⟩
  · exact (Below.heap_setCell w4 ⟨O, 1, none⟩ _ q (show q ≠ O by omega)).trans (hK4 q (.inl hq))
  refine ⟨.inr ⟨u, set_other (h4P.trans hu) (by omega)⟩, set_other (h4R.trans h.res) (by omega), by rw [List.length_append]; exact eq_cells (block_setCell hOb _) (by simp), ?_, (h.blw.trans hb4).setCell (by show w.heap.size ≤ O; omega) _, h.lt⟩
  refine ⟨hO4.num.kept hgr (.inr (hoff _ _ _ _ _ hO4.num (by decide))), ?_, fun i hi => ?_, hO4.dis⟩
  · have := hO4.out
    rw [List.length_append] at this ⊢
    exact this.kept hgr (.inr (hoff _ _ _ _ _ this (by decide)))
  · obtain ⟨v, k1, k2⟩ := hO4.ent i hi
    exact ⟨v, k1, str_kept k2 hgr (.inr (hoff _ _ _ _ _ k2 (by decide)))⟩
theorem OL.set {w : World} {B R o : Nat} {v nv sv : Value} {C : Array Value} {ns : List Int} {st : List (List ByteArray)} {vs : List Value} (h : OL w B nv sv ns st vs) (hR : w.heap[R]? = some (.cells C 47)) : OL (w.setCell ⟨R, o, none⟩ v) B nv sv ns st vs := by
  have hoff : ∀ (e : TypeId) (z n : Nat) (v : Value) (xs : List Value), w.ownsRow B e z v n xs → e ≠ 47 → v.ownBlock ≠ some R := fun e z n v xs hx he hv => by
    obtain ⟨_, ⟨h1, h0⟩ | ⟨g, cap, cur, h1, hB, hg, _⟩⟩ := hx
    · rw [h1] at hv; cases hv
    · rw [h1] at hv
      have : g = R := Option.some.inj hv
      rw [this, hR] at hg
      simp at hg
      exact he hg.2.symm
  have hgr := grown_set w R o v
  exact ⟨h.num.kept hgr (.inr (hoff _ _ _ _ _ h.num (by decide))), h.out.kept hgr (.inr (hoff _ _ _ _ _ h.out (by decide))), fun i hi => by obtain ⟨u, k1, k2⟩ := h.ent i hi; exact ⟨u, k1, str_kept k2 hgr (.inr (hoff _ _ _ _ _ k2 (by decide)))⟩, h.dis⟩
/-- What l7Copy answers. -/
def CopyEnd (w : World) (zs : List Int) (st : List (List ByteArray)) (e : Ending) (w' : World) : Prop :=
  ∃ na nc sa sc vs, e = .returned (.agg #[.slice na zs.length nc, .slice sa st.length sc]) ∧ zs.length ≤ nc ∧ nc ≤ maxLen ∧ st.length ≤ sc ∧ sc ≤ maxLen ∧ OL w' w.heap.size (.slice na zs.length nc) (.slice sa st.length sc) zs st vs ∧ Below w.heap.size w w'
set_option maxHeartbeats 8000000 in
theorem l7Copy_any (na sa : Option Addr) (nc sc : Nat) (zs : List Int) (st : List (List ByteArray)) (w : World) (hn : NumRow w na zs) (hz : zs.length ≤ 1000000) (hs : TextsRow w sa st) (hl : st.length ≤ 1000) (h3 : st.length ≤ sc) (h4 : sc ≤ maxLen) (hss : ∀ ss ∈ st, ss.length ≤ 1000000) :
    Calls Tryz.prog 128 #[.agg #[.slice na zs.length nc, .slice sa st.length sc]] w (CopyEnd w zs st) := by
  have HS := hide hs
  have HSS := hide hss
  have HST := hide (cs_start (nc := nc) (pv := .slice sa st.length sc) hn (by omega))
  have hls : (st.length : Int) ≤ 9223372036854775807 := by omega
  clear hn hs hss
  go_enter Tryz.func128, Tryz.ntmps128
  go_wp2_with (first
    | (at_builtin; obtain ⟨a1, c1, w2, hrun, hx1, hx2, hC0⟩ := unhide HST _; refine Lib.wpList_append_run _ rfl _ _ _ _ rfl _ _ rfl rfl _ _ hrun ?_; have HC0 := hide hC0; clear hC0 hrun)
    | fail)
  obtain ⟨W5, hW5⟩ : ∃ W, W = w2.alloc (.cells #[.slice a1 zs.length c1, .slice none 0 0] 47) := ⟨_, rfl⟩
  rw [← hW5] at HC0 ⊢
  clear hW5
  generalize w2.heap.size = O at *
  clear HST
  go_loopw [4] (fun i w' => ∃ (st1 : List (List ByteArray)) (oa : Option Addr) (c : Nat) (vs : List Value), st1.length ≤ st.length ∧ st1 = st.take st1.length ∧ i = .int .i64 (st1.length : Nat) ∧ CS w w' O (.slice sa st.length sc) (.slice a1 zs.length c1) oa c zs st1 vs) (fun i _ => st.length - (intOf i).toNat)
  case atStart => exact ⟨[], none, 0, [], Nat.zero_le _, rfl, rfl, unhide HC0⟩
  case round =>
    obtain ⟨st1, oa, c, vs, hk, htk, rfl, hC⟩ := hrel
    clear HC0
    have HC := hide hC
    have HTK := hide htk
    obtain ⟨up, hpar⟩ := hC.parx
    have hX := box2 hpar
    have hY := box2 hC.out
    have hOw : (w.heap.size ≤ w.heap.size ∨ w.heap.size = O) := .inl (Nat.le_refl _)
    clear hC htk
    by_cases hkl : st1.length < st.length
    · have hkl' : (st1.length : Int) < (st.length : Int) := by omega
      have hk0 : (0 : Int) ≤ (st1.length : Int) := by omega
      obtain ⟨sb, so, rfl⟩ := (unhide HS).get (by omega)
      have HTR := hide ((unhide HS).at hkl)
      have hsl := unhide HSS st[st1.length] (List.getElem_mem _)
      have HSN : Hid (st1 ++ [st[st1.length]] = st.take (st1.length + 1)) := by
        show _ = _
        rw [List.take_succ_eq_append_getElem hkl, ← unhide HTK]
      have hsb : sb < w.heap.size := by
        obtain ⟨_, _, t0, _⟩ := unhide HTR
        exact World.block_lt_of_cell? w ⟨sb, so + st1.length, none⟩ t0
      generalize st[st1.length] = ss at *
      obtain ⟨ti, tc, t0, h5, h6, hrow⟩ := (unhide HTR).below (unhide HC).blw
      have hCD := (unhide HC).next (Below.refl _ _).drew
      have hd0 : wr.drew.cell? ⟨sb, so + st1.length, none⟩ = some (.slice ti ss.length tc) := t0
      have hd1 : wr.drew.cell? ⟨w.heap.size, 1, none⟩ = some (.slice (some ⟨sb, so, none⟩) st.length sc) := hX.1.2
      have hd2 : wr.drew.cell? ⟨O, 1, none⟩ = some (.slice oa st1.length c) := hY.1.2
      obtain ⟨K1, a2, c2, w2, r1, K2, K3, a4, c4, w4, r2, K4, hfz, K5, hC5⟩ := CS.more hCD (by omega) (a := ti) (ci := tc) (ss := ss) (hrow.below (Below.refl _ _).drew) h5 h6 hsl 60 45
      have HS0 : Hid ((fun w' => w'.cell? ⟨w.heap.size, 1, none⟩ = some (.slice (some ⟨sb, so, none⟩) st.length sc) ∧ w'.cell? ⟨sb, so + st1.length, none⟩ = some (.slice ti ss.length tc)) wr.drew) := ⟨hd1, hd0⟩
      have HS1 : Hid ((fun w' => w'.cell? ⟨w.heap.size, 1, none⟩ = some (.slice (some ⟨sb, so, none⟩) st.length sc) ∧ w'.cell? ⟨sb, so + st1.length, none⟩ = some (.slice ti ss.length tc)) (wr.drew.alloc (.cells #[] 9))) := ⟨K1.cell hOw hd1, K1.cell (.inl (by omega)) hd0⟩
      have HO1 : Hid (World.cell? (wr.drew.alloc (.cells #[] 9)) ⟨O, 1, none⟩ = some (.slice oa st1.length c)) := K1.cell (.inr rfl) hd2
      have HS2 : Hid ((fun w' => w'.cell? ⟨w.heap.size, 1, none⟩ = some (.slice (some ⟨sb, so, none⟩) st.length sc) ∧ w'.cell? ⟨sb, so + st1.length, none⟩ = some (.slice ti ss.length tc)) w2) := ⟨K2.cell hOw hd1, K2.cell (.inl (by omega)) hd0⟩
      have HO2 : Hid (World.cell? w2 ⟨O, 1, none⟩ = some (.slice oa st1.length c)) := K2.cell (.inr rfl) hd2
      have HS3 : Hid ((fun w' => w'.cell? ⟨w.heap.size, 1, none⟩ = some (.slice (some ⟨sb, so, none⟩) st.length sc) ∧ w'.cell? ⟨sb, so + st1.length, none⟩ = some (.slice ti ss.length tc)) (w2.alloc (.cells #[.slice a2 ss.length c2] 60))) := ⟨K3.cell hOw hd1, K3.cell (.inl (by omega)) hd0⟩
      have HO3 : Hid (World.cell? (w2.alloc (.cells #[.slice a2 ss.length c2] 60)) ⟨O, 1, none⟩ = some (.slice oa st1.length c)) := K3.cell (.inr rfl) hd2
      have HS4 : Hid ((fun w' => w'.cell? ⟨w.heap.size, 1, none⟩ = some (.slice (some ⟨sb, so, none⟩) st.length sc) ∧ w'.cell? ⟨sb, so + st1.length, none⟩ = some (.slice ti ss.length tc)) w4) := ⟨K4.cell hOw hd1, K4.cell (.inl (by omega)) hd0⟩
      have HO4 : Hid (World.cell? w4 ⟨O, 1, none⟩ = some (.slice oa st1.length c)) := K4.cell (.inr rfl) hd2
      have HS5 : Hid ((fun w' => w'.cell? ⟨w.heap.size, 1, none⟩ = some (.slice (some ⟨sb, so, none⟩) st.length sc) ∧ w'.cell? ⟨sb, so + st1.length, none⟩ = some (.slice ti ss.length tc)) (w4.setCell ⟨O, 1, none⟩ (.slice a4 (st1.length + 1) c4))) := ⟨(World.cell?_of_block (a := ⟨w.heap.size, 1, none⟩) (K5 _ (Nat.le_refl _))).trans hd1, (World.cell?_of_block (a := ⟨sb, so + st1.length, none⟩) (K5 _ (by show sb ≤ _; omega))).trans hd0⟩
      have HO0 : Hid (wr.drew.cell? ⟨O, 1, none⟩ = some (.slice oa st1.length c)) := hd2
      have HC5 := hide hC5
      have HR1 := hide r1
      have HR2 := hide r2
      clear hCD K1 K2 K3 K4 K5 hC5 r1 r2 hrow t0 hd0 hd1 hd2
      go_wp2_with fail
      refine wp_region_held_drew (S := (fun w' => w'.cell? ⟨w.heap.size, 1, none⟩ = some (.slice (some ⟨sb, so, none⟩) st.length sc) ∧ w'.cell? ⟨sb, so + st1.length, none⟩ = some (.slice ti ss.length tc))) (by kernel_rfl) (unhide HS0) (fun hHeld => ?_)
      refine wpAnyH_take (i := 0) (oi := { dst := some 17, op := Go.Op.fieldAddr 47 (Go.Operand.tmp 3) 1, type := 0, pos := "l7_lay.go:87", after := #[], guard := none }) (v := ?v17_0) rfl (by kernel_rfl) (by kernel_rfl) (by kernel_rfl) (fun _ _ _ h => h) (Or.inl ⟨by rfl, ?y17_0⟩) (by assumption) ?r17_0
      case y17_0 => (intro w hSw; (try dsimp only at hSw); go_simp; try (with_reducible rfl))
      try simp only [Act.put, List.setIfInBounds_toArray, List.set_cons_zero, List.set_cons_succ]
      refine wpAnyH_take (i := 3) (oi := { dst := some 20, op := Go.Op.fieldAddr 47 (Go.Operand.tmp 1) 1, type := 0, pos := "l7_lay.go:87", after := #[], guard := none }) (v := ?v20_3) rfl (by kernel_rfl) (by kernel_rfl) (by kernel_rfl) (fun _ _ _ h => h) (Or.inl ⟨by rfl, ?y20_3⟩) (by assumption) ?r20_3
      case y20_3 => (intro w hSw; (try dsimp only at hSw); go_simp; try (with_reducible rfl))
      try simp only [Act.put, List.setIfInBounds_toArray, List.set_cons_zero, List.set_cons_succ]
      refine wpAnyH_take (i := 4) (oi := { dst := some 21, op := Go.Op.load 45 (Go.Operand.tmp 20), type := 45, pos := "l7_lay.go:87", after := #[{ on := 3, ground := Go.Ground.data }], guard := none }) (v := ?v23_4) rfl (by kernel_rfl) (by kernel_rfl) (by kernel_rfl) (fun _ _ _ h => h) (Or.inl ⟨by rfl, ?y23_4⟩) (by assumption) ?r23_4
      case y23_4 => (intro w hSw; (try dsimp only at hSw); go_simp; try (with_reducible rfl))
      try simp only [Act.put, List.setIfInBounds_toArray, List.set_cons_zero, List.set_cons_succ]
      refine wpAnyH_take (i := 5) (oi := { dst := some 22, op := Go.Op.move (Go.Operand.tmp 4), type := 3, pos := "l7_lay.go:87", after := #[], guard := none }) (v := ?v26_5) rfl (by kernel_rfl) (by kernel_rfl) (by kernel_rfl) (fun _ _ _ h => h) (Or.inl ⟨by rfl, ?y26_5⟩) (by assumption) ?r26_5
      case y26_5 => (intro w hSw; (try dsimp only at hSw); go_simp; try (with_reducible rfl))
      try simp only [Act.put, List.setIfInBounds_toArray, List.set_cons_zero, List.set_cons_succ]
      refine wpAnyH_take (i := 6) (oi := { dst := some 23, op := Go.Op.indexAddr 45 (Go.Operand.tmp 21) (Go.Operand.tmp 22), type := 0, pos := "l7_lay.go:87", after := #[{ on := 4, ground := Go.Ground.data }, { on := 5, ground := Go.Ground.data }], guard := none }) (v := ?v29_6) rfl (by kernel_rfl) (by kernel_rfl) (by kernel_rfl) (fun _ _ _ h => h) (Or.inl ⟨by rfl, ?y29_6⟩) (by assumption) ?r29_6
      case y29_6 => (intro w hSw; (try dsimp only at hSw); go_simp; try (with_reducible rfl))
      try simp only [Act.put, List.setIfInBounds_toArray, List.set_cons_zero, List.set_cons_succ]
      refine wpAnyH_take (i := 7) (oi := { dst := some 24, op := Go.Op.load 60 (Go.Operand.tmp 23), type := 60, pos := "l7_lay.go:87", after := #[{ on := 6, ground := Go.Ground.data }], guard := none }) (v := ?v32_7) rfl (by kernel_rfl) (by kernel_rfl) (by kernel_rfl) (fun _ _ _ h => h) (Or.inl ⟨by rfl, ?y32_7⟩) (by assumption) ?r32_7
      case y32_7 => (intro w hSw; (try dsimp only at hSw); go_simp; try (with_reducible rfl))
      try simp only [Act.put, List.setIfInBounds_toArray, List.set_cons_zero, List.set_cons_succ]
      refine wpAnyH_ready (rs := [1, 2]) (by kernel_rfl) (by simp) (AllReadyH.cons (o := { dst := some 18, op := Go.Op.load 45 (Go.Operand.tmp 17), type := 45, pos := "l7_lay.go:87", after := #[{ on := 0, ground := Go.Ground.data }], guard := none }) rfl (fun K hK => ?_) (AllReadyH.cons (o := { dst := some 19, op := Go.Op.buildSlice 60 0 #[], type := 60, pos := "l7_lay.go:87", after := #[], guard := none }) rfl (fun K hK => ?_) AllReadyH.nil))
      · skip
        have hOx := unhide HO0
        go_simp
        refine hK.out _ _ hHeld (fun _ => ?_)
        clear hK K hOx
        try simp only [Act.put, List.setIfInBounds_toArray, List.set_cons_zero, List.set_cons_succ]
        refine wpAnyH_ready (rs := [2]) (by kernel_rfl) (by simp) (AllReadyH.cons (o := { dst := some 19, op := Go.Op.buildSlice 60 0 #[], type := 60, pos := "l7_lay.go:87", after := #[], guard := none }) rfl (fun K hK => ?_) AllReadyH.nil)
        go_simp
        replace hHeld := unhide HS1
        refine hK.out _ _ hHeld (fun _ => ?_)
        clear hK K
        try simp only [Act.put, List.setIfInBounds_toArray, List.set_cons_zero, List.set_cons_succ]
        refine wpAnyH_ready (rs := [8]) (by kernel_rfl) (by simp) (AllReadyH.cons (o := { dst := some 25, op := Go.Op.call { callee := Go.Callee.builtin Go.Builtin.append, args := #[Go.Operand.tmp 19, Go.Operand.tmp 24], argTypes := #[60, 60] }, type := 60, pos := "l7_lay.go:87", after := #[{ on := 2, ground := Go.Ground.data }, { on := 7, ground := Go.Ground.data }], guard := none }) rfl (fun K hK => ?_) AllReadyH.nil)
        refine step_run rfl (.tmp 19) (.tmp 24) 60 60 rfl _ _ _ (by simp [Act.eval]) (by simp [Act.eval]) (unhide HR1) ?_
        replace hHeld := unhide HS2
        refine hK.out _ _ hHeld (fun _ => ?_)
        clear hK K
        try simp only [Act.put, List.setIfInBounds_toArray, List.set_cons_zero, List.set_cons_succ]
        refine wpAnyH_ready (rs := [9]) (by kernel_rfl) (by simp) (AllReadyH.cons (o := { dst := some 26, op := Go.Op.buildSlice 45 1 #[(0, Go.Operand.tmp 25)], type := 45, pos := "l7_lay.go:87", after := #[{ on := 8, ground := Go.Ground.data }], guard := none }) rfl (fun K hK => ?_) AllReadyH.nil)
        go_simp
        replace hHeld := unhide HS3
        refine hK.out _ _ hHeld (fun _ => ?_)
        clear hK K
        try simp only [Act.put, List.setIfInBounds_toArray, List.set_cons_zero, List.set_cons_succ]
        refine wpAnyH_ready (rs := [10]) (by kernel_rfl) (by simp) (AllReadyH.cons (o := { dst := some 27, op := Go.Op.call { callee := Go.Callee.builtin Go.Builtin.append, args := #[Go.Operand.tmp 18, Go.Operand.tmp 26], argTypes := #[45, 45] }, type := 45, pos := "l7_lay.go:87", after := #[{ on := 1, ground := Go.Ground.data }, { on := 9, ground := Go.Ground.data }, { on := 8, ground := Go.Ground.chain }], guard := none }) rfl (fun K hK => ?_) AllReadyH.nil)
        refine step_run rfl (.tmp 18) (.tmp 26) 45 45 rfl _ _ _ (by simp [Act.eval]) (by simp [Act.eval]) (unhide HR2) ?_
        replace hHeld := unhide HS4
        refine hK.out _ _ hHeld (fun _ => ?_)
        clear hK K
        try simp only [Act.put, List.setIfInBounds_toArray, List.set_cons_zero, List.set_cons_succ]
        refine wpAnyH_take (i := 11) (oi := { dst := some 28, op := Go.Op.fieldAddr 47 (Go.Operand.tmp 3) 1, type := 0, pos := "l7_lay.go:87", after := #[{ on := 0, ground := Go.Ground.phase }, { on := 1, ground := Go.Ground.phase }, { on := 2, ground := Go.Ground.phase }, { on := 3, ground := Go.Ground.phase }, { on := 4, ground := Go.Ground.phase }, { on := 5, ground := Go.Ground.phase }, { on := 6, ground := Go.Ground.phase }, { on := 7, ground := Go.Ground.phase }, { on := 8, ground := Go.Ground.phase }, { on := 9, ground := Go.Ground.phase }, { on := 10, ground := Go.Ground.phase }], guard := none }) (v := ?v66_11) rfl (by kernel_rfl) (by kernel_rfl) (by kernel_rfl) (fun _ _ _ h => h) (Or.inl ⟨by rfl, ?y66_11⟩) (by assumption) ?r66_11
        case y66_11 => (intro w hSw; (try dsimp only at hSw); go_simp; try (with_reducible rfl))
        try simp only [Act.put, List.setIfInBounds_toArray, List.set_cons_zero, List.set_cons_succ]
        refine wpAnyH_ready (rs := [12]) (by kernel_rfl) (by simp) (AllReadyH.cons (o := { dst := none, op := Go.Op.store 45 (Go.Operand.tmp 28) (Go.Operand.tmp 27), type := 0, pos := "l7_lay.go:87", after := #[{ on := 11, ground := Go.Ground.data }, { on := 10, ground := Go.Ground.data }, { on := 10, ground := Go.Ground.chain }, { on := 0, ground := Go.Ground.phase }, { on := 1, ground := Go.Ground.phase }, { on := 2, ground := Go.Ground.phase }, { on := 3, ground := Go.Ground.phase }, { on := 4, ground := Go.Ground.phase }, { on := 5, ground := Go.Ground.phase }, { on := 6, ground := Go.Ground.phase }, { on := 7, ground := Go.Ground.phase }, { on := 8, ground := Go.Ground.phase }, { on := 9, ground := Go.Ground.phase }, { on := 10, ground := Go.Ground.phase }], guard := none }) rfl (fun K hK => ?_) AllReadyH.nil)
        have hO4 := unhide HO4
        go_simp
        replace hHeld := unhide HS5
        refine hK.out _ _ hHeld (fun _ => ?_)
        clear hK K
        try simp only [Act.put]
        refine wpAnyH_done (by kernel_rfl) ?_ _
        clear hHeld
        go_wp2_with fail
        exact ⟨⟨st1 ++ [ss], a4, c4, vs ++ [.slice a2 ss.length c2], by rw [List.length_append]; show st1.length + 1 ≤ _; omega, by rw [List.length_append]; exact unhide HSN, by rw [List.length_append]; go_num, by first | exact unhide HC5 | exact CS.next (unhide HC5) (below_draws _ _ _) | exact CS.next (unhide HC5) (Below.refl _ _).drew⟩, by simp [intOf]; omega⟩
      · skip
        go_simp
        replace hHeld := unhide HS1
        refine hK.out _ _ hHeld (fun _ => ?_)
        clear hK K
        try simp only [Act.put, List.setIfInBounds_toArray, List.set_cons_zero, List.set_cons_succ]
        refine wpAnyH_ready (rs := [1, 8]) (by kernel_rfl) (by simp) (AllReadyH.cons (o := { dst := some 18, op := Go.Op.load 45 (Go.Operand.tmp 17), type := 45, pos := "l7_lay.go:87", after := #[{ on := 0, ground := Go.Ground.data }], guard := none }) rfl (fun K hK => ?_) (AllReadyH.cons (o := { dst := some 25, op := Go.Op.call { callee := Go.Callee.builtin Go.Builtin.append, args := #[Go.Operand.tmp 19, Go.Operand.tmp 24], argTypes := #[60, 60] }, type := 60, pos := "l7_lay.go:87", after := #[{ on := 2, ground := Go.Ground.data }, { on := 7, ground := Go.Ground.data }], guard := none }) rfl (fun K hK => ?_) AllReadyH.nil))
        · skip
          have hOx : World.cell? (wr.alloc (.cells #[] 9)) ⟨O, 1, none⟩ = some (.slice oa st1.length c) := unhide HO1
          go_simp
          refine hK.out _ _ hHeld (fun _ => ?_)
          clear hK K hOx
          try simp only [Act.put, List.setIfInBounds_toArray, List.set_cons_zero, List.set_cons_succ]
          refine wpAnyH_ready (rs := [8]) (by kernel_rfl) (by simp) (AllReadyH.cons (o := { dst := some 25, op := Go.Op.call { callee := Go.Callee.builtin Go.Builtin.append, args := #[Go.Operand.tmp 19, Go.Operand.tmp 24], argTypes := #[60, 60] }, type := 60, pos := "l7_lay.go:87", after := #[{ on := 2, ground := Go.Ground.data }, { on := 7, ground := Go.Ground.data }], guard := none }) rfl (fun K hK => ?_) AllReadyH.nil)
          refine step_run rfl (.tmp 19) (.tmp 24) 60 60 rfl _ _ _ (by simp [Act.eval]) (by simp [Act.eval]) (unhide HR1) ?_
          replace hHeld := unhide HS2
          refine hK.out _ _ hHeld (fun _ => ?_)
          clear hK K
          try simp only [Act.put, List.setIfInBounds_toArray, List.set_cons_zero, List.set_cons_succ]
          refine wpAnyH_ready (rs := [9]) (by kernel_rfl) (by simp) (AllReadyH.cons (o := { dst := some 26, op := Go.Op.buildSlice 45 1 #[(0, Go.Operand.tmp 25)], type := 45, pos := "l7_lay.go:87", after := #[{ on := 8, ground := Go.Ground.data }], guard := none }) rfl (fun K hK => ?_) AllReadyH.nil)
          go_simp
          replace hHeld := unhide HS3
          refine hK.out _ _ hHeld (fun _ => ?_)
          clear hK K
          try simp only [Act.put, List.setIfInBounds_toArray, List.set_cons_zero, List.set_cons_succ]
          refine wpAnyH_ready (rs := [10]) (by kernel_rfl) (by simp) (AllReadyH.cons (o := { dst := some 27, op := Go.Op.call { callee := Go.Callee.builtin Go.Builtin.append, args := #[Go.Operand.tmp 18, Go.Operand.tmp 26], argTypes := #[45, 45] }, type := 45, pos := "l7_lay.go:87", after := #[{ on := 1, ground := Go.Ground.data }, { on := 9, ground := Go.Ground.data }, { on := 8, ground := Go.Ground.chain }], guard := none }) rfl (fun K hK => ?_) AllReadyH.nil)
          refine step_run rfl (.tmp 18) (.tmp 26) 45 45 rfl _ _ _ (by simp [Act.eval]) (by simp [Act.eval]) (unhide HR2) ?_
          replace hHeld := unhide HS4
          refine hK.out _ _ hHeld (fun _ => ?_)
          clear hK K
          try simp only [Act.put, List.setIfInBounds_toArray, List.set_cons_zero, List.set_cons_succ]
          refine wpAnyH_take (i := 11) (oi := { dst := some 28, op := Go.Op.fieldAddr 47 (Go.Operand.tmp 3) 1, type := 0, pos := "l7_lay.go:87", after := #[{ on := 0, ground := Go.Ground.phase }, { on := 1, ground := Go.Ground.phase }, { on := 2, ground := Go.Ground.phase }, { on := 3, ground := Go.Ground.phase }, { on := 4, ground := Go.Ground.phase }, { on := 5, ground := Go.Ground.phase }, { on := 6, ground := Go.Ground.phase }, { on := 7, ground := Go.Ground.phase }, { on := 8, ground := Go.Ground.phase }, { on := 9, ground := Go.Ground.phase }, { on := 10, ground := Go.Ground.phase }], guard := none }) (v := ?v111_11) rfl (by kernel_rfl) (by kernel_rfl) (by kernel_rfl) (fun _ _ _ h => h) (Or.inl ⟨by rfl, ?y111_11⟩) (by assumption) ?r111_11
          case y111_11 => (intro w hSw; (try dsimp only at hSw); go_simp; try (with_reducible rfl))
          try simp only [Act.put, List.setIfInBounds_toArray, List.set_cons_zero, List.set_cons_succ]
          refine wpAnyH_ready (rs := [12]) (by kernel_rfl) (by simp) (AllReadyH.cons (o := { dst := none, op := Go.Op.store 45 (Go.Operand.tmp 28) (Go.Operand.tmp 27), type := 0, pos := "l7_lay.go:87", after := #[{ on := 11, ground := Go.Ground.data }, { on := 10, ground := Go.Ground.data }, { on := 10, ground := Go.Ground.chain }, { on := 0, ground := Go.Ground.phase }, { on := 1, ground := Go.Ground.phase }, { on := 2, ground := Go.Ground.phase }, { on := 3, ground := Go.Ground.phase }, { on := 4, ground := Go.Ground.phase }, { on := 5, ground := Go.Ground.phase }, { on := 6, ground := Go.Ground.phase }, { on := 7, ground := Go.Ground.phase }, { on := 8, ground := Go.Ground.phase }, { on := 9, ground := Go.Ground.phase }, { on := 10, ground := Go.Ground.phase }], guard := none }) rfl (fun K hK => ?_) AllReadyH.nil)
          have hO4 := unhide HO4
          go_simp
          replace hHeld := unhide HS5
          refine hK.out _ _ hHeld (fun _ => ?_)
          clear hK K
          try simp only [Act.put]
          refine wpAnyH_done (by kernel_rfl) ?_ _
          clear hHeld
          go_wp2_with fail
          exact ⟨⟨st1 ++ [ss], a4, c4, vs ++ [.slice a2 ss.length c2], by rw [List.length_append]; show st1.length + 1 ≤ _; omega, by rw [List.length_append]; exact unhide HSN, by rw [List.length_append]; go_num, by first | exact unhide HC5 | exact CS.next (unhide HC5) (below_draws _ _ _) | exact CS.next (unhide HC5) (Below.refl _ _).drew⟩, by simp [intOf]; omega⟩
        · skip
          refine step_run rfl (.tmp 19) (.tmp 24) 60 60 rfl _ _ _ (by simp [Act.eval]) (by simp [Act.eval]) (unhide HR1) ?_
          replace hHeld := unhide HS2
          refine hK.out _ _ hHeld (fun _ => ?_)
          clear hK K
          try simp only [Act.put, List.setIfInBounds_toArray, List.set_cons_zero, List.set_cons_succ]
          refine wpAnyH_ready (rs := [1, 9]) (by kernel_rfl) (by simp) (AllReadyH.cons (o := { dst := some 18, op := Go.Op.load 45 (Go.Operand.tmp 17), type := 45, pos := "l7_lay.go:87", after := #[{ on := 0, ground := Go.Ground.data }], guard := none }) rfl (fun K hK => ?_) (AllReadyH.cons (o := { dst := some 26, op := Go.Op.buildSlice 45 1 #[(0, Go.Operand.tmp 25)], type := 45, pos := "l7_lay.go:87", after := #[{ on := 8, ground := Go.Ground.data }], guard := none }) rfl (fun K hK => ?_) AllReadyH.nil))
          · skip
            have hOx := unhide HO2
            go_simp
            refine hK.out _ _ hHeld (fun _ => ?_)
            clear hK K hOx
            try simp only [Act.put, List.setIfInBounds_toArray, List.set_cons_zero, List.set_cons_succ]
            refine wpAnyH_ready (rs := [9]) (by kernel_rfl) (by simp) (AllReadyH.cons (o := { dst := some 26, op := Go.Op.buildSlice 45 1 #[(0, Go.Operand.tmp 25)], type := 45, pos := "l7_lay.go:87", after := #[{ on := 8, ground := Go.Ground.data }], guard := none }) rfl (fun K hK => ?_) AllReadyH.nil)
            go_simp
            replace hHeld := unhide HS3
            refine hK.out _ _ hHeld (fun _ => ?_)
            clear hK K
            try simp only [Act.put, List.setIfInBounds_toArray, List.set_cons_zero, List.set_cons_succ]
            refine wpAnyH_ready (rs := [10]) (by kernel_rfl) (by simp) (AllReadyH.cons (o := { dst := some 27, op := Go.Op.call { callee := Go.Callee.builtin Go.Builtin.append, args := #[Go.Operand.tmp 18, Go.Operand.tmp 26], argTypes := #[45, 45] }, type := 45, pos := "l7_lay.go:87", after := #[{ on := 1, ground := Go.Ground.data }, { on := 9, ground := Go.Ground.data }, { on := 8, ground := Go.Ground.chain }], guard := none }) rfl (fun K hK => ?_) AllReadyH.nil)
            refine step_run rfl (.tmp 18) (.tmp 26) 45 45 rfl _ _ _ (by simp [Act.eval]) (by simp [Act.eval]) (unhide HR2) ?_
            replace hHeld := unhide HS4
            refine hK.out _ _ hHeld (fun _ => ?_)
            clear hK K
            try simp only [Act.put, List.setIfInBounds_toArray, List.set_cons_zero, List.set_cons_succ]
            refine wpAnyH_take (i := 11) (oi := { dst := some 28, op := Go.Op.fieldAddr 47 (Go.Operand.tmp 3) 1, type := 0, pos := "l7_lay.go:87", after := #[{ on := 0, ground := Go.Ground.phase }, { on := 1, ground := Go.Ground.phase }, { on := 2, ground := Go.Ground.phase }, { on := 3, ground := Go.Ground.phase }, { on := 4, ground := Go.Ground.phase }, { on := 5, ground := Go.Ground.phase }, { on := 6, ground := Go.Ground.phase }, { on := 7, ground := Go.Ground.phase }, { on := 8, ground := Go.Ground.phase }, { on := 9, ground := Go.Ground.phase }, { on := 10, ground := Go.Ground.phase }], guard := none }) (v := ?v150_11) rfl (by kernel_rfl) (by kernel_rfl) (by kernel_rfl) (fun _ _ _ h => h) (Or.inl ⟨by rfl, ?y150_11⟩) (by assumption) ?r150_11
            case y150_11 => (intro w hSw; (try dsimp only at hSw); go_simp; try (with_reducible rfl))
            try simp only [Act.put, List.setIfInBounds_toArray, List.set_cons_zero, List.set_cons_succ]
            refine wpAnyH_ready (rs := [12]) (by kernel_rfl) (by simp) (AllReadyH.cons (o := { dst := none, op := Go.Op.store 45 (Go.Operand.tmp 28) (Go.Operand.tmp 27), type := 0, pos := "l7_lay.go:87", after := #[{ on := 11, ground := Go.Ground.data }, { on := 10, ground := Go.Ground.data }, { on := 10, ground := Go.Ground.chain }, { on := 0, ground := Go.Ground.phase }, { on := 1, ground := Go.Ground.phase }, { on := 2, ground := Go.Ground.phase }, { on := 3, ground := Go.Ground.phase }, { on := 4, ground := Go.Ground.phase }, { on := 5, ground := Go.Ground.phase }, { on := 6, ground := Go.Ground.phase }, { on := 7, ground := Go.Ground.phase }, { on := 8, ground := Go.Ground.phase }, { on := 9, ground := Go.Ground.phase }, { on := 10, ground := Go.Ground.phase }], guard := none }) rfl (fun K hK => ?_) AllReadyH.nil)
            have hO4 := unhide HO4
            go_simp
            replace hHeld := unhide HS5
            refine hK.out _ _ hHeld (fun _ => ?_)
            clear hK K
            try simp only [Act.put]
            refine wpAnyH_done (by kernel_rfl) ?_ _
            clear hHeld
            go_wp2_with fail
            exact ⟨⟨st1 ++ [ss], a4, c4, vs ++ [.slice a2 ss.length c2], by rw [List.length_append]; show st1.length + 1 ≤ _; omega, by rw [List.length_append]; exact unhide HSN, by rw [List.length_append]; go_num, by first | exact unhide HC5 | exact CS.next (unhide HC5) (below_draws _ _ _) | exact CS.next (unhide HC5) (Below.refl _ _).drew⟩, by simp [intOf]; omega⟩
          · skip
            go_simp
            replace hHeld := unhide HS3
            refine hK.out _ _ hHeld (fun _ => ?_)
            clear hK K
            try simp only [Act.put, List.setIfInBounds_toArray, List.set_cons_zero, List.set_cons_succ]
            refine wpAnyH_ready (rs := [1]) (by kernel_rfl) (by simp) (AllReadyH.cons (o := { dst := some 18, op := Go.Op.load 45 (Go.Operand.tmp 17), type := 45, pos := "l7_lay.go:87", after := #[{ on := 0, ground := Go.Ground.data }], guard := none }) rfl (fun K hK => ?_) AllReadyH.nil)
            have hOx := unhide HO3
            go_simp
            refine hK.out _ _ hHeld (fun _ => ?_)
            clear hK K hOx
            try simp only [Act.put, List.setIfInBounds_toArray, List.set_cons_zero, List.set_cons_succ]
            refine wpAnyH_ready (rs := [10]) (by kernel_rfl) (by simp) (AllReadyH.cons (o := { dst := some 27, op := Go.Op.call { callee := Go.Callee.builtin Go.Builtin.append, args := #[Go.Operand.tmp 18, Go.Operand.tmp 26], argTypes := #[45, 45] }, type := 45, pos := "l7_lay.go:87", after := #[{ on := 1, ground := Go.Ground.data }, { on := 9, ground := Go.Ground.data }, { on := 8, ground := Go.Ground.chain }], guard := none }) rfl (fun K hK => ?_) AllReadyH.nil)
            refine step_run rfl (.tmp 18) (.tmp 26) 45 45 rfl _ _ _ (by simp [Act.eval]) (by simp [Act.eval]) (unhide HR2) ?_
            replace hHeld := unhide HS4
            refine hK.out _ _ hHeld (fun _ => ?_)
            clear hK K
            try simp only [Act.put, List.setIfInBounds_toArray, List.set_cons_zero, List.set_cons_succ]
            refine wpAnyH_take (i := 11) (oi := { dst := some 28, op := Go.Op.fieldAddr 47 (Go.Operand.tmp 3) 1, type := 0, pos := "l7_lay.go:87", after := #[{ on := 0, ground := Go.Ground.phase }, { on := 1, ground := Go.Ground.phase }, { on := 2, ground := Go.Ground.phase }, { on := 3, ground := Go.Ground.phase }, { on := 4, ground := Go.Ground.phase }, { on := 5, ground := Go.Ground.phase }, { on := 6, ground := Go.Ground.phase }, { on := 7, ground := Go.Ground.phase }, { on := 8, ground := Go.Ground.phase }, { on := 9, ground := Go.Ground.phase }, { on := 10, ground := Go.Ground.phase }], guard := none }) (v := ?v182_11) rfl (by kernel_rfl) (by kernel_rfl) (by kernel_rfl) (fun _ _ _ h => h) (Or.inl ⟨by rfl, ?y182_11⟩) (by assumption) ?r182_11
            case y182_11 => (intro w hSw; (try dsimp only at hSw); go_simp; try (with_reducible rfl))
            try simp only [Act.put, List.setIfInBounds_toArray, List.set_cons_zero, List.set_cons_succ]
            refine wpAnyH_ready (rs := [12]) (by kernel_rfl) (by simp) (AllReadyH.cons (o := { dst := none, op := Go.Op.store 45 (Go.Operand.tmp 28) (Go.Operand.tmp 27), type := 0, pos := "l7_lay.go:87", after := #[{ on := 11, ground := Go.Ground.data }, { on := 10, ground := Go.Ground.data }, { on := 10, ground := Go.Ground.chain }, { on := 0, ground := Go.Ground.phase }, { on := 1, ground := Go.Ground.phase }, { on := 2, ground := Go.Ground.phase }, { on := 3, ground := Go.Ground.phase }, { on := 4, ground := Go.Ground.phase }, { on := 5, ground := Go.Ground.phase }, { on := 6, ground := Go.Ground.phase }, { on := 7, ground := Go.Ground.phase }, { on := 8, ground := Go.Ground.phase }, { on := 9, ground := Go.Ground.phase }, { on := 10, ground := Go.Ground.phase }], guard := none }) rfl (fun K hK => ?_) AllReadyH.nil)
            have hO4 := unhide HO4
            go_simp
            replace hHeld := unhide HS5
            refine hK.out _ _ hHeld (fun _ => ?_)
            clear hK K
            try simp only [Act.put]
            refine wpAnyH_done (by kernel_rfl) ?_ _
            clear hHeld
            go_wp2_with fail
            exact ⟨⟨st1 ++ [ss], a4, c4, vs ++ [.slice a2 ss.length c2], by rw [List.length_append]; show st1.length + 1 ≤ _; omega, by rw [List.length_append]; exact unhide HSN, by rw [List.length_append]; go_num, by first | exact unhide HC5 | exact CS.next (unhide HC5) (below_draws _ _ _) | exact CS.next (unhide HC5) (Below.refl _ _).drew⟩, by simp [intOf]; omega⟩
    · have hke : st1.length = st.length := by omega
      have hst : st1 = st := by
        have h := unhide HTK
        rw [hke, List.take_length] at h
        exact h
      subst hst
      obtain ⟨_, _, e1, n1, n2⟩ := form_of (unhide HC).rows.num
      simp only [Value.slice.injEq] at e1
      obtain ⟨rfl, _, rfl⟩ := e1
      obtain ⟨_, _, e2, m1, m2⟩ := form_of (unhide HC).rows.out
      simp only [Value.slice.injEq] at e2
      obtain ⟨rfl, _, rfl⟩ := e2
      have hZ := box2 (unhide HC).res
      go_wp2_with fail
      refine bodyPost_ret (v := .agg #[.slice a1 zs.length c1, .slice oa st1.length c]) (by simp [results, Tryz.results128, go_sem, hZ]) rfl ⟨a1, c1, oa, c, vs, rfl, n1, n2, m1, m2, ?_, ((unhide HC).blw.setCell (by show w.heap.size ≤ w.heap.size + 1; omega) _).setCell (by show w.heap.size ≤ w.heap.size + 1; omega) _⟩
      exact OL.set (OL.set (unhide HC).rows (unhide HC).res) (block_setCell (unhide HC).res _)
end Go.Proofs.YthbbmookhcalkaaGreatDoor.LayZ
