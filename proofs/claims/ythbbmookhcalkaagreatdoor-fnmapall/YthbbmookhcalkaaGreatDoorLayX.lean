/- The contract of the specification's l7Lay. -/
import Derived.Test.YthbbmookhcalkaaGreatDoorPkd23958c8
namespace Go.Proofs.YthbbmookhcalkaaGreatDoor.LayX
open Go.ChangeShapes Go.WideShapes Go.ChangeAt Go.RowKit Go.Joins Go.Deep
open Go.Proofs.YthbbmookhcalkaaGreatDoor.Base Go.Proofs.YthbbmookhcalkaaGreatDoor.InsA Go.Proofs.YthbbmookhcalkaaGreatDoor.Funs Go.Proofs.YthbbmookhcalkaaGreatDoor.Open Go.Proofs.YthbbmookhcalkaaGreatDoor.FunS Go.Proofs.YthbbmookhcalkaaGreatDoor.Keep Go.Proofs.YthbbmookhcalkaaGreatDoor.UnitS Go.Proofs.YthbbmookhcalkaaGreatDoor.Refs Go.Proofs.YthbbmookhcalkaaGreatDoor.Mark Go.Proofs.YthbbmookhcalkaaGreatDoor.LayN Go.Proofs.YthbbmookhcalkaaGreatDoor.LayA Go.Proofs.YthbbmookhcalkaaGreatDoor.KeepD Go.Proofs.YthbbmookhcalkaaGreatDoor.KeepA Go.Proofs.YthbbmookhcalkaaGreatDoor.LayD Go.Proofs.YthbbmookhcalkaaGreatDoor.LayS Go.Proofs.YthbbmookhcalkaaGreatDoor.LayT Go.Proofs.YthbbmookhcalkaaGreatDoor.LayU Go.Proofs.YthbbmookhcalkaaGreatDoor.LayW
set_option linter.unusedVariables false
set_option maxRecDepth 100000

/-- Lists of names of the call's own: block S, each list in a row of its own. -/
def RowsO (w : World) (S B : Nat) (st : List (List ByteArray)) : Prop :=
  ∃ C : Array Value, w.heap[S]? = some (.cells C 60) ∧ C.size = st.length ∧ (∀ i (h : i < st.length), ∃ v, C[i]? = some v ∧ StrOwn w B v st[i]) ∧ ∀ (i j : Nat) (v u : Value), i ≠ j → C[i]? = some v → C[j]? = some u → v.ownBlock = none ∨ v.ownBlock ≠ u.ownBlock
theorem infoTextsX : (Tryz.prog.info? 60).map (fun i => (i.zero, i.size, i.bytes)) = some (some (.slice none 0 0), 1, 24) := by kernel_rfl
theorem makeTextssX (n : Nat) (hn : n ≤ 1048576) (w : World) : (Instr.makeSlice 45 (.int .i64 (n : Int)) (.int .i64 (n : Int))).run Tryz.prog w = .ok (.slice (some ⟨w.heap.size, 0, none⟩) n n) (w.alloc (.cells (madeCells #[.slice none 0 0] n) 60)) := by
  obtain ⟨i, hi, h⟩ := Option.map_eq_some_iff.1 infoTextsX
  simp only [Prod.mk.injEq] at h
  obtain ⟨h1, h2, h3⟩ := h
  have := run_make (P := Tryz.prog) w 45 60 i _ Tryz.underlying45 hi h1 .i64 .i64 (n : Int) (n : Int) (by omega) (Int.le_refl _) (by rw [h3]; omega) (by omega)
  rw [h2] at this
  simpa [Value.cells] using this
theorem str_kept {w w' : World} {B : Nat} {v : Value} {ss : List ByteArray} {r : Option Nat} (h : StrOwn w B v ss) (hg : w.grownBy w' r) (hne : v.ownBlock = none ∨ v.ownBlock ≠ r) : StrOwn w' B v ss := World.ownsRow.kept h hg hne
theorem grown_bel {w w' : World} (h : Below w.heap.size w w') (r : Option Nat) : w.grownBy w' r := ⟨h.os, h.tape, h.output, h.size, fun q hq _ => h.block q hq⟩
theorem RowsO.next {w w' : World} {S B : Nat} {st : List (List ByteArray)} (h : RowsO w S B st) (hb : Below w.heap.size w w') : RowsO w' S B st := by
  obtain ⟨C, h1, h2, h3, h4⟩ := h
  exact ⟨C, box_below h1 hb, h2, fun i hi => by obtain ⟨v, k1, k2⟩ := h3 i hi; exact ⟨v, k1, k2.below hb⟩, h4⟩
theorem RowsO.lt {w : World} {S B : Nat} {st : List (List ByteArray)} (h : RowsO w S B st) : S < w.heap.size := by
  obtain ⟨C, h1, _⟩ := h
  exact (Array.getElem?_eq_some_iff.1 h1).1
theorem str_off {w : World} {B S : Nat} {C : Array Value} {v : Value} {ss : List ByteArray} (h : StrOwn w B v ss) (hS : w.heap[S]? = some (.cells C 60)) : v.ownBlock ≠ some S := fun e => by
  obtain ⟨_, ⟨h1, h0⟩ | ⟨g, cap, cur, h1, hB, hg, hn, hm, hs, ht⟩⟩ := h
  · rw [h1] at e; cases e
  · rw [h1] at e
    cases e
    rw [hg] at hS
    simp at hS
theorem RowsO.texts {w : World} {S B n : Nat} {st : List (List ByteArray)} (h : RowsO w S B st) (hs : Short st n) : TextsRow w (some ⟨S, 0, none⟩) st := by
  obtain ⟨C, h1, h2, h3, _⟩ := h
  refine .inr ⟨S, 0, rfl, fun i hi => ?_⟩
  obtain ⟨v, k1, k2⟩ := h3 i hi
  obtain ⟨a, c, rfl, e1, e2⟩ := form_of k2
  obtain ⟨a', c', e3, e4, e5, e6⟩ := k2.at
  simp only [Value.slice.injEq] at e3
  obtain ⟨rfl, _, rfl⟩ := e3
  refine ⟨a, c, by rw [Nat.zero_add, cell_of_block h1]; exact k1, e1, e2, ?_⟩
  obtain ⟨_, hz⟩ := hs _ (List.getElem_mem hi)
  rcases e6 with e6 | ⟨b, o, e6, e7⟩
  · exact .inl e6
  · exact .inr ⟨b, o, e6, fun j hj => ⟨e7 j hj, hz _ (List.getElem_mem _)⟩⟩
theorem RowsO.get {w : World} {S B i : Nat} {st : List (List ByteArray)} (h : RowsO w S B st) (hi : i < st.length) : ∃ a c, w.cell? ⟨S, i, none⟩ = some (.slice a st[i].length c) ∧ w.frozen? ⟨S, i, none⟩ = false ∧ StrOwn w B (.slice a st[i].length c) st[i] := by
  obtain ⟨C, h1, h2, h3, _⟩ := h
  obtain ⟨v, k1, k2⟩ := h3 i hi
  obtain ⟨a, c, rfl, e1, e2⟩ := form_of k2
  exact ⟨a, c, by rw [cell_of_block h1]; exact k1, unfrozen_of_block h1 i, k2⟩
theorem RowsO.add {w w4 : World} {S B i c : Nat} {a : Option Addr} {v4 : Value} {s : ByteArray} {o : Obj} {st : List (List ByteArray)} (h : RowsO w S B st) (hi : i < st.length) (hc : w.cell? ⟨S, i, none⟩ = some (.slice a st[i].length c)) (hg : (w.alloc o).grownBy w4 (Value.slice a st[i].length c).ownBlock) (ho : StrOwn w4 B v4 (st[i] ++ [s])) (hat : v4.ownBlock = (Value.slice a st[i].length c).ownBlock ∨ v4.ownBlock = some (w.alloc o).heap.size) :
    (w4.cell? ⟨S, i, none⟩ = some (.slice a st[i].length c) ∧ w4.frozen? ⟨S, i, none⟩ = false) ∧ RowsO (w4.setCell ⟨S, i, none⟩ v4) S B (addSt st i s) := by
  obtain ⟨C, h1, h2, h3, h4⟩ := h
  have hSl := (Array.getElem?_eq_some_iff.1 h1).1
  have hCi : C[i]? = some (.slice a st[i].length c) := by rw [cell_of_block h1] at hc; exact hc
  obtain ⟨v, k1, k2⟩ := h3 i hi
  rw [hCi] at k1
  cases k1
  have hoff := str_off k2 h1
  have hg' : w.grownBy w4 (Value.slice a st[i].length c).ownBlock := (grown_bel (below_alloc1 w o) _).trans hg
  have hS4 : w4.heap[S]? = some (.cells C 60) := (hg'.block S hSl (fun e => hoff e.symm)).trans h1
  have hset := (But.refl S w4).set i v4
  have h4off : v4.ownBlock ≠ some S := str_off ho hS4
  refine ⟨⟨by rw [cell_of_block hS4]; exact hCi, unfrozen_of_block hS4 i⟩, ⟨_, block_setCell hS4 _, by rw [addSt_len]; simp [h2], fun j hj => ?_, fun p q x y hpq hx hy => ?_⟩⟩
  · rw [addSt_len] at hj
    by_cases e : j = i
    · subst e
      refine ⟨v4, by rw [Array.getElem?_setIfInBounds_self_of_lt (by omega)], ?_⟩
      have e2 : (addSt st j s)[j]'(by rw [addSt_len]; exact hi) = st[j] ++ [s] := by simp [addSt, stAt_is hi]
      rw [e2]
      exact str_kept ho hset (.inr h4off)
    · obtain ⟨v, q1, q2⟩ := h3 j hj
      refine ⟨v, by rw [Array.getElem?_setIfInBounds_ne (fun e' => e e'.symm)]; exact q1, ?_⟩
      have e2 : (addSt st i s)[j]'(by rw [addSt_len]; exact hj) = st[j] := by simp [addSt, Ne.symm e]
      rw [e2]
      have q3 := str_kept q2 hg' (h4 j i _ _ e q1 hCi)
      exact str_kept q3 hset (.inr (str_off q2 h1))
  · have key : ∀ j u, j ≠ i → C[j]? = some u → v4.ownBlock = none ∨ v4.ownBlock ≠ u.ownBlock := fun j u hj hu => by
      rcases hat with e | e
      · rw [e]; exact h4 i j _ u (Ne.symm hj) hCi hu
      · refine .inr (fun e' => ?_)
        rw [e] at e'
        have hjs : j < st.length := by have := (Array.getElem?_eq_some_iff.1 hu).1; omega
        obtain ⟨u', q1, q2⟩ := h3 j hjs
        rw [hu] at q1
        cases q1
        have := (World.ownsRow.lt q2 _ e'.symm).2
        simp at this
        omega
    by_cases ep : p = i
    · subst ep
      rw [Array.getElem?_setIfInBounds_self_of_lt (by omega)] at hx
      cases hx
      rw [Array.getElem?_setIfInBounds_ne (fun e => hpq e)] at hy
      exact key q y (Ne.symm hpq) hy
    · rw [Array.getElem?_setIfInBounds_ne (fun e => ep e.symm)] at hx
      by_cases eq : q = i
      · subst eq
        rw [Array.getElem?_setIfInBounds_self_of_lt (by omega)] at hy
        cases hy
        rcases key p x ep hx with e | e
        · cases hxo : x.ownBlock with
          | none => exact .inl rfl
          | some g => exact .inr (by rw [e]; simp)
        · exact .inr (fun e' => e e'.symm)
      · rw [Array.getElem?_setIfInBounds_ne (fun e => eq e.symm)] at hy
        exact h4 p q x y hpq hx hy
theorem made_is {z : Value} {n u : Nat} (h : u < n) : (madeCells #[z] n)[u]? = some z := by
  unfold madeCells
  simp [h, Nat.mod_one]

theorem RowsO.made (w : World) (n : Nat) {B : Nat} : RowsO (w.alloc (.cells (madeCells #[.slice none 0 0] n) 60)) w.heap.size B (List.replicate n []) := by
  refine ⟨_, new_block w _, by simp [size_madeCells], fun i hi => ⟨.slice none 0 0, ?_, ?_⟩, fun i j v u _ hv _ => .inl ?_⟩
  · have hi' : i < n := by simpa using hi
    exact made_is hi'
  · rw [List.getElem_replicate]; exact World.ownsRow_nil _ _ _ _
  · have hi : i < n := by have := (Array.getElem?_eq_some_iff.1 hv).1; simpa [size_madeCells] using this
    rw [made_is hi] at hv
    cases hv
    rfl
theorem str_info : ∃ i, Tryz.prog.info? 9 = some i ∧ i.zero = some (.string ⟨#[]⟩) ∧ i.size = 1 ∧ i.bytes = 16 := by
  obtain ⟨i, hi, h⟩ := Option.map_eq_some_iff.1 infoStr
  simp only [Prod.mk.injEq] at h
  exact ⟨i, hi, h⟩
/-- What is told of a program as it is laid; nothing, if there is no way. -/
def LayIs (w w' : World) (fs : List FunD) (o : Option (List (List ByteArray))) (e : Ending) : Prop :=
  Below w.heap.size w w' ∧ ((o = none ∧ e = .returned (.tuple #[.agg #[.slice none 0 0, .slice none 0 0], .int .i64 1])) ∨ ∃ st na nc S, o = some st ∧ e = .returned (.tuple #[.agg #[.slice na fs.length nc, .slice (some ⟨S, 0, none⟩) fs.length fs.length], .int .i64 0]) ∧ fs.length ≤ nc ∧ nc ≤ maxLen ∧ st.length = fs.length ∧ Short st 401 ∧ NumRow w' na (places fs st) ∧ TextsRow w' (some ⟨S, 0, none⟩) st)
/-- A store into the block of an answer leaves what is no part of it. -/
theorem num_off {w : World} {H : Nat} {v u : Value} {a : Option Addr} {zs : List Int} {a0 a1 : Option Addr} {n0 c0 n1 c1 : Nat} {t : TypeId} (h : NumRow w a zs) (hH : w.heap[H]? = some (.cells #[.slice a0 n0 c0, .slice a1 n1 c1] t)) : NumRow ((w.setCell ⟨H, 0, none⟩ v).setCell ⟨H, 1, none⟩ u) a zs := by
  rcases h with h | ⟨b, off, ha, h⟩
  · exact .inl h
  · refine .inr ⟨b, off, ha, fun i hi => ?_⟩
    have hne : H ≠ b := fun e => by
      have hc := h i hi
      subst e
      rw [cell_of_block hH] at hc
      generalize off + i = m at hc
      match m, hc with
      | 0, hc => simp at hc
      | 1, hc => simp at hc
      | n + 2, hc => simp at hc
    rw [World.cell?_setCell_far _ _ _ _ hne, World.cell?_setCell_far _ _ _ _ hne]
    exact h i hi
theorem text_off {w : World} {H : Nat} {v u : Value} {a : Option Addr} {ss : List ByteArray} {a0 a1 : Option Addr} {n0 c0 n1 c1 : Nat} {t : TypeId} (h : TextRow w a ss) (hH : w.heap[H]? = some (.cells #[.slice a0 n0 c0, .slice a1 n1 c1] t)) : TextRow ((w.setCell ⟨H, 0, none⟩ v).setCell ⟨H, 1, none⟩ u) a ss := by
  rcases h with h | ⟨b, off, ha, h⟩
  · exact .inl h
  · refine .inr ⟨b, off, ha, fun i hi => ?_⟩
    have hne : H ≠ b := fun e => by
      have hc := (h i hi).1
      subst e
      rw [cell_of_block hH] at hc
      generalize off + i = m at hc
      match m, hc with
      | 0, hc => simp at hc
      | 1, hc => simp at hc
      | n + 2, hc => simp at hc
    rw [World.cell?_setCell_far _ _ _ _ hne, World.cell?_setCell_far _ _ _ _ hne]
    exact h i hi
theorem texts_off {w : World} {H S : Nat} {v u : Value} {st : List (List ByteArray)} {a0 a1 : Option Addr} {n0 c0 n1 c1 : Nat} {t : TypeId} (h : TextsRow w (some ⟨S, 0, none⟩) st) (hS : H ≠ S) (hH : w.heap[H]? = some (.cells #[.slice a0 n0 c0, .slice a1 n1 c1] t)) : TextsRow ((w.setCell ⟨H, 0, none⟩ v).setCell ⟨H, 1, none⟩ u) (some ⟨S, 0, none⟩) st := by
  rcases h with h | ⟨b, off, ha, h⟩
  · exact .inl h
  · refine .inr ⟨b, off, ha, fun i hi => ?_⟩
    simp only [Option.some.injEq, Addr.mk.injEq, and_true] at ha
    obtain ⟨rfl, rfl⟩ := ha
    obtain ⟨ai, ci, h0, h1, h2, h3⟩ := h i hi
    exact ⟨ai, ci, by rw [World.cell?_setCell_far _ _ _ _ hS, World.cell?_setCell_far _ _ _ _ hS]; exact h0, h1, h2, text_off h3 hH⟩
theorem lay_none {w w' : World} {fs : List FunD} {o : Option (List (List ByteArray))} (h : o = none) (hb : Below w.heap.size w w') (v0 v1 : Value) : LayIs w ((w'.setCell ⟨w.heap.size, 0, none⟩ v0).setCell ⟨w.heap.size, 1, none⟩ v1) fs o (.returned (.tuple #[.agg #[.slice none 0 0, .slice none 0 0], .int .i64 1])) :=
  ⟨(hb.setCell (Nat.le_refl _) _).setCell (Nat.le_refl _) _, .inl ⟨h, rfl⟩⟩
theorem short_few {st : List (List ByteArray)} {n : Nat} (h : Short st n) (hn : n ≤ 401) (hl : st.length ≤ 40) : FewT st := ⟨by omega, fun ss hs => by have := (h ss hs).1; omega⟩
set_option maxHeartbeats 16000000 in
theorem l7Lay_any (a : Option Addr) (cap : Nat) (fs : List FunD) (r : Int) (w : World) (hok : keepOkB fs = true) (hcap : fs.length ≤ cap) (hcm : cap ≤ maxLen) (hR : FunRow w a fs) :
    Calls Tryz.prog 127 #[.slice a fs.length cap, .int .i64 r] w fun e w' => LayIs w w' fs (layGo fs r (fs.length * 10 + 1) (List.replicate fs.length [])) e := by
  have HR := hide hR
  have HSZ := hide hR.sizes
  have h40 := (keep_parts hok).2.1
  have HKB := hide (keep_bodies hok)
  obtain ⟨i0, hi0, hz0, hz1, hz2⟩ := str_info
  have hmk := makeTextssX fs.length (by omega)
  have n0 := box_below (new_block w (.cells #[.slice none 0 0, .slice none 0 0] 47)) (below_alloc1 _ (.cells (madeCells #[.slice none 0 0] fs.length) 60))
  have HZ0 := hide n0
  have HRW : Hid (RowsO ((w.alloc (.cells #[.slice none 0 0, .slice none 0 0] 47)).alloc (.cells (madeCells #[.slice none 0 0] fs.length) 60)) (w.heap.size + 1) w.heap.size (List.replicate fs.length [])) := by
    have := RowsO.made (w.alloc (.cells #[.slice none 0 0, .slice none 0 0] 47)) fs.length (B := w.heap.size)
    rw [World.size_alloc] at this
    exact this
  have hbb := below_alloc2 w (.cells #[.slice none 0 0, .slice none 0 0] 47) (.cells (madeCells #[.slice none 0 0] fs.length) 60)
  clear hR hok n0
  go_enter Tryz.func127, Tryz.ntmps127
  go_wp2_with fail
  clear hmk
  go_loopw [7] (fun i w' => ∃ (m : Nat) (st : List (List ByteArray)), m ≤ fs.length * 10 + 1 ∧ i = .int .i64 m ∧ Hid (layGo fs r (fs.length * 10 + 1) (List.replicate fs.length []) = layGo fs r (fs.length * 10 + 1 - m) st) ∧ Hid (st.length = fs.length) ∧ Hid (Short st m) ∧ RowsO w' (w.heap.size + 1) w.heap.size st ∧ w'.heap[w.heap.size]? = some (.cells #[.slice none 0 0, .slice none 0 0] 47) ∧ Below w.heap.size w w') (fun i _ => fs.length * 10 + 1 - (intOf i).toNat)
  case atStart => exact ⟨0, _, Nat.zero_le _, rfl, rfl, by show _ = _; simp, (fun ss hs => by rw [List.eq_of_mem_replicate hs]; exact ⟨Nat.le_refl _, fun s h => by cases h⟩), unhide HRW, unhide HZ0, hbb⟩
  case round =>
    obtain ⟨m, st, hm, rfl, HGO, HLN, HSH, hrw, hz, hB⟩ := hrel
    clear HRW HZ0 hbb
    have HRW := hide hrw
    have HZ := hide hz
    have hwl : w.heap.size + 1 < wr.heap.size := hrw.lt
    clear hrw hz
    by_cases hml : m ≤ fs.length * 10
    · have hml' : (m : Int) ≤ (fs.length : Int) * 10 := by omega
      have hft : FewT st := short_few (unhide HSH) (by omega) (by have := unhide HLN; omega)
      have HTX := hide ((unhide HRW).texts (unhide HSH))
      have HPUT := hide (l7Put_any a (some ⟨w.heap.size + 1, 0, none⟩) cap fs.length fs st wr h40 (unhide HKB) (unhide HLN) hft hcap hcm (by have := unhide HLN; omega) (by unfold maxLen; omega) ((unhide HR).below hB) (unhide HTX))
      have HLK := hide (fun (na : Option Addr) (nc : Nat) (w' : World) (e1 : fs.length ≤ nc) (e2 : nc ≤ maxLen) (e3 : FunRow w' a fs) (e4 : NumRow w' na (places fs st)) (e5 : TextsRow w' (some ⟨w.heap.size + 1, 0, none⟩) st) => l7Lack_any a na (some ⟨w.heap.size + 1, 0, none⟩) cap nc fs.length fs (places fs st) st r w' ⟨h40, unhide HKB, unhide HLN, rfl, hft⟩ hcap hcm (by rw [places_len]; exact e1) e2 (by have := unhide HLN; omega) (by unfold maxLen; omega) e3 e4 e5)
      rw [unhide HLN] at HPUT HLK
      rw [places_len] at HLK
      obtain ⟨q, hq⟩ : ∃ q, fs.length * 10 + 1 - m = q + 1 := ⟨fs.length * 10 - m, by omega⟩
      rw [hq] at HGO
      have HQ := hide hq
      clear hq hft
      go_wp2_with fail
      refine (unhide HPUT).mono ?_
      rintro e w1 ⟨na, nc, rfl, hnc1, hnc2, hnr, hb1⟩
      have hbx := below_alloc1 w1 (.cells #[.slice na fs.length nc, .slice (some ⟨w.heap.size + 1, 0, none⟩) fs.length fs.length] 47)
      have hb2 := bl_trans hb1 hbx
      have hB2 := bl_trans hB hb2
      have HN2 := hide (hnr.below hbx)
      have HT2 := hide ((unhide HTX).below hb2)
      have HR2 := hide ((unhide HRW).next hb2)
      have HZ2 := hide (box_below (unhide HZ) hb2)
      have HL2 := hide (new_block w1 (.cells #[.slice na fs.length nc, .slice (some ⟨w.heap.size + 1, 0, none⟩) fs.length fs.length] 47))
      have hx2 := box2 (unhide HL2)
      have hwl2 : w.heap.size + 1 < w1.heap.size := Nat.lt_of_lt_of_le hwl hb1.size
      clear hnr hbx hb1 hb2 HPUT HRW HZ HTX
      cases hq2 : lackN fs st r with
      | none =>
        have HE : Hid (layGo fs r (fs.length * 10 + 1) (List.replicate fs.length []) = some st) := by show _ = _; rw [unhide HGO]; exact layGo_fine hq2
        go_wp2_with fail
        refine (unhide HLK na nc _ hnc1 hnc2 ((unhide HR).below hB2) (unhide HN2) (unhide HT2)).mono ?_
        rw [hq2]
        unfold lackV
        rintro e w3 ⟨rfl, hb3⟩
        have hz := box2 (box_below (unhide HZ2) hb3)
        have HZ3 := hide (box_below (unhide HZ2) hb3)
        have hl := box2 (box_below (unhide HL2) hb3)
        have HN3 := hide ((unhide HN2).below hb3)
        have HT3 := hide ((unhide HT2).below hb3)
        have hB3 := bl_trans hB2 hb3
        clear hx2
        go_wp2_with fail
        exact bodyPost_ret (v := .tuple #[.agg #[.slice na fs.length nc, .slice (some ⟨w.heap.size + 1, 0, none⟩) fs.length fs.length], .int .i64 0]) (by simp [results, Tryz.results127, go_sem, hz]) rfl ⟨(hB3.setCell (Nat.le_refl _) _).setCell (Nat.le_refl _) _, .inr ⟨st, na, nc, w.heap.size + 1, unhide HE, rfl, hnc1, hnc2, unhide HLN, fun ss hs => ⟨by have := ((unhide HSH) ss hs).1; omega, ((unhide HSH) ss hs).2⟩, num_off (unhide HN3) (unhide HZ3), texts_off (unhide HT3) (by omega) (unhide HZ3)⟩⟩
      | some y =>
        obtain ⟨i, s⟩ := y
        have hif := (lackN_facts hq2).1
        have hss : s.size ≤ maxLen := by
          obtain ⟨_, k, hkf, hse, _⟩ := lackN_facts hq2
          rw [hse]
          exact (unhide HSZ _ (List.getElem_mem hif)).2.2 _ (List.getElem_mem _)
        have HLI := hide (unhide HLK na nc _ hnc1 hnc2 ((unhide HR).below hB2) (unhide HN2) (unhide HT2))
        rw [hq2] at HLI
        unfold lackV at HLI
        have his : i < st.length := by rw [unhide HLN]; exact hif
        have hif' : (i : Int) < (fs.length : Int) := by omega
        have hii : (0 : Int) ≤ (i : Int) := by omega
        have HFR := hide (fun n => layGo_far (fs := fs) (r := r) (n := n) hq2)
        have HMO := hide (fun n => layGo_more (fs := fs) (r := r) (n := n) hq2)
        rw [stAt_is his] at HFR HMO
        have hsl := ((unhide HSH) st[i] (List.getElem_mem _)).1
        have HADD := hide (fun (W w4 : World) (ai : Option Addr) (ci : Nat) (v4 : Value) (o : Obj) (hr : RowsO W (w.heap.size + 1) w.heap.size st) => hr.add (w4 := w4) (a := ai) (c := ci) (v4 := v4) (s := s) (o := o) his)
        have HSX := hide ((unhide HSH).add his hss)
        have HGET := hide (fun (W : World) (hr : RowsO W (w.heap.size + 1) w.heap.size st) => hr.get his)
        clear hq2
        generalize hsi : st[i] = ss at *
        clear hsi
        cases hh : hasB ss s
        · have HE : Hid (layGo fs r (fs.length * 10 + 1) (List.replicate fs.length []) = layGo fs r q (addSt st i s)) := by show _ = _; rw [unhide HGO]; exact unhide HMO q hh
          go_wp2_with fail
          refine (unhide HLI).mono ?_
          rintro e w3 ⟨rfl, hb3⟩
          have HZ3 := hide (box_below (unhide HZ2) hb3)
          have HR3 := hide ((unhide HR2).next hb3)
          have hB3 := bl_trans hB2 hb3
          obtain ⟨ai, ci, c0, g0, ho⟩ := unhide HGET _ (unhide HR3)
          have HO := hide ho.at
          clear hx2 ho
          go_wp2_with fail
          refine (specHas_any _ ss s _ (unhide HO)).mono ?_
          rw [hh]
          rintro e w5 ⟨rfl, hb5⟩
          have HZ5 := hide (box_below (unhide HZ3) hb5)
          have HR5 := hide ((unhide HR3).next hb5)
          have hB5 := bl_trans hB3 hb5
          have hwl5 : w.heap.size + 1 < w5.heap.size := (unhide HR5).lt
          clear c0 g0 hb5 HO HR3 HZ3
          obtain ⟨ai5, ci5, c0, g0, ho⟩ := unhide HGET _ (unhide HR5)
          have HO5 := hide ho
          have HC5 := hide c0
          have HZB : Hid (∀ w6, (w5.alloc (.cells #[.string s] 9)).grownBy w6 (Value.slice ai5 ss.length ci5).ownBlock → w6.heap[w.heap.size]? = some (.cells #[.slice none 0 0, .slice none 0 0] 47) ∧ Below w.heap.size w w6) := fun w6 hg => by
            have hlo : ∀ q, (Value.slice ai5 ss.length ci5).ownBlock = some q → w.heap.size ≤ q := fun q hq => (World.ownsRow.lt (unhide HO5) q hq).1
            have hz := unhide HZ5
            have hne : (Value.slice ai5 ss.length ci5).ownBlock ≠ some w.heap.size := fun e => by
              obtain ⟨_, ⟨h1, h0⟩ | ⟨g, cap, cur, h1, hB, hg, hn, hm, hs, ht⟩⟩ := unhide HO5
              · rw [h1] at e; cases e
              · rw [h1] at e
                have e' : g = w.heap.size := Option.some.inj e
                rw [e'] at hg
                rw [hg] at hz
                simp at hz
            exact ⟨(hg.block w.heap.size (by simp; omega) (fun e => hne e.symm)).trans (box_below hz (below_alloc1 _ _)), (bl_alloc hB5 _).grown hg (bl_alloc hB5 _).size hlo⟩
          clear ho
          go_wp2_with (first
            | (at_builtin; refine wpList_append_own_at _ rfl _ _ 60 rfl w.heap.size 9 i0 _ 1 16 Tryz.underlying60 hi0 hz0 hz1 hz2 rfl (by decide) _ ss.length (ss.map Value.string) rfl (World.ownsRow.alloc (unhide HO5) _) ⟨w5.heap.size, 0, none⟩ 1 1 [.string s] rfl rfl (cell_after _ _ _) (by simp [Value.oneCell']) (by unfold maxLen; omega) (by omega) (by simp; omega) ?_; intro v6 w6 hown6 hgrow6 _ hat6; have hZB := unhide HZB w6 hgrow6; obtain ⟨a6, c6, rfl, _, _⟩ := form_of hown6; obtain ⟨⟨hx6, hf6⟩, hR6⟩ := unhide HADD w5 w6 ai5 ci5 _ _ (unhide HR5) (unhide HC5) hgrow6 (str_snoc hown6) hat6; have HR6 := hide hR6; have HZ6 := hide hZB.1; have HB6 := hide hZB.2; clear hown6 hgrow6 hat6 hZB hR6)
            | fail)
          have hmq : fs.length * 10 + 1 - (m + 1) = q := by have := unhide HQ; omega
          have HE2 : Hid (layGo fs r (fs.length * 10 + 1) (List.replicate fs.length []) = layGo fs r (fs.length * 10 + 1 - (m + 1)) (addSt st i s)) := by show _ = _; rw [hmq]; exact unhide HE
          exact ⟨⟨m + 1, addSt st i s, by omega, by go_num, unhide HE2, by show _ = _; rw [addSt_len]; exact unhide HLN, unhide HSX, unhide HR6, set_other (unhide HZ6) (by omega), (unhide HB6).setCell (by show w.heap.size ≤ w.heap.size + 1; omega) _⟩, by simp [intOf]; omega⟩
        · have HE : Hid (layGo fs r (fs.length * 10 + 1) (List.replicate fs.length []) = none) := by show _ = _; rw [unhide HGO]; exact unhide HFR q hh
          go_wp2_with fail
          refine (unhide HLI).mono ?_
          rintro e w3 ⟨rfl, hb3⟩
          have HZ3 := hide (box_below (unhide HZ2) hb3)
          have HR3 := hide ((unhide HR2).next hb3)
          have hB3 := bl_trans hB2 hb3
          obtain ⟨ai, ci, c0, g0, ho⟩ := unhide HGET _ (unhide HR3)
          have HO := hide ho.at
          clear hx2 ho
          go_wp2_with fail
          refine (specHas_any _ ss s _ (unhide HO)).mono ?_
          rw [hh]
          rintro e w5 ⟨rfl, hb5⟩
          have hz := box2 (box_below (unhide HZ3) hb5)
          have hB5 := bl_trans hB3 hb5
          clear c0 g0
          go_wp2_with fail
          exact bodyPost_ret (v := .tuple #[.agg #[.slice none 0 0, .slice none 0 0], .int .i64 1]) (by simp [results, Tryz.results127, go_sem, hz]) rfl (lay_none (unhide HE) hB5 _ _)
    · have HE : Hid (layGo fs r (fs.length * 10 + 1) (List.replicate fs.length []) = none) := by show _ = _; rw [unhide HGO, show fs.length * 10 + 1 - m = 0 by omega]; rfl
      have hml' : ¬ (m : Int) ≤ (fs.length : Int) * 10 := by omega
      have hz := box2 (unhide HZ)
      go_wp2_with fail
      exact bodyPost_ret (v := .tuple #[.agg #[.slice none 0 0, .slice none 0 0], .int .i64 1]) (by simp [results, Tryz.results127, go_sem, hz]) rfl (lay_none (unhide HE) hB _ _)
end Go.Proofs.YthbbmookhcalkaaGreatDoor.LayX
