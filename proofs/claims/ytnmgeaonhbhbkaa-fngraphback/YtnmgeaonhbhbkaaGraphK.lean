/- The contracts of the program's markedNames and GraphLeaf. -/
import Derived.Test.YtnmgeaonhbhbkaaGraphJ
import Derived.Test.YtnmgeaonhbhbkaaGraphS
namespace Go.Proofs.Ytnmgeaonhbhbkaa.GraphK
open Go.ChangeShapes Go.WideShapes Go.ChangeAt Go.RowKit Go.Joins Go.WideMaps Go.Maps Go.Sort Go.Shelf Go.Deep
open Go.Proofs.Ytnmgeaonhbhbkaa.Base Go.Proofs.Ytnmgeaonhbhbkaa.InsA Go.Proofs.Ytnmgeaonhbhbkaa.InsB Go.Proofs.Ytnmgeaonhbhbkaa.Funs Go.Proofs.Ytnmgeaonhbhbkaa.Open Go.Proofs.Ytnmgeaonhbhbkaa.FunS Go.Proofs.Ytnmgeaonhbhbkaa.Keep Go.Proofs.Ytnmgeaonhbhbkaa.UnitS Go.Proofs.Ytnmgeaonhbhbkaa.UnitM Go.Proofs.Ytnmgeaonhbhbkaa.Refs Go.Proofs.Ytnmgeaonhbhbkaa.Mark Go.Proofs.Ytnmgeaonhbhbkaa.PickD Go.Proofs.Ytnmgeaonhbhbkaa.WantsS Go.Proofs.Ytnmgeaonhbhbkaa.WantsL Go.Proofs.Ytnmgeaonhbhbkaa.WantsI Go.Proofs.Ytnmgeaonhbhbkaa.KeepC Go.Proofs.Ytnmgeaonhbhbkaa.KeepD Go.Proofs.Ytnmgeaonhbhbkaa.KeepA Go.Proofs.Ytnmgeaonhbhbkaa.KeepR Go.Proofs.Ytnmgeaonhbhbkaa.KeepI Go.Proofs.Ytnmgeaonhbhbkaa.WayD Go.Proofs.Ytnmgeaonhbhbkaa.GraphD Go.Proofs.Ytnmgeaonhbhbkaa.GraphI Go.Proofs.Ytnmgeaonhbhbkaa.GraphJ Go.Proofs.Ytnmgeaonhbhbkaa.GraphS
set_option linter.unusedVariables false
set_option maxRecDepth 100000

/-- Those that are marked, of the first k. -/
def mkF (fs : List FunD) (bs : Nat → Bool) : Nat → List FunD
  | 0 => []
  | k + 1 => if bs k then mkF fs bs k ++ [fs.getD k default] else mkF fs bs k
theorem mkF_len (fs : List FunD) (bs : Nat → Bool) : ∀ k, (mkF fs bs k).length ≤ k
  | 0 => Nat.le_refl _
  | k + 1 => by
    have := mkF_len fs bs k
    unfold mkF
    split
    · simp; omega
    · omega
theorem mkF_sub (fs : List FunD) (bs : Nat → Bool) : ∀ k, k ≤ fs.length → (mkF fs bs k).Sublist (fs.take k)
  | 0, _ => List.nil_sublist _
  | k + 1, hk => by
    have ih := mkF_sub fs bs k (by omega)
    rw [take_getD (by omega)]
    unfold mkF
    split
    · exact ih.append (List.Sublist.refl _)
    · exact ih.trans (List.sublist_append_left _ _)
theorem mkF_mem (fs : List FunD) (bs : Nat → Bool) (f : FunD) : ∀ k, f ∈ mkF fs bs k ↔ ∃ u, u < k ∧ bs u = true ∧ f = fs.getD u default
  | 0 => by simp [mkF]
  | k + 1 => by
    have ih := mkF_mem fs bs f k
    unfold mkF
    cases hb : bs k
    · rw [if_neg (by simp), ih]
      constructor
      · rintro ⟨u, h1, h2⟩; exact ⟨u, by omega, h2⟩
      · rintro ⟨u, h1, h2, h3⟩
        refine ⟨u, Nat.lt_of_le_of_ne (by omega) (fun e => ?_), h2, h3⟩
        rw [e, hb] at h2; cases h2
    · rw [if_pos rfl, List.mem_append, List.mem_singleton, ih]
      constructor
      · rintro (⟨u, h1, h2⟩ | rfl)
        · exact ⟨u, by omega, h2⟩
        · exact ⟨k, by omega, hb, rfl⟩
      · rintro ⟨u, h1, h2, h3⟩
        by_cases e : u = k
        · rw [e] at h3; exact .inr h3
        · exact .inl ⟨u, by omega, h2, h3⟩
theorem names_nodup {fs : List FunD} (h : apartF fs = true) : (fs.map fun f => f.nm.toList).Nodup := by
  unfold List.Nodup
  rw [List.pairwise_map]
  exact List.pairwise_iff_getElem.2 fun i j hi hj hij => (apartF_iff fs).1 h i j hi hj hij
/-- What is told of those that are marked. -/
theorem marks_gn {fs : List FunD} (hok : keepOkB fs = true) {bs : Nat → Bool} {P : FunD → Prop} (h : ∀ u (hu : u < fs.length), bs u = true ↔ P fs[u]) : GN fs P (sorted ((mkF fs bs fs.length).map fun f => f.nm)) := by
  have hs := mkF_sub fs bs fs.length (Nat.le_refl _)
  rw [List.take_length] at hs
  obtain ⟨h1, h2⟩ := sorted_rn (l := mkF fs bs fs.length) ((names_nodup (keep_parts hok).2.2.2.1).sublist (hs.map _)) rfl
  refine ⟨h1, fun x => (h2 x).trans ?_⟩
  rw [hok]
  constructor
  · rintro ⟨f, hf, e⟩
    obtain ⟨u, hu, hb, rfl⟩ := (mkF_mem fs bs f fs.length).1 hf
    have eu : fs.getD u default = fs[u] := by simp [List.getD, List.getElem?_eq_getElem hu]
    rw [eu] at e
    exact ⟨rfl, fs[u], List.getElem_mem hu, (h u hu).1 hb, e⟩
  · rintro ⟨_, f, hf, hP, e⟩
    obtain ⟨u, hu, rfl⟩ := List.getElem_of_mem hf
    have eu : fs.getD u default = fs[u] := by simp [List.getD, List.getElem?_eq_getElem hu]
    exact ⟨fs[u], (mkF_mem fs bs _ fs.length).2 ⟨u, hu, (h u hu).2 hP, eu.symm⟩, e⟩
/-- Marks in a block. -/
def MarksAt (w : World) (M n : Nat) (bs : Nat → Bool) : Prop := ∃ C, w.heap[M]? = some (.cells C 4) ∧ C.size = n ∧ ∀ u, u < n → C[u]? = some (.bool (bs u))
theorem MarksAt.below {w w' : World} {M n : Nat} {bs : Nat → Bool} (h : MarksAt w M n bs) (hb : Below w.heap.size w w') : MarksAt w' M n bs := by
  obtain ⟨C, h1, h2⟩ := h
  exact ⟨C, box_below h1 hb, h2⟩
theorem MarksAt.cell {w : World} {M n u : Nat} {bs : Nat → Bool} (h : MarksAt w M n bs) (hu : u < n) : w.cell? ⟨M, u, none⟩ = some (.bool (bs u)) := by
  obtain ⟨C, h1, h2, h3⟩ := h
  rw [cell_of_block h1]; exact h3 u hu
theorem MarksAt.thaw {w : World} {M n : Nat} {bs : Nat → Bool} (h : MarksAt w M n bs) (u : Nat) : w.frozen? ⟨M, u, none⟩ = false := by
  obtain ⟨C, h1, h2, h3⟩ := h
  exact unfrozen_of_block h1 u
theorem MarksAt.lt {w : World} {M n : Nat} {bs : Nat → Bool} (h : MarksAt w M n bs) : M < w.heap.size := by
  obtain ⟨C, h1, h2, h3⟩ := h
  exact (Array.getElem?_eq_some_iff.1 h1).1
theorem MarksAt.congr {w : World} {M n : Nat} {bs bs' : Nat → Bool} (h : MarksAt w M n bs) (e : ∀ u, u < n → bs u = bs' u) : MarksAt w M n bs' := by
  obtain ⟨C, h1, h2, h3⟩ := h
  exact ⟨C, h1, h2, fun u hu => by rw [← e u hu]; exact h3 u hu⟩
def setB (bs : Nat → Bool) (k : Nat) (b : Bool) (u : Nat) : Bool := if u = k then b else bs u
theorem MarksAt.set {w : World} {M n k : Nat} {bs : Nat → Bool} (h : MarksAt w M n bs) (hk : k < n) (b : Bool) : MarksAt (w.setCell ⟨M, k, none⟩ (.bool b)) M n (setB bs k b) := by
  obtain ⟨C, h1, h2, h3⟩ := h
  refine ⟨_, block_setCell h1 _, by simpa using h2, fun u hu => ?_⟩
  unfold setB
  by_cases e : u = k
  · subst e
    rw [if_pos rfl, Array.getElem?_setIfInBounds_self_of_lt (by omega)]
  · rw [if_neg e, Array.getElem?_setIfInBounds_ne (fun e' => e e'.symm)]
    exact h3 u hu
/-- The first k of them. -/
def bsTo (p : Nat → Bool) (k u : Nat) : Bool := if u < k then p u else false
theorem MarksAt.next {w : World} {M n k : Nat} {p : Nat → Bool} {b : Bool} (h : MarksAt w M n (bsTo p k)) (hk : k < n) (hb : b = p k) : MarksAt (w.setCell ⟨M, k, none⟩ (.bool b)) M n (bsTo p (k + 1)) := by
  refine (h.set hk b).congr fun u hu => ?_
  unfold setB bsTo
  by_cases e : u = k
  · subst e; rw [if_pos rfl, if_pos (by omega), hb]
  · rw [if_neg e]
    by_cases h1 : u < k
    · rw [if_pos h1, if_pos (by omega)]
    · rw [if_neg h1, if_neg (by omega)]
theorem bsTo_all {p : Nat → Bool} {n u : Nat} (hu : u < n) : bsTo p n u = p u := by unfold bsTo; rw [if_pos hu]
theorem infoBool : (Try.prog.info? 4).map (fun i => (i.zero, i.size, i.bytes)) = some (some (.bool false), 1, 1) := by kernel_rfl
theorem makeBools (n : Nat) (hn : n ≤ 1048576) (w : World) : (Instr.makeSlice 56 (.int .i64 (n : Int)) (.int .i64 (n : Int))).run Try.prog w = .ok (.slice (some ⟨w.heap.size, 0, none⟩) n n) (w.alloc (.cells (madeCells #[.bool false] n) 4)) := by
  obtain ⟨i, hi, h⟩ := Option.map_eq_some_iff.1 infoBool
  simp only [Prod.mk.injEq] at h
  obtain ⟨h1, h2, h3⟩ := h
  have := run_make (P := Try.prog) w 56 4 i _ Try.underlying56 hi h1 .i64 .i64 (n : Int) (n : Int) (by omega) (Int.le_refl _) (by rw [h3]; omega) (by omega)
  rw [h2] at this
  simpa [Value.cells] using this
theorem marks_made (w : World) (n : Nat) (p : Nat → Bool) : MarksAt (w.alloc (.cells (madeCells #[.bool false] n) 4)) w.heap.size n (bsTo p 0) := ⟨_, new_block w _, by simp [size_madeCells], fun u hu => made_at hu⟩
theorem mk_true {fs : List FunD} {bs : Nat → Bool} {k : Nat} (hk : k < fs.length) (h : bs k = true) : (mkF fs bs (k + 1)).map (fun f => f.nm) = (mkF fs bs k).map (fun f => f.nm) ++ [fs[k].nm] := by
  show (if bs k then mkF fs bs k ++ [fs.getD k default] else mkF fs bs k).map _ = _
  rw [if_pos h, List.map_append, show fs.getD k default = fs[k] by simp [List.getD, List.getElem?_eq_getElem hk]]
  rfl
theorem mk_false {fs : List FunD} {bs : Nat → Bool} {k : Nat} (h : bs k = false) : (mkF fs bs (k + 1)).map (fun f => f.nm) = (mkF fs bs k).map (fun f => f.nm) := by
  show (if bs k then mkF fs bs k ++ [fs.getD k default] else mkF fs bs k).map _ = _
  rw [h]; rfl
/-- What a call of markedNames leaves. -/
def Marked (w : World) (fs : List FunD) (bs : Nat → Bool) (e : Ending) (w' : World) : Prop := ∃ v, e = .returned v ∧ StrOwn w' w.heap.size v (sorted ((mkF fs bs fs.length).map fun f => f.nm)) ∧ Below w.heap.size w w'
set_option maxHeartbeats 2000000 in
theorem marked_any (nb no nc S M : Nat) (fs : List FunD) (bs : Nat → Bool) (w : World) (hn : fs.length ≤ 40) (hnc : fs.length ≤ nc) (hncm : nc ≤ maxLen) (hN : NamesAt w nb no fs) (hM : MarksAt w M fs.length bs) :
    Calls Try.prog 37 #[.agg #[.slice (some ⟨nb, no, none⟩) fs.length nc, .slice (some ⟨S, 0, none⟩) fs.length fs.length], .slice (some ⟨M, 0, none⟩) fs.length fs.length] w (Marked w fs bs) := by
  obtain ⟨i0, hi, hz0, hz1, hz2⟩ := info_parts infoStr
  obtain ⟨W0, hW0⟩ : ∃ W0, W0 = w.alloc (.cells #[.slice (some ⟨nb, no, none⟩) fs.length nc, .slice (some ⟨S, 0, none⟩) fs.length fs.length] 54) := ⟨_, rfl⟩
  have hb0 : Below w.heap.size w W0 := by rw [hW0]; exact below_alloc1 _ _
  have HZ : Hid (W0.heap.size = w.heap.size + 1) := by show _ = _; rw [hW0]; simp
  have hG : W0.heap[w.heap.size]? = some (.cells #[.slice (some ⟨nb, no, none⟩) fs.length nc, .slice (some ⟨S, 0, none⟩) fs.length fs.length] 54) := by rw [hW0]; exact new_block w _
  have HG := hide hG
  have HN := hide (hN.below hb0)
  have HM := hide (hM.below hb0)
  clear hN hM hG
  unfold maxLen at hncm
  have hlen : (fs.length : Int) ≤ 9223372036854775807 := by omega
  go_enter Try.func37, Try.ntmps37
  go_wp2_with fail
  rw [← hW0]
  clear hW0
  go_loopw [5, 10] (fun v i w' => ∃ (k : Nat), k ≤ fs.length ∧ i = .int .i64 k ∧ StrOwn w' W0.heap.size v ((mkF fs bs k).map fun f => f.nm) ∧ Below W0.heap.size W0 w') (fun _ i _ => fs.length - (intOf i).toNat)
  case atStart => exact ⟨0, Nat.zero_le _, rfl, World.ownsRow_nil _ _ _ _, Below.refl _ _⟩
  case round =>
    obtain ⟨k, hk, rfl, hO, hB⟩ := hrel
    have HO := hide hO
    have hsB := hB.size
    clear hO
    by_cases hkl : k < fs.length
    · have hkl' : (k : Int) < (fs.length : Int) := by omega
      have m0 := ((unhide HM).below hB).cell hkl
      have HT := hide (mk_true (bs := bs) hkl)
      have HF := hide (mk_false (fs := fs) (bs := bs) (k := k))
      have hal : ((mkF fs bs k).map fun f => f.nm).length ≤ 1000 := by have := mkF_len fs bs k; rw [List.length_map]; omega
      have n0 := ((unhide HN).below hB) k hkl
      have hg := box_below (unhide HG) hB
      have g0 : wr.cell? ⟨w.heap.size, 0, none⟩ = some (.slice (some ⟨nb, no, none⟩) fs.length nc) := by rw [cell_of_block hg]; rfl
      clear hg
      generalize fs[k].nm = nm at *
      generalize (mkF fs bs k).map (fun f => f.nm) = acc at *
      cases hb : bs k
      · rw [hb] at m0
        go_wp2_with fail
        exact ⟨⟨k + 1, by omega, by go_num, by rw [unhide HF hb]; exact unhide HO, hB⟩, by simp [intOf]; omega⟩
      · rw [hb] at m0
        have HTT := hide (unhide HT hb)
        clear HT HF
        go_wp2_with (first
          | (at_builtin; refine wpList_append_own _ rfl _ _ 35 rfl W0.heap.size 9 i0 (.string ⟨#[]⟩) 1 16 Try.underlying35 hi hz0 hz1 hz2 rfl (by decide) _ acc.length (acc.map Value.string) rfl (World.ownsRow.alloc (unhide HO) _) ⟨wr.heap.size, 0, none⟩ 1 1 [.string nm] rfl rfl (cell_one_new _ _ _) (by simp [Value.oneCell']) (by unfold maxLen; omega) (by omega) (by simp; omega) ?_; intro v4 w4 hown4 hgrow4 _))
        have hB4 : Below W0.heap.size W0 w4 := (bl_alloc hB _).grown hgrow4 (bl_alloc hB _).size (fun j hj => (World.ownsRow.lt (unhide HO) j hj).1)
        exact ⟨⟨k + 1, by omega, by go_num, by rw [unhide HTT]; exact str_snoc hown4, hB4⟩, by simp [intOf]; omega⟩
    · have hkl' : ¬ (k : Int) < (fs.length : Int) := by omega
      have hke : k = fs.length := by omega
      rw [hke] at HO
      have hll : ((mkF fs bs fs.length).map fun f => f.nm).length ≤ 1000000 := by have := mkF_len fs bs fs.length; rw [List.length_map]; omega
      obtain ⟨na, nc', e1, _⟩ := (unhide HO).at
      subst e1
      have HE : Hid (∀ v w', StrOwn w' w.heap.size v (sorted ((mkF fs bs fs.length).map fun f => f.nm)) → Below w.heap.size w w' → Marked w fs bs (.returned v) w') := fun v w' h1 h2 => ⟨v, rfl, h1, h2⟩
      generalize (mkF fs bs fs.length).map (fun f => f.nm) = ss at *
      go_wp2_with fail
      refine (sort_any W0.heap.size _ ss _ hll (unhide HO)).mono ?_
      rintro e w4 ⟨rfl, hO4, hg4⟩
      have HO4 := hide hO4
      have hB4 := hB.grown hg4 hsB (fun j hj => (World.ownsRow.lt (unhide HO) j hj).1)
      clear hO4 hg4 HO
      go_wp2_with fail
      go_ret
      exact unhide HE _ _ ((unhide HO4).base hb0.size) (bl_trans hb0 hB4)
end Go.Proofs.Ytnmgeaonhbhbkaa.GraphK
