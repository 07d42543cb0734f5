/- The contracts of chapter 1's InsText, of the program and of the specification. -/
import Derived.Test.YthbbmookhcalkaaGreatDoorPkbd044065
import Derived.Test.YthbbmookhcalkaaGreatDoorPk4f501f7b
import Derived.Test.YthbbmookhcalkaaGreatDoorShelf
import Derived.Deep.RegionHeld3
import Derived.Deep.RegionWith
import Derived.Lib.AppendIntMem
import Derived.Test.YthbbmookhcalkaaGreatDoorPkd23958c8
import Derived.LaidMore
import Derived.Stop.LaidErr
import Derived.Lib.LaidTab
import Derived.Test.YthbbmookhcalkaaGreatDoorPk3b7a8e77
import Derived.Shelf.Strings.BuilderK
namespace Go.Proofs.YthbbmookhcalkaaGreatDoor.Text
open Go.Proofs.YthbbmookhcalkaaGreatDoor.Base
open Go.ChangeShapes Go.WideShapes Go.ChangeAt Go.RowKit Go.Joins
open Go.Proofs.YthbbmookhcalkaaGreatDoor.InsA Go.Proofs.YthbbmookhcalkaaGreatDoor.InsB
open Go.Proofs.YthbbmookhcalkaaGreatDoor.Dec (dec_any ret_str ilen)
set_option linter.unusedVariables false

def wordA (o : Int) : ByteArray := if o = 1 then ⟨#[115, 97, 121]⟩ else if o = 2 then ⟨#[97, 100, 100]⟩ else if o = 3 then ⟨#[99, 97, 108, 108]⟩ else if o = 4 then ⟨#[103, 111]⟩ else if o = 5 then ⟨#[105, 102]⟩ else if o = 6 then ⟨#[114, 101, 116]⟩ else if o = 7 then ⟨#[101, 110, 100]⟩ else ⟨#[]⟩
def tailA (o n : Int) (s : ByteArray) : ByteArray := if o = 2 then ⟨#[32]⟩ ++ ⟨(Lib.itoa n).toArray⟩ else if refsB o then ⟨#[32]⟩ ++ s else ⟨#[]⟩
def textA (o n : Int) (s : ByteArray) : ByteArray := if insOkB o n s then wordA o ++ tailA o n s else ⟨#[]⟩

set_option maxHeartbeats 400000 in
theorem word_any (o : Int) (w : World) :
    Calls Tryz.prog 126 #[.int .i64 o] w fun e w' => e = .returned (.string (wordA o)) ∧ w' = w := by
  go_enter Tryz.func126, Tryz.ntmps126
  go_wp2
  all_goals (go_ret; exact ⟨ret_str (by simp_all [wordA]), rfl⟩)

theorem wordA_le (o : Int) : (wordA o).size ≤ 4 := by
  unfold wordA
  repeat' split
  all_goals decide
theorem gPow : Tryz.prog.globalNamed "internal/strconv.uint64pow10" = some 0 := by kernel_rfl
theorem itab {w w' : World} {b : Nat} {v : Value} (h : Hid (Lib.TabIs Tryz.prog w "internal/strconv.uint64pow10" .u64 Lib.pow10Tab)) (hb : w'.cell? ⟨b, 1, none⟩ = some v ∧ Below w.heap.size w w') : Lib.TabIs Tryz.prog w' "internal/strconv.uint64pow10" .u64 Lib.pow10Tab :=
  tab_stays gPow h.out hb.2 (Nat.le_refl _)
theorem keep_grow {w w' : World} {b : Nat} {v : Value} (h : w'.cell? ⟨b, 1, none⟩ = some v ∧ Below w.heap.size w w') (k : Nat) (os : Array Obj) :
    (Sort.grow (w'.drewN k) os).cell? ⟨b, 1, none⟩ = some v ∧ Below w.heap.size w (Sort.grow (w'.drewN k) os) := by
  have hb := Lib.below_grow w'.heap.size w' (Nat.le_refl _) k os
  exact ⟨(hb.cell (p := ⟨b, 1, none⟩) (World.block_lt_of_cell? w' _ h.1)).trans h.1, bl_trans h.2 hb⟩
theorem keep_here {w w' : World} {b : Nat} {v : Value} (h : w'.cell? ⟨b, 1, none⟩ = some v ∧ Below w.heap.size w w') : Below w.heap.size w w' := h.2
theorem keep_drew {w w' : World} {b : Nat} {v : Value} (h : w'.cell? ⟨b, 1, none⟩ = some v ∧ Below w.heap.size w w') : w'.drew.cell? ⟨b, 1, none⟩ = some v ∧ Below w.heap.size w w'.drew := ⟨h.1, h.2.drew⟩

set_option maxHeartbeats 1000000 in
theorem implText_no (o n : Int) (s : ByteArray) (w : World) (hs' : s.size ≤ maxLen) (hok : insOkB o n s = false) :
    Calls Tryz.prog 106 #[.agg #[.int .i64 o, .int .i64 n, .string s]] w fun e w' => e = .returned (.string (textA o n s)) ∧ Below w.heap.size w w' := by
  go_enter Tryz.func106, Tryz.ntmps106
  go_wp2_with (go_at_call 65; refine (implOk_any _ _ _ _ hs').mono ?_; rintro e w1 ⟨rfl, hb⟩)
  go_ret
  exact ⟨ret_str (by simp [textA, hok]), bl_trans (below_alloc1 _ _) hb⟩

set_option maxHeartbeats 1000000 in
theorem implText_add (n : Int) (s : ByteArray) (w : World) (hs' : s.size ≤ maxLen) (hok : insOkB 2 n s = true) (h1 : -1000 ≤ n) (h2 : n ≤ 1000) (HT : Hid (Lib.TabIs Tryz.prog w "internal/strconv.uint64pow10" .u64 Lib.pow10Tab)) :
    Calls Tryz.prog 106 #[.agg #[.int .i64 2, .int .i64 n, .string s]] w fun e w' => e = .returned (.string (textA 2 n s)) ∧ Below w.heap.size w w' := by
  have hil := ilen n
  have hfin : Hid ((wordA 2 ++ ⟨#[32]⟩) ++ ⟨(Lib.itoa n).toArray⟩ = textA 2 n s) := by
    show _ = _
    unfold textA tailA
    rw [if_pos hok, if_pos rfl, ByteArray.append_assoc]
  go_enter Tryz.func106, Tryz.ntmps106
  go_wp2_with (first | (go_at_call 65; refine (implOk_any _ _ _ _ hs').mono ?_; rintro e w1 ⟨rfl, hb⟩; obtain ⟨hc, hf⟩ := bcell hb) | (go_at_call 98; refine (hasNumber_any _ _).mono ?_; rintro e w1 ⟨rfl, rfl⟩))
  have hwd := wordA_le 2
  have hS0 : w1.cell? ⟨w.heap.size, 1, none⟩ = some (.int .i64 n) ∧ Below w.heap.size w w1 := ⟨by rw [hc _ _ (by simp)]; simp, bl_trans (below_alloc1 _ _) hb⟩
  have q1 : ¬ 9223372036854775807 < (wordA 2).size + 1 := by omega
  have q2 : ¬ 9223372036854775807 < (wordA 2).size + 1 + (Lib.itoa n).length := by omega
  clear hc hf hb hok hil hwd
  go_region_held3 (fun w' => w'.cell? ⟨w.heap.size, 1, none⟩ = some (.int .i64 n) ∧ Below w.heap.size w w') (first | assumption | (refine keep_grow ?_ _ _; assumption) | (refine keep_drew ?_; assumption)) (first | (go_at_call 126; refine (word_any _ _).mono ?_; rintro e wk ⟨rfl, rfl⟩) | (go_at_call 58; refine (Tryz.strconv_Itoa n (by omega) (by omega) _ ?_).mono ?_; (exact itab HT (by assumption)); rintro e wk ⟨rfl, k, os, rfl⟩))
  have hS1 := keep_here (by assumption)
  go_wp2_with fail
  go_ret
  exact ⟨ret_str hfin.out, hS1⟩

set_option maxHeartbeats 1000000 in
theorem implText_refs (o n : Int) (s : ByteArray) (w : World) (hs' : s.size ≤ 1048576) (hok : insOkB o n s = true) (h2 : (o == 2) = false) (hr : refsB o = true) :
    Calls Tryz.prog 106 #[.agg #[.int .i64 o, .int .i64 n, .string s]] w fun e w' => e = .returned (.string (textA o n s)) ∧ Below w.heap.size w w' := by
  have hfin : Hid ((wordA o ++ ⟨#[32]⟩) ++ s = textA o n s) := by
    show _ = _
    unfold textA tailA
    rw [if_pos hok, if_neg (by simpa using h2), if_pos hr, ByteArray.append_assoc]
  have hwd := wordA_le o
  have q1 : ¬ 9223372036854775807 < (wordA o).size + 1 := by omega
  have q2 : ¬ 9223372036854775807 < (wordA o).size + 1 + s.size := by omega
  have hs2 : s.size ≤ maxLen := by unfold maxLen; omega
  go_enter Tryz.func106, Tryz.ntmps106
  go_wp2_with (first | (go_at_call 65; refine (implOk_any _ _ _ _ hs2).mono ?_; rintro e w1 ⟨rfl, hb⟩; obtain ⟨hc, hf⟩ := bcell hb) | (go_at_call 98; refine (hasNumber_any _ _).mono ?_; rintro e w1 ⟨rfl, rfl⟩) | (go_at_call 100; refine (hasName_any _ _).mono ?_; rintro e w1 ⟨rfl, rfl⟩))
  go_quiet ((go_at_call 126; exact Calls.quiet_of_same (word_any _ _)))
  go_wp2_with fail
  go_ret
  exact ⟨ret_str hfin.out, bl_drewN (bl_trans (below_alloc1 _ _) hb) _⟩

set_option maxHeartbeats 1000000 in
theorem implText_bare (o n : Int) (s : ByteArray) (w : World) (hs' : s.size ≤ maxLen) (hok : insOkB o n s = true) (h2 : (o == 2) = false) (hr : refsB o = false) :
    Calls Tryz.prog 106 #[.agg #[.int .i64 o, .int .i64 n, .string s]] w fun e w' => e = .returned (.string (textA o n s)) ∧ Below w.heap.size w w' := by
  have hfin : Hid (wordA o = textA o n s) := by
    show _ = _
    unfold textA tailA
    rw [if_pos hok, if_neg (by simpa using h2), if_neg (by simp [hr])]
    exact (ByteArray.append_empty).symm
  go_enter Tryz.func106, Tryz.ntmps106
  go_wp2_with (first | (go_at_call 65; refine (implOk_any _ _ _ _ hs').mono ?_; rintro e w1 ⟨rfl, hb⟩; obtain ⟨hc, hf⟩ := bcell hb) | (go_at_call 98; refine (hasNumber_any _ _).mono ?_; rintro e w1 ⟨rfl, rfl⟩) | (go_at_call 100; refine (hasName_any _ _).mono ?_; rintro e w1 ⟨rfl, rfl⟩) | (go_at_call 126; refine (word_any _ _).mono ?_; rintro e w1 ⟨rfl, rfl⟩))
  go_ret
  exact ⟨ret_str hfin.out, bl_trans (below_alloc1 _ _) hb⟩

theorem ok_add {n : Int} {s : ByteArray} (h : insOkB 2 n s = true) : -1000 ≤ n ∧ n ≤ 1000 := by
  simp [insOkB] at h; omega

theorem implText_any (o n : Int) (s : ByteArray) (w : World) (hs : s.size ≤ 1048576) (htab : Lib.TabIs Tryz.prog w "internal/strconv.uint64pow10" .u64 Lib.pow10Tab) :
    Calls Tryz.prog 106 #[.agg #[.int .i64 o, .int .i64 n, .string s]] w fun e w' => e = .returned (.string (textA o n s)) ∧ Below w.heap.size w w' := by
  have hs' : s.size ≤ maxLen := by unfold maxLen; omega
  cases hok : insOkB o n s
  · exact implText_no o n s w hs' hok
  · by_cases h2 : o = 2
    · subst h2
      exact implText_add n s w hs' hok (ok_add hok).1 (ok_add hok).2 htab
    · cases hr : refsB o
      · exact implText_bare o n s w hs' hok (by simp [h2]) hr
      · exact implText_refs o n s w hs hok (by simp [h2]) hr

theorem ok_kind {o n : Int} {s : ByteArray} (h : insOkB o n s = true) : o = 1 ∨ o = 2 ∨ o = 3 ∨ o = 4 ∨ o = 5 ∨ o = 6 ∨ o = 7 := by
  unfold insOkB at h
  by_cases h2 : o = 2
  · omega
  · rw [if_neg h2] at h
    by_cases h3 : o = 3 ∨ o = 4 ∨ o = 5
    · omega
    · rw [if_neg h3] at h
      by_cases h1 : o = 1 ∨ o = 6 ∨ o = 7
      · omega
      · rw [if_neg h1] at h; cases h

end Go.Proofs.YthbbmookhcalkaaGreatDoor.Text
/- Plain data: what the map says of a place. -/
namespace Go.Proofs.YthbbmookhcalkaaGreatDoor.MapN
open Go.Proofs.YthbbmookhcalkaaGreatDoor.Base Go.Proofs.YthbbmookhcalkaaGreatDoor.InsA Go.Proofs.YthbbmookhcalkaaGreatDoor.Funs Go.Proofs.YthbbmookhcalkaaGreatDoor.Open Go.Proofs.YthbbmookhcalkaaGreatDoor.UnitS Go.Proofs.YthbbmookhcalkaaGreatDoor.Refs Go.Proofs.YthbbmookhcalkaaGreatDoor.KeepD Go.Proofs.YthbbmookhcalkaaGreatDoor.KeepA Go.Proofs.YthbbmookhcalkaaGreatDoor.LayA Go.Proofs.YthbbmookhcalkaaGreatDoor.LayD Go.Proofs.YthbbmookhcalkaaGreatDoor.LayT Go.Proofs.YthbbmookhcalkaaGreatDoor.LayV Go.Proofs.YthbbmookhcalkaaGreatDoor.MapD Go.Proofs.YthbbmookhcalkaaGreatDoor.MapJ Go.Proofs.YthbbmookhcalkaaGreatDoor.MapK Go.Proofs.YthbbmookhcalkaaGreatDoor.Dec
set_option linter.unusedVariables false
set_option maxRecDepth 100000

def plusB : ByteArray := ⟨#[43]⟩
def starB : ByteArray := ⟨#[42]⟩
def decB (n : Nat) : ByteArray := ⟨(Lib.decDigits n).toArray⟩
/-- Of an instruction. -/
def insN (nm : ByteArray) (j : Nat) : ByteArray := if j = 0 then nm else nm ++ plusB ++ decB j
/-- Where the k'th function's j'th stone stands. -/
def stoneAt (fs : List FunD) (st : List (List ByteArray)) (at_ : Int) (k j : Nat) : Prop := ((place fs st k + lenAt fs k + j : Nat) : Int) = at_ ∧ k < fs.length ∧ j < (stAt st k).length
/-- What the map says of a place: an instruction, a stone, or nothing. -/
def NameIs (fs : List FunD) (ns : List Int) (st : List (List ByteArray)) (at_ : Int) (o : ByteArray) : Prop :=
  (∃ k : Nat, spotN fs ns st at_ = some k ∧ o = insN (fs.getD k default).nm (at_ - (place fs st k : Int)).toNat) ∨ (spotN fs ns st at_ = none ∧ formB fs ns st = true ∧ ∃ k j, stoneAt fs st at_ k j ∧ o = starB ++ (stAt st k).getD j ⟨#[]⟩) ∨ (spotN fs ns st at_ = none ∧ (formB fs ns st = true → ∀ k j, ¬ stoneAt fs st at_ k j) ∧ o = ⟨#[]⟩)
theorem stone_one {fs : List FunD} {st : List (List ByteArray)} {at_ : Int} {k j k' j' : Nat} (h : stoneAt fs st at_ k j) (h' : stoneAt fs st at_ k' j') : k = k' ∧ j = j' := by
  obtain ⟨e1, e2, e3⟩ := h
  obtain ⟨f1, f2, f3⟩ := h'
  rcases Nat.lt_trichotomy k k' with e | e | e
  · have := place_mono (fs := fs) (st := st) (show k + 1 ≤ k' by omega)
    rw [place] at this
    omega
  · subst e
    exact ⟨rfl, by omega⟩
  · have := place_mono (fs := fs) (st := st) (show k' + 1 ≤ k by omega)
    rw [place] at this
    omega
theorem name_one {fs : List FunD} {ns : List Int} {st : List (List ByteArray)} {at_ : Int} {o o' : ByteArray} (h : NameIs fs ns st at_ o) (h' : NameIs fs ns st at_ o') : o = o' := by
  rcases h with ⟨k, h1, h2⟩ | ⟨h1, hf, k, j, hs, h2⟩ | ⟨h1, h3, h2⟩
  · rcases h' with ⟨k', g1, g2⟩ | ⟨g1, _⟩ | ⟨g1, _⟩
    · rw [h1] at g1; cases g1; rw [h2, g2]
    · rw [h1] at g1; cases g1
    · rw [h1] at g1; cases g1
  · rcases h' with ⟨k', g1, g2⟩ | ⟨g1, gf, k', j', gs, g2⟩ | ⟨g1, g3, g2⟩
    · rw [h1] at g1; cases g1
    · obtain ⟨rfl, rfl⟩ := stone_one hs gs; rw [h2, g2]
    · exact absurd hs (g3 hf k j)
  · rcases h' with ⟨k', g1, g2⟩ | ⟨g1, gf, k', j', gs, g2⟩ | ⟨g1, g3, g2⟩
    · rw [h1] at g1; cases g1
    · exact absurd gs (h3 gf k' j')
    · rw [h2, g2]
/-- Behind its instructions a function's stones stand. -/
theorem upTo_stone {fs : List FunD} {st : List (List ByteArray)} {at_ : Int} {q : Nat} (hq : q < fs.length) (hu : UpTo fs st at_ q) (hsz : at_ < (place fs st fs.length : Int)) (hm : ((place fs st q + lenAt fs q : Nat) : Int) ≤ at_) : stoneAt fs st at_ q (at_ - ((place fs st q + lenAt fs q : Nat) : Int)).toNat := by
  have hn : at_ < (place fs st (q + 1) : Int) := by
    rcases Nat.lt_or_ge (q + 1) fs.length with e | e
    · exact hu.2 (q + 1) (by omega) e
    · have : q + 1 = fs.length := by omega
      rw [this]; exact hsz
  rw [place] at hn
  exact ⟨by omega, hq, by omega⟩
theorem out_stone {fs : List FunD} {st : List (List ByteArray)} {at_ : Int} (h : at_ < 0 ∨ (place fs st fs.length : Int) ≤ at_) : ∀ k j, ¬ stoneAt fs st at_ k j := fun k j hs => by
  obtain ⟨e1, e2, e3⟩ := hs
  have := place_mono (fs := fs) (st := st) (show k + 1 ≤ fs.length by omega)
  rw [place] at this
  omega
end Go.Proofs.YthbbmookhcalkaaGreatDoor.MapN
/- The contracts of both sides' MapName. -/
namespace Go.Proofs.YthbbmookhcalkaaGreatDoor.MapP
open Go.ChangeShapes Go.WideShapes Go.ChangeAt Go.RowKit Go.Joins Go.WideMaps Go.Maps Go.Deep
open Go.Proofs.YthbbmookhcalkaaGreatDoor.Base Go.Proofs.YthbbmookhcalkaaGreatDoor.InsA Go.Proofs.YthbbmookhcalkaaGreatDoor.Name Go.Proofs.YthbbmookhcalkaaGreatDoor.Funs Go.Proofs.YthbbmookhcalkaaGreatDoor.Open Go.Proofs.YthbbmookhcalkaaGreatDoor.FunS Go.Proofs.YthbbmookhcalkaaGreatDoor.Keep Go.Proofs.YthbbmookhcalkaaGreatDoor.UnitS Go.Proofs.YthbbmookhcalkaaGreatDoor.UnitM Go.Proofs.YthbbmookhcalkaaGreatDoor.Refs Go.Proofs.YthbbmookhcalkaaGreatDoor.LayN Go.Proofs.YthbbmookhcalkaaGreatDoor.LayA Go.Proofs.YthbbmookhcalkaaGreatDoor.KeepD Go.Proofs.YthbbmookhcalkaaGreatDoor.KeepA Go.Proofs.YthbbmookhcalkaaGreatDoor.LayD Go.Proofs.YthbbmookhcalkaaGreatDoor.LayS Go.Proofs.YthbbmookhcalkaaGreatDoor.LayT Go.Proofs.YthbbmookhcalkaaGreatDoor.LayG Go.Proofs.YthbbmookhcalkaaGreatDoor.LayH Go.Proofs.YthbbmookhcalkaaGreatDoor.LayJ Go.Proofs.YthbbmookhcalkaaGreatDoor.LayK Go.Proofs.YthbbmookhcalkaaGreatDoor.LayV Go.Proofs.YthbbmookhcalkaaGreatDoor.LayM Go.Proofs.YthbbmookhcalkaaGreatDoor.LayO Go.Proofs.YthbbmookhcalkaaGreatDoor.MapD Go.Proofs.YthbbmookhcalkaaGreatDoor.MapA Go.Proofs.YthbbmookhcalkaaGreatDoor.MapJ Go.Proofs.YthbbmookhcalkaaGreatDoor.MapT Go.Proofs.YthbbmookhcalkaaGreatDoor.MapK Go.Proofs.YthbbmookhcalkaaGreatDoor.Dec Go.Proofs.YthbbmookhcalkaaGreatDoor.MapN
set_option linter.unusedVariables false
set_option maxRecDepth 100000

theorem nm_six {fs : List FunD} {ns : List Int} {st : List (List ByteArray)} (h : formB fs ns st = true) : ∀ f ∈ fs, f.nm.size ≤ 6 := fun f hf => by
  have h1 := (keep_parts (form_parts h).1).2.2.1 f hf
  unfold funOkB nameB at h1
  simp only [Bool.and_eq_true, decide_eq_true_iff] at h1
  exact h1.1.1.1.2.2
theorem st_six {fs : List FunD} {ns : List Int} {st : List (List ByteArray)} (h : formB fs ns st = true) : ∀ ss ∈ st, ∀ s ∈ ss, s.size ≤ 6 := fun ss hss s hs => by
  have h1 := (stones_parts ((form_parts h).2.2.1 ss hss)).1 s hs
  unfold findI at h1
  by_cases hl : fs.findIdx (isNm s) < fs.length
  · have e : isNm s fs[fs.findIdx (isNm s)] = true := List.findIdx_getElem (w := hl)
    generalize fs.findIdx (isNm s) = i at *
    have e2 : fs[i].nm.toList = s.toList := by simpa [isNm] using e
    rw [ByteArray.toList_eq, ByteArray.toList_eq] at e2
    have h6 := nm_six h _ (List.getElem_mem hl)
    have h7 : fs[i].nm.size = s.size := by simpa using congrArg List.length e2
    omega
  · rw [if_neg hl] at h1; omega
def NmEnd (w : World) (fs : List FunD) (ns : List Int) (st : List (List ByteArray)) (aa : Int) (e : Ending) (w' : World) : Prop := ∃ o, e = .returned (.string o) ∧ NameIs fs ns st aa o ∧ Below w.heap.size w w'
theorem dec_len (j : Nat) (h : j ≤ 10) : (Lib.decDigits j).length ≤ 11 := Nat.le_trans (dlen j) (by omega)
theorem spotN_less {fs : List FunD} {ns : List Int} {st : List (List ByteArray)} {aa : Int} {k : Nat} (h : spotN fs ns st aa = some k) : ∃ j : Nat, aa - (place fs st k : Int) = (j : Int) ∧ ∃ hk : k < fs.length, j < fs[k].body.length := by
  obtain ⟨hf, hk, hh⟩ := spotN_facts h
  rw [hit_iff, lenAt_is hk] at hh
  exact ⟨(aa - (place fs st k : Int)).toNat, by omega, hk, by omega⟩
theorem name_ins {fs : List FunD} {ns : List Int} {st : List (List ByteArray)} {aa : Int} {k j : Nat} (h : spotN fs ns st aa = some k) (hk : k < fs.length) (hj : aa - (place fs st k : Int) = (j : Int)) : NameIs fs ns st aa (insN fs[k].nm j) := .inl ⟨k, h, by rw [hj]; simp [List.getD, List.getElem?_eq_getElem hk]⟩
theorem stand_ways {fs : List FunD} {ns : List Int} {st : List (List ByteArray)} {aa : Int} {q j : Nat} (hf : formB fs ns st = true) (hl : st.length = fs.length) (hq : q < fs.length) (hu : UpTo fs st aa q) (hsz : aa < (place fs st fs.length : Int)) (hj : aa - (place fs st q : Int) = (j : Int)) : (j < fs[q].body.length → NameIs fs ns st aa (insN fs[q].nm j)) ∧ (fs[q].body.length ≤ j → ∃ h : j - fs[q].body.length < (st[q]'(hl ▸ hq)).length, NameIs fs ns st aa (starB ++ (st[q]'(hl ▸ hq))[j - fs[q].body.length])) := by
  have hqs : q < st.length := hl ▸ hq
  have e1 := hu.1
  refine ⟨fun h => ?_, fun h => ?_⟩
  · exact name_ins (spotN_some hf hq (hit_iff.2 ⟨e1, by rw [lenAt_is hq]; omega⟩)) hq hj
  · have hm : ((place fs st q + lenAt fs q : Nat) : Int) ≤ aa := by rw [lenAt_is hq]; omega
    have hs := upTo_stone hq hu hsz hm
    have ej : (aa - ((place fs st q + lenAt fs q : Nat) : Int)).toNat = j - fs[q].body.length := by rw [lenAt_is hq]; omega
    rw [ej] at hs
    have h3 : j - fs[q].body.length < st[q].length := by have := hs.2.2; rw [stAt_is hqs] at this; exact this
    exact ⟨h3, .inr (.inl ⟨upTo_miss hu hm, hf, q, _, hs, by simp [stAt_is hqs, List.getD, List.getElem?_eq_getElem h3]⟩)⟩
theorem itoa_nat (j : Nat) : Lib.itoa (j : Int) = Lib.decDigits j := by
  unfold Lib.itoa
  rw [if_neg (by omega)]
  simp

end Go.Proofs.YthbbmookhcalkaaGreatDoor.MapP
/- The contracts of strings.Builder's writing methods at this translation (the shelf's layings of them fall here: copyCheck's panic is no part of this dump). -/
namespace Go.Proofs.YthbbmookhcalkaaGreatDoor.Bld
open Go.ChangeShapes Go.WideShapes Go.ChangeAt Go.RowKit Go.Joins
open Go.Proofs.YthbbmookhcalkaaGreatDoor.Base
set_option linter.unusedVariables false
set_option maxRecDepth 100000

abbrev BT : TypeId := 95
abbrev U8 : TypeId := 5
theorem bInfo : (Tryz.prog.info? BT).map (fun i => i.size) = some 2 := by kernel_rfl
theorem bLies : Go.liesAt Tryz.prog Tryz.prog.depth BT (2 / Tryz.prog.cellsOf BT) 0 BT 1 = true := by kernel_rfl
theorem uInfo : (Tryz.prog.info? U8).map (fun i => (i.zero, i.size, i.bytes)) = some (some (.int .u8 0), 1, 1) := by kernel_rfl
theorem info_u8 : ∃ i, Tryz.prog.info? U8 = some i ∧ i.zero = some (.int .u8 0) ∧ i.size = 1 ∧ i.bytes = 1 := by
  obtain ⟨i, hi, he⟩ := Option.map_eq_some_iff.1 uInfo
  simp only [Prod.mk.injEq] at he
  exact ⟨i, hi, he⟩
set_option maxHeartbeats 1000000 in
theorem copyCheck_used (b : Nat) (w : World) (h0 : w.cell? ⟨b, 0, none⟩ = some (.pointer (some ⟨b, 0, none⟩))) :
    Calls Tryz.prog 92 #[.pointer (some ⟨b, 0, none⟩)] w fun e w' => e = .returned (.tuple #[]) ∧ w' = w := by
  obtain ⟨j, hj, _⟩ := Option.map_eq_some_iff.1 bInfo
  go_enter Tryz.func92, Tryz.ntmps92
  go_wp2
  rw [Lib.run_neq_ptr_same w _ Tryz.underlying93 hj]
  go_wp2
  go_end0
  exact ⟨rfl, rfl⟩
set_option maxHeartbeats 1000000 in
theorem copyCheck_fresh (b : Nat) (w : World) (h0 : w.cell? ⟨b, 0, none⟩ = some (.pointer none)) (hsh : w.shape? b = some (BT, 2)) (hfz : w.frozen? ⟨b, 0, none⟩ = false) :
    Calls Tryz.prog 92 #[.pointer (some ⟨b, 0, none⟩)] w fun e w' => e = .returned (.tuple #[]) ∧ w' = w.setCell ⟨b, 0, none⟩ (.pointer (some ⟨b, 0, none⟩)) := by
  obtain ⟨j, hj, hjs⟩ := Option.map_eq_some_iff.1 bInfo
  go_enter Tryz.func92, Tryz.ntmps92
  go_wp2
  rw [Lib.run_to_unsafe w ⟨b, 0, none⟩ Tryz.underlying93 Tryz.underlying172 hj (by rw [hjs]; decide) hsh (Nat.zero_lt_succ 1)]
  simp only [Result.andThen]
  rw [Oper.upon_value]
  go_wp2
  rw [run_callFunc_extern Tryz.func116 (by kernel_rfl) (by kernel_rfl) (by kernel_rfl) (e := Extern.AbiNoEscape.same) (by kernel_rfl), Lib.run_noEscape]
  simp only [Result.andThen]
  rw [Oper.upon_value]
  go_wp2
  rw [Lib.run_from_unsafe w ⟨b, 0, none⟩ Tryz.underlying172 Tryz.underlying93 hj hsh bLies]
  simp only [Result.andThen]
  rw [Oper.upon_value]
  go_wp2
  go_end0
  exact ⟨rfl, rfl⟩
/-- What copyCheck leaves: a builder in use. -/
theorem copyCheck_any (B b : Nat) (bs : List Value) (w : World) (h : Lib.IsBuilderF BT U8 B b bs w) :
    Calls Tryz.prog 92 #[.pointer (some ⟨b, 0, none⟩)] w fun e w' => e = .returned (.tuple #[]) ∧ Lib.BuilderAtF BT U8 B b (.pointer (some ⟨b, 0, none⟩)) bs w' ∧ Below B w w' ∧ Lib.OthersKept U8 (some b) w w' := by
  rcases h with h | h
  · refine (copyCheck_fresh b w h.cell0 h.shape h.frozen0).mono ?_
    rintro e w' ⟨rfl, rfl⟩
    exact ⟨rfl, h.used _, (Below.refl B w).setCell (p := ⟨b, 0, none⟩) h.1 _, (Lib.OthersKept.refl _ _ w).setCell ⟨b, 0, none⟩ rfl _⟩
  · refine (copyCheck_used b w h.cell0).mono ?_
    rintro e w' ⟨rfl, rfl⟩
    exact ⟨rfl, h, Below.refl B _, Lib.OthersKept.refl _ _ _⟩
set_option maxHeartbeats 4000000 in
theorem writeByte_any (B b : Nat) (bs : List Value) (c : Int) (w : World) (h : Lib.IsBuilderF BT U8 B b bs w) (hlen : bs.length + 1 ≤ 140737488355328) (hBw : B ≤ w.heap.size) :
    Calls Tryz.prog 59 #[.pointer (some ⟨b, 0, none⟩), .int .u8 c] w fun e w' => e = .returned .nilIface ∧ Lib.IsBuilderF BT U8 B b (bs ++ [.int .u8 c]) w' ∧ Below B w w' ∧ Lib.OthersKept U8 (some b) w w' := by
  obtain ⟨i, hi, hz0, hz1, hz2⟩ := info_u8
  go_enter Tryz.func59, Tryz.ntmps59
  go_wp2_with (go_at_call 92; refine (copyCheck_any B b bs _ h).mono ?_)
  rintro e w1 ⟨rfl, h1, hb1, hk1⟩
  have hlt : b < w1.heap.size := by
    obtain ⟨_, _, hb0, _⟩ := h1
    exact (Array.getElem?_eq_some_iff.1 hb0).1
  obtain ⟨hB, v, hbk, hown, hne⟩ := h1
  have hs1 := hb1.size
  have c1 : w1.cell? ⟨b, 1, none⟩ = some v := by rw [Lib.cell_of_heap hbk]; rfl
  go_wp2_with (at_builtin; refine wpList_append_ownF _ rfl _ _ 22 rfl B U8 i (.int .u8 0) 1 1 Tryz.underlying22 hi hz0 hz1 hz2 rfl (by decide) _ _ _ rfl (hown.alloc _) ⟨w1.heap.size, 0, none⟩ 1 1 [.int .u8 c] rfl rfl ?c1 ?c2 ?c3 ?c4 ?c5 ?_)
  case c1 =>
    intro k u hk
    rcases k with _ | k
    · simp only [List.getElem?_cons_zero, Option.some.injEq] at hk
      subst hk
      simp [Addr.add]
    · simp at hk
  case c2 => intro u hu; simp only [List.mem_singleton] at hu; subst hu; rfl
  case c3 => unfold maxLen; omega
  case c4 => omega
  case c5 => simp only [World.size_alloc]; omega
  intro v' w2 hown' hgrow _
  have hb2 : w2.heap[b]? = some (.cells #[.pointer (some ⟨b, 0, none⟩), v] BT (0, 0)) := by
    rw [hgrow.block b (by simp only [World.size_alloc]; omega) (fun e => hne e.symm), Lib.alloc_old w1 _ b hlt]
    exact hbk
  have d1 : w2.cell? ⟨b, 1, none⟩ = some v := by rw [Lib.cell_of_heap hb2]; rfl
  have f1 : w2.frozen? ⟨b, 1, none⟩ = false := Lib.frozen_of_heap hb2 1
  obtain ⟨g, cap, rfl⟩ : ∃ g cap, v' = .slice (some ⟨g, 0, none⟩) (bs.length + 1) cap := by
    rcases hown'.2 with ⟨_, h0⟩ | ⟨g, cap, cur, fz, hv, _⟩
    · omega
    · exact ⟨g, cap, hv⟩
  go_wp2
  go_ret
  refine ⟨rfl, .inr (Lib.BuilderAtF.put (T := BT) (e := U8) hB hb2 (bs' := bs ++ [.int .u8 c]) (by simpa using hown') (by decide)), ?_, ((hk1.alloc _).grown hgrow (Lib.ownsRowF_kind (hown.alloc _))).setCell ⟨b, 1, none⟩ rfl _⟩
  exact ((hb1.alloc (by omega) _).grown hgrow (by simp only [World.size_alloc]; omega) (fun k hk => (hown.lt k hk).1)).setCell (p := ⟨b, 1, none⟩) hB _
set_option maxHeartbeats 4000000 in
theorem writeString_any (B b : Nat) (bs : List Value) (s : ByteArray) (w : World) (h : Lib.IsBuilderF BT U8 B b bs w) (hlen : bs.length + s.size ≤ 140737488355328) (hBw : B ≤ w.heap.size) :
    Calls Tryz.prog 57 #[.pointer (some ⟨b, 0, none⟩), .string s] w fun e w' => e = .returned (.tuple #[.int .i64 s.size, .nilIface]) ∧ Lib.IsBuilderF BT U8 B b (bs ++ Lib.strCells s) w' ∧ Below B w w' ∧ Lib.OthersKept U8 (some b) w w' := by
  obtain ⟨i, hi, hz0, hz1, hz2⟩ := info_u8
  go_enter Tryz.func57, Tryz.ntmps57
  go_wp2_with (go_at_call 92; refine (copyCheck_any B b bs _ h).mono ?_)
  rintro e w1 ⟨rfl, h1, hb1, hk1⟩
  have hlt : b < w1.heap.size := by
    obtain ⟨_, _, hb0, _⟩ := h1
    exact (Array.getElem?_eq_some_iff.1 hb0).1
  obtain ⟨hB, v, hbk, hown, hne⟩ := h1
  have hs1 := hb1.size
  have c1 : w1.cell? ⟨b, 1, none⟩ = some v := by rw [Lib.cell_of_heap hbk]; rfl
  go_wp2_with (at_builtin; refine Lib.wpList_append_own_stringF _ rfl _ _ 22 9 rfl B U8 i Tryz.underlying22 Tryz.underlying9 hi hz0 hz1 hz2 _ _ _ rfl hown s rfl ?c3 ?c4 ?c5 ?_)
  case c3 => unfold maxLen; omega
  case c4 => omega
  case c5 => omega
  intro v' w2 hown' hgrow _
  have hb2 : w2.heap[b]? = some (.cells #[.pointer (some ⟨b, 0, none⟩), v] BT (0, 0)) := by
    rw [hgrow.block b hlt (fun e => hne e.symm)]
    exact hbk
  have d1 : w2.cell? ⟨b, 1, none⟩ = some v := by rw [Lib.cell_of_heap hb2]; rfl
  have f1 : w2.frozen? ⟨b, 1, none⟩ = false := Lib.frozen_of_heap hb2 1
  obtain ⟨ao, n', cap, rfl⟩ : ∃ ao n' cap, v' = .slice ao n' cap := by
    rcases hown'.2 with ⟨hv, _⟩ | ⟨g, cap, cur, fz, hv, _⟩
    · exact ⟨_, _, _, hv⟩
    · exact ⟨_, _, _, hv⟩
  go_wp2
  go_ret2
  refine ⟨rfl, .inr (Lib.BuilderAtF.put (T := BT) (e := U8) hB hb2 (bs' := bs ++ Lib.strCells s) (by simpa [Lib.strCells_length] using hown') (by decide)), ?_, (hk1.grown hgrow (Lib.ownsRowF_kind hown)).setCell ⟨b, 1, none⟩ rfl _⟩
  exact (hb1.grown hgrow (by omega) (fun k hk => (hown.lt k hk).1)).setCell (p := ⟨b, 1, none⟩) hB _
end Go.Proofs.YthbbmookhcalkaaGreatDoor.Bld
