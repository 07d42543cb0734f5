/- The contracts of chapter 1's InsText, of the program and of the specification. -/
import Derived.Test.YthbbmookhcalkaaGreatDoorInsB
import Derived.Test.YthbbmookhcalkaaGreatDoorDec
import Derived.Test.YthbbmookhcalkaaGreatDoorShelf
import Derived.Deep.RegionHeld3
import Derived.Deep.RegionWith
import Derived.Lib.AppendIntMem
namespace Go.Proofs.YthbbmookhcalkaaGreatDoor.Text
open Go.Proofs.YthbbmookhcalkaaGreatDoor.Base
open Go.ChangeShapes Go.WideShapes Go.ChangeAt Go.RowKit Go.Joins
open Go.Proofs.YthbbmookhcalkaaGreatDoor.InsA Go.Proofs.YthbbmookhcalkaaGreatDoor.InsB
open Go.Proofs.YthbbmookhcalkaaGreatDoor.Dec (dec_any ret_str ilen)
set_option linter.unusedVariables false

def wordA (o : Int) : ByteArray := if o = 1 then ⟨#[115, 97, 121]⟩ else if o = 2 then ⟨#[97, 100, 100]⟩ else if o = 3 then ⟨#[99, 97, 108, 108]⟩ else if o = 4 then ⟨#[103, 111]⟩ else if o = 5 then ⟨#[105, 102]⟩ else if o = 6 then ⟨#[114, 101, 116]⟩ else if o = 7 then ⟨#[101, 110, 100]⟩ else ⟨#[]⟩
def tailA (o n : Int) (s : ByteArray) : ByteArray := if o = 2 then ⟨#[32]⟩ ++ ⟨(Lib.itoa n).toArray⟩ else if refsB o then ⟨#[32]⟩ ++ s else ⟨#[]⟩
def textA (o n : Int) (s : ByteArray) : ByteArray := if insOkB o n s then wordA o ++ tailA o n s else ⟨#[]⟩

set_option maxHeartbeats 400000 in
theorem word_any (o : Int) (w : World) :
    Calls Tryz.prog 126 #[.int .i64 o] w fun e w' => e = .returned (.string (wordA o)) ∧ w' = w := by
  go_enter Tryz.func126, Tryz.ntmps126
  go_wp2
  all_goals (go_ret; exact ⟨ret_str (by simp_all [wordA]), rfl⟩)

theorem wordA_le (o : Int) : (wordA o).size ≤ 4 := by
  unfold wordA
  repeat' split
  all_goals decide
theorem gPow : Tryz.prog.globalNamed "internal/strconv.uint64pow10" = some 0 := by kernel_rfl
theorem itab {w w' : World} {b : Nat} {v : Value} (h : Hid (Lib.TabIs Tryz.prog w "internal/strconv.uint64pow10" .u64 Lib.pow10Tab)) (hb : w'.cell? ⟨b, 1, none⟩ = some v ∧ Below w.heap.size w w') : Lib.TabIs Tryz.prog w' "internal/strconv.uint64pow10" .u64 Lib.pow10Tab :=
  tab_stays gPow h.out hb.2 (Nat.le_refl _)
theorem keep_grow {w w' : World} {b : Nat} {v : Value} (h : w'.cell? ⟨b, 1, none⟩ = some v ∧ Below w.heap.size w w') (k : Nat) (os : Array Obj) :
    (Sort.grow (w'.drewN k) os).cell? ⟨b, 1, none⟩ = some v ∧ Below w.heap.size w (Sort.grow (w'.drewN k) os) := by
  have hb := Lib.below_grow w'.heap.size w' (Nat.le_refl _) k os
  exact ⟨(hb.cell (p := ⟨b, 1, none⟩) (World.block_lt_of_cell? w' _ h.1)).trans h.1, bl_trans h.2 hb⟩
theorem keep_here {w w' : World} {b : Nat} {v : Value} (h : w'.cell? ⟨b, 1, none⟩ = some v ∧ Below w.heap.size w w') : Below w.heap.size w w' := h.2
theorem keep_drew {w w' : World} {b : Nat} {v : Value} (h : w'.cell? ⟨b, 1, none⟩ = some v ∧ Below w.heap.size w w') : w'.drew.cell? ⟨b, 1, none⟩ = some v ∧ Below w.heap.size w w'.drew := ⟨h.1, h.2.drew⟩

set_option maxHeartbeats 1000000 in
theorem implText_no (o n : Int) (s : ByteArray) (w : World) (hs' : s.size ≤ maxLen) (hok : insOkB o n s = false) :
    Calls Tryz.prog 106 #[.agg #[.int .i64 o, .int .i64 n, .string s]] w fun e w' => e = .returned (.string (textA o n s)) ∧ Below w.heap.size w w' := by
  go_enter Tryz.func106, Tryz.ntmps106
  go_wp2_with (go_at_call 65; refine (implOk_any _ _ _ _ hs').mono ?_; rintro e w1 ⟨rfl, hb⟩)
  go_ret
  exact ⟨ret_str (by simp [textA, hok]), bl_trans (below_alloc1 _ _) hb⟩

set_option maxHeartbeats 1000000 in
theorem implText_add (n : Int) (s : ByteArray) (w : World) (hs' : s.size ≤ maxLen) (hok : insOkB 2 n s = true) (h1 : -1000 ≤ n) (h2 : n ≤ 1000) (HT : Hid (Lib.TabIs Tryz.prog w "internal/strconv.uint64pow10" .u64 Lib.pow10Tab)) :
    Calls Tryz.prog 106 #[.agg #[.int .i64 2, .int .i64 n, .string s]] w fun e w' => e = .returned (.string (textA 2 n s)) ∧ Below w.heap.size w w' := by
  have hil := ilen n
  have hfin : Hid ((wordA 2 ++ ⟨#[32]⟩) ++ ⟨(Lib.itoa n).toArray⟩ = textA 2 n s) := by
    show _ = _
    unfold textA tailA
    rw [if_pos hok, if_pos rfl, ByteArray.append_assoc]
  go_enter Tryz.func106, Tryz.ntmps106
  go_wp2_with (first | (go_at_call 65; refine (implOk_any _ _ _ _ hs').mono ?_; rintro e w1 ⟨rfl, hb⟩; obtain ⟨hc, hf⟩ := bcell hb) | (go_at_call 98; refine (hasNumber_any _ _).mono ?_; rintro e w1 ⟨rfl, rfl⟩))
  have hwd := wordA_le 2
  have hS0 : w1.cell? ⟨w.heap.size, 1, none⟩ = some (.int .i64 n) ∧ Below w.heap.size w w1 := ⟨by rw [hc _ _ (by simp)]; simp, bl_trans (below_alloc1 _ _) hb⟩
  have q1 : ¬ 9223372036854775807 < (wordA 2).size + 1 := by omega
  have q2 : ¬ 9223372036854775807 < (wordA 2).size + 1 + (Lib.itoa n).length := by omega
  clear hc hf hb hok hil hwd
  go_region_held3 (fun w' => w'.cell? ⟨w.heap.size, 1, none⟩ = some (.int .i64 n) ∧ Below w.heap.size w w') (first | assumption | (refine keep_grow ?_ _ _; assumption) | (refine keep_drew ?_; assumption)) (first | (go_at_call 126; refine (word_any _ _).mono ?_; rintro e wk ⟨rfl, rfl⟩) | (go_at_call 58; refine (Tryz.strconv_Itoa n (by omega) (by omega) _ ?_).mono ?_; (exact itab HT (by assumption)); rintro e wk ⟨rfl, k, os, rfl⟩))
  have hS1 := keep_here (by assumption)
  go_wp2_with fail
  go_ret
  exact ⟨ret_str hfin.out, hS1⟩

set_option maxHeartbeats 1000000 in
theorem implText_refs (o n : Int) (s : ByteArray) (w : World) (hs' : s.size ≤ 1048576) (hok : insOkB o n s = true) (h2 : (o == 2) = false) (hr : refsB o = true) :
    Calls Tryz.prog 106 #[.agg #[.int .i64 o, .int .i64 n, .string s]] w fun e w' => e = .returned (.string (textA o n s)) ∧ Below w.heap.size w w' := by
  have hfin : Hid ((wordA o ++ ⟨#[32]⟩) ++ s = textA o n s) := by
    show _ = _
    unfold textA tailA
    rw [if_pos hok, if_neg (by simpa using h2), if_pos hr, ByteArray.append_assoc]
  have hwd := wordA_le o
  have q1 : ¬ 9223372036854775807 < (wordA o).size + 1 := by omega
  have q2 : ¬ 9223372036854775807 < (wordA o).size + 1 + s.size := by omega
  have hs2 : s.size ≤ maxLen := by unfold maxLen; omega
  go_enter Tryz.func106, Tryz.ntmps106
  go_wp2_with (first | (go_at_call 65; refine (implOk_any _ _ _ _ hs2).mono ?_; rintro e w1 ⟨rfl, hb⟩; obtain ⟨hc, hf⟩ := bcell hb) | (go_at_call 98; refine (hasNumber_any _ _).mono ?_; rintro e w1 ⟨rfl, rfl⟩) | (go_at_call 100; refine (hasName_any _ _).mono ?_; rintro e w1 ⟨rfl, rfl⟩))
  go_quiet ((go_at_call 126; exact Calls.quiet_of_same (word_any _ _)))
  go_wp2_with fail
  go_ret
  exact ⟨ret_str hfin.out, bl_drewN (bl_trans (below_alloc1 _ _) hb) _⟩

set_option maxHeartbeats 1000000 in
theorem implText_bare (o n : Int) (s : ByteArray) (w : World) (hs' : s.size ≤ maxLen) (hok : insOkB o n s = true) (h2 : (o == 2) = false) (hr : refsB o = false) :
    Calls Tryz.prog 106 #[.agg #[.int .i64 o, .int .i64 n, .string s]] w fun e w' => e = .returned (.string (textA o n s)) ∧ Below w.heap.size w w' := by
  have hfin : Hid (wordA o = textA o n s) := by
    show _ = _
    unfold textA tailA
    rw [if_pos hok, if_neg (by simpa using h2), if_neg (by simp [hr])]
    exact (ByteArray.append_empty).symm
  go_enter Tryz.func106, Tryz.ntmps106
  go_wp2_with (first | (go_at_call 65; refine (implOk_any _ _ _ _ hs').mono ?_; rintro e w1 ⟨rfl, hb⟩; obtain ⟨hc, hf⟩ := bcell hb) | (go_at_call 98; refine (hasNumber_any _ _).mono ?_; rintro e w1 ⟨rfl, rfl⟩) | (go_at_call 100; refine (hasName_any _ _).mono ?_; rintro e w1 ⟨rfl, rfl⟩) | (go_at_call 126; refine (word_any _ _).mono ?_; rintro e w1 ⟨rfl, rfl⟩))
  go_ret
  exact ⟨ret_str hfin.out, bl_trans (below_alloc1 _ _) hb⟩

theorem ok_add {n : Int} {s : ByteArray} (h : insOkB 2 n s = true) : -1000 ≤ n ∧ n ≤ 1000 := by
  simp [insOkB] at h; omega

theorem implText_any (o n : Int) (s : ByteArray) (w : World) (hs : s.size ≤ 1048576) (htab : Lib.TabIs Tryz.prog w "internal/strconv.uint64pow10" .u64 Lib.pow10Tab) :
    Calls Tryz.prog 106 #[.agg #[.int .i64 o, .int .i64 n, .string s]] w fun e w' => e = .returned (.string (textA o n s)) ∧ Below w.heap.size w w' := by
  have hs' : s.size ≤ maxLen := by unfold maxLen; omega
  cases hok : insOkB o n s
  · exact implText_no o n s w hs' hok
  · by_cases h2 : o = 2
    · subst h2
      exact implText_add n s w hs' hok (ok_add hok).1 (ok_add hok).2 htab
    · cases hr : refsB o
      · exact implText_bare o n s w hs' hok (by simp [h2]) hr
      · exact implText_refs o n s w hs hok (by simp [h2]) hr

theorem ok_kind {o n : Int} {s : ByteArray} (h : insOkB o n s = true) : o = 1 ∨ o = 2 ∨ o = 3 ∨ o = 4 ∨ o = 5 ∨ o = 6 ∨ o = 7 := by
  unfold insOkB at h
  by_cases h2 : o = 2
  · omega
  · rw [if_neg h2] at h
    by_cases h3 : o = 3 ∨ o = 4 ∨ o = 5
    · omega
    · rw [if_neg h3] at h
      by_cases h1 : o = 1 ∨ o = 6 ∨ o = 7
      · omega
      · rw [if_neg h1] at h; cases h

end Go.Proofs.YthbbmookhcalkaaGreatDoor.Text
