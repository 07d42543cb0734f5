/- The contracts of chapter 1's InsText, of the program and of the specification. -/
import Derived.Test.YthbbmookhcalkaaDoorInsB
import Derived.Test.YthbbmookhcalkaaDoorDec
import Derived.Test.YthbbmookhcalkaaDoorShelf
import Derived.Deep.RegionHeld3
import Derived.Deep.RegionWith
import Derived.Lib.AppendIntMem
namespace Go.Proofs.YthbbmookhcalkaaDoor.Text
open Go.Proofs.YthbbmookhcalkaaDoor.Base
open Go.ChangeShapes Go.WideShapes Go.ChangeAt Go.RowKit Go.Joins
open Go.Proofs.YthbbmookhcalkaaDoor.InsA Go.Proofs.YthbbmookhcalkaaDoor.InsB
open Go.Proofs.YthbbmookhcalkaaDoor.Dec (dec_any ret_str ilen)
set_option linter.unusedVariables false

def wordA (o : Int) : ByteArray := if o = 1 then ⟨#[115, 97, 121]⟩ else if o = 2 then ⟨#[97, 100, 100]⟩ else if o = 3 then ⟨#[99, 97, 108, 108]⟩ else if o = 4 then ⟨#[103, 111]⟩ else if o = 5 then ⟨#[105, 102]⟩ else if o = 6 then ⟨#[114, 101, 116]⟩ else if o = 7 then ⟨#[101, 110, 100]⟩ else ⟨#[]⟩
def tailA (o n : Int) (s : ByteArray) : ByteArray := if o = 2 then ⟨#[32]⟩ ++ ⟨(Lib.itoa n).toArray⟩ else if refsB o then ⟨#[32]⟩ ++ s else ⟨#[]⟩
def textA (o n : Int) (s : ByteArray) : ByteArray := if insOkB o n s then wordA o ++ tailA o n s else ⟨#[]⟩

set_option maxHeartbeats 400000 in
theorem word_any (o : Int) (w : World) :
    Calls Tryd.prog 74 #[.int .i64 o] w fun e w' => e = .returned (.string (wordA o)) ∧ w' = w := by
  go_enter Tryd.func74, Tryd.ntmps74
  go_wp2
  all_goals (go_ret; exact ⟨ret_str (by simp_all [wordA]), rfl⟩)

set_option maxHeartbeats 400000 in
theorem words_any (w : World) :
    Calls Tryd.prog 34 #[] w fun e w' => e = .returned (.slice (some ⟨w.heap.size, 0, none⟩) 8 8) ∧ w' = w.alloc (.cells #[.string ⟨#[]⟩, .string ⟨#[115, 97, 121]⟩, .string ⟨#[97, 100, 100]⟩, .string ⟨#[99, 97, 108, 108]⟩, .string ⟨#[103, 111]⟩, .string ⟨#[105, 102]⟩, .string ⟨#[114, 101, 116]⟩, .string ⟨#[101, 110, 100]⟩] 9) := by
  go_enter Tryd.func34, Tryd.ntmps34
  go_wp2
  go_ret
  exact ⟨rfl, rfl⟩

theorem wordA_le (o : Int) : (wordA o).size ≤ 4 := by
  unfold wordA
  repeat' split
  all_goals decide
theorem gPow : Tryd.prog.globalNamed "internal/strconv.uint64pow10" = some 0 := by kernel_rfl
theorem itab {w w' : World} {b : Nat} {v : Value} (h : Hid (Lib.TabIs Tryd.prog w "internal/strconv.uint64pow10" .u64 Lib.pow10Tab)) (hb : w'.cell? ⟨b, 1, none⟩ = some v ∧ Below w.heap.size w w') : Lib.TabIs Tryd.prog w' "internal/strconv.uint64pow10" .u64 Lib.pow10Tab :=
  tab_stays gPow h.out hb.2 (Nat.le_refl _)
theorem keep_grow {w w' : World} {b : Nat} {v : Value} (h : w'.cell? ⟨b, 1, none⟩ = some v ∧ Below w.heap.size w w') (k : Nat) (os : Array Obj) :
    (Sort.grow (w'.drewN k) os).cell? ⟨b, 1, none⟩ = some v ∧ Below w.heap.size w (Sort.grow (w'.drewN k) os) := by
  have hb := Lib.below_grow w'.heap.size w' (Nat.le_refl _) k os
  exact ⟨(hb.cell (p := ⟨b, 1, none⟩) (World.block_lt_of_cell? w' _ h.1)).trans h.1, bl_trans h.2 hb⟩
theorem keep_here {w w' : World} {b : Nat} {v : Value} (h : w'.cell? ⟨b, 1, none⟩ = some v ∧ Below w.heap.size w w') : Below w.heap.size w w' := h.2
theorem keep_drew {w w' : World} {b : Nat} {v : Value} (h : w'.cell? ⟨b, 1, none⟩ = some v ∧ Below w.heap.size w w') : w'.drew.cell? ⟨b, 1, none⟩ = some v ∧ Below w.heap.size w w'.drew := ⟨h.1, h.2.drew⟩

set_option maxHeartbeats 1000000 in
theorem implText_no (o n : Int) (s : ByteArray) (w : World) (hs' : s.size ≤ maxLen) (hok : insOkB o n s = false) :
    Calls Tryd.prog 49 #[.agg #[.int .i64 o, .int .i64 n, .string s]] w fun e w' => e = .returned (.string (textA o n s)) ∧ Below w.heap.size w w' := by
  go_enter Tryd.func49, Tryd.ntmps49
  go_wp2_with (go_at_call 68; refine (implOk_any _ _ _ _ hs').mono ?_; rintro e w1 ⟨rfl, hb⟩)
  go_ret
  exact ⟨ret_str (by simp [textA, hok]), bl_trans (below_alloc1 _ _) hb⟩

set_option maxHeartbeats 1000000 in
theorem implText_add (n : Int) (s : ByteArray) (w : World) (hs' : s.size ≤ maxLen) (hok : insOkB 2 n s = true) (h1 : -1000 ≤ n) (h2 : n ≤ 1000) (HT : Hid (Lib.TabIs Tryd.prog w "internal/strconv.uint64pow10" .u64 Lib.pow10Tab)) :
    Calls Tryd.prog 49 #[.agg #[.int .i64 2, .int .i64 n, .string s]] w fun e w' => e = .returned (.string (textA 2 n s)) ∧ Below w.heap.size w w' := by
  have hil := ilen n
  have hfin : Hid ((wordA 2 ++ ⟨#[32]⟩) ++ ⟨(Lib.itoa n).toArray⟩ = textA 2 n s) := by
    show _ = _
    unfold textA tailA
    rw [if_pos hok, if_pos rfl, ByteArray.append_assoc]
  go_enter Tryd.func49, Tryd.ntmps49
  go_wp2_with (first | (go_at_call 68; refine (implOk_any _ _ _ _ hs').mono ?_; rintro e w1 ⟨rfl, hb⟩; obtain ⟨hc, hf⟩ := bcell hb) | (go_at_call 73; refine (hasNumber_any _ _).mono ?_; rintro e w1 ⟨rfl, rfl⟩))
  have hwd := wordA_le 2
  have hS0 : w1.cell? ⟨w.heap.size, 1, none⟩ = some (.int .i64 n) ∧ Below w.heap.size w w1 := ⟨by rw [hc _ _ (by simp)]; simp, bl_trans (below_alloc1 _ _) hb⟩
  have q1 : ¬ 9223372036854775807 < (wordA 2).size + 1 := by omega
  have q2 : ¬ 9223372036854775807 < (wordA 2).size + 1 + (Lib.itoa n).length := by omega
  clear hc hf hb hok hil hwd
  go_region_held3 (fun w' => w'.cell? ⟨w.heap.size, 1, none⟩ = some (.int .i64 n) ∧ Below w.heap.size w w') (first | assumption | (refine keep_grow ?_ _ _; assumption) | (refine keep_drew ?_; assumption)) (first | (go_at_call 74; refine (word_any _ _).mono ?_; rintro e wk ⟨rfl, rfl⟩) | (go_at_call 61; refine (Tryd.strconv_Itoa n (by omega) (by omega) _ ?_).mono ?_; (exact itab HT (by assumption)); rintro e wk ⟨rfl, k, os, rfl⟩))
  have hS1 := keep_here (by assumption)
  go_wp2_with fail
  go_ret
  exact ⟨ret_str hfin.out, hS1⟩

set_option maxHeartbeats 1000000 in
theorem implText_refs (o n : Int) (s : ByteArray) (w : World) (hs' : s.size ≤ 1048576) (hok : insOkB o n s = true) (h2 : (o == 2) = false) (hr : refsB o = true) :
    Calls Tryd.prog 49 #[.agg #[.int .i64 o, .int .i64 n, .string s]] w fun e w' => e = .returned (.string (textA o n s)) ∧ Below w.heap.size w w' := by
  have hfin : Hid ((wordA o ++ ⟨#[32]⟩) ++ s = textA o n s) := by
    show _ = _
    unfold textA tailA
    rw [if_pos hok, if_neg (by simpa using h2), if_pos hr, ByteArray.append_assoc]
  have hwd := wordA_le o
  have q1 : ¬ 9223372036854775807 < (wordA o).size + 1 := by omega
  have q2 : ¬ 9223372036854775807 < (wordA o).size + 1 + s.size := by omega
  have hs2 : s.size ≤ maxLen := by unfold maxLen; omega
  go_enter Tryd.func49, Tryd.ntmps49
  go_wp2_with (first | (go_at_call 68; refine (implOk_any _ _ _ _ hs2).mono ?_; rintro e w1 ⟨rfl, hb⟩; obtain ⟨hc, hf⟩ := bcell hb) | (go_at_call 73; refine (hasNumber_any _ _).mono ?_; rintro e w1 ⟨rfl, rfl⟩) | (go_at_call 75; refine (hasName_any _ _).mono ?_; rintro e w1 ⟨rfl, rfl⟩))
  go_quiet ((go_at_call 74; exact Calls.quiet_of_same (word_any _ _)))
  go_wp2_with fail
  go_ret
  exact ⟨ret_str hfin.out, bl_drewN (bl_trans (below_alloc1 _ _) hb) _⟩

set_option maxHeartbeats 1000000 in
theorem implText_bare (o n : Int) (s : ByteArray) (w : World) (hs' : s.size ≤ maxLen) (hok : insOkB o n s = true) (h2 : (o == 2) = false) (hr : refsB o = false) :
    Calls Tryd.prog 49 #[.agg #[.int .i64 o, .int .i64 n, .string s]] w fun e w' => e = .returned (.string (textA o n s)) ∧ Below w.heap.size w w' := by
  have hfin : Hid (wordA o = textA o n s) := by
    show _ = _
    unfold textA tailA
    rw [if_pos hok, if_neg (by simpa using h2), if_neg (by simp [hr])]
    exact (ByteArray.append_empty).symm
  go_enter Tryd.func49, Tryd.ntmps49
  go_wp2_with (first | (go_at_call 68; refine (implOk_any _ _ _ _ hs').mono ?_; rintro e w1 ⟨rfl, hb⟩; obtain ⟨hc, hf⟩ := bcell hb) | (go_at_call 73; refine (hasNumber_any _ _).mono ?_; rintro e w1 ⟨rfl, rfl⟩) | (go_at_call 75; refine (hasName_any _ _).mono ?_; rintro e w1 ⟨rfl, rfl⟩) | (go_at_call 74; refine (word_any _ _).mono ?_; rintro e w1 ⟨rfl, rfl⟩))
  go_ret
  exact ⟨ret_str hfin.out, bl_trans (below_alloc1 _ _) hb⟩

theorem ok_add {n : Int} {s : ByteArray} (h : insOkB 2 n s = true) : -1000 ≤ n ∧ n ≤ 1000 := by
  simp [insOkB] at h; omega

theorem implText_any (o n : Int) (s : ByteArray) (w : World) (hs : s.size ≤ 1048576) (htab : Lib.TabIs Tryd.prog w "internal/strconv.uint64pow10" .u64 Lib.pow10Tab) :
    Calls Tryd.prog 49 #[.agg #[.int .i64 o, .int .i64 n, .string s]] w fun e w' => e = .returned (.string (textA o n s)) ∧ Below w.heap.size w w' := by
  have hs' : s.size ≤ maxLen := by unfold maxLen; omega
  cases hok : insOkB o n s
  · exact implText_no o n s w hs' hok
  · by_cases h2 : o = 2
    · subst h2
      exact implText_add n s w hs' hok (ok_add hok).1 (ok_add hok).2 htab
    · cases hr : refsB o
      · exact implText_bare o n s w hs' hok (by simp [h2]) hr
      · exact implText_refs o n s w hs hok (by simp [h2]) hr

set_option maxHeartbeats 1000000 in
theorem specText_no (o n : Int) (s : ByteArray) (w : World) (hs' : s.size ≤ maxLen) (hok : insOkB o n s = false) :
    Calls Tryd.prog 26 #[.agg #[.int .i64 o, .int .i64 n, .string s]] w fun e w' => e = .returned (.string (textA o n s)) ∧ Below w.heap.size w w' := by
  go_enter Tryd.func26, Tryd.ntmps26
  go_wp2_with (go_at_call 51; refine (specOk_any _ _ _ _ hs').mono ?_; rintro e w1 ⟨rfl, hb⟩)
  go_ret
  exact ⟨ret_str (by simp [textA, hok]), bl_trans (below_alloc1 _ _) hb⟩

set_option maxHeartbeats 1000000 in
theorem specText_1 (n : Int) (s : ByteArray) (w : World) (hs : s.size ≤ 1048576) (hok : insOkB 1 n s = true) :
    Calls Tryd.prog 26 #[.agg #[.int .i64 1, .int .i64 n, .string s]] w fun e w' => e = .returned (.string (textA 1 n s)) ∧ Below w.heap.size w w' := by
  have hs' : s.size ≤ maxLen := by unfold maxLen; omega
  have hfin : Hid (⟨#[115, 97, 121]⟩ = textA 1 n s) := by
    show _ = _
    unfold textA tailA
    rw [if_pos hok, if_neg (by decide), if_neg (by decide)]
    rfl
  have hrB : refsB 1 = false := by decide
  go_enter Tryd.func26, Tryd.ntmps26
  go_wp2_with (go_at_call 51; refine (specOk_any _ _ _ _ hs').mono ?_; rintro e w1 ⟨rfl, hb⟩)
  have hB := bl_trans (below_alloc1 _ _) hb
  have HX := hide (box_below (box_below (new_block w _) hb) (below_alloc1 w1 (.cells #[.string ⟨#[]⟩, .string ⟨#[115, 97, 121]⟩, .string ⟨#[97, 100, 100]⟩, .string ⟨#[99, 97, 108, 108]⟩, .string ⟨#[103, 111]⟩, .string ⟨#[105, 102]⟩, .string ⟨#[114, 101, 116]⟩, .string ⟨#[101, 110, 100]⟩] 9)))
  obtain ⟨⟨c0, c1, c2⟩, _⟩ := box3 (box_below (new_block w _) hb)
  obtain ⟨⟨d0, d1, d2⟩, _⟩ := box3 (unhide HX)
  clear hb hok
  go_region_with (go_at_call 34; refine (words_any _).mono ?_; rintro e wk ⟨rfl, rfl⟩)
  all_goals (go_wp2_with (first | (go_at_call 52; refine (specRefs_any _ _ _ _).mono ?_; rintro e w2 ⟨rfl, hb2⟩; replace hB := bl_trans (bl_drewN (bl_alloc hB _) 1) hb2; obtain ⟨⟨c0, c1, c2⟩, _⟩ := box3 (box_below (box_drew (unhide HX)) hb2)) | (go_at_call 32; refine (dec_any _ _ (by omega) (by omega)).mono ?_; rintro e w2 ⟨rfl, hb2⟩; replace hB := bl_trans (bl_drewN (bl_alloc hB _) 1) hb2)))
  all_goals (go_ret; exact ⟨ret_str hfin.out, hB⟩)

set_option maxHeartbeats 1000000 in
theorem specText_6 (n : Int) (s : ByteArray) (w : World) (hs : s.size ≤ 1048576) (hok : insOkB 6 n s = true) :
    Calls Tryd.prog 26 #[.agg #[.int .i64 6, .int .i64 n, .string s]] w fun e w' => e = .returned (.string (textA 6 n s)) ∧ Below w.heap.size w w' := by
  have hs' : s.size ≤ maxLen := by unfold maxLen; omega
  have hfin : Hid (⟨#[114, 101, 116]⟩ = textA 6 n s) := by
    show _ = _
    unfold textA tailA
    rw [if_pos hok, if_neg (by decide), if_neg (by decide)]
    rfl
  have hrB : refsB 6 = false := by decide
  go_enter Tryd.func26, Tryd.ntmps26
  go_wp2_with (go_at_call 51; refine (specOk_any _ _ _ _ hs').mono ?_; rintro e w1 ⟨rfl, hb⟩)
  have hB := bl_trans (below_alloc1 _ _) hb
  have HX := hide (box_below (box_below (new_block w _) hb) (below_alloc1 w1 (.cells #[.string ⟨#[]⟩, .string ⟨#[115, 97, 121]⟩, .string ⟨#[97, 100, 100]⟩, .string ⟨#[99, 97, 108, 108]⟩, .string ⟨#[103, 111]⟩, .string ⟨#[105, 102]⟩, .string ⟨#[114, 101, 116]⟩, .string ⟨#[101, 110, 100]⟩] 9)))
  obtain ⟨⟨c0, c1, c2⟩, _⟩ := box3 (box_below (new_block w _) hb)
  obtain ⟨⟨d0, d1, d2⟩, _⟩ := box3 (unhide HX)
  clear hb hok
  go_region_with (go_at_call 34; refine (words_any _).mono ?_; rintro e wk ⟨rfl, rfl⟩)
  all_goals (go_wp2_with (first | (go_at_call 52; refine (specRefs_any _ _ _ _).mono ?_; rintro e w2 ⟨rfl, hb2⟩; replace hB := bl_trans (bl_drewN (bl_alloc hB _) 1) hb2; obtain ⟨⟨c0, c1, c2⟩, _⟩ := box3 (box_below (box_drew (unhide HX)) hb2)) | (go_at_call 32; refine (dec_any _ _ (by omega) (by omega)).mono ?_; rintro e w2 ⟨rfl, hb2⟩; replace hB := bl_trans (bl_drewN (bl_alloc hB _) 1) hb2)))
  all_goals (go_ret; exact ⟨ret_str hfin.out, hB⟩)

set_option maxHeartbeats 1000000 in
theorem specText_7 (n : Int) (s : ByteArray) (w : World) (hs : s.size ≤ 1048576) (hok : insOkB 7 n s = true) :
    Calls Tryd.prog 26 #[.agg #[.int .i64 7, .int .i64 n, .string s]] w fun e w' => e = .returned (.string (textA 7 n s)) ∧ Below w.heap.size w w' := by
  have hs' : s.size ≤ maxLen := by unfold maxLen; omega
  have hfin : Hid (⟨#[101, 110, 100]⟩ = textA 7 n s) := by
    show _ = _
    unfold textA tailA
    rw [if_pos hok, if_neg (by decide), if_neg (by decide)]
    rfl
  have hrB : refsB 7 = false := by decide
  go_enter Tryd.func26, Tryd.ntmps26
  go_wp2_with (go_at_call 51; refine (specOk_any _ _ _ _ hs').mono ?_; rintro e w1 ⟨rfl, hb⟩)
  have hB := bl_trans (below_alloc1 _ _) hb
  have HX := hide (box_below (box_below (new_block w _) hb) (below_alloc1 w1 (.cells #[.string ⟨#[]⟩, .string ⟨#[115, 97, 121]⟩, .string ⟨#[97, 100, 100]⟩, .string ⟨#[99, 97, 108, 108]⟩, .string ⟨#[103, 111]⟩, .string ⟨#[105, 102]⟩, .string ⟨#[114, 101, 116]⟩, .string ⟨#[101, 110, 100]⟩] 9)))
  obtain ⟨⟨c0, c1, c2⟩, _⟩ := box3 (box_below (new_block w _) hb)
  obtain ⟨⟨d0, d1, d2⟩, _⟩ := box3 (unhide HX)
  clear hb hok
  go_region_with (go_at_call 34; refine (words_any _).mono ?_; rintro e wk ⟨rfl, rfl⟩)
  all_goals (go_wp2_with (first | (go_at_call 52; refine (specRefs_any _ _ _ _).mono ?_; rintro e w2 ⟨rfl, hb2⟩; replace hB := bl_trans (bl_drewN (bl_alloc hB _) 1) hb2; obtain ⟨⟨c0, c1, c2⟩, _⟩ := box3 (box_below (box_drew (unhide HX)) hb2)) | (go_at_call 32; refine (dec_any _ _ (by omega) (by omega)).mono ?_; rintro e w2 ⟨rfl, hb2⟩; replace hB := bl_trans (bl_drewN (bl_alloc hB _) 1) hb2)))
  all_goals (go_ret; exact ⟨ret_str hfin.out, hB⟩)

set_option maxHeartbeats 1000000 in
theorem specText_3 (n : Int) (s : ByteArray) (w : World) (hs : s.size ≤ 1048576) (hok : insOkB 3 n s = true) :
    Calls Tryd.prog 26 #[.agg #[.int .i64 3, .int .i64 n, .string s]] w fun e w' => e = .returned (.string (textA 3 n s)) ∧ Below w.heap.size w w' := by
  have hs' : s.size ≤ maxLen := by unfold maxLen; omega
  have hfin : Hid ((⟨#[99, 97, 108, 108]⟩ ++ ⟨#[32]⟩) ++ s = textA 3 n s) := by
    show _ = _
    unfold textA tailA
    rw [if_pos hok, if_neg (by decide), if_pos (by decide), ByteArray.append_assoc]
    rfl
  have hrB : refsB 3 = true := by decide
  go_enter Tryd.func26, Tryd.ntmps26
  go_wp2_with (go_at_call 51; refine (specOk_any _ _ _ _ hs').mono ?_; rintro e w1 ⟨rfl, hb⟩)
  have hB := bl_trans (below_alloc1 _ _) hb
  have HX := hide (box_below (box_below (new_block w _) hb) (below_alloc1 w1 (.cells #[.string ⟨#[]⟩, .string ⟨#[115, 97, 121]⟩, .string ⟨#[97, 100, 100]⟩, .string ⟨#[99, 97, 108, 108]⟩, .string ⟨#[103, 111]⟩, .string ⟨#[105, 102]⟩, .string ⟨#[114, 101, 116]⟩, .string ⟨#[101, 110, 100]⟩] 9)))
  obtain ⟨⟨c0, c1, c2⟩, _⟩ := box3 (box_below (new_block w _) hb)
  obtain ⟨⟨d0, d1, d2⟩, _⟩ := box3 (unhide HX)
  clear hb hok
  go_region_with (go_at_call 34; refine (words_any _).mono ?_; rintro e wk ⟨rfl, rfl⟩)
  all_goals (go_wp2_with (first | (go_at_call 52; refine (specRefs_any _ _ _ _).mono ?_; rintro e w2 ⟨rfl, hb2⟩; replace hB := bl_trans (bl_drewN (bl_alloc hB _) 1) hb2; obtain ⟨⟨c0, c1, c2⟩, _⟩ := box3 (box_below (box_drew (unhide HX)) hb2)) | (go_at_call 32; refine (dec_any _ _ (by omega) (by omega)).mono ?_; rintro e w2 ⟨rfl, hb2⟩; replace hB := bl_trans (bl_drewN (bl_alloc hB _) 1) hb2)))
  all_goals (go_ret; exact ⟨ret_str hfin.out, hB⟩)

set_option maxHeartbeats 1000000 in
theorem specText_4 (n : Int) (s : ByteArray) (w : World) (hs : s.size ≤ 1048576) (hok : insOkB 4 n s = true) :
    Calls Tryd.prog 26 #[.agg #[.int .i64 4, .int .i64 n, .string s]] w fun e w' => e = .returned (.string (textA 4 n s)) ∧ Below w.heap.size w w' := by
  have hs' : s.size ≤ maxLen := by unfold maxLen; omega
  have hfin : Hid ((⟨#[103, 111]⟩ ++ ⟨#[32]⟩) ++ s = textA 4 n s) := by
    show _ = _
    unfold textA tailA
    rw [if_pos hok, if_neg (by decide), if_pos (by decide), ByteArray.append_assoc]
    rfl
  have hrB : refsB 4 = true := by decide
  go_enter Tryd.func26, Tryd.ntmps26
  go_wp2_with (go_at_call 51; refine (specOk_any _ _ _ _ hs').mono ?_; rintro e w1 ⟨rfl, hb⟩)
  have hB := bl_trans (below_alloc1 _ _) hb
  have HX := hide (box_below (box_below (new_block w _) hb) (below_alloc1 w1 (.cells #[.string ⟨#[]⟩, .string ⟨#[115, 97, 121]⟩, .string ⟨#[97, 100, 100]⟩, .string ⟨#[99, 97, 108, 108]⟩, .string ⟨#[103, 111]⟩, .string ⟨#[105, 102]⟩, .string ⟨#[114, 101, 116]⟩, .string ⟨#[101, 110, 100]⟩] 9)))
  obtain ⟨⟨c0, c1, c2⟩, _⟩ := box3 (box_below (new_block w _) hb)
  obtain ⟨⟨d0, d1, d2⟩, _⟩ := box3 (unhide HX)
  clear hb hok
  go_region_with (go_at_call 34; refine (words_any _).mono ?_; rintro e wk ⟨rfl, rfl⟩)
  all_goals (go_wp2_with (first | (go_at_call 52; refine (specRefs_any _ _ _ _).mono ?_; rintro e w2 ⟨rfl, hb2⟩; replace hB := bl_trans (bl_drewN (bl_alloc hB _) 1) hb2; obtain ⟨⟨c0, c1, c2⟩, _⟩ := box3 (box_below (box_drew (unhide HX)) hb2)) | (go_at_call 32; refine (dec_any _ _ (by omega) (by omega)).mono ?_; rintro e w2 ⟨rfl, hb2⟩; replace hB := bl_trans (bl_drewN (bl_alloc hB _) 1) hb2)))
  all_goals (go_ret; exact ⟨ret_str hfin.out, hB⟩)

set_option maxHeartbeats 1000000 in
theorem specText_5 (n : Int) (s : ByteArray) (w : World) (hs : s.size ≤ 1048576) (hok : insOkB 5 n s = true) :
    Calls Tryd.prog 26 #[.agg #[.int .i64 5, .int .i64 n, .string s]] w fun e w' => e = .returned (.string (textA 5 n s)) ∧ Below w.heap.size w w' := by
  have hs' : s.size ≤ maxLen := by unfold maxLen; omega
  have hfin : Hid ((⟨#[105, 102]⟩ ++ ⟨#[32]⟩) ++ s = textA 5 n s) := by
    show _ = _
    unfold textA tailA
    rw [if_pos hok, if_neg (by decide), if_pos (by decide), ByteArray.append_assoc]
    rfl
  have hrB : refsB 5 = true := by decide
  go_enter Tryd.func26, Tryd.ntmps26
  go_wp2_with (go_at_call 51; refine (specOk_any _ _ _ _ hs').mono ?_; rintro e w1 ⟨rfl, hb⟩)
  have hB := bl_trans (below_alloc1 _ _) hb
  have HX := hide (box_below (box_below (new_block w _) hb) (below_alloc1 w1 (.cells #[.string ⟨#[]⟩, .string ⟨#[115, 97, 121]⟩, .string ⟨#[97, 100, 100]⟩, .string ⟨#[99, 97, 108, 108]⟩, .string ⟨#[103, 111]⟩, .string ⟨#[105, 102]⟩, .string ⟨#[114, 101, 116]⟩, .string ⟨#[101, 110, 100]⟩] 9)))
  obtain ⟨⟨c0, c1, c2⟩, _⟩ := box3 (box_below (new_block w _) hb)
  obtain ⟨⟨d0, d1, d2⟩, _⟩ := box3 (unhide HX)
  clear hb hok
  go_region_with (go_at_call 34; refine (words_any _).mono ?_; rintro e wk ⟨rfl, rfl⟩)
  all_goals (go_wp2_with (first | (go_at_call 52; refine (specRefs_any _ _ _ _).mono ?_; rintro e w2 ⟨rfl, hb2⟩; replace hB := bl_trans (bl_drewN (bl_alloc hB _) 1) hb2; obtain ⟨⟨c0, c1, c2⟩, _⟩ := box3 (box_below (box_drew (unhide HX)) hb2)) | (go_at_call 32; refine (dec_any _ _ (by omega) (by omega)).mono ?_; rintro e w2 ⟨rfl, hb2⟩; replace hB := bl_trans (bl_drewN (bl_alloc hB _) 1) hb2)))
  all_goals (go_ret; exact ⟨ret_str hfin.out, hB⟩)

set_option maxHeartbeats 1000000 in
theorem specText_2 (n : Int) (s : ByteArray) (w : World) (hs : s.size ≤ 1048576) (hok : insOkB 2 n s = true) :
    Calls Tryd.prog 26 #[.agg #[.int .i64 2, .int .i64 n, .string s]] w fun e w' => e = .returned (.string (textA 2 n s)) ∧ Below w.heap.size w w' := by
  have hs' : s.size ≤ maxLen := by unfold maxLen; omega
  have hfin : Hid ((⟨#[97, 100, 100]⟩ ++ ⟨#[32]⟩) ++ ⟨(Lib.itoa n).toArray⟩ = textA 2 n s) := by
    show _ = _
    unfold textA tailA
    rw [if_pos hok, if_pos rfl, ByteArray.append_assoc]
    rfl
  have hn := ok_add hok
  have hil := ilen n
  have hrB : refsB 2 = false := by decide
  go_enter Tryd.func26, Tryd.ntmps26
  go_wp2_with (go_at_call 51; refine (specOk_any _ _ _ _ hs').mono ?_; rintro e w1 ⟨rfl, hb⟩)
  have hB := bl_trans (below_alloc1 _ _) hb
  have HX := hide (box_below (box_below (new_block w _) hb) (below_alloc1 w1 (.cells #[.string ⟨#[]⟩, .string ⟨#[115, 97, 121]⟩, .string ⟨#[97, 100, 100]⟩, .string ⟨#[99, 97, 108, 108]⟩, .string ⟨#[103, 111]⟩, .string ⟨#[105, 102]⟩, .string ⟨#[114, 101, 116]⟩, .string ⟨#[101, 110, 100]⟩] 9)))
  obtain ⟨⟨c0, c1, c2⟩, _⟩ := box3 (box_below (new_block w _) hb)
  obtain ⟨⟨d0, d1, d2⟩, _⟩ := box3 (unhide HX)
  clear hb hok
  go_region_with (go_at_call 34; refine (words_any _).mono ?_; rintro e wk ⟨rfl, rfl⟩)
  all_goals (go_wp2_with (first | (go_at_call 52; refine (specRefs_any _ _ _ _).mono ?_; rintro e w2 ⟨rfl, hb2⟩; replace hB := bl_trans (bl_drewN (bl_alloc hB _) 1) hb2; obtain ⟨⟨c0, c1, c2⟩, _⟩ := box3 (box_below (box_drew (unhide HX)) hb2)) | (go_at_call 32; refine (dec_any _ _ (by omega) (by omega)).mono ?_; rintro e w2 ⟨rfl, hb2⟩; replace hB := bl_trans (bl_drewN (bl_alloc hB _) 1) hb2)))
  all_goals (go_ret; exact ⟨ret_str hfin.out, hB⟩)

theorem ok_kind {o n : Int} {s : ByteArray} (h : insOkB o n s = true) : o = 1 ∨ o = 2 ∨ o = 3 ∨ o = 4 ∨ o = 5 ∨ o = 6 ∨ o = 7 := by
  unfold insOkB at h
  by_cases h2 : o = 2
  · omega
  · rw [if_neg h2] at h
    by_cases h3 : o = 3 ∨ o = 4 ∨ o = 5
    · omega
    · rw [if_neg h3] at h
      by_cases h1 : o = 1 ∨ o = 6 ∨ o = 7
      · omega
      · rw [if_neg h1] at h; cases h

theorem specText_any (o n : Int) (s : ByteArray) (w : World) (hs : s.size ≤ 1048576) :
    Calls Tryd.prog 26 #[.agg #[.int .i64 o, .int .i64 n, .string s]] w fun e w' => e = .returned (.string (textA o n s)) ∧ Below w.heap.size w w' := by
  cases hok : insOkB o n s
  · exact specText_no o n s w (by unfold maxLen; omega) hok
  · rcases ok_kind hok with rfl | rfl | rfl | rfl | rfl | rfl | rfl
    · exact specText_1 n s w hs hok
    · exact specText_2 n s w hs hok
    · exact specText_3 n s w hs hok
    · exact specText_4 n s w hs hok
    · exact specText_5 n s w hs hok
    · exact specText_6 n s w hs hok
    · exact specText_7 n s w hs hok
end Go.Proofs.YthbbmookhcalkaaDoor.Text
