/- What is written is read as it was, and what is read is written so: the plain facts, with no program in sight. -/
import Derived.Test.YtbjlcihnkkfhoaaDoorReadI
namespace Go.Proofs.YtbjlcihnkkfhoaaDoor.RT
open Go.ChangeShapes Go.WideShapes Go.ChangeAt Go.RowKit Go.Joins
open Go.Proofs.YtbjlcihnkkfhoaaDoor.Base Go.Proofs.YtbjlcihnkkfhoaaDoor.Num Go.Proofs.YtbjlcihnkkfhoaaDoor.InsA Go.Proofs.YtbjlcihnkkfhoaaDoor.InsB Go.Proofs.YtbjlcihnkkfhoaaDoor.Split Go.Proofs.YtbjlcihnkkfhoaaDoor.Read Go.Proofs.YtbjlcihnkkfhoaaDoor.ReadI
open Go.Proofs.YtbjlcihnkkfhoaaDoor.Name (nameB lets letB)
open Go.Proofs.YtbjlcihnkkfhoaaDoor.Text (wordA tailA textA ok_kind ok_add wordA_le)
open Go.Lib (decDigits itoa)
set_option linter.unusedVariables false

theorem at_list (s : ByteArray) (k : Nat) (h : k < s.size) : s[k] = s.data.toList[k]'(by simpa using h) := rfl
theorem len_list (s : ByteArray) : s.data.toList.length = s.size := by simp
theorem parted_mk {T a b : ByteArray} (h : T.data.toList = a.data.toList ++ 32 :: b.data.toList) (ha : ∀ c ∈ a.data.toList, c ≠ 32) : Parted T a b true := by
  have hl := congrArg List.length h
  simp only [len_list, List.length_append, List.length_cons] at hl
  have hk : a.size < T.size := by omega
  refine .inr ⟨rfl, a.size, ⟨hk, ?_, ?_⟩, ?_, ?_⟩
  · rw [at_list T a.size hk]
    simp only [h]
    rw [List.getElem_append_right (by rw [len_list]; omega)]
    simp
  · intro i hi hlt
    rw [at_list T i hi]
    simp only [h]
    rw [List.getElem_append_left (by rw [len_list]; omega)]
    exact ha _ (List.getElem_mem _)
  · apply bytes_inj
    rw [Lib.extract_data, h]
    simp
  · apply bytes_inj
    rw [Lib.extract_data, h]
    rw [List.drop_append]
    simp
    rw [List.take_of_length_le (by simp; omega), List.drop_of_length_le (by simp)]
    rfl
theorem parted_of {T a b : ByteArray} (h : Parted T a b true) : T.data.toList = a.data.toList ++ 32 :: b.data.toList := by
  rcases h with ⟨h, _⟩ | ⟨_, k, ⟨hk, hc, _⟩, rfl, rfl⟩
  · cases h
  · rw [Lib.extract_data, Lib.extract_data]
    simp only [List.drop_zero, Nat.sub_zero]
    rw [List.take_of_length_le (l := T.data.toList.drop (k + 1)) (by simp)]
    rw [at_list T k hk] at hc
    conv => lhs; rw [← List.take_append_drop k T.data.toList, List.drop_eq_getElem_cons (by simpa using hk), hc]
theorem word_no (o : Int) : ∀ c ∈ (wordA o).data.toList, c ≠ 32 := by
  unfold wordA
  repeat' split
  all_goals decide
theorem word_ne (o : Int) (h : o = 1 ∨ o = 2 ∨ o = 3 ∨ o = 4 ∨ o = 5 ∨ o = 6 ∨ o = 7) : wordA o ≠ ⟨#[]⟩ := by
  intro e
  have e' := congrArg (fun b : ByteArray => b.data.toList) e
  rcases h with rfl | rfl | rfl | rfl | rfl | rfl | rfl <;> (revert e'; decide)
theorem toList_nil {s : ByteArray} (h : s.toList.isEmpty = true) : s = ⟨#[]⟩ := by
  apply bytes_inj
  rw [ByteArray.toList_eq] at h
  simpa using h
theorem name_nil : nameB ⟨#[]⟩ = false := by decide
theorem list_add (n : Int) (s : ByteArray) (h : insOkB 2 n s = true) : (textA 2 n s).data.toList = (wordA 2).data.toList ++ 32 :: itoa n := by
  unfold textA tailA
  rw [if_pos h, if_pos rfl]
  simp [ByteArray.data_append]
theorem list_refs {o n : Int} {s : ByteArray} (ho : o = 3 ∨ o = 4 ∨ o = 5) (h : insOkB o n s = true) : (textA o n s).data.toList = (wordA o).data.toList ++ 32 :: s.data.toList := by
  unfold textA tailA
  rw [if_pos h, if_neg (by omega), if_pos (by rcases ho with rfl | rfl | rfl <;> rfl)]
  simp [ByteArray.data_append]
theorem text_bare {o n : Int} {s : ByteArray} (ho : o = 1 ∨ o = 6 ∨ o = 7) (h : insOkB o n s = true) : textA o n s = wordA o := by
  unfold textA tailA
  rw [if_pos h, if_neg (by omega), if_neg (by rcases ho with rfl | rfl | rfl <;> decide)]
  exact ByteArray.append_empty
theorem ok_add2 {n : Int} {s : ByteArray} (h : insOkB 2 n s = true) : -1000 ≤ n ∧ n ≤ 1000 ∧ s = ⟨#[]⟩ := by
  unfold insOkB at h
  rw [if_pos rfl] at h
  simp only [Bool.and_eq_true, decide_eq_true_eq] at h
  exact ⟨h.1.1, h.1.2, toList_nil h.2⟩
theorem ok_refs2 {o n : Int} {s : ByteArray} (ho : o = 3 ∨ o = 4 ∨ o = 5) (h : insOkB o n s = true) : n = 0 ∧ nameB s = true := by
  unfold insOkB at h
  rw [if_neg (by omega), if_pos ho] at h
  simp only [Bool.and_eq_true, beq_iff_eq] at h
  exact h
theorem ok_bare2 {o n : Int} {s : ByteArray} (ho : o = 1 ∨ o = 6 ∨ o = 7) (h : insOkB o n s = true) : n = 0 ∧ s = ⟨#[]⟩ := by
  unfold insOkB at h
  rw [if_neg (by omega), if_neg (by omega), if_pos ho] at h
  simp only [Bool.and_eq_true, beq_iff_eq] at h
  exact ⟨h.1, toList_nil h.2⟩

/-- An instruction that is ok is read from its text. -/
theorem back {o n : Int} {s : ByteArray} (h : insOkB o n s = true) : ∃ wd rs sp, Parted (textA o n s) wd rs sp ∧ InsGood wd rs sp o n s := by
  rcases ok_kind h with rfl | rfl | rfl | rfl | rfl | rfl | rfl
  · obtain ⟨rfl, rfl⟩ := ok_bare2 (by omega) h
    refine ⟨wordA 1, ⟨#[]⟩, false, ?_, .inr (.inr ⟨by omega, rfl, rfl, rfl, rfl⟩)⟩
    rw [text_bare (by omega) h]
    exact .inl ⟨rfl, fun i hi _ e => word_no 1 _ (List.getElem_mem (l := (wordA 1).data.toList) (by simpa using hi)) e, rfl, rfl⟩
  · obtain ⟨h1, h2, rfl⟩ := ok_add2 h
    exact ⟨wordA 2, ⟨(itoa n).toArray⟩, true, parted_mk (by rw [list_add n _ h]) (word_no 2), .inl ⟨rfl, rfl, h1, h2, by simp, rfl⟩⟩
  · obtain ⟨rfl, hn⟩ := ok_refs2 (by omega) h
    exact ⟨wordA 3, s, true, parted_mk (list_refs (by omega) h) (word_no 3), .inr (.inl ⟨by omega, rfl, rfl, rfl, hn⟩)⟩
  · obtain ⟨rfl, hn⟩ := ok_refs2 (by omega) h
    exact ⟨wordA 4, s, true, parted_mk (list_refs (by omega) h) (word_no 4), .inr (.inl ⟨by omega, rfl, rfl, rfl, hn⟩)⟩
  · obtain ⟨rfl, hn⟩ := ok_refs2 (by omega) h
    exact ⟨wordA 5, s, true, parted_mk (list_refs (by omega) h) (word_no 5), .inr (.inl ⟨by omega, rfl, rfl, rfl, hn⟩)⟩
  · obtain ⟨rfl, rfl⟩ := ok_bare2 (by omega) h
    refine ⟨wordA 6, ⟨#[]⟩, false, ?_, .inr (.inr ⟨by omega, rfl, rfl, rfl, rfl⟩)⟩
    rw [text_bare (by omega) h]
    exact .inl ⟨rfl, fun i hi _ e => word_no 6 _ (List.getElem_mem (l := (wordA 6).data.toList) (by simpa using hi)) e, rfl, rfl⟩
  · obtain ⟨rfl, rfl⟩ := ok_bare2 (by omega) h
    refine ⟨wordA 7, ⟨#[]⟩, false, ?_, .inr (.inr ⟨by omega, rfl, rfl, rfl, rfl⟩)⟩
    rw [text_bare (by omega) h]
    exact .inl ⟨rfl, fun i hi _ e => word_no 7 _ (List.getElem_mem (l := (wordA 7).data.toList) (by simpa using hi)) e, rfl, rfl⟩
/-- Nothing is read from the text of one that is not. -/
theorem back_no {o n : Int} {s wd rs : ByteArray} {sp : Bool} (h : insOkB o n s = false) (hp : Parted (textA o n s) wd rs sp) : ∀ p m t, ¬ InsGood wd rs sp p m t := by
  intro p m t hg
  have e : textA o n s = ⟨#[]⟩ := by unfold textA; rw [if_neg (by simp [h])]
  rw [e] at hp
  have k := good_kind hg
  rcases hp with ⟨_, _, rfl, _⟩ | ⟨_, j, ⟨hj, _⟩, _⟩
  · exact word_ne p k.1 k.2.symm
  · exact absurd hj (Nat.not_lt_zero _)
/-- What is read from a text has that text, and is ok. -/
theorem forth {T wd rs t : ByteArray} {sp : Bool} {o n : Int} (hp : Parted T wd rs sp) (hg : InsGood wd rs sp o n t) : insOkB o n t = true ∧ textA o n t = T := by
  rcases hg with ⟨rfl, rfl, h1, h2, h3, rfl⟩ | ⟨ho, rfl, rfl, rfl, hn⟩ | ⟨ho, rfl, rfl, rfl, rfl⟩
  · have hok := ok_two h1 h2
    refine ⟨hok, ?_⟩
    cases sp
    · exfalso
      rcases hp with ⟨_, _, _, rfl⟩ | ⟨h, _⟩
      · by_cases hneg : n < 0
        · rw [itoa_neg hneg] at h3; simp at h3
        · rw [itoa_pos hneg] at h3; exact dec_ne _ (by simpa using h3)
      · cases h
    · apply bytes_inj
      rw [list_add n _ hok, parted_of hp, h3]
  · have hok : insOkB o 0 t = true := by rw [ok_refs ho]; exact hn
    refine ⟨hok, ?_⟩
    cases sp
    · exfalso
      rcases hp with ⟨_, _, _, rfl⟩ | ⟨h, _⟩
      · rw [name_nil] at hn; cases hn
      · cases h
    · apply bytes_inj
      rw [list_refs ho hok, parted_of hp]
  · have hok := ok_bare ho
    refine ⟨hok, ?_⟩
    rw [text_bare ho hok]
    rcases hp with ⟨_, _, h, _⟩ | ⟨h, _⟩
    · exact h
    · cases h
theorem text_size (o n : Int) (s : ByteArray) (hs : s.size ≤ 10) : (textA o n s).size ≤ 2000 := by
  cases h : insOkB o n s
  · unfold textA; rw [if_neg (by simp [h])]; decide
  · have hw := wordA_le o
    rcases ok_kind h with rfl | rfl | rfl | rfl | rfl | rfl | rfl
    · rw [text_bare (by omega) h]; omega
    · obtain ⟨h1, h2, rfl⟩ := ok_add2 h
      have hl := congrArg List.length (list_add n _ h)
      simp only [len_list, List.length_append, List.length_cons] at hl
      have := Go.Proofs.YtbjlcihnkkfhoaaDoor.Dec.ilen n
      omega
    · have hl := congrArg List.length (list_refs (by omega) h)
      simp only [len_list, List.length_append, List.length_cons] at hl
      omega
    · have hl := congrArg List.length (list_refs (by omega) h)
      simp only [len_list, List.length_append, List.length_cons] at hl
      omega
    · have hl := congrArg List.length (list_refs (by omega) h)
      simp only [len_list, List.length_append, List.length_cons] at hl
      omega
    · rw [text_bare (by omega) h]; omega
    · rw [text_bare (by omega) h]; omega
end Go.Proofs.YtbjlcihnkkfhoaaDoor.RT
