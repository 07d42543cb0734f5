/- An instruction's text tells the instruction, and the lines of a body tell the body: plain facts. -/
import Derived.Test.YthbbmookhcalkaaGreatDoorBTxt
import Derived.Test.YthbbmookhcalkaaGreatDoorNum
namespace Go.Proofs.YthbbmookhcalkaaGreatDoor.TxtI
open Go.ChangeShapes Go.WideShapes Go.ChangeAt Go.RowKit Go.Joins
open Go.Proofs.YthbbmookhcalkaaGreatDoor.Base Go.Proofs.YthbbmookhcalkaaGreatDoor.Num Go.Proofs.YthbbmookhcalkaaGreatDoor.InsA Go.Proofs.YthbbmookhcalkaaGreatDoor.InsB Go.Proofs.YthbbmookhcalkaaGreatDoor.Funs Go.Proofs.YthbbmookhcalkaaGreatDoor.Open Go.Proofs.YthbbmookhcalkaaGreatDoor.FunS Go.Proofs.YthbbmookhcalkaaGreatDoor.BTxt
open Go.Proofs.YthbbmookhcalkaaGreatDoor.Name (nameB lets letB)
open Go.Proofs.YthbbmookhcalkaaGreatDoor.Text (wordA tailA textA ok_kind wordA_le)
open Go.Lib (decDigits itoa)
set_option linter.unusedVariables false

theorem bytes_eq {a b : ByteArray} (h : a.data.toList = b.data.toList) : a = b := ByteArray.ext (Array.ext' h)
theorem word_32 (o : Int) : ∀ c ∈ (wordA o).data.toList, c ≠ 32 := by
  unfold wordA
  repeat' split
  all_goals decide
theorem word_10 (o : Int) : ∀ c ∈ (wordA o).data.toList, c ≠ 10 := by
  unfold wordA
  repeat' split
  all_goals decide
theorem nil_of {s : ByteArray} (h : s.toList.isEmpty = true) : s = ⟨#[]⟩ := by
  apply bytes_eq
  rw [ByteArray.toList_eq] at h
  simpa using h
def tl (x : InsD) : List UInt8 := if x.o = 2 then 32 :: itoa x.n else if refsB x.o then 32 :: x.s.data.toList else []
theorem tl_ways (x : InsD) : tl x = [] ∨ ∃ t, tl x = 32 :: t := by
  unfold tl
  split
  · exact .inr ⟨_, rfl⟩
  · split
    · exact .inr ⟨_, rfl⟩
    · exact .inl rfl
theorem text_list {x : InsD} (h : insOkD x = true) : (insT x).data.toList = (wordA x.o).data.toList ++ tl x := by
  unfold insT textA tailA tl
  rw [if_pos (show insOkB x.o x.n x.s = true from h)]
  split
  · simp [ByteArray.data_append]
  · split
    · simp [ByteArray.data_append]
    · simp [ByteArray.data_append]
theorem cut_tail {a b c d : List UInt8} (ha : ∀ x ∈ a, x ≠ 32) (hc : ∀ x ∈ c, x ≠ 32) (hb : b = [] ∨ ∃ t, b = 32 :: t) (hd : d = [] ∨ ∃ t, d = 32 :: t) (h : a ++ b = c ++ d) : a = c ∧ b = d := by
  induction a generalizing c with
  | nil =>
    cases c with
    | nil => exact ⟨rfl, h⟩
    | cons y r =>
      rcases hb with rfl | ⟨t, rfl⟩
      · simp at h
      · simp only [List.nil_append, List.cons_append, List.cons.injEq] at h
        exact absurd h.1.symm (hc y (by simp))
  | cons y r ih =>
    cases c with
    | nil =>
      rcases hd with rfl | ⟨t, rfl⟩
      · simp at h
      · simp only [List.nil_append, List.cons_append, List.cons.injEq] at h
        exact absurd h.1 (ha y (by simp))
    | cons z q =>
      simp only [List.cons_append, List.cons.injEq] at h
      obtain ⟨rfl, h⟩ := h
      obtain ⟨rfl, rfl⟩ := ih (fun x hx => ha x (by simp [hx])) (fun x hx => hc x (by simp [hx])) h
      exact ⟨rfl, rfl⟩
theorem cut_sep {s : UInt8} {a b c d : List UInt8} (ha : ∀ x ∈ a, x ≠ s) (hc : ∀ x ∈ c, x ≠ s) (h : a ++ s :: b = c ++ s :: d) : a = c ∧ b = d := by
  induction a generalizing c with
  | nil =>
    cases c with
    | nil => simp at h; exact ⟨rfl, h⟩
    | cons y r =>
      simp only [List.nil_append, List.cons_append, List.cons.injEq] at h
      exact absurd h.1.symm (hc y (by simp))
  | cons y r ih =>
    cases c with
    | nil =>
      simp only [List.nil_append, List.cons_append, List.cons.injEq] at h
      exact absurd h.1 (ha y (by simp))
    | cons z q =>
      simp only [List.cons_append, List.cons.injEq] at h
      obtain ⟨rfl, h⟩ := h
      obtain ⟨rfl, rfl⟩ := ih (fun x hx => ha x (by simp [hx])) (fun x hx => hc x (by simp [hx])) h
      exact ⟨rfl, rfl⟩
theorem word_dist {o p : Int} (ho : o = 1 ∨ o = 2 ∨ o = 3 ∨ o = 4 ∨ o = 5 ∨ o = 6 ∨ o = 7) (hp : p = 1 ∨ p = 2 ∨ p = 3 ∨ p = 4 ∨ p = 5 ∨ p = 6 ∨ p = 7) (h : (wordA o).data.toList = (wordA p).data.toList) : o = p := by
  rcases ho with rfl | rfl | rfl | rfl | rfl | rfl | rfl <;> rcases hp with rfl | rfl | rfl | rfl | rfl | rfl | rfl <;> first | rfl | (exact absurd h (by decide))
theorem ok_parts {x : InsD} (h : insOkD x = true) : (x.o = 2 ∧ x.s = ⟨#[]⟩) ∨ (refsB x.o = true ∧ x.o ≠ 2 ∧ x.n = 0 ∧ nameB x.s = true) ∨ (refsB x.o = false ∧ x.o ≠ 2 ∧ x.n = 0 ∧ x.s = ⟨#[]⟩) := by
  have hr : refsB x.o = true ↔ (x.o = 3 ∨ x.o = 4 ∨ x.o = 5) := by simp [refsB, or_assoc]
  unfold insOkD insOkB at h
  split at h
  · rename_i h2
    simp only [Bool.and_eq_true] at h
    exact .inl ⟨h2, nil_of h.2⟩
  · rename_i h2
    split at h
    · rename_i h3
      simp only [Bool.and_eq_true, beq_iff_eq] at h
      exact .inr (.inl ⟨hr.2 h3, h2, h.1, h.2⟩)
    · rename_i h3
      split at h
      · simp only [Bool.and_eq_true, beq_iff_eq] at h
        exact .inr (.inr ⟨by cases e : refsB x.o with | false => rfl | true => exact absurd (hr.1 e) h3, h2, h.1, nil_of h.2⟩)
      · cases h
/-- The text of an instruction that is ok tells the instruction. -/
theorem insT_inj {x y : InsD} (hx : insOkD x = true) (hy : insOkD y = true) (h : insT x = insT y) : x = y := by
  have hl := congrArg (fun b : ByteArray => b.data.toList) h
  simp only [text_list hx, text_list hy] at hl
  obtain ⟨hw, ht⟩ := cut_tail (word_32 _) (word_32 _) (tl_ways x) (tl_ways y) hl
  have ho := word_dist (ok_kind hx) (ok_kind hy) hw
  obtain ⟨o, n, s⟩ := x
  obtain ⟨p, m, t⟩ := y
  dsimp only at ho
  subst ho
  rcases ok_parts hx with ⟨h2, hs⟩ | ⟨hr, h2, hn, _⟩ | ⟨hr, h2, hn, hs⟩
  · rcases ok_parts hy with ⟨_, hs'⟩ | ⟨_, h2', _⟩ | ⟨_, h2', _⟩
    · dsimp only at h2 hs hs'
      unfold tl at ht
      dsimp only at ht
      rw [if_pos h2, if_pos h2] at ht
      have := itoa_inj (List.cons.inj ht).2
      rw [hs, hs', this]
    · exact absurd h2 h2'
    · exact absurd h2 h2'
  · rcases ok_parts hy with ⟨h2', _⟩ | ⟨_, _, hn', _⟩ | ⟨hr', _⟩
    · exact absurd h2' h2
    · dsimp only at h2 hn hn' hr
      unfold tl at ht
      dsimp only at ht
      rw [if_neg h2, if_neg h2, if_pos hr, if_pos hr] at ht
      have := bytes_eq (List.cons.inj ht).2
      rw [hn, hn', this]
    · dsimp only at hr hr'
      rw [hr] at hr'
      cases hr'
  · rcases ok_parts hy with ⟨h2', _⟩ | ⟨hr', _⟩ | ⟨_, _, hn', hs'⟩
    · exact absurd h2' h2
    · dsimp only at hr hr'
      rw [hr] at hr'
      cases hr'
    · dsimp only at hn hs hn' hs'
      rw [hn, hs, hn', hs']
theorem let_10 {s : ByteArray} (h : nameB s = true) : ∀ c ∈ s.data.toList, c ≠ 10 := by
  intro c hc e
  subst e
  unfold nameB at h
  simp only [Bool.and_eq_true] at h
  have h1 := h.1
  unfold lets at h1
  have := List.all_eq_true.1 h1 _ hc
  revert this
  decide
theorem dec_10 (u : Nat) : ∀ c ∈ decDigits u, c ≠ 10 := by
  intro c hc e
  subst e
  have := dec_all u _ hc
  unfold isD at this
  revert this
  decide
theorem itoa_10 (n : Int) : ∀ c ∈ itoa n, c ≠ 10 := by
  by_cases hn : n < 0
  · rw [itoa_neg hn]
    intro c hc
    rcases List.mem_cons.1 hc with rfl | hc
    · decide
    · exact dec_10 _ c hc
  · rw [itoa_pos hn]
    exact dec_10 _
theorem text_10 {x : InsD} (h : insOkD x = true) : ∀ c ∈ (insT x).data.toList, c ≠ 10 := by
  rw [text_list h]
  intro c hc
  rcases List.mem_append.1 hc with hc | hc
  · exact word_10 _ c hc
  · unfold tl at hc
    split at hc
    · rcases List.mem_cons.1 hc with rfl | hc
      · decide
      · exact itoa_10 _ c hc
    · split at hc
      · rename_i h2 hr
        rcases List.mem_cons.1 hc with rfl | hc
        · decide
        · rcases ok_parts h with ⟨h3, _⟩ | ⟨_, _, _, hnm⟩ | ⟨hr', _⟩
          · exact absurd h3 h2
          · exact let_10 hnm c hc
          · rw [hr] at hr'; cases hr'
      · cases hc
theorem body_list (xs : List InsD) : ∀ k, k ≤ xs.length → (bodyN xs k).data.toList = (xs.take k).flatMap fun x => (insT x).data.toList ++ [10]
  | 0, _ => rfl
  | k + 1, hk => by
    have hk' : k < xs.length := by omega
    show (bodyN xs k ++ insT (xs.getD k ⟨0, 0, ⟨#[]⟩⟩) ++ endB).data.toList = _
    rw [List.take_succ_eq_append_getElem hk', List.flatMap_append, ByteArray.data_append, ByteArray.data_append, Array.toList_append, Array.toList_append, body_list xs k (by omega), List.getD, List.getElem?_eq_getElem hk']
    simp [endB]
theorem flat_inj : ∀ {xs ys : List InsD}, (∀ x ∈ xs, insOkD x = true) → (∀ y ∈ ys, insOkD y = true) → (xs.flatMap fun x => (insT x).data.toList ++ [10]) = (ys.flatMap fun x => (insT x).data.toList ++ [10]) → xs = ys
  | [], [], _, _, _ => rfl
  | [], y :: ys, _, _, h => by simp at h
  | x :: xs, [], _, _, h => by simp at h
  | x :: xs, y :: ys, hx, hy, h => by
    simp only [List.flatMap_cons, List.append_assoc, List.cons_append, List.nil_append] at h
    have hx0 := hx x (by simp)
    have hy0 := hy y (by simp)
    obtain ⟨h1, h2⟩ := cut_sep (text_10 hx0) (text_10 hy0) h
    have e := insT_inj hx0 hy0 (bytes_eq h1)
    rw [e, flat_inj (fun x hx' => hx x (by simp [hx'])) (fun y hy' => hy y (by simp [hy'])) h2]
/-- The lines of a body tell the body. -/
theorem bodyT_inj {xs ys : List InsD} (hx : allOk xs = true) (hy : allOk ys = true) (h : bodyT xs = bodyT ys) : xs = ys := by
  have hl := congrArg (fun b : ByteArray => b.data.toList) h
  unfold bodyT at hl
  rw [body_list _ _ (Nat.le_refl _), body_list _ _ (Nat.le_refl _), List.take_length, List.take_length] at hl
  unfold allOk at hx hy
  exact flat_inj (List.all_eq_true.1 hx) (List.all_eq_true.1 hy) hl
end Go.Proofs.YthbbmookhcalkaaGreatDoor.TxtI
