/- The contracts of chapter 1's InsRead, of the program and of the specification: the instruction of which this is the text, if there is one. -/
import Derived.Test.YtbjlcihnkkfhoaaDoorText
import Derived.Test.YtbjlcihnkkfhoaaDoorNumB
import Derived.Test.YtbjlcihnkkfhoaaDoorSplit
namespace Go.Proofs.YtbjlcihnkkfhoaaDoor.Read
open Go.ChangeShapes Go.WideShapes Go.ChangeAt Go.RowKit Go.Joins
open Go.Proofs.YtbjlcihnkkfhoaaDoor.Base Go.Proofs.YtbjlcihnkkfhoaaDoor.Num Go.Proofs.YtbjlcihnkkfhoaaDoor.InsA Go.Proofs.YtbjlcihnkkfhoaaDoor.InsB Go.Proofs.YtbjlcihnkkfhoaaDoor.Split
open Go.Proofs.YtbjlcihnkkfhoaaDoor.Name (nameB)
open Go.Proofs.YtbjlcihnkkfhoaaDoor.Text (gPow wordA words_any word_any)
open Go.Proofs.YtbjlcihnkkfhoaaDoor.NumA (NumRes NumLeft)
open Go.Proofs.YtbjlcihnkkfhoaaDoor.NumB (NumResB NumLeftB readN_any)
open Go.Lib (decDigits itoa)
set_option linter.unusedVariables false

/-- An instruction that is read from a text that is parted so. -/
def InsGood (wd rs : ByteArray) (sp : Bool) (o n : Int) (t : ByteArray) : Prop :=
  (o = 2 ∧ wd = wordA 2 ∧ -1000 ≤ n ∧ n ≤ 1000 ∧ itoa n = rs.data.toList ∧ t = ⟨#[]⟩) ∨ ((o = 3 ∨ o = 4 ∨ o = 5) ∧ wd = wordA o ∧ n = 0 ∧ t = rs ∧ nameB rs = true) ∨ ((o = 1 ∨ o = 6 ∨ o = 7) ∧ wd = wordA o ∧ sp = false ∧ n = 0 ∧ t = ⟨#[]⟩)
def Res (wd rs : ByteArray) (sp : Bool) (o n : Int) (t : ByteArray) (ok : Bool) : Prop :=
  (ok = true ∧ InsGood wd rs sp o n t) ∨ (ok = false ∧ o = 0 ∧ n = 0 ∧ t = ⟨#[]⟩ ∧ ∀ o n t, ¬ InsGood wd rs sp o n t)
def ReadLeft (s : ByteArray) (w : World) (e : Ending) (w' : World) : Prop :=
  ∃ (wd rs : ByteArray) (sp : Bool) (o n : Int) (t : ByteArray) (ok : Bool), e = .returned (.tuple #[.agg #[.int .i64 o, .int .i64 n, .string t], .bool ok]) ∧ Parted s wd rs sp ∧ Res wd rs sp o n t ok ∧ Below w.heap.size w w'

theorem parted_unique {s wd rs wd' rs' : ByteArray} {sp sp' : Bool} (h : Parted s wd rs sp) (h' : Parted s wd' rs' sp') : wd = wd' ∧ rs = rs' ∧ sp = sp' := by
  rcases h with ⟨rfl, hn, rfl, rfl⟩ | ⟨rfl, k, hk, rfl, rfl⟩
  · rcases h' with ⟨rfl, hn', rfl, rfl⟩ | ⟨rfl, k', hk', rfl, rfl⟩
    · exact ⟨rfl, rfl, rfl⟩
    · exact (first_not_none hk' hn).elim
  · rcases h' with ⟨rfl, hn', rfl, rfl⟩ | ⟨rfl, k', hk', rfl, rfl⟩
    · exact (first_not_none hk hn').elim
    · obtain rfl := first_unique hk hk'
      exact ⟨rfl, rfl, rfl⟩
theorem word_inj {o p : Int} (ho : o = 1 ∨ o = 2 ∨ o = 3 ∨ o = 4 ∨ o = 5 ∨ o = 6 ∨ o = 7) (hp : p = 1 ∨ p = 2 ∨ p = 3 ∨ p = 4 ∨ p = 5 ∨ p = 6 ∨ p = 7) (h : wordA o = wordA p) : o = p := by
  have h' := congrArg (fun b : ByteArray => b.data.toList) h
  rcases ho with rfl | rfl | rfl | rfl | rfl | rfl | rfl <;> rcases hp with rfl | rfl | rfl | rfl | rfl | rfl | rfl <;> first | rfl | (exfalso; revert h'; decide)
theorem good_kind {wd rs t : ByteArray} {sp : Bool} {o n : Int} (h : InsGood wd rs sp o n t) : (o = 1 ∨ o = 2 ∨ o = 3 ∨ o = 4 ∨ o = 5 ∨ o = 6 ∨ o = 7) ∧ wd = wordA o := by
  rcases h with ⟨h1, h2, _⟩ | ⟨h1, h2, _⟩ | ⟨h1, h2, _⟩
  · exact ⟨by omega, by rw [h1]; exact h2⟩
  · exact ⟨by omega, h2⟩
  · exact ⟨by omega, h2⟩
theorem good_unique {wd rs t t' : ByteArray} {sp : Bool} {o n o' n' : Int} (h : InsGood wd rs sp o n t) (h' : InsGood wd rs sp o' n' t') : o = o' ∧ n = n' ∧ t = t' := by
  have k := good_kind h
  have k' := good_kind h'
  have e : o = o' := word_inj k.1 k'.1 (k.2.symm.trans k'.2)
  subst e
  rcases h with ⟨h1, _, _, _, h5, h6⟩ | ⟨h1, _, h3, h4, _⟩ | ⟨h1, _, _, h4, h5⟩
  · rcases h' with ⟨g1, _, _, _, g5, g6⟩ | ⟨g1, _⟩ | ⟨g1, _⟩
    · exact ⟨rfl, itoa_inj (h5.trans g5.symm), h6.trans g6.symm⟩
    · omega
    · omega
  · rcases h' with ⟨g1, _⟩ | ⟨g1, _, g3, g4, _⟩ | ⟨g1, _⟩
    · omega
    · exact ⟨rfl, h3.trans g3.symm, h4.trans g4.symm⟩
    · omega
  · rcases h' with ⟨g1, _⟩ | ⟨g1, _⟩ | ⟨g1, _, _, g4, g5⟩
    · omega
    · omega
    · exact ⟨rfl, h4.trans g4.symm, h5.trans g5.symm⟩
theorem res_unique {wd rs t t' : ByteArray} {sp ok ok' : Bool} {o n o' n' : Int} (h : Res wd rs sp o n t ok) (h' : Res wd rs sp o' n' t' ok') : o = o' ∧ n = n' ∧ t = t' ∧ ok = ok' := by
  rcases h with ⟨rfl, h⟩ | ⟨rfl, rfl, rfl, rfl, h⟩
  · rcases h' with ⟨rfl, h'⟩ | ⟨rfl, rfl, rfl, rfl, h'⟩
    · obtain ⟨a, b, c⟩ := good_unique h h'
      exact ⟨a, b, c, rfl⟩
    · exact absurd h (h' _ _ _)
  · rcases h' with ⟨rfl, h'⟩ | ⟨rfl, rfl, rfl, rfl, h'⟩
    · exact absurd h' (h _ _ _)
    · exact ⟨rfl, rfl, rfl, rfl⟩

/-- What kindOfWord answers. -/
def KindRes (wd : ByteArray) (o : Int) : Prop := ((o = 1 ∨ o = 2 ∨ o = 3 ∨ o = 4 ∨ o = 5 ∨ o = 6 ∨ o = 7) ∧ wd = wordA o) ∨ (o = 0 ∧ ∀ p : Int, 1 ≤ p → p ≤ 7 → wd ≠ wordA p)
def KindLeft (wd : ByteArray) (w : World) (e : Ending) (w' : World) : Prop := w' = w ∧ ∃ o : Int, e = .returned (.int .i64 o) ∧ KindRes wd o

set_option maxHeartbeats 1000000 in
theorem kind_any (wd : ByteArray) (w : World) :
    Calls Tryd.prog 28 #[.string wd] w (KindLeft wd w) := by
  go_enter Tryd.func28, Tryd.ntmps28
  go_wp2_with fail
  go_loop [3] (fun i => ∃ k : Nat, 1 ≤ k ∧ k ≤ 8 ∧ i = .int .i64 k ∧ ∀ p : Int, 1 ≤ p → p < k → wd ≠ wordA p) (fun i => 8 - (intOf i).toNat)
  case atStart => exact ⟨1, by omega, by omega, rfl, fun p h1 h2 => by omega⟩
  case round =>
    obtain ⟨k, hk1, hk2, rfl, hn⟩ := hrel
    have HN := hide hn
    clear hn
    by_cases h8 : k = 8
    · subst h8
      have hkb : isKindB (8 : Int) = false := by decide
      go_wp2_with (first | (go_at_call 33; refine (isKind_any _ _).mono ?_; rintro e w' ⟨rfl, rfl⟩) | (go_at_call 24; refine (word_any _ _).mono ?_; rintro e w' ⟨rfl, rfl⟩))
      go_ret
      exact ⟨rfl, 0, rfl, .inr ⟨rfl, fun p h1 h2 => unhide HN p h1 (by omega)⟩⟩
    · have hkb : isKindB (k : Int) = true := by unfold isKindB; simp; omega
      by_cases hw : wd = wordA k
      · have hwb : (wordA (k : Int)).toList == wd.toList := by rw [hw]; simp
        have HW := hide hw
        clear hw
        go_wp2_with (first | (go_at_call 33; refine (isKind_any _ _).mono ?_; rintro e w' ⟨rfl, rfl⟩) | (go_at_call 24; refine (word_any _ _).mono ?_; rintro e w' ⟨rfl, rfl⟩))
        go_ret
        exact ⟨rfl, k, rfl, .inl ⟨by omega, unhide HW⟩⟩
      · have hwb : ((wordA (k : Int)).toList == wd.toList) = false := by
          rw [beq_eq_false_iff_ne, ByteArray.toList_eq, ByteArray.toList_eq]; intro e; exact hw (bytes_inj e.symm)
        have HW := hide hw
        clear hw
        go_wp2_with (first | (go_at_call 33; refine (isKind_any _ _).mono ?_; rintro e w' ⟨rfl, rfl⟩) | (go_at_call 24; refine (word_any _ _).mono ?_; rintro e w' ⟨rfl, rfl⟩))
        exact ⟨⟨k + 1, by omega, by omega, by go_num, fun p h1 h2 => by
          rcases Int.lt_or_eq_of_le (show p ≤ k by omega) with h | h
          · exact unhide HN p h1 h
          · rw [h]; exact unhide HW⟩, by simp [intOf]; omega⟩
end Go.Proofs.YtbjlcihnkkfhoaaDoor.Read
