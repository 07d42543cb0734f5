/- The contracts of chapter 1's NameOk, of the program and of the specification: both say whether a text is 1 to 6 letters a to z. -/
import Derived.Test.YthbbmookhcalkaaGreatBase
import Derived.WalkKit
import Derived.ProofKit
import Derived.OpenShut
import Derived.Below
import Derived.Outline
import Derived.Lib.SmallJoins
namespace Go.Proofs.YthbbmookhcalkaaGreat.Name
open Go.Proofs.YthbbmookhcalkaaGreat.Base
open Go.ChangeShapes Go.WideShapes Go.ChangeAt Go.RowKit Go.Joins
set_option linter.unusedVariables false

def letB (c : UInt8) : Bool := decide (97 ≤ c.toNat) && decide (c.toNat ≤ 122)
def letterI (r : Int) : Bool := decide (97 ≤ r) && decide (r ≤ 122)
def lets (l : List UInt8) : Bool := l.all letB
def nameB (s : ByteArray) : Bool := lets s.data.toList && (decide (1 ≤ s.size) && decide (s.size ≤ 6))

theorem take_snoc (s : ByteArray) (k : Nat) (h : k < s.size) : s.data.toList.take (k + 1) = s.data.toList.take k ++ [s[k]] := by
  rw [List.take_succ_eq_append_getElem (by simpa using h)]; rfl
theorem lets_snoc (s : ByteArray) (k : Nat) (h : k < s.size) (hl : lets (s.data.toList.take k) = true) (h1 : 97 ≤ (s[k].toNat : Int)) (h2 : (s[k].toNat : Int) ≤ 122) : lets (s.data.toList.take (k + 1)) = true := by
  rw [take_snoc s k h]
  unfold lets at *
  rw [List.all_append, hl]
  simp only [List.all_cons, List.all_nil, letB]
  simp
  omega
theorem mem_at (s : ByteArray) (k : Nat) (h : k < s.size) : s[k] ∈ s.data.toList := by
  have : s[k] = s.data.toList[k]'(by simpa using h) := rfl
  rw [this]; exact List.getElem_mem _
theorem name_bad (s : ByteArray) (k : Nat) (h : k < s.size) (hb : (s[k].toNat : Int) < 97 ∨ 122 < (s[k].toNat : Int)) : false = nameB s := by
  have : lets s.data.toList = false := by
    unfold lets
    rw [List.all_eq_false]
    refine ⟨s[k], mem_at s k h, ?_⟩
    unfold letB
    simp
    omega
  simp [nameB, this]
theorem name_all (s : ByteArray) (k : Nat) (h : ¬ k < s.size) (hl : lets (s.data.toList.take k) = true) : (decide (1 ≤ s.size) && decide (s.size ≤ 6)) = nameB s := by
  rw [List.take_of_length_le (by simp; omega)] at hl
  simp [nameB, hl]
theorem name_short (s : ByteArray) (h : s.size < 1 ∨ 6 < s.size) : false = nameB s := by
  unfold nameB
  have : (decide (1 ≤ s.size) && decide (s.size ≤ 6)) = false := by
    simp; omega
  rw [this]; simp

theorem dec_hi {n : Nat} (h : 1 ≤ n) : decide ((n : Int) ≤ 6) = (decide (1 ≤ n) && decide (n ≤ 6)) := by
  rw [Bool.eq_iff_iff]; simp; omega
theorem dec_lo {n : Nat} (h : n < 1) : false = (decide (1 ≤ n) && decide (n ≤ 6)) := by
  rw [Bool.eq_iff_iff]; simp; omega
theorem dec_in {n : Nat} (h : 1 ≤ n) (h6 : n ≤ 6) : true = (decide (1 ≤ n) && decide (n ≤ 6)) := by
  rw [Bool.eq_iff_iff]; simp; omega
theorem rune_bad (s : ByteArray) (pos : Nat) (h : pos < s.size) (hb : (s[pos].toNat : Int) < 97 ∨ 122 < (s[pos].toNat : Int)) : letterI (Utf8.decode s pos).1 = false := by
  unfold letterI
  by_cases ha : (s[pos]'h).toNat < 128
  · rw [decode_ascii s pos h ha]
    simp
    omega
  · have := (decode_high s pos h (by omega)).1
    simp
    omega

set_option maxHeartbeats 400000 in
theorem specName_any (s : ByteArray) (w : World) (hs : s.size ≤ maxLen) :
    Calls Tryz.prog 71 #[.string s] w fun e w' => e = .returned (.bool (nameB s)) ∧ w' = w := by
  unfold maxLen at hs
  go_enter Tryz.func71, Tryz.ntmps71
  go_wp2
  go_loop [3] (fun i => ∃ k : Nat, k ≤ s.size ∧ i = .int .i64 k ∧ lets (s.data.toList.take k) = true) (fun i => s.size - (intOf i).toNat)
  case atStart => exact ⟨0, Nat.zero_le _, rfl, rfl⟩
  case round =>
    obtain ⟨k, hk, rfl, hl⟩ := hrel
    have HL : Hid (lets (s.data.toList.take k) = true) := hl
    clear hl
    by_cases hlt : k < s.size
    · go_wp2
      · go_ret
        exact ⟨ret_bool (name_bad s k hlt (by omega)), rfl⟩
      · exact ⟨⟨k + 1, by omega, by go_num, lets_snoc s k hlt HL.out (by omega) (by omega)⟩, by simp [intOf]; omega⟩
      · go_ret
        exact ⟨ret_bool (name_bad s k hlt (by omega)), rfl⟩
    · have HF : Hid ((decide (1 ≤ s.size) && decide (s.size ≤ 6)) = nameB s) := name_all s k hlt HL.out
      go_wp2
      · go_ret
        exact ⟨ret_bool (by rw [← HF.out]; exact dec_hi (by omega)), rfl⟩
      · go_ret
        exact ⟨ret_bool (by rw [← HF.out]; exact dec_lo (by omega)), rfl⟩

set_option maxHeartbeats 400000 in
theorem isLetter_any (r : Int) (w : World) :
    Calls Tryz.prog 82 #[.int .i32 r] w fun e w' => e = .returned (.bool (letterI r)) ∧ w' = w := by
  go_enter Tryz.func82, Tryz.ntmps82
  go_wp2
  all_goals (go_ret; exact ⟨ret_bool (by unfold letterI; rw [Bool.eq_iff_iff]; simp; omega), rfl⟩)

set_option maxHeartbeats 400000 in
theorem implName_any (s : ByteArray) (w : World) (hs : s.size ≤ maxLen) :
    Calls Tryz.prog 76 #[.string s] w fun e w' => e = .returned (.bool (nameB s)) ∧ Below w.heap.size w w' := by
  unfold maxLen at hs
  by_cases h1 : s.size < 1
  · have h1' : (s.size : Int) < 1 := by omega
    go_enter Tryz.func76, Tryz.ntmps76
    go_wp2
    go_ret
    exact ⟨ret_bool (name_short s (by omega)), Below.refl _ _⟩
  by_cases h2 : 6 < s.size
  · have h1' : ¬ (s.size : Int) < 1 := by omega
    have h2' : 6 < (s.size : Int) := by omega
    go_enter Tryz.func76, Tryz.ntmps76
    go_wp2
    go_ret
    exact ⟨ret_bool (name_short s (by omega)), Below.refl _ _⟩
  have h1' : ¬ (s.size : Int) < 1 := by omega
  have h2' : ¬ 6 < (s.size : Int) := by omega
  go_enter Tryz.func76, Tryz.ntmps76
  go_wp2_with fail
  go_loopw [] (fun w' => ∃ pos : Nat, pos ≤ s.size ∧ w' = w.iter s pos ∧ lets (s.data.toList.take pos) = true) (fun w' => s.size - w'.iterPos w.heap.size)
  case atStart => exact ⟨0, Nat.zero_le _, rfl, rfl⟩
  case round =>
    obtain ⟨pos, hk, rfl, hl⟩ := hrel
    have HL : Hid (lets (s.data.toList.take pos) = true) := hl
    clear hl
    by_cases hp : pos < s.size
    · by_cases hb : 97 ≤ (s[pos].toNat : Int) ∧ (s[pos].toNat : Int) ≤ 122
      · have hnx : ∀ ty, (Instr.next (.pointer (some ⟨w.heap.size, 0, none⟩)) true ty).run Tryz.prog (w.iter s pos) = _ := fun ty => run_next_ascii w s pos ty hp (by omega)
        have hl : letterI s[pos].toNat = true := by unfold letterI; simp; omega
        go_wp2_with (go_at_call 82; refine (isLetter_any _ _).mono ?_; rintro e w' ⟨rfl, rfl⟩)
        exact ⟨⟨pos + 1, by omega, rfl, lets_snoc s pos hp HL.out (by omega) (by omega)⟩, by simp; omega⟩
      · have hnx : ∀ ty, (Instr.next (.pointer (some ⟨w.heap.size, 0, none⟩)) true ty).run Tryz.prog (w.iter s pos) = _ := fun ty => run_next_any w s pos ty hp
        have hl : letterI (Utf8.decode s pos).1 = false := rune_bad s pos hp (by omega)
        go_wp2_with (go_at_call 82; refine (isLetter_any _ _).mono ?_; rintro e w' ⟨rfl, rfl⟩)
        go_ret
        exact ⟨ret_bool (name_bad s pos hp (by omega)), below_alloc1 _ _⟩
    · have hnx : ∀ ty, (Instr.next (.pointer (some ⟨w.heap.size, 0, none⟩)) true ty).run Tryz.prog (w.iter s pos) = _ := fun ty => run_next_end w s pos ty hp
      have HF : Hid ((decide (1 ≤ s.size) && decide (s.size ≤ 6)) = nameB s) := name_all s pos hp HL.out
      go_wp2
      go_ret
      exact ⟨ret_bool (by rw [← HF.out]; exact dec_in (by omega) (by omega)), below_alloc1 _ _⟩

end Go.Proofs.YthbbmookhcalkaaGreat.Name
