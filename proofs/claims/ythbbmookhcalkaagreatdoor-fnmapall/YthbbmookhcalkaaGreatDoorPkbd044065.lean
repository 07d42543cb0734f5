/- What a world keeps through calls that make memory alone and through draws, as one word for many facts. -/
import Derived.Test.YthbbmookhcalkaaGreatDoorOpen
import Derived.Test.YthbbmookhcalkaaGreatDoorPk3b7a8e77
import Derived.WalkKit
import Derived.ProofKit
import Derived.OpenShut
import Derived.Below
import Derived.Outline
import Derived.Lib.SmallJoins
import Derived.Deep.QuietTactic
import Derived.BigQuiet
namespace Go.Proofs.YthbbmookhcalkaaGreatDoor.Keep
open Go.ChangeShapes Go.WideShapes Go.ChangeAt Go.RowKit Go.Joins
open Go.Proofs.YthbbmookhcalkaaGreatDoor.Base Go.Proofs.YthbbmookhcalkaaGreatDoor.InsA Go.Proofs.YthbbmookhcalkaaGreatDoor.Funs Go.Proofs.YthbbmookhcalkaaGreatDoor.Open
set_option linter.unusedVariables false
set_option maxRecDepth 100000

/-- A fact on worlds that stands where only new memory is made or a draw is made. -/
def Stable (S : World → Prop) : Prop := (∀ w w', Below w.heap.size w w' → S w → S w') ∧ ∀ w, S w → S w.drew
theorem Stable.and {S T : World → Prop} (h : Stable S) (k : Stable T) : Stable (fun w => S w ∧ T w) := ⟨fun w w' hb hs => ⟨h.1 w w' hb hs.1, k.1 w w' hb hs.2⟩, fun w hs => ⟨h.2 w hs.1, k.2 w hs.2⟩⟩
theorem Stable.cell (p : Addr) (v : Value) : Stable (fun w => w.cell? p = some v) := ⟨fun w w' hb hs => (hb.cell (p := p) (World.block_lt_of_cell? w _ hs)).trans hs, fun w hs => hs⟩
theorem Stable.box (B : Nat) (o : Obj) : Stable (fun w => w.heap[B]? = some o) := ⟨fun w w' hb hs => box_below hs hb, fun w hs => hs⟩
theorem Stable.row (a : Option Addr) (xs : List InsD) : Stable (fun w => InsRow w a xs) := ⟨fun w w' hb hs => hs.below hb, fun w hs => hs⟩
theorem Stable.frow (a : Option Addr) (fs : List FunD) : Stable (fun w => FunRow w a fs) := ⟨fun w w' hb hs => hs.below hb, fun w hs => hs⟩
theorem Stable.below (W : World) : Stable (fun w => Below W.heap.size W w) := ⟨fun w w' hb hs => bl_trans hs hb, fun w hs => hs.drew⟩
theorem Stable.alloc {S : World → Prop} (h : Stable S) {w : World} (hs : S w) (o : Obj) : S (w.alloc o) := h.1 w _ (below_alloc1 w o) hs

theorem s0 {a r : Prop} (h : a ∧ r) : a := h.1
theorem s1 {p1 a r : Prop} (h : p1 ∧ a ∧ r) : a := h.2.1
theorem s2 {p1 p2 a r : Prop} (h : p1 ∧ p2 ∧ a ∧ r) : a := h.2.2.1
theorem s3 {p1 p2 p3 a r : Prop} (h : p1 ∧ p2 ∧ p3 ∧ a ∧ r) : a := h.2.2.2.1
theorem s4 {p1 p2 p3 p4 a r : Prop} (h : p1 ∧ p2 ∧ p3 ∧ p4 ∧ a ∧ r) : a := h.2.2.2.2.1
theorem s5 {p1 p2 p3 p4 p5 a r : Prop} (h : p1 ∧ p2 ∧ p3 ∧ p4 ∧ p5 ∧ a ∧ r) : a := h.2.2.2.2.2.1
theorem s6 {p1 p2 p3 p4 p5 p6 a r : Prop} (h : p1 ∧ p2 ∧ p3 ∧ p4 ∧ p5 ∧ p6 ∧ a ∧ r) : a := h.2.2.2.2.2.2.1
theorem s7 {p1 p2 p3 p4 p5 p6 p7 a r : Prop} (h : p1 ∧ p2 ∧ p3 ∧ p4 ∧ p5 ∧ p6 ∧ p7 ∧ a ∧ r) : a := h.2.2.2.2.2.2.2.1
end Go.Proofs.YthbbmookhcalkaaGreatDoor.Keep
/- The contracts of chapter 1's NameOk, of the program and of the specification: both say whether a text is 1 to 6 letters a to z. -/
namespace Go.Proofs.YthbbmookhcalkaaGreatDoor.Name
open Go.Proofs.YthbbmookhcalkaaGreatDoor.Base
open Go.ChangeShapes Go.WideShapes Go.ChangeAt Go.RowKit Go.Joins
set_option linter.unusedVariables false

def letB (c : UInt8) : Bool := decide (97 ≤ c.toNat) && decide (c.toNat ≤ 122)
def letterI (r : Int) : Bool := decide (97 ≤ r) && decide (r ≤ 122)
def lets (l : List UInt8) : Bool := l.all letB
def nameB (s : ByteArray) : Bool := lets s.data.toList && (decide (1 ≤ s.size) && decide (s.size ≤ 6))

theorem take_snoc (s : ByteArray) (k : Nat) (h : k < s.size) : s.data.toList.take (k + 1) = s.data.toList.take k ++ [s[k]] := by
  rw [List.take_succ_eq_append_getElem (by simpa using h)]; rfl
theorem lets_snoc (s : ByteArray) (k : Nat) (h : k < s.size) (hl : lets (s.data.toList.take k) = true) (h1 : 97 ≤ (s[k].toNat : Int)) (h2 : (s[k].toNat : Int) ≤ 122) : lets (s.data.toList.take (k + 1)) = true := by
  rw [take_snoc s k h]
  unfold lets at *
  rw [List.all_append, hl]
  simp only [List.all_cons, List.all_nil, letB]
  simp
  omega
theorem mem_at (s : ByteArray) (k : Nat) (h : k < s.size) : s[k] ∈ s.data.toList := by
  have : s[k] = s.data.toList[k]'(by simpa using h) := rfl
  rw [this]; exact List.getElem_mem _
theorem name_bad (s : ByteArray) (k : Nat) (h : k < s.size) (hb : (s[k].toNat : Int) < 97 ∨ 122 < (s[k].toNat : Int)) : false = nameB s := by
  have : lets s.data.toList = false := by
    unfold lets
    rw [List.all_eq_false]
    refine ⟨s[k], mem_at s k h, ?_⟩
    unfold letB
    simp
    omega
  simp [nameB, this]
theorem name_all (s : ByteArray) (k : Nat) (h : ¬ k < s.size) (hl : lets (s.data.toList.take k) = true) : (decide (1 ≤ s.size) && decide (s.size ≤ 6)) = nameB s := by
  rw [List.take_of_length_le (by simp; omega)] at hl
  simp [nameB, hl]
theorem name_short (s : ByteArray) (h : s.size < 1 ∨ 6 < s.size) : false = nameB s := by
  unfold nameB
  have : (decide (1 ≤ s.size) && decide (s.size ≤ 6)) = false := by
    simp; omega
  rw [this]; simp

theorem dec_hi {n : Nat} (h : 1 ≤ n) : decide ((n : Int) ≤ 6) = (decide (1 ≤ n) && decide (n ≤ 6)) := by
  rw [Bool.eq_iff_iff]; simp; omega
theorem dec_lo {n : Nat} (h : n < 1) : false = (decide (1 ≤ n) && decide (n ≤ 6)) := by
  rw [Bool.eq_iff_iff]; simp; omega
theorem dec_in {n : Nat} (h : 1 ≤ n) (h6 : n ≤ 6) : true = (decide (1 ≤ n) && decide (n ≤ 6)) := by
  rw [Bool.eq_iff_iff]; simp; omega
theorem rune_bad (s : ByteArray) (pos : Nat) (h : pos < s.size) (hb : (s[pos].toNat : Int) < 97 ∨ 122 < (s[pos].toNat : Int)) : letterI (Utf8.decode s pos).1 = false := by
  unfold letterI
  by_cases ha : (s[pos]'h).toNat < 128
  · rw [decode_ascii s pos h ha]
    simp
    omega
  · have := (decode_high s pos h (by omega)).1
    simp
    omega

set_option maxHeartbeats 400000 in
theorem specName_any (s : ByteArray) (w : World) (hs : s.size ≤ maxLen) :
    Calls Tryz.prog 70 #[.string s] w fun e w' => e = .returned (.bool (nameB s)) ∧ w' = w := by
  unfold maxLen at hs
  go_enter Tryz.func70, Tryz.ntmps70
  go_wp2
  go_loop [3] (fun i => ∃ k : Nat, k ≤ s.size ∧ i = .int .i64 k ∧ lets (s.data.toList.take k) = true) (fun i => s.size - (intOf i).toNat)
  case atStart => exact ⟨0, Nat.zero_le _, rfl, rfl⟩
  case round =>
    obtain ⟨k, hk, rfl, hl⟩ := hrel
    have HL : Hid (lets (s.data.toList.take k) = true) := hl
    clear hl
    by_cases hlt : k < s.size
    · go_wp2
      · go_ret
        exact ⟨ret_bool (name_bad s k hlt (by omega)), rfl⟩
      · exact ⟨⟨k + 1, by omega, by go_num, lets_snoc s k hlt HL.out (by omega) (by omega)⟩, by simp [intOf]; omega⟩
      · go_ret
        exact ⟨ret_bool (name_bad s k hlt (by omega)), rfl⟩
    · have HF : Hid ((decide (1 ≤ s.size) && decide (s.size ≤ 6)) = nameB s) := name_all s k hlt HL.out
      go_wp2
      · go_ret
        exact ⟨ret_bool (by rw [← HF.out]; exact dec_hi (by omega)), rfl⟩
      · go_ret
        exact ⟨ret_bool (by rw [← HF.out]; exact dec_lo (by omega)), rfl⟩

set_option maxHeartbeats 400000 in
theorem isLetter_any (r : Int) (w : World) :
    Calls Tryz.prog 75 #[.int .i32 r] w fun e w' => e = .returned (.bool (letterI r)) ∧ w' = w := by
  go_enter Tryz.func75, Tryz.ntmps75
  go_wp2
  all_goals (go_ret; exact ⟨ret_bool (by unfold letterI; rw [Bool.eq_iff_iff]; simp; omega), rfl⟩)

set_option maxHeartbeats 400000 in
theorem implName_any (s : ByteArray) (w : World) (hs : s.size ≤ maxLen) :
    Calls Tryz.prog 36 #[.string s] w fun e w' => e = .returned (.bool (nameB s)) ∧ Below w.heap.size w w' := by
  unfold maxLen at hs
  by_cases h1 : s.size < 1
  · have h1' : (s.size : Int) < 1 := by omega
    go_enter Tryz.func36, Tryz.ntmps36
    go_wp2
    go_ret
    exact ⟨ret_bool (name_short s (by omega)), Below.refl _ _⟩
  by_cases h2 : 6 < s.size
  · have h1' : ¬ (s.size : Int) < 1 := by omega
    have h2' : 6 < (s.size : Int) := by omega
    go_enter Tryz.func36, Tryz.ntmps36
    go_wp2
    go_ret
    exact ⟨ret_bool (name_short s (by omega)), Below.refl _ _⟩
  have h1' : ¬ (s.size : Int) < 1 := by omega
  have h2' : ¬ 6 < (s.size : Int) := by omega
  go_enter Tryz.func36, Tryz.ntmps36
  go_wp2_with fail
  go_loopw [] (fun w' => ∃ pos : Nat, pos ≤ s.size ∧ w' = w.iter s pos ∧ lets (s.data.toList.take pos) = true) (fun w' => s.size - w'.iterPos w.heap.size)
  case atStart => exact ⟨0, Nat.zero_le _, rfl, rfl⟩
  case round =>
    obtain ⟨pos, hk, rfl, hl⟩ := hrel
    have HL : Hid (lets (s.data.toList.take pos) = true) := hl
    clear hl
    by_cases hp : pos < s.size
    · by_cases hb : 97 ≤ (s[pos].toNat : Int) ∧ (s[pos].toNat : Int) ≤ 122
      · have hnx : ∀ ty, (Instr.next (.pointer (some ⟨w.heap.size, 0, none⟩)) true ty).run Tryz.prog (w.iter s pos) = _ := fun ty => run_next_ascii w s pos ty hp (by omega)
        have hl : letterI s[pos].toNat = true := by unfold letterI; simp; omega
        go_wp2_with (go_at_call 75; refine (isLetter_any _ _).mono ?_; rintro e w' ⟨rfl, rfl⟩)
        exact ⟨⟨pos + 1, by omega, rfl, lets_snoc s pos hp HL.out (by omega) (by omega)⟩, by simp; omega⟩
      · have hnx : ∀ ty, (Instr.next (.pointer (some ⟨w.heap.size, 0, none⟩)) true ty).run Tryz.prog (w.iter s pos) = _ := fun ty => run_next_any w s pos ty hp
        have hl : letterI (Utf8.decode s pos).1 = false := rune_bad s pos hp (by omega)
        go_wp2_with (go_at_call 75; refine (isLetter_any _ _).mono ?_; rintro e w' ⟨rfl, rfl⟩)
        go_ret
        exact ⟨ret_bool (name_bad s pos hp (by omega)), below_alloc1 _ _⟩
    · have hnx : ∀ ty, (Instr.next (.pointer (some ⟨w.heap.size, 0, none⟩)) true ty).run Tryz.prog (w.iter s pos) = _ := fun ty => run_next_end w s pos ty hp
      have HF : Hid ((decide (1 ≤ s.size) && decide (s.size ≤ 6)) = nameB s) := name_all s pos hp HL.out
      go_wp2
      go_ret
      exact ⟨ret_bool (by rw [← HF.out]; exact dec_in (by omega) (by omega)), below_alloc1 _ _⟩

end Go.Proofs.YthbbmookhcalkaaGreatDoor.Name
/- The contracts of chapter 1's InsOk, of the program and of the specification. -/
namespace Go.Proofs.YthbbmookhcalkaaGreatDoor.InsB
open Go.Proofs.YthbbmookhcalkaaGreatDoor.Base
open Go.ChangeShapes Go.WideShapes Go.ChangeAt Go.RowKit Go.Joins
open Go.Proofs.YthbbmookhcalkaaGreatDoor.InsA
open Go.Proofs.YthbbmookhcalkaaGreatDoor.Name (nameB specName_any)
open Go.Proofs.YthbbmookhcalkaaGreatDoor.Name (implName_any)
set_option linter.unusedVariables false

def insOkB (o n : Int) (s : ByteArray) : Bool :=
  if o = 2 then (decide (-1000 ≤ n) && decide (n ≤ 1000)) && s.toList.isEmpty
  else if o = 3 ∨ o = 4 ∨ o = 5 then n == 0 && nameB s
  else if o = 1 ∨ o = 6 ∨ o = 7 then n == 0 && s.toList.isEmpty
  else false
def cut (n : Int) : Int := if n < -1000 then -1000 else if 1000 < n then 1000 else n
def isKindB (o : Int) : Bool := decide (1 ≤ o) && decide (o ≤ 7)

theorem cut_by {n m : Int} (h : (n < -1000 ∧ m = -1000) ∨ (1000 < n ∧ m = 1000) ∨ (-1000 ≤ n ∧ n ≤ 1000 ∧ m = n)) : m = cut n := by
  unfold cut; split <;> (try split) <;> omega

set_option maxHeartbeats 400000 in
theorem cutNumber_any (n : Int) (w : World) :
    Calls Tryz.prog 99 #[.int .i64 n] w fun e w' => e = .returned (.int .i64 (cut n)) ∧ w' = w := by
  go_enter Tryz.func99, Tryz.ntmps99
  go_wp2
  all_goals (go_ret; exact ⟨ret_int (cut_by (by omega)), rfl⟩)

set_option maxHeartbeats 400000 in
theorem hasNumber_any (o : Int) (w : World) :
    Calls Tryz.prog 98 #[.int .i64 o] w fun e w' => e = .returned (.bool (o == 2)) ∧ w' = w := by
  go_enter Tryz.func98, Tryz.ntmps98
  go_wp2
  go_ret
  exact ⟨rfl, rfl⟩

set_option maxHeartbeats 400000 in
theorem isKind_any (o : Int) (w : World) :
    Calls Tryz.prog 101 #[.int .i64 o] w fun e w' => e = .returned (.bool (isKindB o)) ∧ w' = w := by
  go_enter Tryz.func101, Tryz.ntmps101
  go_wp2
  all_goals (go_ret; exact ⟨ret_bool (by unfold isKindB; rw [Bool.eq_iff_iff]; simp; omega), rfl⟩)

set_option maxHeartbeats 400000 in
theorem specOk_any (o n : Int) (s : ByteArray) (w : World) (hs : s.size ≤ maxLen) :
    Calls Tryz.prog 72 #[.agg #[.int .i64 o, .int .i64 n, .string s]] w fun e w' => e = .returned (.bool (insOkB o n s)) ∧ Below w.heap.size w w' := by
  go_enter Tryz.func72, Tryz.ntmps72
  go_wp2_with (go_at_call 70; refine (specName_any _ _ hs).mono ?_; rintro e w1 ⟨rfl, rfl⟩)
  all_goals (go_ret; exact ⟨ret_bool (by first | (simp_all [insOkB]; done) | (simp_all [insOkB]; intros; omega)), below_alloc1 _ _⟩)

set_option maxHeartbeats 400000 in
theorem implOk_add_in (n : Int) (s : ByteArray) (w : World) (hs : s.size ≤ maxLen) (h1 : -1000 ≤ n) (h2 : n ≤ 1000) :
    Calls Tryz.prog 65 #[.agg #[.int .i64 2, .int .i64 n, .string s]] w fun e w' => e = .returned (.bool (insOkB 2 n s)) ∧ Below w.heap.size w w' := by
  have hc : cut n = n := (cut_by (by omega)).symm
  go_enter Tryz.func65, Tryz.ntmps65
  go_wp2_with (go_at_call 98; refine (hasNumber_any _ _).mono ?_; rintro e w1 ⟨rfl, rfl⟩)
  go_quiet ((go_at_call 99; exact Calls.quiet_of_same (cutNumber_any _ _)))
  go_wp2
  all_goals (go_ret; exact ⟨ret_bool (by first | (simp_all [insOkB]; done) | (simp_all [insOkB]; intros; omega)), bl_drewN (below_alloc1 _ _) _⟩)

set_option maxHeartbeats 400000 in
theorem implOk_add_out (n : Int) (s : ByteArray) (w : World) (hs : s.size ≤ maxLen) (h : n < -1000 ∨ 1000 < n) :
    Calls Tryz.prog 65 #[.agg #[.int .i64 2, .int .i64 n, .string s]] w fun e w' => e = .returned (.bool (insOkB 2 n s)) ∧ Below w.heap.size w w' := by
  have hc : (n == cut n) = false := by rw [beq_eq_false_iff_ne]; unfold cut; split <;> (try split) <;> omega
  go_enter Tryz.func65, Tryz.ntmps65
  go_wp2_with (go_at_call 98; refine (hasNumber_any _ _).mono ?_; rintro e w1 ⟨rfl, rfl⟩)
  go_quiet ((go_at_call 99; exact Calls.quiet_of_same (cutNumber_any _ _)))
  go_wp2
  all_goals (go_ret; exact ⟨ret_bool (by first | (simp_all [insOkB]; done) | (simp_all [insOkB]; intros; omega)), bl_drewN (below_alloc1 _ _) _⟩)

set_option maxHeartbeats 400000 in
theorem implOk_any (o n : Int) (s : ByteArray) (w : World) (hs : s.size ≤ maxLen) :
    Calls Tryz.prog 65 #[.agg #[.int .i64 o, .int .i64 n, .string s]] w fun e w' => e = .returned (.bool (insOkB o n s)) ∧ Below w.heap.size w w' := by
  by_cases h2 : o = 2
  · subst h2
    by_cases hn : -1000 ≤ n ∧ n ≤ 1000
    · exact implOk_add_in n s w hs hn.1 hn.2
    · exact implOk_add_out n s w hs (by omega)
  · have h2' : (o == 2) = false := by simp [h2]
    go_enter Tryz.func65, Tryz.ntmps65
    go_wp2_with (first | (go_at_call 98; refine (hasNumber_any _ _).mono ?_; rintro e w1 ⟨rfl, rfl⟩) | (go_at_call 100; refine (hasName_any _ _).mono ?_; rintro e w1 ⟨rfl, rfl⟩) | (go_at_call 101; refine (isKind_any _ _).mono ?_; rintro e w1 ⟨rfl, rfl⟩) | (go_at_call 99; refine (cutNumber_any _ _).mono ?_; rintro e w1 ⟨rfl, rfl⟩) | (go_at_call 36; refine (implName_any _ _ hs).mono ?_; rintro e w1 ⟨rfl, hb⟩))
    all_goals (go_ret; exact ⟨ret_bool (by first | (simp_all [insOkB, refsB, isKindB]; done) | (simp_all [insOkB, refsB, isKindB]; intros; omega)), by first | exact below_alloc1 _ _ | exact bl_trans (below_alloc1 _ _) hb⟩)

end Go.Proofs.YthbbmookhcalkaaGreatDoor.InsB
