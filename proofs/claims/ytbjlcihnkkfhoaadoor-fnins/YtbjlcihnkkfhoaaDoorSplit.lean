/- The contracts of the two ways to part a text at its first space. -/
import Derived.Test.YtbjlcihnkkfhoaaDoorBase
import Derived.Deep.QuietTactic
import Derived.BigQuiet
import Derived.Lib.RuneCount
import Derived.Lib.Strings
namespace Go.Proofs.YtbjlcihnkkfhoaaDoor.Split
open Go.ChangeShapes Go.WideShapes Go.ChangeAt Go.RowKit Go.Joins
open Go.Proofs.YtbjlcihnkkfhoaaDoor.Base
set_option linter.unusedVariables false

/-- No byte of the first k is c. -/
def NoneTo (s : ByteArray) (c : UInt8) (k : Nat) : Prop := ∀ i (h : i < s.size), i < k → s[i] ≠ c
/-- Where c is first. -/
def FirstAt (s : ByteArray) (c : UInt8) (k : Nat) : Prop := ∃ h : k < s.size, s[k] = c ∧ NoneTo s c k

theorem none_zero (s : ByteArray) (c : UInt8) : NoneTo s c 0 := fun _ _ h => absurd h (Nat.not_lt_zero _)
theorem none_step {s : ByteArray} {c : UInt8} {k : Nat} (h : NoneTo s c k) (hk : k < s.size) (hc : s[k] ≠ c) : NoneTo s c (k + 1) := fun i hi hk' => by
  rcases Nat.lt_succ_iff_lt_or_eq.1 hk' with h' | h'
  · exact h i hi h'
  · subst h'; exact hc
theorem first_unique {s : ByteArray} {c : UInt8} {j k : Nat} (h : FirstAt s c j) (h' : FirstAt s c k) : j = k := by
  obtain ⟨h1, h2, h3⟩ := h
  obtain ⟨g1, g2, g3⟩ := h'
  rcases Nat.lt_trichotomy j k with e | e | e
  · exact absurd h2 (g3 j h1 e)
  · exact e
  · exact absurd g2 (h3 k g1 e)
theorem first_not_none {s : ByteArray} {c : UInt8} {k : Nat} (h : FirstAt s c k) (hn : NoneTo s c s.size) : False := by
  obtain ⟨h1, h2, _⟩ := h
  exact hn k h1 h1 h2

def FindLeft (s : ByteArray) (c : UInt8) (w : World) (e : Ending) (w' : World) : Prop :=
  w' = w ∧ ((NoneTo s c s.size ∧ e = .returned (.int .i64 (-1))) ∨ ∃ k : Nat, FirstAt s c k ∧ e = .returned (.int .i64 k))

set_option maxHeartbeats 400000 in
theorem find_any (s : ByteArray) (c : UInt8) (w : World) (hs : s.size ≤ maxLen) :
    Calls Tryd.prog 36 #[.string s, .int .u8 c.toNat] w (FindLeft s c w) := by
  unfold maxLen at hs
  go_enter Tryd.func36, Tryd.ntmps36
  go_wp2
  go_loop [5] (fun i => ∃ k : Nat, k ≤ s.size ∧ i = .int .i64 k ∧ NoneTo s c k) (fun i => s.size - (intOf i).toNat)
  case atStart => exact ⟨0, Nat.zero_le _, rfl, none_zero s c⟩
  case round =>
    obtain ⟨k, hk, rfl, hn⟩ := hrel
    have HN := hide hn
    clear hn
    by_cases hlt : k < s.size
    · by_cases hc : s[k] = c
      · have hc' : ((s[k].toNat : Int) == (c.toNat : Int)) = true := by rw [hc]; simp
        have HC := hide hc
        clear hc
        go_wp2
        go_ret
        exact ⟨rfl, .inr ⟨k, ⟨hlt, unhide HC, unhide HN⟩, rfl⟩⟩
      · have hc' : ((s[k].toNat : Int) == (c.toNat : Int)) = false := by
          rw [beq_eq_false_iff_ne]; intro e; apply hc; apply UInt8.toNat_inj.1; omega
        have HC := hide hc
        clear hc
        go_wp2
        exact ⟨⟨k + 1, by omega, by go_num, none_step (unhide HN) hlt (unhide HC)⟩, by simp [intOf]; omega⟩
    · have hke : k = s.size := by omega
      subst hke
      go_wp2
      go_ret
      exact ⟨rfl, .inl ⟨unhide HN, rfl⟩⟩

theorem get_eq (s : ByteArray) (k : Nat) (h : k < s.size) : s.get! k = s[k] := by
  simp [ByteArray.get!, getElem!_pos, h]; rfl
/-- Within a rune of more bytes than one no byte is below 128. -/
theorem decode_cont (s : ByteArray) (pos j : Nat) (hj : 0 < j) (hw : j < (Utf8.decode s pos).2) : 128 ≤ (s.get! (pos + j)).toNat := by
  have hb := (s.get! (pos + j)).toNat_lt
  unfold Utf8.decode at hw
  simp only at hw
  repeat' split at hw
  all_goals simp_all
  all_goals (have hj3 : j = 1 ∨ j = 2 ∨ j = 3 := by omega)
  all_goals (rcases hj3 with rfl | rfl | rfl <;> omega)
theorem none_rune {s : ByteArray} {pos : Nat} (h : NoneTo s 32 pos) (hp : pos < s.size) (hr : (Utf8.decode s pos).1 ≠ 32) : NoneTo s 32 (pos + (Utf8.decode s pos).2) := by
  intro i hi hlt
  by_cases h1 : i < pos
  · exact h i hi h1
  · by_cases h2 : i = pos
    · subst h2
      intro e
      apply hr
      rw [decode_ascii s i hp (by rw [e]; decide), e]
      rfl
    · intro e
      have := decode_cont s pos (i - pos) (by omega) (by omega)
      rw [show pos + (i - pos) = i by omega, get_eq s i hi, e] at this
      exact absurd this (by decide)

/-- What parting leaves: all and nothing, if there is no space; else what is ahead of the first one and what is behind it. -/
def Parted (s wd rs : ByteArray) (sp : Bool) : Prop :=
  (sp = false ∧ NoneTo s 32 s.size ∧ wd = s ∧ rs = ⟨#[]⟩) ∨ (sp = true ∧ ∃ k : Nat, FirstAt s 32 k ∧ wd = s.extract 0 k ∧ rs = s.extract (k + 1) s.size)
def SplitLeft (s : ByteArray) (w : World) (e : Ending) (w' : World) : Prop :=
  ∃ (wd rs : ByteArray) (sp : Bool), e = .returned (.tuple #[.string wd, .string rs]) ∧ Parted s wd rs sp ∧ Below w.heap.size w w'

set_option maxHeartbeats 1000000 in
theorem split_any (s : ByteArray) (w : World) (hs : s.size ≤ maxLen) :
    Calls Tryd.prog 27 #[.string s] w (SplitLeft s w) := by
  unfold maxLen at hs
  go_enter Tryd.func27, Tryd.ntmps27
  go_wp2
  go_loopw [] (fun w' => ∃ pos : Nat, w' = w.iter s pos ∧ NoneTo s 32 pos) (fun w' => s.size - w'.iterPos w.heap.size)
  case atStart => exact ⟨0, rfl, none_zero s 32⟩
  case round =>
    obtain ⟨pos, rfl, hn⟩ := hrel
    have HN := hide hn
    clear hn
    by_cases hp : pos < s.size
    · by_cases hc : s[pos] = 32
      · have hnx : ∀ ty, (Instr.next (.pointer (some ⟨w.heap.size, 0, none⟩)) true ty).run Tryd.prog (w.iter s pos) = _ := fun ty => run_next_ascii w s pos ty hp (by rw [hc]; decide)
        have hci : (s[pos].toNat : Int) = 32 := by rw [hc]; rfl
        have HC := hide hc
        clear hc
        have hpi : (pos : Int) < (s.size : Int) := by omega
        have hpi2 : (pos : Int) ≤ (s.size : Int) := by omega
        have hpi3 : (pos : Int) + 1 ≤ (s.size : Int) := by omega
        go_wp2
        go_quiet (fail)
        go_wp2
        go_ret2
        exact ⟨s.extract 0 pos, s.extract (pos + 1) s.size, true, rfl, .inr ⟨rfl, pos, ⟨hp, unhide HC, unhide HN⟩, rfl, rfl⟩, bl_drewN (below_alloc1 _ _) _⟩
      · have hr : (Utf8.decode s pos).1 ≠ 32 := by
          intro e
          by_cases ha : (s[pos]'hp).toNat < 128
          · rw [decode_ascii s pos hp ha] at e
            apply hc; apply UInt8.toNat_inj.1; simpa using e
          · have := (decode_high s pos hp (by omega)).1
            omega
        have HS := hide (none_rune (unhide HN) hp hr)
        have hnx : ∀ ty, (Instr.next (.pointer (some ⟨w.heap.size, 0, none⟩)) true ty).run Tryd.prog (w.iter s pos) = _ := fun ty => run_next_any w s pos ty hp
        have hwd := Lib.decode_width_pos s pos hp
        have hr' : (((Utf8.decode s pos).1 : Int) == 32) = false := by rw [beq_eq_false_iff_ne]; omega
        clear hr hc
        go_wp2
        exact ⟨⟨pos + (Utf8.decode s pos).2, rfl, unhide HS⟩, by simp; omega⟩
    · have hnx : ∀ ty, (Instr.next (.pointer (some ⟨w.heap.size, 0, none⟩)) true ty).run Tryd.prog (w.iter s pos) = _ := fun ty => run_next_end w s pos ty hp
      go_wp2
      go_ret2
      exact ⟨s, ⟨#[]⟩, false, rfl, .inl ⟨rfl, fun i hi _ => unhide HN i hi (by omega), rfl, rfl⟩, below_alloc1 _ _⟩
end Go.Proofs.YtbjlcihnkkfhoaaDoor.Split
