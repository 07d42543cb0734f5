/- The contract of the program's reader of numbers: the number within the bounds of which the text is the numeral, if there is one. -/
import Derived.Test.YtbjlcihnkkfhoaaDoorNumA
import Derived.Test.YtbjlcihnkkfhoaaDoorText
import Derived.WalkMore
import Derived.Lib.RuneCount
namespace Go.Proofs.YtbjlcihnkkfhoaaDoor.NumB
open Go.ChangeShapes Go.WideShapes Go.ChangeAt Go.RowKit Go.Joins
open Go.Proofs.YtbjlcihnkkfhoaaDoor.Base Go.Proofs.YtbjlcihnkkfhoaaDoor.Num Go.Proofs.YtbjlcihnkkfhoaaDoor.InsB
open Go.Proofs.YtbjlcihnkkfhoaaDoor.NumA (list_of at_list head_of)
open Go.Proofs.YtbjlcihnkkfhoaaDoor.Text (gPow)
open Go.Lib (decDigits itoa)
set_option linter.unusedVariables false

def NumResB (l : List UInt8) (m : Int) (ok : Bool) : Prop := (ok = true ∧ itoa m = l ∧ -1000 ≤ m ∧ m ≤ 1000) ∨ (ok = false ∧ m = 0 ∧ NoNum l)
def NumLeftB (s : ByteArray) (w : World) (e : Ending) (w' : World) : Prop := ∃ (m : Int) (ok : Bool), e = .returned (.tuple #[.int .i64 m, .bool ok]) ∧ NumResB s.data.toList m ok ∧ Below w.heap.size w w'
def digI (r : Int) : Bool := decide (48 ≤ r) && decide (r ≤ 57)

theorem val_le_foldl (b : List UInt8) : ∀ n : Nat, n ≤ b.foldl (fun n c => n * 10 + (c.toNat - 48)) n := by
  induction b with
  | nil => intro n; exact Nat.le_refl _
  | cons c b ih => intro n; exact Nat.le_trans (by omega) (ih (n * 10 + (c.toNat - 48)))
theorem val_take_le (l : List UInt8) (j : Nat) : val (l.take j) ≤ val l := by
  conv => rhs; rw [← List.take_append_drop j l]
  unfold val
  rw [List.foldl_append]
  exact val_le_foldl _ _
theorem val_next (l : List UInt8) (k : Nat) (h : k < l.length) : val (l.take (k + 1)) = val (l.take k) * 10 + (l[k].toNat - 48) := by
  rw [List.take_succ_eq_append_getElem h, val_snoc]

theorem str_of {l : List UInt8} {s : ByteArray} (h : l = s.data.toList) : (⟨l.toArray⟩ : ByteArray) = s := by
  rw [h]

set_option maxHeartbeats 400000 in
theorem isDigit_any (r : Int) (w : World) :
    Calls Tryd.prog 43 #[.int .i32 r] w fun e w' => e = .returned (.bool (digI r)) ∧ w' = w := by
  go_enter Tryd.func43, Tryd.ntmps43
  go_wp2
  all_goals (go_ret; exact ⟨ret_bool (by unfold digI; rw [Bool.eq_iff_iff]; simp; omega), rfl⟩)

set_option maxHeartbeats 1000000 in
theorem rn_pos (s : ByteArray) (u : Nat) (w : World) (hs : s.size ≤ maxLen) (hu : u ≤ 1000) (HL : Hid (s.data.toList = decDigits u)) (htab : Lib.TabIs Tryd.prog w "internal/strconv.uint64pow10" .u64 Lib.pow10Tab) :
    Calls Tryd.prog 29 #[.string s] w (NumLeftB s w) := by
  have HT := hide htab
  clear htab
  go_enter Tryd.func29, Tryd.ntmps29
  go_wp2_with fail
  go_step3
  go_wp2_with fail
  go_step3
  go_wp2_with fail
  go_loopw [4, 5] (fun n g w' => ∃ pos v : Nat, pos ≤ s.size ∧ w' = w.iter s pos ∧ n = .int .i64 v ∧ g = .int .i64 1 ∧ v = val (s.data.toList.take pos)) (fun _ _ w' => s.size - w'.iterPos w.heap.size)
  case atStart => exact ⟨0, 0, Nat.zero_le _, rfl, rfl, rfl, rfl⟩
  case round =>
    obtain ⟨pos, v, hk, rfl, rfl, rfl, hv⟩ := hrel
    have HV := hide hv
    clear hv
    have hle : v ≤ 1000 := by
      have h1 := val_take_le s.data.toList pos
      rw [← unhide HV, unhide HL, dec_val] at h1
      omega
    by_cases hp : pos < s.size
    · have hd : isD s[pos] := dec_all u _ (by rw [← unhide HL]; exact List.getElem_mem (l := s.data.toList) (n := pos) (by simpa using hp))
      obtain ⟨d1, d2⟩ := hd
      have hnv := val_next s.data.toList pos (by simpa using hp)
      rw [← unhide HV, at_list s pos hp] at hnv
      have hle2 : v * 10 + (s[pos].toNat - 48) ≤ 1000 := by
        have h1 := val_take_le s.data.toList (pos + 1)
        rw [hnv, unhide HL, dec_val] at h1
        omega
      have HNV := hide hnv
      clear hnv
      have hnx : ∀ ty, (Instr.next (.pointer (some ⟨w.heap.size, 0, none⟩)) true ty).run Tryd.prog (w.iter s pos) = _ := fun ty => run_next_ascii w s pos ty hp (by omega)
      have e45 : ((s[pos].toNat : Int) == 45) = false := by rw [beq_eq_false_iff_ne]; omega
      have edg : digI (s[pos].toNat : Int) = true := by unfold digI; simp; omega
      have ecut : cut ((v : Int) * 10 + ((s[pos].toNat : Int) - 48)) = (v : Int) * 10 + ((s[pos].toNat : Int) - 48) := (cut_by (by omega)).symm
      go_wp2_with (first | (go_at_call 43; refine (isDigit_any _ _).mono ?_; rintro e w' ⟨rfl, rfl⟩) | (go_at_call 32; refine (cutNumber_any _ _).mono ?_; rintro e w' ⟨rfl, rfl⟩))
      exact ⟨⟨pos + 1, v * 10 + (s[pos].toNat - 48), by omega, rfl, by go_num, rfl, (unhide HNV).symm⟩, by simp; omega⟩
    · have hnx : ∀ ty, (Instr.next (.pointer (some ⟨w.heap.size, 0, none⟩)) true ty).run Tryd.prog (w.iter s pos) = _ := fun ty => run_next_end w s pos ty hp
      have hvu : v = u := by
        have h1 := unhide HV
        rw [List.take_of_length_le (by simp; omega), unhide HL, dec_val] at h1
        exact h1
      subst hvu
      have ecut : cut (v : Int) = (v : Int) := (cut_by (by omega)).symm
      have hit : itoa (v : Int) = s.data.toList := by rw [unhide HL, itoa_pos (by omega)]; rfl
      have hstr : (⟨(itoa (v : Int)).toArray⟩ : ByteArray) = s := str_of hit
      have HI := hide hit
      clear hit
      go_wp2_with (first | (go_at_call 32; refine (cutNumber_any _ _).mono ?_; rintro e w' ⟨rfl, rfl⟩) | (go_at_call 25; refine (Tryd.strconv_Itoa _ (by omega) (by omega) _ (tab_stays gPow (unhide HT) (below_alloc1 _ _) (Nat.le_refl _))).mono ?_; rintro e wk ⟨rfl, k, os, rfl⟩))
      rw [Exit.noGoto_ret]
      go_ret2
      exact ⟨v, true, rfl, .inl ⟨rfl, unhide HI, by omega, by omega⟩, (bl_trans (below_alloc1 w _) (Lib.below_grow _ _ (Nat.le_refl _) k os))⟩

set_option maxHeartbeats 1000000 in
theorem rn_neg (s : ByteArray) (u : Nat) (w : World) (hs : s.size ≤ maxLen) (hu : u ≤ 1000) (hu0 : 0 < u) (HL : Hid (s.data.toList = 45 :: decDigits u)) (htab : Lib.TabIs Tryd.prog w "internal/strconv.uint64pow10" .u64 Lib.pow10Tab) :
    Calls Tryd.prog 29 #[.string s] w (NumLeftB s w) := by
  have HT := hide htab
  clear htab
  have hs1 : 0 < s.size := by
    have := congrArg List.length (unhide HL)
    simp at this
    omega
  have h45 : s[0].toNat = 45 := by
    have e := list_of s hs1
    rw [unhide HL] at e
    simp only [List.cons.injEq] at e
    rw [← e.1]; rfl
  go_enter Tryd.func29, Tryd.ntmps29
  go_wp2_with fail
  go_step3
  go_wp2_with fail
  go_step3
  go_wp2_with fail
  go_loopw [4, 5] (fun n g w' => ∃ pos v : Nat, pos ≤ s.size ∧ w' = w.iter s pos ∧ n = .int .i64 (-(v : Int)) ∧ ((pos = 0 ∧ v = 0 ∧ g = .int .i64 1) ∨ (0 < pos ∧ g = .int .i64 (-1) ∧ v = val ((decDigits u).take (pos - 1))))) (fun _ _ w' => s.size - w'.iterPos w.heap.size)
  case atStart => exact ⟨0, 0, Nat.zero_le _, rfl, rfl, .inl ⟨rfl, rfl, rfl⟩⟩
  case round =>
    obtain ⟨pos, v, hk, rfl, rfl, hv⟩ := hrel
    rcases hv with ⟨rfl, rfl, rfl⟩ | ⟨hpos, rfl, hv⟩
    · have hnx : ∀ ty, (Instr.next (.pointer (some ⟨w.heap.size, 0, none⟩)) true ty).run Tryd.prog (w.iter s 0) = _ := fun ty => run_next_ascii w s 0 ty hs1 (by omega)
      have e45 : ((s[0].toNat : Int) == 45) = true := by rw [beq_iff_eq]; omega
      have e45i : (s[0].toNat : Int) = 45 := by omega
      clear h45
      go_wp2_with (first | (go_at_call 43; refine (isDigit_any _ _).mono ?_; rintro e w' ⟨rfl, rfl⟩) | (go_at_call 32; refine (cutNumber_any _ _).mono ?_; rintro e w' ⟨rfl, rfl⟩))
      exact ⟨⟨1, 0, by omega, rfl, by go_num, .inr ⟨by omega, rfl, rfl⟩⟩, by simp; omega⟩
    · have HV := hide hv
      clear hv
      have hle : v ≤ 1000 := by
        have h1 := val_take_le (decDigits u) (pos - 1)
        rw [← unhide HV, dec_val] at h1
        omega
      by_cases hp : pos < s.size
      · have hlen : pos - 1 < (decDigits u).length := by
          have := congrArg List.length (unhide HL)
          simp at this
          omega
        have hat : (decDigits u)[pos - 1] = s[pos] := by
          have e : s.data.toList[pos]'(by simpa using hp) = (45 :: decDigits u)[pos]'(by simp; omega) := by simp only [unhide HL]
          rw [at_list s pos hp] at e
          rw [e]
          obtain ⟨q, rfl⟩ : ∃ q, pos = q + 1 := ⟨pos - 1, by omega⟩
          rfl
        have hd : isD s[pos] := dec_all u _ (by rw [← hat]; exact List.getElem_mem _)
        obtain ⟨d1, d2⟩ := hd
        have hnv := val_next (decDigits u) (pos - 1) hlen
        rw [← unhide HV, hat, show pos - 1 + 1 = pos by omega] at hnv
        have hle2 : v * 10 + (s[pos].toNat - 48) ≤ 1000 := by
          have h1 := val_take_le (decDigits u) pos
          rw [hnv, dec_val] at h1
          omega
        have HNV := hide hnv
        clear hnv hat hlen
        have hnx : ∀ ty, (Instr.next (.pointer (some ⟨w.heap.size, 0, none⟩)) true ty).run Tryd.prog (w.iter s pos) = _ := fun ty => run_next_ascii w s pos ty hp (by omega)
        have e45 : ((s[pos].toNat : Int) == 45) = false := by rw [beq_eq_false_iff_ne]; omega
        have edg : digI (s[pos].toNat : Int) = true := by unfold digI; simp; omega
        have ecut : ∀ z : Int, -1000 ≤ z → z ≤ 1000 → cut z = z := fun z h1 h2 => (cut_by (by omega)).symm
        have hb1 : -1000 ≤ -(v : Int) * 10 + -((s[pos].toNat : Int) - 48) := by omega
        have hb2 : -(v : Int) * 10 + -((s[pos].toNat : Int) - 48) ≤ 1000 := by omega
        go_wp2_with (first | (go_at_call 43; refine (isDigit_any _ _).mono ?_; rintro e w' ⟨rfl, rfl⟩) | (go_at_call 32; refine (cutNumber_any _ _).mono ?_; rintro e w' ⟨rfl, rfl⟩))
        exact ⟨⟨pos + 1, v * 10 + (s[pos].toNat - 48), by omega, rfl, by go_num, .inr ⟨by omega, rfl, by rw [show pos + 1 - 1 = pos by omega]; exact (unhide HNV).symm⟩⟩, by simp; omega⟩
      · have hnx : ∀ ty, (Instr.next (.pointer (some ⟨w.heap.size, 0, none⟩)) true ty).run Tryd.prog (w.iter s pos) = _ := fun ty => run_next_end w s pos ty hp
        have hvu : v = u := by
          have h1 := unhide HV
          rw [List.take_of_length_le (by have := congrArg List.length (unhide HL); simp at this; omega), dec_val] at h1
          exact h1
        subst hvu
        have ecut : cut (-(v : Int)) = -(v : Int) := (cut_by (by omega)).symm
        have hit : itoa (-(v : Int)) = s.data.toList := by rw [unhide HL, itoa_neg (by omega), show (-(v : Int)).natAbs = v by omega]
        have hstr : (⟨(itoa (-(v : Int))).toArray⟩ : ByteArray) = s := str_of hit
        have HI := hide hit
        clear hit
        go_wp2_with (first | (go_at_call 32; refine (cutNumber_any _ _).mono ?_; rintro e w' ⟨rfl, rfl⟩) | (go_at_call 25; refine (Tryd.strconv_Itoa _ (by omega) (by omega) _ (tab_stays gPow (unhide HT) (below_alloc1 _ _) (Nat.le_refl _))).mono ?_; rintro e wk ⟨rfl, k, os, rfl⟩))
        rw [Exit.noGoto_ret]
        go_ret2
        exact ⟨-(v : Int), true, rfl, .inl ⟨rfl, unhide HI, by omega, by omega⟩, (bl_trans (below_alloc1 w _) (Lib.below_grow _ _ (Nat.le_refl _) k os))⟩

theorem cut_out {z : Int} (h : z < -1000 ∨ 1000 < z) : (z == cut z) = false := by
  rw [beq_eq_false_iff_ne]; unfold cut; split <;> (try split) <;> omega
theorem no_str {s : ByteArray} (h : NoNum s.data.toList) (z : Int) (h1 : -1000 ≤ z) (h2 : z ≤ 1000) : (itoa z == s.toList) = false := by
  rw [beq_eq_false_iff_ne, ByteArray.toList_eq]
  exact h z h1 h2

set_option maxHeartbeats 1000000 in
theorem rn_no (s : ByteArray) (w : World) (hs : s.size ≤ maxLen) (HN : Hid (NoNum s.data.toList)) (htab : Lib.TabIs Tryd.prog w "internal/strconv.uint64pow10" .u64 Lib.pow10Tab) :
    Calls Tryd.prog 29 #[.string s] w (NumLeftB s w) := by
  have HT := hide htab
  clear htab
  go_enter Tryd.func29, Tryd.ntmps29
  go_wp2_with fail
  go_step3
  go_wp2_with fail
  go_step3
  go_wp2_with fail
  go_loopw [4, 5] (fun n g w' => ∃ (pos : Nat) (v y : Int), w' = w.iter s pos ∧ n = .int .i64 v ∧ g = .int .i64 y ∧ -1000 ≤ v ∧ v ≤ 1000 ∧ (y = 1 ∨ y = -1)) (fun _ _ w' => s.size - w'.iterPos w.heap.size)
  case atStart => exact ⟨0, 0, 1, rfl, rfl, rfl, by omega, by omega, .inl rfl⟩
  case round =>
    obtain ⟨pos, v, y, rfl, rfl, rfl, hv1, hv2, hy⟩ := hrel
    have ecut : cut v = v := (cut_by (by omega)).symm
    have hne := no_str (unhide HN) v hv1 hv2
    by_cases hp : pos < s.size
    · have hnx : ∀ ty, (Instr.next (.pointer (some ⟨w.heap.size, 0, none⟩)) true ty).run Tryd.prog (w.iter s pos) = _ := fun ty => run_next_any w s pos ty hp
      have hwd := Lib.decode_width_pos s pos hp
      have hrl := decode_le s pos
      generalize hr : (Utf8.decode s pos).1 = r at *
      generalize hk : (Utf8.decode s pos).2 = k0 at *
      clear hr hk
      by_cases h45 : r = 45 ∧ pos = 0
      · obtain ⟨rfl, rfl⟩ := h45
        go_wp2_with (first | (go_at_call 43; refine (isDigit_any _ _).mono ?_; rintro e w' ⟨rfl, rfl⟩) | (go_at_call 32; refine (cutNumber_any _ _).mono ?_; rintro e w' ⟨rfl, rfl⟩) | (go_at_call 25; refine (Tryd.strconv_Itoa _ (by omega) (by omega) _ (tab_stays gPow (unhide HT) (below_alloc1 _ _) (Nat.le_refl _))).mono ?_; rintro e wk ⟨rfl, k, os, rfl⟩))
        exact ⟨⟨k0, v, -1, rfl, rfl, rfl, hv1, hv2, .inr rfl⟩, by simp; omega⟩
      · have hg : (((r : Int) == 45) && ((pos : Int) == 0)) = false := by
          rw [Bool.and_eq_false_iff, beq_eq_false_iff_ne, beq_eq_false_iff_ne]; omega
        cases hdg : digI (r : Int)
        · by_cases e45 : r = 45
          · have e45' : ((r : Int) == 45) = true := by rw [beq_iff_eq]; omega
            have ep : ((pos : Int) == 0) = false := by rw [beq_eq_false_iff_ne]; omega
            go_wp2_with (first | (go_at_call 43; refine (isDigit_any _ _).mono ?_; rintro e w' ⟨rfl, rfl⟩) | (go_at_call 32; refine (cutNumber_any _ _).mono ?_; rintro e w' ⟨rfl, rfl⟩) | (go_at_call 25; refine (Tryd.strconv_Itoa _ (by omega) (by omega) _ (tab_stays gPow (unhide HT) (below_alloc1 _ _) (Nat.le_refl _))).mono ?_; rintro e wk ⟨rfl, k, os, rfl⟩))
            rw [Exit.noGoto_ret]
            go_ret2
            exact ⟨0, false, rfl, .inr ⟨rfl, rfl, unhide HN⟩, (bl_trans (below_alloc1 w _) (Lib.below_grow _ _ (Nat.le_refl _) k os))⟩
          · have e45' : ((r : Int) == 45) = false := by rw [beq_eq_false_iff_ne]; omega
            go_wp2_with (first | (go_at_call 43; refine (isDigit_any _ _).mono ?_; rintro e w' ⟨rfl, rfl⟩) | (go_at_call 32; refine (cutNumber_any _ _).mono ?_; rintro e w' ⟨rfl, rfl⟩) | (go_at_call 25; refine (Tryd.strconv_Itoa _ (by omega) (by omega) _ (tab_stays gPow (unhide HT) (below_alloc1 _ _) (Nat.le_refl _))).mono ?_; rintro e wk ⟨rfl, k, os, rfl⟩))
            rw [Exit.noGoto_ret]
            go_ret2
            exact ⟨0, false, rfl, .inr ⟨rfl, rfl, unhide HN⟩, (bl_trans (below_alloc1 w _) (Lib.below_grow _ _ (Nat.le_refl _) k os))⟩
        · have hd1 : 48 ≤ (r : Int) ∧ (r : Int) ≤ 57 := by simpa [digI] using hdg
          obtain ⟨hd1, hd2⟩ := hd1
          have e45' : ((r : Int) == 45) = false := by rw [beq_eq_false_iff_ne]; omega
          rcases hy with rfl | rfl
          · by_cases hin : -1000 ≤ v * 10 + ((r : Int) - 48) ∧ v * 10 + ((r : Int) - 48) ≤ 1000
            · have ec2 : cut (v * 10 + ((r : Int) - 48)) = v * 10 + ((r : Int) - 48) := (cut_by (by omega)).symm
              go_wp2_with (first | (go_at_call 43; refine (isDigit_any _ _).mono ?_; rintro e w' ⟨rfl, rfl⟩) | (go_at_call 32; refine (cutNumber_any _ _).mono ?_; rintro e w' ⟨rfl, rfl⟩) | (go_at_call 25; refine (Tryd.strconv_Itoa _ (by omega) (by omega) _ (tab_stays gPow (unhide HT) (below_alloc1 _ _) (Nat.le_refl _))).mono ?_; rintro e wk ⟨rfl, k, os, rfl⟩))
              exact ⟨⟨pos + k0, v * 10 + ((r : Int) - 48), 1, rfl, rfl, rfl, hin.1, hin.2, .inl rfl⟩, by simp; omega⟩
            · have ec2 : (v * 10 + ((r : Int) - 48) == cut (v * 10 + ((r : Int) - 48))) = false := cut_out (by omega)
              go_wp2_with (first | (go_at_call 43; refine (isDigit_any _ _).mono ?_; rintro e w' ⟨rfl, rfl⟩) | (go_at_call 32; refine (cutNumber_any _ _).mono ?_; rintro e w' ⟨rfl, rfl⟩) | (go_at_call 25; refine (Tryd.strconv_Itoa _ (by omega) (by omega) _ (tab_stays gPow (unhide HT) (below_alloc1 _ _) (Nat.le_refl _))).mono ?_; rintro e wk ⟨rfl, k, os, rfl⟩))
              rw [Exit.noGoto_ret]
              go_ret2
              exact ⟨0, false, rfl, .inr ⟨rfl, rfl, unhide HN⟩, (below_alloc1 _ _)⟩
          · by_cases hin : -1000 ≤ v * 10 + -((r : Int) - 48) ∧ v * 10 + -((r : Int) - 48) ≤ 1000
            · have ec2 : cut (v * 10 + -((r : Int) - 48)) = v * 10 + -((r : Int) - 48) := (cut_by (by omega)).symm
              go_wp2_with (first | (go_at_call 43; refine (isDigit_any _ _).mono ?_; rintro e w' ⟨rfl, rfl⟩) | (go_at_call 32; refine (cutNumber_any _ _).mono ?_; rintro e w' ⟨rfl, rfl⟩) | (go_at_call 25; refine (Tryd.strconv_Itoa _ (by omega) (by omega) _ (tab_stays gPow (unhide HT) (below_alloc1 _ _) (Nat.le_refl _))).mono ?_; rintro e wk ⟨rfl, k, os, rfl⟩))
              exact ⟨⟨pos + k0, v * 10 + -((r : Int) - 48), -1, rfl, rfl, rfl, hin.1, hin.2, .inr rfl⟩, by simp; omega⟩
            · have ec2 : (v * 10 + -((r : Int) - 48) == cut (v * 10 + -((r : Int) - 48))) = false := cut_out (by omega)
              go_wp2_with (first | (go_at_call 43; refine (isDigit_any _ _).mono ?_; rintro e w' ⟨rfl, rfl⟩) | (go_at_call 32; refine (cutNumber_any _ _).mono ?_; rintro e w' ⟨rfl, rfl⟩) | (go_at_call 25; refine (Tryd.strconv_Itoa _ (by omega) (by omega) _ (tab_stays gPow (unhide HT) (below_alloc1 _ _) (Nat.le_refl _))).mono ?_; rintro e wk ⟨rfl, k, os, rfl⟩))
              rw [Exit.noGoto_ret]
              go_ret2
              exact ⟨0, false, rfl, .inr ⟨rfl, rfl, unhide HN⟩, (below_alloc1 _ _)⟩
    · have hnx : ∀ ty, (Instr.next (.pointer (some ⟨w.heap.size, 0, none⟩)) true ty).run Tryd.prog (w.iter s pos) = _ := fun ty => run_next_end w s pos ty hp
      go_wp2_with (first | (go_at_call 43; refine (isDigit_any _ _).mono ?_; rintro e w' ⟨rfl, rfl⟩) | (go_at_call 32; refine (cutNumber_any _ _).mono ?_; rintro e w' ⟨rfl, rfl⟩) | (go_at_call 25; refine (Tryd.strconv_Itoa _ (by omega) (by omega) _ (tab_stays gPow (unhide HT) (below_alloc1 _ _) (Nat.le_refl _))).mono ?_; rintro e wk ⟨rfl, k, os, rfl⟩))
      rw [Exit.noGoto_ret]
      go_ret2
      exact ⟨0, false, rfl, .inr ⟨rfl, rfl, unhide HN⟩, (bl_trans (below_alloc1 w _) (Lib.below_grow _ _ (Nat.le_refl _) k os))⟩

theorem readN_any (s : ByteArray) (w : World) (hs : s.size ≤ maxLen) (htab : Lib.TabIs Tryd.prog w "internal/strconv.uint64pow10" .u64 Lib.pow10Tab) :
    Calls Tryd.prog 29 #[.string s] w (NumLeftB s w) := by
  by_cases h : ∃ m : Int, -1000 ≤ m ∧ m ≤ 1000 ∧ itoa m = s.data.toList
  · obtain ⟨m, h1, h2, hm⟩ := h
    by_cases hn : m < 0
    · exact rn_neg s m.natAbs w hs (by omega) (by omega) (by show _ = _; rw [← hm, itoa_neg hn]) htab
    · exact rn_pos s m.toNat w hs (by omega) (by show _ = _; rw [← hm, itoa_pos hn]) htab
  · exact rn_no s w hs (fun n h1 h2 e => h ⟨n, h1, h2, e⟩) htab
end Go.Proofs.YtbjlcihnkkfhoaaDoor.NumB
