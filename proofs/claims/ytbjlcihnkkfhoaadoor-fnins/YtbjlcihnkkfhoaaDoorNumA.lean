/- The contract of the specification's reader of numbers: the number of which the text is the numeral; else the text is no numeral of a number within the bounds. -/
import Derived.Test.YtbjlcihnkkfhoaaDoorNum
namespace Go.Proofs.YtbjlcihnkkfhoaaDoor.NumA
open Go.ChangeShapes Go.WideShapes Go.ChangeAt Go.RowKit Go.Joins
open Go.Proofs.YtbjlcihnkkfhoaaDoor.Base Go.Proofs.YtbjlcihnkkfhoaaDoor.Num
open Go.Lib (decDigits itoa)
set_option linter.unusedVariables false

def NumRes (l : List UInt8) (m : Int) (ok : Bool) : Prop := (ok = true ∧ itoa m = l ∧ -100000000000000000 < m ∧ m < 100000000000000000) ∨ (ok = false ∧ m = 0 ∧ NoNum l)

def NumLeft (s : ByteArray) (w : World) (e : Ending) (w' : World) : Prop := w' = w ∧ ∃ (m : Int) (ok : Bool), e = .returned (.tuple #[.int .i64 m, .bool ok]) ∧ NumRes s.data.toList m ok

theorem list_of (s : ByteArray) (h : 0 < s.size) : s.data.toList = s[0] :: s.data.toList.tail := by
  have hl : 0 < s.data.toList.length := by simpa using h
  cases e : s.data.toList with
  | nil => rw [e] at hl; simp at hl
  | cons a r =>
    have : s[0] = s.data.toList[0] := rfl
    simp only [e] at this
    rw [this]; rfl
theorem at_list (s : ByteArray) (k : Nat) (h : k < s.size) : s.data.toList[k]'(by simpa using h) = s[k] := rfl
theorem head_of (s : ByteArray) (h : 0 < s.size) : s.data.toList.head? = some s[0] := by rw [list_of s h]; rfl

set_option maxHeartbeats 1000000 in
theorem num_pos (s : ByteArray) (w : World) (hs : s.size ≤ maxLen) (h1 : 0 < s.size) (hm : s[0] ≠ 45) :
    Calls Tryd.prog 37 #[.string s] w (NumLeft s w) := by
  have hh : (false = false) → ∀ r, s.data.toList ≠ 45 :: r := fun _ r e => by rw [list_of s h1] at e; simp only [List.cons.injEq] at e; exact hm e.1
  have hl : s.data.toList = if false then 45 :: s.data.toList else s.data.toList := rfl
  have hlen : s.data.toList.length = s.size := by simp
  have h1' : (0 : Int) < (s.size : Int) := by omega
  have hm' : ((s[0].toNat : Int) == 45) = false := by
    rw [beq_eq_false_iff_ne]; intro e; apply hm; apply UInt8.toNat_inj.1; simp; omega
  have hz : ((s.size : Int) == 0) = false := by rw [beq_eq_false_iff_ne]; omega
  by_cases h17 : 17 < s.size
  · have h17' : (17 : Int) < (s.size : Int) := by omega
    have HN := hide (no_long hl hh (by omega))
    clear hh hl hlen
    go_enter Tryd.func37, Tryd.ntmps37
    go_wp2
    go_ret2
    exact ⟨rfl, 0, false, rfl, .inr ⟨rfl, rfl, unhide HN⟩⟩
  have h17' : ¬ (17 : Int) < (s.size : Int) := by omega
  by_cases h0 : s[0] = 48
  · have h0' : ((s[0].toNat : Int) == 48) = true := by rw [h0]; rfl
    by_cases h2 : 1 < s.size
    · have h2' : (1 : Int) < (s.size : Int) := by omega
      have HN := hide (no_zero hl hh (r := s.data.toList.tail) (by rw [list_of s h1, h0]; rfl) (.inl (by omega)))
      clear hh hl hlen
      go_enter Tryd.func37, Tryd.ntmps37
      go_wp2
      go_ret2
      exact ⟨rfl, 0, false, rfl, .inr ⟨rfl, rfl, unhide HN⟩⟩
    · have h2' : ¬ (1 : Int) < (s.size : Int) := by omega
      have HZ : Hid (1 < s.size → s.data.toList.head? ≠ some 48) := fun h => absurd h h2
      have HH := hide (hh rfl)
      clear hh hl hlen
      go_enter Tryd.func37, Tryd.ntmps37
      go_wp2
      go_loop [5, 6] (fun n i => ∃ k v : Nat, k ≤ s.size ∧ i = .int .i64 k ∧ n = .int .i64 v ∧ v < 10 ^ k ∧ ((k = 0 ∧ v = 0) ∨ decDigits v = s.data.toList.take k)) (fun _ i => s.size - (intOf i).toNat)
      case atStart => exact ⟨0, 0, Nat.zero_le _, rfl, rfl, by simp, .inl ⟨rfl, rfl⟩⟩
      case round =>
        obtain ⟨k, v, hk, rfl, rfl, hv, hd⟩ := hrel
        have HD := hide hd
        have HV := hide hv
        clear hd hv
        by_cases hlt : k < s.size
        · have hv17 : v < 100000000000000000 := Nat.lt_of_lt_of_le (unhide HV) (Nat.le_trans (Nat.pow_le_pow_right (by omega) (show k ≤ 17 by omega)) (by decide))
          by_cases hdg : 48 ≤ s[k].toNat ∧ s[k].toNat ≤ 57
          · obtain ⟨g1, g2⟩ := hdg
            have g1' : (48 : Int) ≤ (s[k].toNat : Int) := by omega
            have g2' : (s[k].toNat : Int) ≤ 57 := by omega
            have HS := hide (num_step (t := s.data.toList) (k := k) (v := v) (by simpa using hlt) ⟨g1, g2⟩ (fun hp => unhide HZ (by omega)) (unhide HD))
            have HW := hide (dec_lt k v (s[k].toNat - 48) (unhide HV) (by omega))
            go_wp2
            exact ⟨⟨k + 1, v * 10 + (s[k].toNat - 48), by omega, by go_num, by go_num, unhide HW, .inr (unhide HS)⟩, by simp [intOf]; omega⟩
          · have HN := hide (no_bad (neg := false) rfl (fun _ => unhide HH) (c := s[k]) (by have := List.getElem_mem (l := s.data.toList) (n := k) (by simpa using hlt); exact this) (fun h => hdg h))
            have hdg' : (s[k].toNat : Int) < 48 ∨ 57 < (s[k].toNat : Int) := by omega
            go_wp2
            all_goals (go_ret2; exact ⟨rfl, 0, false, rfl, .inr ⟨rfl, rfl, unhide HN⟩⟩)
        · have hke : k = s.size := by omega
          have hv17 : v < 100000000000000000 := Nat.lt_of_lt_of_le (unhide HV) (Nat.le_trans (Nat.pow_le_pow_right (by omega) (show k ≤ 17 by omega)) (by decide))
          have HE : Hid (decDigits v = s.data.toList) := by
            rcases unhide HD with h | h
            · omega
            · rw [List.take_of_length_le (by simp; omega)] at h; exact h
          clear hke
          go_wp2
          go_ret2
          exact ⟨rfl, v, true, rfl, .inl ⟨rfl, (itoa_pos (by omega)).trans (unhide HE), by omega, by omega⟩⟩
  · have h0' : ((s[0].toNat : Int) == 48) = false := by
      rw [beq_eq_false_iff_ne]; intro e; apply h0; apply UInt8.toNat_inj.1; simp; omega
    have HZ : Hid (1 < s.size → s.data.toList.head? ≠ some 48) := fun _ e => by rw [head_of s h1] at e; exact h0 (Option.some.inj e)
    have HH := hide (hh rfl)
    clear hh hl hlen
    go_enter Tryd.func37, Tryd.ntmps37
    go_wp2
    go_loop [5, 6] (fun n i => ∃ k v : Nat, k ≤ s.size ∧ i = .int .i64 k ∧ n = .int .i64 v ∧ v < 10 ^ k ∧ ((k = 0 ∧ v = 0) ∨ decDigits v = s.data.toList.take k)) (fun _ i => s.size - (intOf i).toNat)
    case atStart => exact ⟨0, 0, Nat.zero_le _, rfl, rfl, by simp, .inl ⟨rfl, rfl⟩⟩
    case round =>
      obtain ⟨k, v, hk, rfl, rfl, hv, hd⟩ := hrel
      have HD := hide hd
      have HV := hide hv
      clear hd hv
      by_cases hlt : k < s.size
      · have hv17 : v < 100000000000000000 := Nat.lt_of_lt_of_le (unhide HV) (Nat.le_trans (Nat.pow_le_pow_right (by omega) (show k ≤ 17 by omega)) (by decide))
        by_cases hdg : 48 ≤ s[k].toNat ∧ s[k].toNat ≤ 57
        · obtain ⟨g1, g2⟩ := hdg
          have g1' : (48 : Int) ≤ (s[k].toNat : Int) := by omega
          have g2' : (s[k].toNat : Int) ≤ 57 := by omega
          have HS := hide (num_step (t := s.data.toList) (k := k) (v := v) (by simpa using hlt) ⟨g1, g2⟩ (fun hp => unhide HZ (by omega)) (unhide HD))
          have HW := hide (dec_lt k v (s[k].toNat - 48) (unhide HV) (by omega))
          go_wp2
          exact ⟨⟨k + 1, v * 10 + (s[k].toNat - 48), by omega, by go_num, by go_num, unhide HW, .inr (unhide HS)⟩, by simp [intOf]; omega⟩
        · have HN := hide (no_bad (neg := false) rfl (fun _ => unhide HH) (c := s[k]) (by have := List.getElem_mem (l := s.data.toList) (n := k) (by simpa using hlt); exact this) (fun h => hdg h))
          have hdg' : (s[k].toNat : Int) < 48 ∨ 57 < (s[k].toNat : Int) := by omega
          go_wp2
          all_goals (go_ret2; exact ⟨rfl, 0, false, rfl, .inr ⟨rfl, rfl, unhide HN⟩⟩)
      · have hke : k = s.size := by omega
        have hv17 : v < 100000000000000000 := Nat.lt_of_lt_of_le (unhide HV) (Nat.le_trans (Nat.pow_le_pow_right (by omega) (show k ≤ 17 by omega)) (by decide))
        have HE : Hid (decDigits v = s.data.toList) := by
          rcases unhide HD with h | h
          · omega
          · rw [List.take_of_length_le (by simp; omega)] at h; exact h
        clear hke
        go_wp2
        go_ret2
        exact ⟨rfl, v, true, rfl, .inl ⟨rfl, (itoa_pos (by omega)).trans (unhide HE), by omega, by omega⟩⟩

set_option maxHeartbeats 1000000 in
theorem num_neg (s t : ByteArray) (w : World) (hs : s.size ≤ maxLen) (ht : s.extract 1 s.size = t) (hsz : t.size + 1 = s.size) (h1 : 0 < s.size) (hm : s[0] = 45) (HL2 : Hid (s.data.toList = 45 :: t.data.toList)) :
    Calls Tryd.prog 37 #[.string s] w (NumLeft s w) := by
  have hlen : t.data.toList.length = t.size := by simp
  have h1' : (0 : Int) < (s.size : Int) := by omega
  have hm' : ((s[0].toNat : Int) == 45) = true := by rw [hm]; rfl
  have hmi : (s[0].toNat : Int) = 45 := by rw [hm]; rfl
  clear hm
  have hsz' : s.size - 1 = t.size := by omega
  by_cases hz : t.size = 0
  · have HN := hide (no_empty (neg := true) (unhide HL2) (fun e => by cases e) (List.eq_nil_of_length_eq_zero (by omega)))
    have hz' : ((t.size : Int) == 0) = true := by rw [beq_iff_eq]; omega
    clear hlen
    go_enter Tryd.func37, Tryd.ntmps37
    go_wp2
    go_ret2
    exact ⟨rfl, 0, false, rfl, .inr ⟨rfl, rfl, unhide HN⟩⟩
  have hz' : ((t.size : Int) == 0) = false := by rw [beq_eq_false_iff_ne]; omega
  by_cases h17 : 17 < t.size
  · have h17' : (17 : Int) < (t.size : Int) := by omega
    have HN := hide (no_long (neg := true) (unhide HL2) (fun e => by cases e) (by omega))
    clear hlen
    go_enter Tryd.func37, Tryd.ntmps37
    go_wp2
    go_ret2
    exact ⟨rfl, 0, false, rfl, .inr ⟨rfl, rfl, unhide HN⟩⟩
  have h17' : ¬ (17 : Int) < (t.size : Int) := by omega
  have hp : 0 < t.size := by omega
  by_cases h0 : t[0] = 48
  · have h0' : ((t[0].toNat : Int) == 48) = true := by rw [h0]; rfl
    have HN := hide (no_zero (neg := true) (unhide HL2) (fun e => by cases e) (r := t.data.toList.tail) (by rw [list_of t hp, h0]; rfl) (.inr rfl))
    clear hlen
    by_cases h2 : 1 < t.size
    · have h2' : (1 : Int) < (t.size : Int) := by omega
      go_enter Tryd.func37, Tryd.ntmps37
      go_wp2
      go_ret2
      exact ⟨rfl, 0, false, rfl, .inr ⟨rfl, rfl, unhide HN⟩⟩
    · have h2' : ¬ (1 : Int) < (t.size : Int) := by omega
      go_enter Tryd.func37, Tryd.ntmps37
      go_wp2
      go_ret2
      exact ⟨rfl, 0, false, rfl, .inr ⟨rfl, rfl, unhide HN⟩⟩
  have h0' : ((t[0].toNat : Int) == 48) = false := by
    rw [beq_eq_false_iff_ne]; intro e; apply h0; apply UInt8.toNat_inj.1; simp; omega
  have HZ : Hid (1 < t.size → t.data.toList.head? ≠ some 48) := fun _ e => by rw [head_of t hp] at e; exact h0 (Option.some.inj e)
  have HP : Hid (∀ v, decDigits v = t.data.toList → 0 < v) := fun v e => by
    rcases Nat.eq_zero_or_pos v with e0 | e0
    · exfalso
      rw [e0, dec_small (by omega), list_of t hp] at e
      simp only [List.cons.injEq] at e
      exact h0 e.1.symm
    · exact e0
  clear hlen
  go_enter Tryd.func37, Tryd.ntmps37
  go_wp2
  go_loop [5, 6] (fun n i => ∃ k v : Nat, k ≤ t.size ∧ i = .int .i64 k ∧ n = .int .i64 v ∧ v < 10 ^ k ∧ ((k = 0 ∧ v = 0) ∨ decDigits v = t.data.toList.take k)) (fun _ i => t.size - (intOf i).toNat)
  case atStart => exact ⟨0, 0, Nat.zero_le _, rfl, rfl, by simp, .inl ⟨rfl, rfl⟩⟩
  case round =>
    obtain ⟨k, v, hk, rfl, rfl, hv, hd⟩ := hrel
    have HD := hide hd
    have HV := hide hv
    clear hd hv
    by_cases hlt : k < t.size
    · have hv17 : v < 100000000000000000 := Nat.lt_of_lt_of_le (unhide HV) (Nat.le_trans (Nat.pow_le_pow_right (by omega) (show k ≤ 17 by omega)) (by decide))
      by_cases hdg : 48 ≤ t[k].toNat ∧ t[k].toNat ≤ 57
      · obtain ⟨g1, g2⟩ := hdg
        have g1' : (48 : Int) ≤ (t[k].toNat : Int) := by omega
        have g2' : (t[k].toNat : Int) ≤ 57 := by omega
        have HS := hide (num_step (t := t.data.toList) (k := k) (v := v) (by simpa using hlt) ⟨g1, g2⟩ (fun hp => unhide HZ (by omega)) (unhide HD))
        have HW := hide (dec_lt k v (t[k].toNat - 48) (unhide HV) (by omega))
        go_wp2
        exact ⟨⟨k + 1, v * 10 + (t[k].toNat - 48), by omega, by go_num, by go_num, unhide HW, .inr (unhide HS)⟩, by simp [intOf]; omega⟩
      · have HN := hide (no_bad (neg := true) (unhide HL2) (fun e => by cases e) (c := t[k]) (by have := List.getElem_mem (l := t.data.toList) (n := k) (by simpa using hlt); exact this) (fun h => hdg h))
        have hdg' : (t[k].toNat : Int) < 48 ∨ 57 < (t[k].toNat : Int) := by omega
        go_wp2
        all_goals (go_ret2; exact ⟨rfl, 0, false, rfl, .inr ⟨rfl, rfl, unhide HN⟩⟩)
    · have hke : k = t.size := by omega
      have hv17 : v < 100000000000000000 := Nat.lt_of_lt_of_le (unhide HV) (Nat.le_trans (Nat.pow_le_pow_right (by omega) (show k ≤ 17 by omega)) (by decide))
      have HE : Hid (decDigits v = t.data.toList) := by
        rcases unhide HD with h | h
        · omega
        · rw [List.take_of_length_le (by simp; omega)] at h; exact h
      clear hke
      have hvp : 0 < v := unhide HP v (unhide HE)
      go_wp2
      go_ret2
      exact ⟨rfl, -(v : Int), true, rfl, .inl ⟨rfl, by rw [itoa_neg (by omega), show (-(v : Int)).natAbs = v by omega, unhide HE]; exact (unhide HL2).symm, by omega, by omega⟩⟩

set_option maxHeartbeats 1000000 in
theorem num_nil (s : ByteArray) (w : World) (h : s.size = 0) :
    Calls Tryd.prog 37 #[.string s] w (NumLeft s w) := by
  have HN : Hid (NoNum s.data.toList) := hide (no_empty (neg := false) (t := s.data.toList) rfl (fun _ r e => by have := congrArg List.length e; simp at this; omega) (List.eq_nil_of_length_eq_zero (by simpa using h)))
  have h' : ((s.size : Int) == 0) = true := by rw [beq_iff_eq]; omega
  go_enter Tryd.func37, Tryd.ntmps37
  go_wp2
  go_ret2
  exact ⟨rfl, 0, false, rfl, .inr ⟨rfl, rfl, unhide HN⟩⟩

theorem num_any (s : ByteArray) (w : World) (hs : s.size ≤ maxLen) : Calls Tryd.prog 37 #[.string s] w (NumLeft s w) := by
  by_cases h : 0 < s.size
  · by_cases hm : s[0] = 45
    · have hd : (s.extract 1 s.size).data.toList = s.data.toList.tail := by
        rw [Lib.extract_data]
        simp only [List.drop_one]
        exact List.take_of_length_le (by simp)
      have hsz : (s.extract 1 s.size).size + 1 = s.size := by
        rw [ByteArray.size_extract]; omega
      exact num_neg s _ w hs rfl hsz h hm (by show _ = _; rw [hd, ← hm]; exact list_of s h)
    · exact num_pos s w hs h hm
  · exact num_nil s w (by omega)
end Go.Proofs.YtbjlcihnkkfhoaaDoor.NumA
