/- Plain facts on decimal numerals: which texts are numerals, and that a text is one number's at most. -/
import Derived.Test.YthbbmookhcalkaaGreatDoorBase
import Derived.Lib.ItoaNum
namespace Go.Proofs.YthbbmookhcalkaaGreatDoor.Num
open Go.Lib (decDigits itoa)
set_option linter.unusedVariables false

def isD (c : UInt8) : Prop := 48 ≤ c.toNat ∧ c.toNat ≤ 57
def val (l : List UInt8) : Nat := l.foldl (fun n c => n * 10 + (c.toNat - 48)) 0

theorem val_snoc (l : List UInt8) (c : UInt8) : val (l ++ [c]) = val l * 10 + (c.toNat - 48) := by simp [val, List.foldl_append]
theorem digit_toNat (d : Nat) (h : d < 10) : (UInt8.ofNat (48 + d)).toNat = 48 + d := by
  rw [UInt8.toNat_ofNat']; omega
theorem digit_of (c : UInt8) (h : isD c) : UInt8.ofNat (48 + (c.toNat - 48)) = c := by
  obtain ⟨h1, h2⟩ := h
  rw [show 48 + (c.toNat - 48) = c.toNat by omega]
  exact UInt8.ofNat_toNat
theorem dec_small {u : Nat} (h : u < 10) : decDigits u = [UInt8.ofNat (48 + u)] := by rw [decDigits, dif_pos h]
theorem dec_big {u : Nat} (h : ¬ u < 10) : decDigits u = decDigits (u / 10) ++ [UInt8.ofNat (48 + u % 10)] := by rw [decDigits, dif_neg h]
theorem dec_all (u : Nat) : ∀ c ∈ decDigits u, isD c := by
  induction u using Nat.strongRecOn with
  | ind u ih =>
    intro c hc
    by_cases h : u < 10
    · rw [dec_small h] at hc
      simp only [List.mem_singleton] at hc
      rw [hc]; unfold isD; rw [digit_toNat _ h]; omega
    · rw [dec_big h, List.mem_append] at hc
      rcases hc with hc | hc
      · exact ih _ (by omega) c hc
      · simp only [List.mem_singleton] at hc
        rw [hc]; unfold isD; rw [digit_toNat _ (by omega)]; omega
theorem dec_val (u : Nat) : val (decDigits u) = u := by
  induction u using Nat.strongRecOn with
  | ind u ih =>
    by_cases h : u < 10
    · rw [dec_small h]
      show 0 * 10 + ((UInt8.ofNat (48 + u)).toNat - 48) = u
      rw [digit_toNat _ h]; omega
    · rw [dec_big h, val_snoc, ih _ (by omega), digit_toNat _ (by omega)]; omega
theorem dec_ne (u : Nat) : decDigits u ≠ [] := by
  by_cases h : u < 10
  · rw [dec_small h]; simp
  · rw [dec_big h]; simp
theorem dec_head (u : Nat) (h0 : 0 < u) : ∀ c r, decDigits u = c :: r → c ≠ 48 := by
  induction u using Nat.strongRecOn with
  | ind u ih =>
    intro c r e
    by_cases h : u < 10
    · rw [dec_small h] at e
      simp only [List.cons.injEq] at e
      intro hc
      have := digit_toNat u h
      rw [e.1, hc] at this
      have h48 : (48 : UInt8).toNat = 48 := rfl
      omega
    · rw [dec_big h] at e
      cases hd : decDigits (u / 10) with
      | nil => exact absurd hd (dec_ne _)
      | cons c' r' =>
        rw [hd] at e
        simp only [List.cons_append, List.cons.injEq] at e
        have := ih (u / 10) (by omega) (by omega) c' r' hd
        rw [← e.1]; exact this
theorem dec_snoc (v d : Nat) (hv : 0 < v) (hd : d < 10) : decDigits (v * 10 + d) = decDigits v ++ [UInt8.ofNat (48 + d)] := by
  rw [dec_big (by omega), show (v * 10 + d) / 10 = v by omega, show (v * 10 + d) % 10 = d by omega]
theorem dec_len (k u : Nat) (h : u < 10 ^ (k + 1)) : (decDigits u).length ≤ k + 1 := by
  induction k generalizing u with
  | zero => rw [dec_small (by omega)]; simp
  | succ k ih =>
    by_cases h10 : u < 10
    · rw [dec_small h10]; simp
    · rw [dec_big h10]
      have := ih (u / 10) (by rw [Nat.pow_succ] at h; omega)
      simp; omega
theorem dec_inj {u v : Nat} (h : decDigits u = decDigits v) : u = v := by rw [← dec_val u, ← dec_val v, h]

theorem itoa_neg {n : Int} (h : n < 0) : itoa n = 45 :: decDigits n.natAbs := by unfold itoa; rw [if_pos h]
theorem itoa_pos {n : Int} (h : ¬ n < 0) : itoa n = decDigits n.toNat := by unfold itoa; rw [if_neg h]
theorem not_minus {u : Nat} {r : List UInt8} : decDigits u ≠ 45 :: r := by
  intro e
  have := dec_all u 45 (by rw [e]; exact List.mem_cons_self)
  have h45 : (45 : UInt8).toNat = 45 := rfl
  unfold isD at this
  omega
theorem itoa_inj {m n : Int} (h : itoa m = itoa n) : m = n := by
  by_cases hm : m < 0
  · rw [itoa_neg hm] at h
    by_cases hn : n < 0
    · rw [itoa_neg hn] at h
      simp only [List.cons.injEq, true_and] at h
      have := dec_inj h
      omega
    · rw [itoa_pos hn] at h
      exact absurd h.symm not_minus
  · rw [itoa_pos hm] at h
    by_cases hn : n < 0
    · rw [itoa_neg hn] at h
      exact absurd h not_minus
    · rw [itoa_pos hn] at h
      have := dec_inj h
      omega

/-- A text that is the numeral of a number within the bounds is, behind its sign, the digits of a number. -/
theorem canon {neg : Bool} {l t : List UInt8} (hl : l = if neg then 45 :: t else t) (hh : neg = false → ∀ r, t ≠ 45 :: r) {n : Int} (h1 : -1000 ≤ n) (h2 : n ≤ 1000) (h : itoa n = l) :
    ∃ u : Nat, u ≤ 1000 ∧ decDigits u = t ∧ (neg = true → 0 < u) := by
  by_cases hn : n < 0
  · rw [itoa_neg hn] at h
    cases neg with
    | false => exact absurd (hl ▸ h).symm (by simpa using hh rfl (decDigits n.natAbs))
    | true =>
      rw [hl] at h
      simp only [if_true, List.cons.injEq, true_and] at h
      exact ⟨n.natAbs, by omega, h, fun _ => by omega⟩
  · rw [itoa_pos hn] at h
    cases neg with
    | false =>
      rw [hl] at h
      exact ⟨n.toNat, by omega, by simpa using h, fun e => by cases e⟩
    | true =>
      rw [hl] at h
      exact absurd h (by simpa using not_minus)

/-- No number within the bounds has this text. -/
def NoNum (l : List UInt8) : Prop := ∀ n : Int, -1000 ≤ n → n ≤ 1000 → itoa n ≠ l
theorem no_bad {neg : Bool} {l t : List UInt8} (hl : l = if neg then 45 :: t else t) (hh : neg = false → ∀ r, t ≠ 45 :: r) {c : UInt8} (hc : c ∈ t) (hb : ¬ isD c) : NoNum l := by
  intro n h1 h2 h
  obtain ⟨u, _, hu, _⟩ := canon hl hh h1 h2 h
  exact hb (dec_all u c (by rw [hu]; exact hc))
theorem no_empty {neg : Bool} {l t : List UInt8} (hl : l = if neg then 45 :: t else t) (hh : neg = false → ∀ r, t ≠ 45 :: r) (he : t = []) : NoNum l := by
  intro n h1 h2 h
  obtain ⟨u, _, hu, _⟩ := canon hl hh h1 h2 h
  exact dec_ne u (hu.trans he)
theorem no_long {neg : Bool} {l t : List UInt8} (hl : l = if neg then 45 :: t else t) (hh : neg = false → ∀ r, t ≠ 45 :: r) (he : 4 < t.length) : NoNum l := by
  intro n h1 h2 h
  obtain ⟨u, h3, hu, _⟩ := canon hl hh h1 h2 h
  have := dec_len 3 u (by omega)
  rw [hu] at this
  omega
theorem no_zero {neg : Bool} {l t : List UInt8} (hl : l = if neg then 45 :: t else t) (hh : neg = false → ∀ r, t ≠ 45 :: r) {r : List UInt8} (he : t = 48 :: r) (hz : 1 < t.length ∨ neg = true) : NoNum l := by
  intro n h1 h2 h
  obtain ⟨u, h3, hu, hn⟩ := canon hl hh h1 h2 h
  rw [he] at hu hz
  by_cases h0 : 0 < u
  · exact dec_head u h0 _ _ hu rfl
  · have e0 : u = 0 := by omega
    rcases hz with hz | hz
    · rw [e0, dec_small (by omega)] at hu
      simp only [List.cons.injEq] at hu
      rw [← hu.2] at hz
      simp at hz
    · exact h0 (hn hz)

/-- The numeral that was read: so many signs in. -/
theorem num_step {t : List UInt8} {k v : Nat} (hk : k < t.length) (hd : isD t[k]) (h0 : 0 < k → t.head? ≠ some 48) (h : (k = 0 ∧ v = 0) ∨ decDigits v = t.take k) : decDigits (v * 10 + (t[k].toNat - 48)) = t.take (k + 1) := by
  rw [List.take_succ_eq_append_getElem hk]
  have hd10 : t[k].toNat - 48 < 10 := by unfold isD at hd; omega
  rcases h with ⟨rfl, rfl⟩ | h
  · rw [show 0 * 10 + (t[0].toNat - 48) = t[0].toNat - 48 by omega, dec_small hd10, digit_of _ hd]
    simp
  · have hv : 0 < v := by
      rcases Nat.eq_zero_or_pos v with e | e
      · exfalso
        rw [e, dec_small (by omega)] at h
        have hkp : 0 < k := by
          rcases Nat.eq_zero_or_pos k with e' | e'
          · rw [e'] at h; simp at h
          · exact e'
        refine h0 hkp ?_
        cases t with
        | nil => simp at hk
        | cons a r =>
          obtain ⟨k', rfl⟩ : ∃ k', k = k' + 1 := ⟨k - 1, by omega⟩
          simp only [List.take_succ_cons, List.cons.injEq] at h
          rw [← h.1]
          rfl
      · exact e
    rw [dec_snoc _ _ hv hd10, digit_of _ hd, h]
theorem dec_lt (k : Nat) (v d : Nat) (h : v < 10 ^ k) (hd : d < 10) : v * 10 + d < 10 ^ (k + 1) := by rw [Nat.pow_succ]; omega
end Go.Proofs.YthbbmookhcalkaaGreatDoor.Num
