/- The contract of the specification's decimal writer, at the numbers that it is asked: the decimal numeral. -/
import Derived.Test.YthbbmookhcalkaaDoorBase
import Derived.WalkKit
import Derived.ProofKit
import Derived.OpenShut
import Derived.Below
import Derived.Outline
import Derived.Lib.SmallJoins
import Derived.Lib.ItoaNum
namespace Go.Proofs.YthbbmookhcalkaaDoor.Dec
open Go.Proofs.YthbbmookhcalkaaDoor.Base
open Go.ChangeShapes Go.WideShapes Go.ChangeAt Go.RowKit Go.Joins
set_option linter.unusedVariables false

theorem ret_str {a b : ByteArray} (h : a = b) : Ending.returned (.string a) = .returned (.string b) := by rw [h]

theorem str_cons_eq (c : UInt8) (l : List UInt8) : (⟨#[c]⟩ : ByteArray) ++ ⟨l.toArray⟩ = ⟨(c :: l).toArray⟩ := by
  apply ByteArray.ext
  rw [ByteArray.data_append]
  simp
theorem str_cons (c : UInt8) (l : List UInt8) : Value.string ((⟨#[c]⟩ : ByteArray) ++ ⟨l.toArray⟩) = Value.string ⟨(c :: l).toArray⟩ := by rw [str_cons_eq]
theorem ofNat_add (m : Nat) : UInt8.ofNat (48 + m) = 48 + UInt8.ofNat m := by simp

theorem dlen (m : Nat) : (Lib.decDigits m).length ≤ m + 1 := by
  induction m using Nat.strongRecOn with
  | ind m ih =>
    rw [Lib.decDigits]
    by_cases h : m < 10
    · rw [dif_pos h]; simp
    · rw [dif_neg h]
      have := ih (m / 10) (by omega)
      simp
      omega
theorem ilen (n : Int) : (Lib.itoa n).length ≤ n.natAbs + 2 := by
  unfold Lib.itoa
  split
  · have := dlen n.natAbs; simp; omega
  · have := dlen n.toNat; omega

theorem conv1 (w : World) (x : Int) : (convert 55 9 (.slice (some ⟨w.heap.size, 0, none⟩) 1 1)).run Tryd.prog (w.alloc (.cells #[.int .u8 x] 5)) = .ok (.string ⟨#[UInt8.ofNat x.toNat]⟩) (w.alloc (.cells #[.int .u8 x] 5)) := by
  rw [run_convert_bytes_string _ _ _ 5 _ _ _ Tryd.underlying55 Tryd.underlying5 Tryd.underlying9]
  rw [run_bytesToString _ _ 1 1 [x] (by simp [loadCells, go_sem])]
  rfl

theorem dec_step {n k : Nat} {l : List UInt8} (h : Lib.decDigits n = Lib.decDigits k ++ l) (h9 : 9 < k) : Lib.decDigits n = Lib.decDigits (k / 10) ++ (UInt8.ofNat (48 + k % 10) :: l) := by
  rw [h, Lib.decDigits, dif_neg (by omega), List.append_assoc]
  rfl
theorem dec_end {n k : Nat} {l : List UInt8} (h : Lib.decDigits n = Lib.decDigits k ++ l) (h9 : ¬ 9 < k) : Lib.decDigits n = UInt8.ofNat (48 + k) :: l := by
  rw [h, Lib.decDigits, dif_pos (by omega)]
  rfl

set_option maxHeartbeats 400000 in
theorem decPos_any (n : Nat) (w : World) (h1 : n ≤ 1000000) :
    Calls Tryd.prog 32 #[.int .i64 n] w fun e w' => e = .returned (.string ⟨(Lib.decDigits n).toArray⟩) ∧ Below w.heap.size w w' := by
  go_enter Tryd.func32, Tryd.ntmps32
  go_wp2
  go_loopw [0, 3] (fun m out w' => ∃ (k : Nat) (l : List UInt8), k ≤ 1000000 ∧ m = .int .i64 k ∧ out = .string ⟨l.toArray⟩ ∧ Lib.decDigits n = Lib.decDigits k ++ l ∧ l.length + k ≤ n ∧ Below w.heap.size w w') (fun m _ _ => (intOf m).toNat)
  case atStart => exact ⟨n, [], h1, rfl, rfl, by simp, by simp, Below.refl _ _⟩
  case round =>
    obtain ⟨k, l, hk, rfl, rfl, hd, hlen, hb⟩ := hrel
    have HD : Hid (Lib.decDigits n = Lib.decDigits k ++ l) := hd
    clear hd
    have hc1 := conv1 wr
    by_cases h9 : 9 < k
    · have h9' : (9 : Int) < (k : Int) := by omega
      go_wp2
      exact ⟨⟨k / 10, _, by omega, by go_num, str_cons _ _, by rw [dec_step HD.out h9, ofNat_add], by simp; omega, bl_alloc hb _⟩, by simp [intOf]; omega⟩
    · have h9' : ¬ (9 : Int) < (k : Int) := by omega
      go_wp2
      go_ret
      exact ⟨ret_str (by rw [dec_end HD.out h9, ofNat_add]; exact str_cons_eq _ _), bl_alloc hb _⟩

set_option maxHeartbeats 400000 in
theorem dec_any (n : Int) (w : World) (h0 : -1000000 ≤ n) (h1 : n ≤ 1000000) :
    Calls Tryd.prog 32 #[.int .i64 n] w fun e w' => e = .returned (.string ⟨(Lib.itoa n).toArray⟩) ∧ Below w.heap.size w w' := by
  by_cases hn : n < 0
  · obtain ⟨m, hm⟩ := Int.eq_ofNat_of_zero_le (show 0 ≤ -n by omega)
    have hit : Lib.itoa n = 45 :: Lib.decDigits m := by
      unfold Lib.itoa; rw [if_pos hn, show n.natAbs = m by omega]
    have HI : Hid (Lib.itoa n = 45 :: Lib.decDigits m) := hit
    clear hit
    go_enter Tryd.func32, Tryd.ntmps32
    go_wp2_with fail
    refine (decPos_any m _ (by omega)).mono ?_
    rintro e w1 ⟨rfl, hb⟩
    have hdl := dlen m
    have hmb : m ≤ 1000000 := by omega
    clear hm
    go_wp2_with fail
    go_ret
    exact ⟨ret_str (by rw [HI.out]; exact str_cons_eq _ _), hb⟩
  · obtain ⟨m, rfl⟩ := Int.eq_ofNat_of_zero_le (show 0 ≤ n by omega)
    have hit : Lib.itoa (m : Int) = Lib.decDigits m := by
      unfold Lib.itoa; rw [if_neg hn]; rfl
    rw [hit]
    exact decPos_any m w (by omega)
end Go.Proofs.YthbbmookhcalkaaDoor.Dec
