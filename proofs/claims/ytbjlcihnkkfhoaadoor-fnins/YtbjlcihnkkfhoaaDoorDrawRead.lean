/- The contract of the specification's draw of a text: some text, not long; nothing that was there has turned. -/
import Derived.Test.YtbjlcihnkkfhoaaDoorDrawInsB
import Derived.Test.YtbjlcihnkkfhoaaDoorRT
import Derived.Deep.RegionWith
namespace Go.Proofs.YtbjlcihnkkfhoaaDoor.DrawRead
open Go.ChangeShapes Go.WideShapes Go.ChangeAt Go.RowKit Go.Joins
open Go.Proofs.YtbjlcihnkkfhoaaDoor.Base Go.Proofs.YtbjlcihnkkfhoaaDoor.Rd Go.Proofs.YtbjlcihnkkfhoaaDoor.DrawIns
open Go.Proofs.YtbjlcihnkkfhoaaDoor.Text (textA specText_any)
open Go.Proofs.YtbjlcihnkkfhoaaDoor.RT (text_size)
set_option linter.unusedVariables false

def bits6 : List ByteArray := [⟨#[]⟩, ⟨#[48]⟩, ⟨#[32]⟩, ⟨#[45]⟩, ⟨#[97]⟩, ⟨#[65]⟩]
theorem bits6_short : ∀ x, x ∈ bits6 → x.size ≤ 1 := by
  intro x hx
  simp only [bits6, List.mem_cons, List.not_mem_nil, or_false] at hx
  rcases hx with rfl | rfl | rfl | rfl | rfl | rfl <;> decide
def TextLeft (w : World) (e : Ending) (w' : World) : Prop := ∃ x : ByteArray, x.size ≤ 4100 ∧ e = .returned (.string x) ∧ Below w.heap.size w w'

theorem cat_small (T x : ByteArray) (k j : Nat) (hT : T.size ≤ 2000) (hx : x.size ≤ 1) :
    (¬ 9223372036854775807 < (T.extract 0 k ++ x).size + (T.extract j T.size).size) ∧ (¬ 9223372036854775807 < min k T.size + x.size + (T.size - j)) ∧ (¬ 9223372036854775807 < (T.extract 0 k).size + x.size + (T.size - j)) ∧ (¬ 9223372036854775807 < (T.extract 0 k ++ x).size + (T.size - j)) ∧ ((T.extract 0 k ++ x).size ≤ 2001) := by
  have h1 : (T.extract 0 k).size ≤ 2000 := by rw [ByteArray.size_extract]; omega
  have h2 : (T.extract j T.size).size ≤ 2000 := by rw [ByteArray.size_extract]; omega
  have h3 : (T.extract 0 k ++ x).size = (T.extract 0 k).size + x.size := ByteArray.size_append
  exact ⟨by omega, by omega, by omega, by omega, by omega⟩

theorem cat_le (T x : ByteArray) (k j : Nat) (hT : T.size ≤ 2000) (hx : x.size ≤ 1) : (T.extract 0 k ++ x ++ T.extract j T.size).size ≤ 4100 := by
  have h1 : (T.extract 0 k).size ≤ 2000 := by rw [ByteArray.size_extract]; omega
  have h2 : (T.extract j T.size).size ≤ 2000 := by rw [ByteArray.size_extract]; omega
  rw [ByteArray.size_append, ByteArray.size_append]
  omega
theorem chain {w w5 w6 w7 : World} {o : Obj} (h : Below w.heap.size w w5) (h6 : Turns w.heap.size (w5.alloc o).drew w6) (h7 : Turns w.heap.size w6 w7) : Below w.heap.size w w7 := by
  have h1 := (bl_alloc h o).drew
  have h2 := h1.trans (h6.below (Nat.le_refl _) h1.size)
  exact h2.trans (h7.below (Nat.le_refl _) h2.size)

set_option maxHeartbeats 1000000 in
theorem drawRead_any (w : World) (a : Option Addr) (len cap : Nat) (hl : len ≤ cap) (hm : cap ≤ maxLen) (hb : len = 0 ∨ ∃ b off, a = some ⟨b, off, none⟩ ∧ b < w.heap.size ∧ ∀ i, i < len → ∃ c : Nat, c < 256 ∧ w.cell? ⟨b, off + i, none⟩ = some (.int .u8 c)) :
    Calls Tryd.prog 11 #[.slice a len cap] w (TextLeft w) := by
  have Hb := hide hb
  clear hb
  go_enter Tryd.func11, Tryd.ntmps11
  go_wp2_with fail
  refine (open_any _ _ _ _ hl hm (unhide Hb)).mono ?_
  rintro e w1 ⟨rfl, hr, hb1, hz⟩
  have HR := hide hr
  have HB := hide hb1
  clear hr hb1
  go_wp2_with fail
  refine (bent_any _ _ _ (unhide HR) (by omega)).mono ?_
  rintro e w2 ⟨o, n, s, p', rfl, hs, hp', hr2, ht2⟩
  have HR2 := hide hr2
  have HB2 := hide ((unhide HB).trans (ht2.below (Nat.le_refl w.heap.size) (by omega)))
  have hz2 := ht2.size
  clear hr2 ht2 HR HB
  go_wp2_with fail
  refine (specText_any o n s _ (by omega)).mono ?_
  rintro e w3 ⟨rfl, hb3⟩
  have HR3 := hide (rd_below (unhide HR2) hb3)
  have HB3 := hide (bl_trans (unhide HB2) hb3)
  have hz3 := hb3.size
  have hts := text_size o n s hs
  generalize textA o n s = T at *
  clear hb3 HR2 HB2
  by_cases h0 : T.size = 0
  · have h0' : ((T.size : Int) == 0) = true := by rw [beq_iff_eq]; omega
    go_wp2_with fail
    go_ret
    exact ⟨T, by omega, rfl, unhide HB3⟩
  have h0' : ((T.size : Int) == 0) = false := by rw [beq_eq_false_iff_ne]; omega
  go_wp2_with fail
  refine (pick_any _ _ _ 2 (unhide HR3) (by omega) (by omega)).mono ?_
  rintro e w4 ⟨v, hv, rfl, hr4, ht4⟩
  have HR4 := hide hr4
  have HB4 := hide ((unhide HB3).trans (ht4.below (Nat.le_refl w.heap.size) (by omega)))
  have hz4 := ht4.size
  clear hr4 ht4 HR3 HB3
  have hv2 : v = 0 ∨ v = 1 := by omega
  rcases hv2 with rfl | rfl
  · go_wp2_with fail
    go_ret
    exact ⟨T, by omega, rfl, unhide HB4⟩
  go_wp2_with fail
  refine (pick_any _ _ _ T.size (unhide HR4) (by omega) (by omega)).mono ?_
  rintro e w5 ⟨k, hk, rfl, hr5, ht5⟩
  have HR5 := hide hr5
  have HB5 := hide ((unhide HB4).trans (ht5.below (Nat.le_refl w.heap.size) (by omega)))
  have hz5 := ht5.size
  clear hr5 ht5 HR4 HB4
  have hk1 : (k : Int) ≤ (T.size : Int) := by omega
  have HK1 : Hid (∀ y : Nat, (y : Int) < 2 → ∃ j : Nat, (k : Int) + (y : Int) = (j : Int) ∧ j ≤ T.size ∧ (j : Int) ≤ (T.size : Int) ∧ wrap64 (j : Int) = (j : Int) ∧ (j : Int) ≤ 2000 ∧ IntKind.i64.wrap (j : Int) = (j : Int)) := fun y h => ⟨k + y, by omega, by omega, by omega, by unfold wrap64; omega, by omega, by rw [IntKind.wrap_i64]; omega⟩
  go_wp2_with fail
  go_region_with (first | (go_at_call 35; refine (of_any _ _ _ _ 6 (· ∈ bits6) (by exact rd_alloc (unhide HR5) _) (by omega) (by omega) (by omega) (by omega) (by exact strs_lit w5 bits6 _ _ rfl)).mono ?_; rintro e w6 ⟨x, hx, rfl, hr6, ht6⟩; have hxs := bits6_short x hx; have hkn : k < T.size := by omega) | (go_at_call 34; refine (pick_any _ _ _ 2 hr6 (by omega) (by omega)).mono ?_; rintro e w7 ⟨y, hy, rfl, hr7, ht7⟩; obtain ⟨j, hj, hjs, hjs', hjw, hjb, hjA⟩ := unhide HK1 y hy; obtain ⟨q1, q2, q3, q4, q5⟩ := cat_small T x k j hts hxs))
  all_goals (go_wp2_with fail; go_ret; exact ⟨T.extract 0 k ++ x ++ T.extract j T.size, cat_le T x k j hts hxs, rfl, chain (unhide HB5) ht6 ht7⟩)
end Go.Proofs.YtbjlcihnkkfhoaaDoor.DrawRead
