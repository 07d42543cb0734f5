/- The contract of the specification's draw of two numbers: two numbers, whichever; nothing that was there has turned. -/
import Derived.Test.YtbjlcihnkkfhoaaRd
namespace Go.Proofs.Ytbjlcihnkkfhoaa.DrawSum
open Go.Proofs.Ytbjlcihnkkfhoaa.Base
open Go.ChangeShapes Go.WideShapes Go.ChangeAt Go.RowKit Go.Joins
open Go.Proofs.Ytbjlcihnkkfhoaa.Rd
set_option linter.unusedVariables false

set_option maxHeartbeats 400000 in
theorem draw_any (w : World) (a : Option Addr) (len cap : Nat) (hl : len ≤ cap) (hm : cap ≤ maxLen) (hb : len = 0 ∨ ∃ b off, a = some ⟨b, off, none⟩ ∧ b < w.heap.size ∧ ∀ i, i < len → ∃ c : Nat, c < 256 ∧ w.cell? ⟨b, off + i, none⟩ = some (.int .u8 c)) :
    Calls Try.prog 5 #[.slice a len cap] w fun e w' => ∃ x y : Int, e = .returned (.tuple #[.int .i64 x, .int .i64 y]) ∧ Below w.heap.size w w' := by
  have Hb : Hid (len = 0 ∨ ∃ b off, a = some ⟨b, off, none⟩ ∧ b < w.heap.size ∧ ∀ i, i < len → ∃ c : Nat, c < 256 ∧ w.cell? ⟨b, off + i, none⟩ = some (.int .u8 c)) := hb
  clear hb
  go_enter Try.func5, Try.ntmps5
  go_wp2_with fail
  refine (open_any _ _ _ _ hl hm Hb.out).mono ?_
  rintro e w1 ⟨rfl, hr, hb1, hz⟩
  have HR : Hid (RdAt w1 w.heap.size 0) := hr
  clear hr
  go_wp2_with fail
  refine (num_any _ _ _ _ 9 (· ∈ [0, 1, -1, 7, 1000, -1000, 1001, 9223372036854775807, -9223372036854775808]) (rd_alloc HR.out _) (by omega) (by omega) (by omega) (by omega) (ints_lit w1 [0, 1, -1, 7, 1000, -1000, 1001, 9223372036854775807, -9223372036854775808] _ _ (by omega))).mono ?_
  rintro e w2 ⟨x, hx, rfl, hr2, ht2⟩
  have HX : Hid (x ∈ [0, 1, -1, 7, 1000, -1000, 1001, 9223372036854775807, -9223372036854775808]) := hx
  have HR2 : Hid (RdAt w2 w.heap.size (0 + 1)) := hr2
  have HT2 := ht2
  have HN := ints_lit w1 [0, 1, -1, 7, 1000, -1000, 1001, 9223372036854775807, -9223372036854775808] 3 (w.heap.size + 1) (by omega)
  have HN2 : Hid (∀ i, i < 9 → ∃ x, x ∈ [0, 1, -1, 7, 1000, -1000, 1001, 9223372036854775807, -9223372036854775808] ∧ w2.cell? ⟨w.heap.size + 1, i, none⟩ = some (.int .i64 x)) := by
    intro i hi
    obtain ⟨y, hy, hc⟩ := HN i hi
    exact ⟨y, hy, ht2.cell (by omega) hc⟩
  have HB2 : Hid (Below w.heap.size w w2) := hb1.trans ((below_alloc1 w1 _).mono (by omega) |>.trans (ht2.below (Nat.le_refl _) (by simp; omega)))
  clear hx hr2 HT2 HN ht2
  go_wp2_with fail
  refine (num_any _ _ _ _ 9 (· ∈ [0, 1, -1, 7, 1000, -1000, 1001, 9223372036854775807, -9223372036854775808]) HR2.out (by omega) (by omega) (by omega) (by omega) HN2.out).mono ?_
  rintro e w3 ⟨y, hy, rfl, hr3, ht3⟩
  have HB3 : Hid (Below w.heap.size w w3) := HB2.out.trans (ht3.below (Nat.le_refl _) HB2.out.size)
  clear hr3 ht3 hy
  go_wp2
  go_ret2
  exact ⟨x, y, rfl, HB3.out⟩
end Go.Proofs.Ytbjlcihnkkfhoaa.DrawSum
