/- The contracts of the specification's draws of an instruction out of bytes: some instruction, its name short; nothing that was there has turned. -/
import Derived.Test.YtbjlcihnkkfhoaaDrawIns
namespace Go.Proofs.Ytbjlcihnkkfhoaa.DrawInsB
open Go.Proofs.Ytbjlcihnkkfhoaa.Base
open Go.ChangeShapes Go.WideShapes Go.ChangeAt Go.RowKit Go.Joins
open Go.Proofs.Ytbjlcihnkkfhoaa.Rd Go.Proofs.Ytbjlcihnkkfhoaa.DrawIns
set_option linter.unusedVariables false

set_option maxHeartbeats 1000000 in
theorem drawRefs_any (w : World) (a : Option Addr) (len cap : Nat) (hl : len ≤ cap) (hm : cap ≤ maxLen) (hb : len = 0 ∨ ∃ b off, a = some ⟨b, off, none⟩ ∧ b < w.heap.size ∧ ∀ i, i < len → ∃ c : Nat, c < 256 ∧ w.cell? ⟨b, off + i, none⟩ = some (.int .u8 c)) :
    Calls Try.prog 9 #[.slice a len cap] w fun e w' => ∃ (o n : Int) (s : ByteArray), e = .returned (.agg #[.int .i64 o, .int .i64 n, .string s]) ∧ s.size ≤ 10 ∧ Below w.heap.size w w' := by
  have Hb := hide hb
  clear hb
  go_enter Try.func9, Try.ntmps9
  go_wp2_with fail
  refine (open_any _ _ _ _ hl hm (bytes_alloc (unhide Hb) _)).mono ?_
  rintro e w1 ⟨rfl, hr, hb1, hz⟩
  have HX := hide (box_below (new_block w _) hb1)
  have HB := hide ((below_alloc1 w _).trans (hb1.mono (show w.heap.size ≤ (w.alloc _).heap.size by simp)))
  simp only [World.size_alloc] at hz hr
  have HR := hide hr
  clear hr hb1
  go_wp2_with fail
  refine (bent_any _ _ _ (unhide HR) (by omega)).mono ?_
  rintro e w2 ⟨o, n, s, p', rfl, hs, hp', hr2, ht2⟩
  obtain ⟨⟨c0, c1, c2⟩, f0, f1, f2⟩ := box3 (box_turns (unhide HX) ht2 (by omega))
  have HB2 := hide ((unhide HB).trans (ht2.below (show w.heap.size ≤ w.heap.size + 1 by omega) (by omega)))
  clear hr2 ht2
  go_wp2_with fail
  exact bodyPost_ret (v := .agg #[.int .i64 o, .int .i64 n, .string s]) (by simp [results, Try.results9, go_sem, c0, c1, c2]) rfl ⟨o, n, s, rfl, hs, (((unhide HB2).setCell (Nat.le_refl _) _).setCell (Nat.le_refl _) _).setCell (Nat.le_refl _) _⟩

set_option maxHeartbeats 1000000 in
theorem drawLast_any (w : World) (a : Option Addr) (len cap : Nat) (hl : len ≤ cap) (hm : cap ≤ maxLen) (hb : len = 0 ∨ ∃ b off, a = some ⟨b, off, none⟩ ∧ b < w.heap.size ∧ ∀ i, i < len → ∃ c : Nat, c < 256 ∧ w.cell? ⟨b, off + i, none⟩ = some (.int .u8 c)) :
    Calls Try.prog 8 #[.slice a len cap] w fun e w' => ∃ (o n : Int) (s : ByteArray), e = .returned (.agg #[.int .i64 o, .int .i64 n, .string s]) ∧ s.size ≤ 10 ∧ Below w.heap.size w w' := by
  have Hb := hide hb
  clear hb
  go_enter Try.func8, Try.ntmps8
  go_wp2_with fail
  refine (open_any _ _ _ _ hl hm (bytes_alloc (unhide Hb) _)).mono ?_
  rintro e w1 ⟨rfl, hr, hb1, hz⟩
  have HX := hide (box_below (new_block w _) hb1)
  have HB := hide ((below_alloc1 w _).trans (hb1.mono (show w.heap.size ≤ (w.alloc _).heap.size by simp)))
  simp only [World.size_alloc] at hz hr
  have HR := hide hr
  clear hr hb1
  go_wp2_with fail
  refine (bent_any _ _ _ (unhide HR) (by omega)).mono ?_
  rintro e w2 ⟨o, n, s, p', rfl, hs, hp', hr2, ht2⟩
  obtain ⟨⟨c0, c1, c2⟩, f0, f1, f2⟩ := box3 (box_turns (unhide HX) ht2 (by omega))
  have HB2 := hide ((unhide HB).trans (ht2.below (show w.heap.size ≤ w.heap.size + 1 by omega) (by omega)))
  clear hr2 ht2
  go_wp2_with fail
  exact bodyPost_ret (v := .agg #[.int .i64 o, .int .i64 n, .string s]) (by simp [results, Try.results8, go_sem, c0, c1, c2]) rfl ⟨o, n, s, rfl, hs, (((unhide HB2).setCell (Nat.le_refl _) _).setCell (Nat.le_refl _) _).setCell (Nat.le_refl _) _⟩
end Go.Proofs.Ytbjlcihnkkfhoaa.DrawInsB
