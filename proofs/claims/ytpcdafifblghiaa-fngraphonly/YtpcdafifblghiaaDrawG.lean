/- The contracts of the specification's draws of chapter 6. -/
import Derived.Test.YtpcdafifblghiaaDrawS
import Derived.Deep.RegionWith
namespace Go.Proofs.Ytpcdafifblghiaa.DrawG
open Go.ChangeShapes Go.WideShapes Go.ChangeAt Go.RowKit Go.Joins Go.Deep
open Go.Proofs.Ytpcdafifblghiaa.Base Go.Proofs.Ytpcdafifblghiaa.InsA Go.Proofs.Ytpcdafifblghiaa.Funs Go.Proofs.Ytpcdafifblghiaa.Open Go.Proofs.Ytpcdafifblghiaa.FunS Go.Proofs.Ytpcdafifblghiaa.Keep Go.Proofs.Ytpcdafifblghiaa.Rd Go.Proofs.Ytpcdafifblghiaa.DrawIns Go.Proofs.Ytpcdafifblghiaa.DrawP Go.Proofs.Ytpcdafifblghiaa.DrawR Go.Proofs.Ytpcdafifblghiaa.DrawS
open Go.Proofs.Ytpcdafifblghiaa.DrawThin (name_in)
set_option linter.unusedVariables false
set_option maxRecDepth 100000

set_option maxHeartbeats 1000000 in
theorem drawGraphBack_any (w : World) (a : Option Addr) (len cap : Nat) (hl : len ≤ cap) (hm : cap ≤ maxLen) (hb : len = 0 ∨ ∃ b off, a = some ⟨b, off, none⟩ ∧ b < w.heap.size ∧ ∀ i, i < len → ∃ c : Nat, c < 256 ∧ w.cell? ⟨b, off + i, none⟩ = some (.int .u8 c)) :
    Calls Try.prog 22 #[.slice a len cap] w (KeepDrawn w) := by
  have Hb := hide hb
  clear hb
  go_enter Try.func22, Try.ntmps22
  go_wp2_with fail
  refine (open_any _ _ _ _ hl hm (unhide Hb)).mono ?_
  rintro e w1 ⟨rfl, hr, hb1, hz⟩
  have HR := hide hr
  clear hr
  go_wp2_with fail
  refine (bent_draw _ _ _ (unhide HR) (by omega)).mono ?_
  rintro e w2 ⟨b, c, fs, p', rfl, h1, h2, h3, HNM, h4, hp', hr2, ht2⟩
  have HM : Hid (ProgMet w w2 b c fs) := ⟨h1, h2, h3, h4, hb1.trans (ht2.below (Nat.le_refl _) (by omega))⟩
  clear h1 h2 h4 hr2 ht2
  go_wp2_with fail
  go_ret
  exact ⟨b, c, fs, rfl, HNM, unhide HM⟩
set_option maxHeartbeats 1000000 in
theorem drawGraphLeaf_any (w : World) (a : Option Addr) (len cap : Nat) (hl : len ≤ cap) (hm : cap ≤ maxLen) (hb : len = 0 ∨ ∃ b off, a = some ⟨b, off, none⟩ ∧ b < w.heap.size ∧ ∀ i, i < len → ∃ c : Nat, c < 256 ∧ w.cell? ⟨b, off + i, none⟩ = some (.int .u8 c)) :
    Calls Try.prog 28 #[.slice a len cap] w (KeepDrawn w) := by
  have Hb := hide hb
  clear hb
  go_enter Try.func28, Try.ntmps28
  go_wp2_with fail
  refine (open_any _ _ _ _ hl hm (unhide Hb)).mono ?_
  rintro e w1 ⟨rfl, hr, hb1, hz⟩
  have HR := hide hr
  clear hr
  go_wp2_with fail
  refine (bent_draw _ _ _ (unhide HR) (by omega)).mono ?_
  rintro e w2 ⟨b, c, fs, p', rfl, h1, h2, h3, HNM, h4, hp', hr2, ht2⟩
  have HM : Hid (ProgMet w w2 b c fs) := ⟨h1, h2, h3, h4, hb1.trans (ht2.below (Nat.le_refl _) (by omega))⟩
  clear h1 h2 h4 hr2 ht2
  go_wp2_with fail
  go_ret
  exact ⟨b, c, fs, rfl, HNM, unhide HM⟩
set_option maxHeartbeats 1000000 in
theorem drawGraphBy_any (w : World) (a : Option Addr) (len cap : Nat) (hl : len ≤ cap) (hm : cap ≤ maxLen) (hb : len = 0 ∨ ∃ b off, a = some ⟨b, off, none⟩ ∧ b < w.heap.size ∧ ∀ i, i < len → ∃ c : Nat, c < 256 ∧ w.cell? ⟨b, off + i, none⟩ = some (.int .u8 c)) :
    Calls Try.prog 16 #[.slice a len cap] w (ReachDrawn w) := by
  have Hb := hide hb
  clear hb
  go_enter Try.func16, Try.ntmps16
  go_wp2_with fail
  refine (drawKeepReach_any _ _ _ _ hl hm (unhide Hb)).mono ?_
  rintro e w1 ⟨b, c, fs, s, rfl, hs, hM⟩
  have HM := hide hM
  clear hM
  go_wp2_with fail
  go_ret2
  exact ⟨b, c, fs, s, rfl, hs, unhide HM⟩
end Go.Proofs.Ytpcdafifblghiaa.DrawG
