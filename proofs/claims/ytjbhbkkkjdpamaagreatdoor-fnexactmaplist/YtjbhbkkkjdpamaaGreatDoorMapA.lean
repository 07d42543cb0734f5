/- The contracts of what says whether a place is an instruction, of both sides, and of the copy and comparison of a place. -/
import Derived.Test.YtjbhbkkkjdpamaaGreatDoorMapD
import Derived.Test.YtjbhbkkkjdpamaaGreatDoorLayV
import Derived.Deep.QuietTactic
import Derived.BigQuiet
namespace Go.Proofs.YtjbhbkkkjdpamaaGreatDoor.MapA
open Go.ChangeShapes Go.WideShapes Go.ChangeAt Go.RowKit Go.Joins Go.Deep
open Go.Proofs.YtjbhbkkkjdpamaaGreatDoor.Base Go.Proofs.YtjbhbkkkjdpamaaGreatDoor.InsA Go.Proofs.YtjbhbkkkjdpamaaGreatDoor.Funs Go.Proofs.YtjbhbkkkjdpamaaGreatDoor.Open Go.Proofs.YtjbhbkkkjdpamaaGreatDoor.Keep Go.Proofs.YtjbhbkkkjdpamaaGreatDoor.UnitS Go.Proofs.YtjbhbkkkjdpamaaGreatDoor.Refs Go.Proofs.YtjbhbkkkjdpamaaGreatDoor.LayN Go.Proofs.YtjbhbkkkjdpamaaGreatDoor.LayA Go.Proofs.YtjbhbkkkjdpamaaGreatDoor.KeepA Go.Proofs.YtjbhbkkkjdpamaaGreatDoor.KeepD Go.Proofs.YtjbhbkkkjdpamaaGreatDoor.LayD Go.Proofs.YtjbhbkkkjdpamaaGreatDoor.LayS Go.Proofs.YtjbhbkkkjdpamaaGreatDoor.LayT Go.Proofs.YtjbhbkkkjdpamaaGreatDoor.LayU Go.Proofs.YtjbhbkkkjdpamaaGreatDoor.LayV Go.Proofs.YtjbhbkkkjdpamaaGreatDoor.MapD
set_option linter.unusedVariables false
set_option maxRecDepth 100000

set_option maxHeartbeats 2000000 in
theorem spotOk_any (a : Option Addr) (cap : Nat) (fs : List FunD) (f p : Int) (w : World) (hcap : fs.length ≤ cap) (hcm : cap ≤ maxLen) (hR : FunRow w a fs) :
    Calls Tryz.prog 41 #[.slice a fs.length cap, .agg #[.int .i64 f, .int .i64 p]] w fun e w' => e = .returned (.bool (spotQ fs f p)) ∧ Below w.heap.size w w' := by
  have HR := hide hR
  clear hR
  unfold maxLen at hcm
  have hn : (fs.length : Int) ≤ 9223372036854775807 := by omega
  have hB := below_alloc1 w (.cells #[.int .i64 f, .int .i64 p] 48)
  by_cases h0 : 0 ≤ f
  · by_cases h1 : f < (fs.length : Int)
    · by_cases h2 : 0 ≤ p
      · obtain ⟨k, rfl⟩ : ∃ k : Nat, f = (k : Int) := ⟨f.toNat, by omega⟩
        have hk : k < fs.length := by omega
        obtain ⟨b, off, rfl⟩ := (unhide HR).get (by omega)
        obtain ⟨ai, ci, _, _, c2, _, g1, g2, _⟩ := ((unhide HR).below hB).at hk
        unfold maxLen at g2
        have HE : Hid (spotQ fs (k : Int) p = decide (p < (fs[k].body.length : Int))) := by
          show _ = _
          unfold spotQ
          rw [decide_eq_true h0, decide_eq_true h1, decide_eq_true h2]
          rw [show ((k : Nat) : Int).toNat = k from Int.toNat_natCast k, lenAt_is hk]; simp
        generalize fs[k].body.length = m at *
        have hm : (m : Int) ≤ 9223372036854775807 := by omega
        by_cases h3 : p < (m : Int)
        · have HF : Hid (true = spotQ fs (k : Int) p) := by show _ = _; rw [unhide HE, decide_eq_true h3]
          have d0 : decide ((0 : Int) ≤ (k : Int)) = true := decide_eq_true h0
          have d1 : decide ((k : Int) < (fs.length : Int)) = true := decide_eq_true h1
          have d2 : decide ((0 : Int) ≤ p) = true := decide_eq_true h2
          have d3 : decide (p < (m : Int)) = true := decide_eq_true h3
          go_enter Tryz.func41, Tryz.ntmps41
          go_wp2_with fail
          go_quiet (fail)
          go_wp2_with fail
          go_ret
          exact ⟨ret_bool (unhide HF), by first | exact hB | exact bl_drewN hB _ | exact hB.drew⟩
        · have HF : Hid (false = spotQ fs (k : Int) p) := by show _ = _; rw [unhide HE, decide_eq_false h3]
          have d0 : decide ((0 : Int) ≤ (k : Int)) = true := decide_eq_true h0
          have d1 : decide ((k : Int) < (fs.length : Int)) = true := decide_eq_true h1
          have d2 : decide ((0 : Int) ≤ p) = true := decide_eq_true h2
          have d3 : decide (p < (m : Int)) = false := decide_eq_false h3
          go_enter Tryz.func41, Tryz.ntmps41
          go_wp2_with fail
          go_quiet (fail)
          go_wp2_with fail
          go_ret
          exact ⟨ret_bool (unhide HF), by first | exact hB | exact bl_drewN hB _ | exact hB.drew⟩
      · have HF : Hid (false = spotQ fs f p) := by show _ = _; unfold spotQ; rw [decide_eq_false h2]; simp
        have d0 : decide ((0 : Int) ≤ f) = true := decide_eq_true h0
        have d1 : decide (f < (fs.length : Int)) = true := decide_eq_true h1
        have d2 : decide ((0 : Int) ≤ p) = false := decide_eq_false h2
        go_enter Tryz.func41, Tryz.ntmps41
        go_wp2_with fail
        go_quiet (fail)
        go_wp2_with fail
        go_ret
        exact ⟨ret_bool (unhide HF), by first | exact hB | exact bl_drewN hB _ | exact hB.drew⟩
    · have HF : Hid (false = spotQ fs f p) := by show _ = _; unfold spotQ; rw [decide_eq_false h1]; simp
      have d0 : decide ((0 : Int) ≤ f) = true := decide_eq_true h0
      have d1 : decide (f < (fs.length : Int)) = false := decide_eq_false h1
      go_enter Tryz.func41, Tryz.ntmps41
      go_wp2_with fail
      go_quiet (fail)
      go_wp2_with fail
      go_ret
      exact ⟨ret_bool (unhide HF), by first | exact hB | exact bl_drewN hB _ | exact hB.drew⟩
  · have HF : Hid (false = spotQ fs f p) := by show _ = _; unfold spotQ; rw [decide_eq_false h0]; simp
    have d0 : decide ((0 : Int) ≤ f) = false := decide_eq_false h0
    go_enter Tryz.func41, Tryz.ntmps41
    go_wp2_with fail
    go_quiet (fail)
    go_wp2_with fail
    go_ret
    exact ⟨ret_bool (unhide HF), by first | exact hB | exact bl_drewN hB _ | exact hB.drew⟩

end Go.Proofs.YtjbhbkkkjdpamaaGreatDoor.MapA
