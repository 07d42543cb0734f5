/- The contracts of both sides' MachOk: a place of a program, a number that is cut, and the whole. -/
import Derived.Test.YtjbhbkkkjdpamaaGreatMach
import Derived.Test.YtjbhbkkkjdpamaaGreatKeepA
import Derived.Test.YtjbhbkkkjdpamaaGreatSum
import Derived.Deep.RegionHeld3
import Derived.Deep.QuietTactic
import Derived.BigQuiet
namespace Go.Proofs.YtjbhbkkkjdpamaaGreat.MOk
open Go.ChangeShapes Go.WideShapes Go.ChangeAt Go.RowKit Go.Joins Go.Deep
open Go.Proofs.YtjbhbkkkjdpamaaGreat.Base Go.Proofs.YtjbhbkkkjdpamaaGreat.InsA Go.Proofs.YtjbhbkkkjdpamaaGreat.Funs Go.Proofs.YtjbhbkkkjdpamaaGreat.Open Go.Proofs.YtjbhbkkkjdpamaaGreat.Keep Go.Proofs.YtjbhbkkkjdpamaaGreat.Mach Go.Proofs.YtjbhbkkkjdpamaaGreat.KeepA Go.Proofs.YtjbhbkkkjdpamaaGreat.KeepD Go.Proofs.YtjbhbkkkjdpamaaGreat.Sum
set_option linter.unusedVariables false
set_option maxRecDepth 100000

/-- Whether a program has such a place. -/
def spotB (fs : List FunD) (f p : Int) : Bool := decide (0 ≤ f) && decide (f < fs.length) && decide (0 ≤ p) && decide (p < (fs.getD f.toNat default).body.length)
/-- Whether it is one of a program. -/
def machOkB (fs : List FunD) (f p c d : Int) (st : List SpotD) (os : List Int) : Bool :=
  keepOkB fs && spotB fs f p && (cut c == c) && decide (st.length ≤ 5) && decide (os.length ≤ 30) && decide (0 ≤ d) && decide (d ≤ 5) && st.all (fun s => spotB fs s.f s.p) && os.all (fun n => cut n == n)

set_option maxHeartbeats 2000000 in
theorem spotI_any (a : Option Addr) (cap : Nat) (fs : List FunD) (f p : Int) (w : World) (hcap : fs.length ≤ cap) (hcm : cap ≤ maxLen) (hR : FunRow w a fs) :
    Calls Tryz.prog 38 #[.slice a fs.length cap, .agg #[.int .i64 f, .int .i64 p]] w fun e w' => e = .returned (.bool (spotB fs f p)) ∧ Below w.heap.size w w' := by
  have HR := hide hR
  clear hR
  unfold maxLen at hcm
  have hn : (fs.length : Int) ≤ 9223372036854775807 := by omega
  have hB := below_alloc1 w (.cells #[.int .i64 f, .int .i64 p] 31)
  by_cases h0 : 0 ≤ f
  · by_cases h1 : f < (fs.length : Int)
    · by_cases h2 : 0 ≤ p
      · obtain ⟨k, rfl⟩ : ∃ k : Nat, f = (k : Int) := ⟨f.toNat, by omega⟩
        have hk : k < fs.length := by omega
        obtain ⟨b, off, rfl⟩ := (unhide HR).get (by omega)
        obtain ⟨ai, ci, _, _, c2, _, g1, g2, _⟩ := ((unhide HR).below hB).at hk
        unfold maxLen at g2
        have HE : Hid (spotB fs (k : Int) p = decide (p < (fs[k].body.length : Int))) := by
          show _ = _
          unfold spotB
          rw [decide_eq_true h0, decide_eq_true h1, decide_eq_true h2]
          simp [List.getD, List.getElem?_eq_getElem hk]
        generalize fs[k].body.length = m at *
        have hm : (m : Int) ≤ 9223372036854775807 := by omega
        by_cases h3 : p < (m : Int)
        · have HF : Hid (true = spotB fs (k : Int) p) := by show _ = _; rw [unhide HE, decide_eq_true h3]
          have d0 : decide ((0 : Int) ≤ (k : Int)) = true := decide_eq_true h0
          have d1 : decide ((k : Int) < (fs.length : Int)) = true := decide_eq_true h1
          have d2 : decide ((0 : Int) ≤ p) = true := decide_eq_true h2
          have d3 : decide (p < (m : Int)) = true := decide_eq_true h3
          go_enter Tryz.func38, Tryz.ntmps38
          go_wp2_with fail
          go_quiet (fail)
          go_wp2_with fail
          go_ret
          exact ⟨ret_bool (unhide HF), by first | exact hB | exact bl_drewN hB _ | exact hB.drew⟩
        · have HF : Hid (false = spotB fs (k : Int) p) := by show _ = _; rw [unhide HE, decide_eq_false h3]
          have d0 : decide ((0 : Int) ≤ (k : Int)) = true := decide_eq_true h0
          have d1 : decide ((k : Int) < (fs.length : Int)) = true := decide_eq_true h1
          have d2 : decide ((0 : Int) ≤ p) = true := decide_eq_true h2
          have d3 : decide (p < (m : Int)) = false := decide_eq_false h3
          go_enter Tryz.func38, Tryz.ntmps38
          go_wp2_with fail
          go_quiet (fail)
          go_wp2_with fail
          go_ret
          exact ⟨ret_bool (unhide HF), by first | exact hB | exact bl_drewN hB _ | exact hB.drew⟩
      · have HF : Hid (false = spotB fs f p) := by show _ = _; unfold spotB; rw [decide_eq_false h2]; simp
        have d0 : decide ((0 : Int) ≤ f) = true := decide_eq_true h0
        have d1 : decide (f < (fs.length : Int)) = true := decide_eq_true h1
        have d2 : decide ((0 : Int) ≤ p) = false := decide_eq_false h2
        go_enter Tryz.func38, Tryz.ntmps38
        go_wp2_with fail
        go_quiet (fail)
        go_wp2_with fail
        go_ret
        exact ⟨ret_bool (unhide HF), by first | exact hB | exact bl_drewN hB _ | exact hB.drew⟩
    · have HF : Hid (false = spotB fs f p) := by show _ = _; unfold spotB; rw [decide_eq_false h1]; simp
      have d0 : decide ((0 : Int) ≤ f) = true := decide_eq_true h0
      have d1 : decide (f < (fs.length : Int)) = false := decide_eq_false h1
      go_enter Tryz.func38, Tryz.ntmps38
      go_wp2_with fail
      go_quiet (fail)
      go_wp2_with fail
      go_ret
      exact ⟨ret_bool (unhide HF), by first | exact hB | exact bl_drewN hB _ | exact hB.drew⟩
  · have HF : Hid (false = spotB fs f p) := by show _ = _; unfold spotB; rw [decide_eq_false h0]; simp
    have d0 : decide ((0 : Int) ≤ f) = false := decide_eq_false h0
    go_enter Tryz.func38, Tryz.ntmps38
    go_wp2_with fail
    go_quiet (fail)
    go_wp2_with fail
    go_ret
    exact ⟨ret_bool (unhide HF), by first | exact hB | exact bl_drewN hB _ | exact hB.drew⟩

set_option maxHeartbeats 2000000 in
theorem spotS_any (a : Option Addr) (cap : Nat) (fs : List FunD) (f p : Int) (w : World) (hcap : fs.length ≤ cap) (hcm : cap ≤ maxLen) (hR : FunRow w a fs) :
    Calls Tryz.prog 87 #[.slice a fs.length cap, .agg #[.int .i64 f, .int .i64 p]] w fun e w' => e = .returned (.bool (spotB fs f p)) ∧ Below w.heap.size w w' := by
  have HR := hide hR
  clear hR
  unfold maxLen at hcm
  have hn : (fs.length : Int) ≤ 9223372036854775807 := by omega
  have hB := below_alloc1 w (.cells #[.int .i64 f, .int .i64 p] 31)
  by_cases h0 : 0 ≤ f
  · by_cases h1 : f < (fs.length : Int)
    · by_cases h2 : 0 ≤ p
      · obtain ⟨k, rfl⟩ : ∃ k : Nat, f = (k : Int) := ⟨f.toNat, by omega⟩
        have hk : k < fs.length := by omega
        obtain ⟨b, off, rfl⟩ := (unhide HR).get (by omega)
        obtain ⟨ai, ci, _, _, c2, _, g1, g2, _⟩ := ((unhide HR).below hB).at hk
        unfold maxLen at g2
        have HE : Hid (spotB fs (k : Int) p = decide (p < (fs[k].body.length : Int))) := by
          show _ = _
          unfold spotB
          rw [decide_eq_true h0, decide_eq_true h1, decide_eq_true h2]
          simp [List.getD, List.getElem?_eq_getElem hk]
        generalize fs[k].body.length = m at *
        have hm : (m : Int) ≤ 9223372036854775807 := by omega
        by_cases h3 : p < (m : Int)
        · have HF : Hid (true = spotB fs (k : Int) p) := by show _ = _; rw [unhide HE, decide_eq_true h3]
          have d0 : decide ((0 : Int) ≤ (k : Int)) = true := decide_eq_true h0
          have d1 : decide ((k : Int) < (fs.length : Int)) = true := decide_eq_true h1
          have d2 : decide ((0 : Int) ≤ p) = true := decide_eq_true h2
          have d3 : decide (p < (m : Int)) = true := decide_eq_true h3
          go_enter Tryz.func87, Tryz.ntmps87
          go_wp2_with fail
          go_quiet (fail)
          go_wp2_with fail
          go_ret
          exact ⟨ret_bool (unhide HF), by first | exact hB | exact bl_drewN hB _ | exact hB.drew⟩
        · have HF : Hid (false = spotB fs (k : Int) p) := by show _ = _; rw [unhide HE, decide_eq_false h3]
          have d0 : decide ((0 : Int) ≤ (k : Int)) = true := decide_eq_true h0
          have d1 : decide ((k : Int) < (fs.length : Int)) = true := decide_eq_true h1
          have d2 : decide ((0 : Int) ≤ p) = true := decide_eq_true h2
          have d3 : decide (p < (m : Int)) = false := decide_eq_false h3
          go_enter Tryz.func87, Tryz.ntmps87
          go_wp2_with fail
          go_quiet (fail)
          go_wp2_with fail
          go_ret
          exact ⟨ret_bool (unhide HF), by first | exact hB | exact bl_drewN hB _ | exact hB.drew⟩
      · have HF : Hid (false = spotB fs f p) := by show _ = _; unfold spotB; rw [decide_eq_false h2]; simp
        have d0 : decide ((0 : Int) ≤ f) = true := decide_eq_true h0
        have d1 : decide (f < (fs.length : Int)) = true := decide_eq_true h1
        have d2 : decide ((0 : Int) ≤ p) = false := decide_eq_false h2
        go_enter Tryz.func87, Tryz.ntmps87
        go_wp2_with fail
        go_quiet (fail)
        go_wp2_with fail
        go_ret
        exact ⟨ret_bool (unhide HF), by first | exact hB | exact bl_drewN hB _ | exact hB.drew⟩
    · have HF : Hid (false = spotB fs f p) := by show _ = _; unfold spotB; rw [decide_eq_false h1]; simp
      have d0 : decide ((0 : Int) ≤ f) = true := decide_eq_true h0
      have d1 : decide (f < (fs.length : Int)) = false := decide_eq_false h1
      go_enter Tryz.func87, Tryz.ntmps87
      go_wp2_with fail
      go_quiet (fail)
      go_wp2_with fail
      go_ret
      exact ⟨ret_bool (unhide HF), by first | exact hB | exact bl_drewN hB _ | exact hB.drew⟩
  · have HF : Hid (false = spotB fs f p) := by show _ = _; unfold spotB; rw [decide_eq_false h0]; simp
    have d0 : decide ((0 : Int) ≤ f) = false := decide_eq_false h0
    go_enter Tryz.func87, Tryz.ntmps87
    go_wp2_with fail
    go_quiet (fail)
    go_wp2_with fail
    go_ret
    exact ⟨ret_bool (unhide HF), by first | exact hB | exact bl_drewN hB _ | exact hB.drew⟩
end Go.Proofs.YtjbhbkkkjdpamaaGreat.MOk
