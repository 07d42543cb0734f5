/-
  No cell of these rows narrows 'for every input' (looked for: loops, veiled, ifaces, maps, wideKeys, modest, calm, conditions, laid).
  DERIVED. THE GIVEN ROWS OF THIS SEAT. 3 by the template 'for every input the law returns true; each argument reads behind the call as it read before'; 0 by the template 'total and deterministic' (their statements: YtfpajoloeninmadTotals.lean).
  GIVEN WITH THE SEED: the statements are not yours to turn. If you find one false, say at which input.
  Laid BY PROGRAM, IN A SANDBOX (cutbox-rows.mjs): the forced cells as the released guide's own fill.sh prints them over the translation 8e278db849b4c281… (all of the seat's roots in one cut). By AI agents, Wed Nov 11 2026. No macro, syntax, notation, axiom, sorry.
-/
import Derived.Test.YtfpajoloeninmadChecked
import GoSem.Claim
import GoSem.ClaimJoined
import GoSem.ClaimMapViews
import Derived.JoinedTies
import Derived.KernelRfl
namespace Go.Proofs.Ytfpajoloeninmad
/- THE CELL 'sum', in the pinned program and in every row, IS THE sha256 OF THE DUMP (.gsa) THAT YtfpajoloeninmadProg.lean LOADS. Nothing in Lean hashes anything: it is a label: what it is worth is what the hold of that sum in a sandbox is worth. -/
noncomputable def Try.pinned : Pinned := { name := "ytfpajoloeninmad", sum := "8e278db849b4c2816bf83cbdc4110ee7731f16890650b85657efab4bee5db6c2", checked := Try.checked }
namespace Rows
def none {H : Type} : Left H := { results := [], args := [] }

/-- 'laws.FnKeepAll': WHATEVER THE INPUT: true; the input reads as it did. -/
def fnKeepAllSpec : ChangeSpec := { name := "fnKeepAll", fn := fun _ => fun
  | [d] => { results := [.lit (.bool true)], args := [d] }
  | _ => none }
def fnKeepAllRow : OpenClaim := { program := "ytfpajoloeninmad", sum := "8e278db849b4c2816bf83cbdc4110ee7731f16890650b85657efab4bee5db6c2", func := "loop.example/stepstone/laws.FnKeepAll", spec := "fnKeepAll", unfollowed := true, recurses := true, apart := false }
def FnKeepAllSaid : Prop := fnKeepAllRow.holds Try.pinned (OpenSpec.ofChange fnKeepAllSpec)

/-- ITS FALSE NEIGHBOUR: 'it returns false'. Refute it at one input. -/
def fnKeepAllWrong : ChangeSpec := { name := "fnKeepAll", fn := fun _ => fun
  | [d] => { results := [.lit (.bool false)], args := [d] }
  | _ => none }
def FnKeepAllWrongFalsely : Prop := fnKeepAllRow.holds Try.pinned (OpenSpec.ofChange fnKeepAllWrong)

/-- 'laws.FnKeepOnly': WHATEVER THE INPUT: true; the input reads as it did. -/
def fnKeepOnlySpec : ChangeSpec := { name := "fnKeepOnly", fn := fun _ => fun
  | [d] => { results := [.lit (.bool true)], args := [d] }
  | _ => none }
def fnKeepOnlyRow : OpenClaim := { program := "ytfpajoloeninmad", sum := "8e278db849b4c2816bf83cbdc4110ee7731f16890650b85657efab4bee5db6c2", func := "loop.example/stepstone/laws.FnKeepOnly", spec := "fnKeepOnly", unfollowed := true, recurses := true, apart := false }
def FnKeepOnlySaid : Prop := fnKeepOnlyRow.holds Try.pinned (OpenSpec.ofChange fnKeepOnlySpec)

/-- ITS FALSE NEIGHBOUR: 'it returns false'. Refute it at one input. -/
def fnKeepOnlyWrong : ChangeSpec := { name := "fnKeepOnly", fn := fun _ => fun
  | [d] => { results := [.lit (.bool false)], args := [d] }
  | _ => none }
def FnKeepOnlyWrongFalsely : Prop := fnKeepOnlyRow.holds Try.pinned (OpenSpec.ofChange fnKeepOnlyWrong)

/-- 'laws.FnKeepReach': WHATEVER THE INPUT: true; the input reads as it did. -/
def fnKeepReachSpec : ChangeSpec := { name := "fnKeepReach", fn := fun _ => fun
  | [d] => { results := [.lit (.bool true)], args := [d] }
  | _ => none }
def fnKeepReachRow : OpenClaim := { program := "ytfpajoloeninmad", sum := "8e278db849b4c2816bf83cbdc4110ee7731f16890650b85657efab4bee5db6c2", func := "loop.example/stepstone/laws.FnKeepReach", spec := "fnKeepReach", unfollowed := true, recurses := true, apart := false }
def FnKeepReachSaid : Prop := fnKeepReachRow.holds Try.pinned (OpenSpec.ofChange fnKeepReachSpec)

/-- ITS FALSE NEIGHBOUR: 'it returns false'. Refute it at one input. -/
def fnKeepReachWrong : ChangeSpec := { name := "fnKeepReach", fn := fun _ => fun
  | [d] => { results := [.lit (.bool false)], args := [d] }
  | _ => none }
def FnKeepReachWrongFalsely : Prop := fnKeepReachRow.holds Try.pinned (OpenSpec.ofChange fnKeepReachWrong)

/- THE SECOND FORM. 'bulk': how many values and letters a reading holds, each counted each time it is reached (what is shared counts as often as it is met; a slice's spare places count too). A statement '..UptoSaid' is the law's where the arguments, and the package variables that the reading takes, are together of bulk at most 1048576: NARROWER than '..Said'. Prove '..Said' where nothing that the law and all that it calls make is longer than what came in: it says more and counts as full. Else prove '..UptoSaid'. A law counts once. -/
mutual
def uptoBulk {H : Type} : DataW H → Nat
  | .lit (.string bytes) => bytes.length + 1
  | .lit _ => 1
  | .nil => 1
  | .ptr d => uptoBulk d + 1
  | .slice elems spare => uptoBulkAll elems + uptoBulkAll spare + 1
  | .agg parts => uptoBulkAll parts + 1
  | .iface _ d => uptoBulk d + 1
  | .map entries => uptoBulkEntries entries + 1
  | .held _ => 1
def uptoBulkAll {H : Type} : List (DataW H) → Nat
  | [] => 0
  | d :: r => uptoBulk d + uptoBulkAll r
def uptoBulkEntries {H : Type} : List (Lit × DataW H) → Nat
  | [] => 0
  | x :: r => uptoBulkEntry x + uptoBulkEntries r
def uptoBulkEntry {H : Type} : Lit × DataW H → Nat
  | (.string bytes, d) => bytes.length + uptoBulk d + 1
  | (_, d) => uptoBulk d + 1
 end
def uptoSmall : (H : Type) → List (DataW H) → Bool := fun _ ds => decide (uptoBulkAll ds ≤ 1048576)
def OpenSpec.upto (s : _root_.Go.ChangeSpec) : _root_.Go.OpenSpec := { _root_.Go.OpenSpec.ofChange s with cond := some uptoSmall }

/-- 'laws.FnKeepAll', WHERE WHAT IT READS IS OF BULK AT MOST 1048576: true; the input reads as it did. -/
def fnKeepAllUptoRow : OpenClaim := { program := "ytfpajoloeninmad", sum := "8e278db849b4c2816bf83cbdc4110ee7731f16890650b85657efab4bee5db6c2", func := "loop.example/stepstone/laws.FnKeepAll", spec := "fnKeepAll", unfollowed := true, recurses := true, apart := false, narrowed := true }
def FnKeepAllUptoSaid : Prop := fnKeepAllUptoRow.holds Try.pinned (OpenSpec.upto fnKeepAllSpec)

/-- 'laws.FnKeepOnly', WHERE WHAT IT READS IS OF BULK AT MOST 1048576: true; the input reads as it did. -/
def fnKeepOnlyUptoRow : OpenClaim := { program := "ytfpajoloeninmad", sum := "8e278db849b4c2816bf83cbdc4110ee7731f16890650b85657efab4bee5db6c2", func := "loop.example/stepstone/laws.FnKeepOnly", spec := "fnKeepOnly", unfollowed := true, recurses := true, apart := false, narrowed := true }
def FnKeepOnlyUptoSaid : Prop := fnKeepOnlyUptoRow.holds Try.pinned (OpenSpec.upto fnKeepOnlySpec)

/-- 'laws.FnKeepReach', WHERE WHAT IT READS IS OF BULK AT MOST 1048576: true; the input reads as it did. -/
def fnKeepReachUptoRow : OpenClaim := { program := "ytfpajoloeninmad", sum := "8e278db849b4c2816bf83cbdc4110ee7731f16890650b85657efab4bee5db6c2", func := "loop.example/stepstone/laws.FnKeepReach", spec := "fnKeepReach", unfollowed := true, recurses := true, apart := false, narrowed := true }
def FnKeepReachUptoSaid : Prop := fnKeepReachUptoRow.holds Try.pinned (OpenSpec.upto fnKeepReachSpec)

end Rows
end Go.Proofs.Ytfpajoloeninmad
