/-
  No cell of these rows narrows 'for every input' (looked for: loops, veiled, ifaces, maps, wideKeys, modest, calm, conditions, laid).
  DERIVED. THE GIVEN ROWS OF THIS SEAT. 4 by the template 'for every input the law returns true; each argument reads behind the call as it read before'; 0 by the template 'total and deterministic' (their statements: YtekikhjghnjgaacTotals.lean).
  GIVEN WITH THE SEED: the statements are not yours to turn. If you find one false, say at which input.
  Laid BY PROGRAM, IN A SANDBOX (cutbox-rows.mjs): the forced cells as the released guide's own fill.sh prints them over the translation 18186fc0e158c232… (all of the seat's roots in one cut). By AI agents, Wed Nov 11 2026. No macro, syntax, notation, axiom, sorry.
-/
import Derived.Test.YtekikhjghnjgaacChecked
import GoSem.Claim
import GoSem.ClaimJoined
import GoSem.ClaimMapViews
import Derived.JoinedTies
import Derived.KernelRfl
namespace Go.Proofs.Ytekikhjghnjgaac
/- THE CELL 'sum', in the pinned program and in every row, IS THE sha256 OF THE DUMP (.gsa) THAT YtekikhjghnjgaacProg.lean LOADS. Nothing in Lean hashes anything: it is a label: what it is worth is what the hold of that sum in a sandbox is worth. -/
noncomputable def Try.pinned : Pinned := { name := "ytekikhjghnjgaac", sum := "18186fc0e158c2329cbd7d3514ee0587a0291dd14eef77fed10542550fde3de5", checked := Try.checked }
namespace Rows
def none {H : Type} : Left H := { results := [], args := [] }

/-- 'laws.FnPickAt': WHATEVER THE INPUT: true; the input reads as it did. -/
def fnPickAtSpec : ChangeSpec := { name := "fnPickAt", fn := fun _ => fun
  | [d] => { results := [.lit (.bool true)], args := [d] }
  | _ => none }
def fnPickAtRow : OpenClaim := { program := "ytekikhjghnjgaac", sum := "18186fc0e158c2329cbd7d3514ee0587a0291dd14eef77fed10542550fde3de5", func := "loop.example/stepstone/laws.FnPickAt", spec := "fnPickAt", apart := false }
def FnPickAtSaid : Prop := fnPickAtRow.holds Try.pinned (OpenSpec.ofChange fnPickAtSpec)

/-- ITS FALSE NEIGHBOUR: 'it returns false'. Refute it at one input. -/
def fnPickAtWrong : ChangeSpec := { name := "fnPickAt", fn := fun _ => fun
  | [d] => { results := [.lit (.bool false)], args := [d] }
  | _ => none }
def FnPickAtWrongFalsely : Prop := fnPickAtRow.holds Try.pinned (OpenSpec.ofChange fnPickAtWrong)

/-- 'laws.FnPickTwo': WHATEVER THE INPUT: true; the input reads as it did. -/
def fnPickTwoSpec : ChangeSpec := { name := "fnPickTwo", fn := fun _ => fun
  | [d] => { results := [.lit (.bool true)], args := [d] }
  | _ => none }
def fnPickTwoRow : OpenClaim := { program := "ytekikhjghnjgaac", sum := "18186fc0e158c2329cbd7d3514ee0587a0291dd14eef77fed10542550fde3de5", func := "loop.example/stepstone/laws.FnPickTwo", spec := "fnPickTwo", apart := false }
def FnPickTwoSaid : Prop := fnPickTwoRow.holds Try.pinned (OpenSpec.ofChange fnPickTwoSpec)

/-- ITS FALSE NEIGHBOUR: 'it returns false'. Refute it at one input. -/
def fnPickTwoWrong : ChangeSpec := { name := "fnPickTwo", fn := fun _ => fun
  | [d] => { results := [.lit (.bool false)], args := [d] }
  | _ => none }
def FnPickTwoWrongFalsely : Prop := fnPickTwoRow.holds Try.pinned (OpenSpec.ofChange fnPickTwoWrong)

/-- 'laws.FnPickWants': WHATEVER THE INPUT: true; the input reads as it did. -/
def fnPickWantsSpec : ChangeSpec := { name := "fnPickWants", fn := fun _ => fun
  | [d] => { results := [.lit (.bool true)], args := [d] }
  | _ => none }
def fnPickWantsRow : OpenClaim := { program := "ytekikhjghnjgaac", sum := "18186fc0e158c2329cbd7d3514ee0587a0291dd14eef77fed10542550fde3de5", func := "loop.example/stepstone/laws.FnPickWants", spec := "fnPickWants", unfollowed := true, recurses := true, apart := false }
def FnPickWantsSaid : Prop := fnPickWantsRow.holds Try.pinned (OpenSpec.ofChange fnPickWantsSpec)

/-- ITS FALSE NEIGHBOUR: 'it returns false'. Refute it at one input. -/
def fnPickWantsWrong : ChangeSpec := { name := "fnPickWants", fn := fun _ => fun
  | [d] => { results := [.lit (.bool false)], args := [d] }
  | _ => none }
def FnPickWantsWrongFalsely : Prop := fnPickWantsRow.holds Try.pinned (OpenSpec.ofChange fnPickWantsWrong)

/-- 'laws.FnPickStrong': WHATEVER THE INPUT: true; the input reads as it did. -/
def fnPickStrongSpec : ChangeSpec := { name := "fnPickStrong", fn := fun _ => fun
  | [d] => { results := [.lit (.bool true)], args := [d] }
  | _ => none }
def fnPickStrongRow : OpenClaim := { program := "ytekikhjghnjgaac", sum := "18186fc0e158c2329cbd7d3514ee0587a0291dd14eef77fed10542550fde3de5", func := "loop.example/stepstone/laws.FnPickStrong", spec := "fnPickStrong", apart := false }
def FnPickStrongSaid : Prop := fnPickStrongRow.holds Try.pinned (OpenSpec.ofChange fnPickStrongSpec)

/-- ITS FALSE NEIGHBOUR: 'it returns false'. Refute it at one input. -/
def fnPickStrongWrong : ChangeSpec := { name := "fnPickStrong", fn := fun _ => fun
  | [d] => { results := [.lit (.bool false)], args := [d] }
  | _ => none }
def FnPickStrongWrongFalsely : Prop := fnPickStrongRow.holds Try.pinned (OpenSpec.ofChange fnPickStrongWrong)

/- THE SECOND FORM. 'bulk': how many values and letters a reading holds, each counted each time it is reached (what is shared counts as often as it is met; a slice's spare places count too). A statement '..UptoSaid' is the law's where the arguments, and the package variables that the reading takes, are together of bulk at most 1048576: NARROWER than '..Said'. Prove '..Said' where nothing that the law and all that it calls make is longer than what came in: it says more and counts as full. Else prove '..UptoSaid'. A law counts once. -/
mutual
def uptoBulk {H : Type} : DataW H → Nat
  | .lit (.string bytes) => bytes.length + 1
  | .lit _ => 1
  | .nil => 1
  | .ptr d => uptoBulk d + 1
  | .slice elems spare => uptoBulkAll elems + uptoBulkAll spare + 1
  | .agg parts => uptoBulkAll parts + 1
  | .iface _ d => uptoBulk d + 1
  | .map entries => uptoBulkEntries entries + 1
  | .held _ => 1
def uptoBulkAll {H : Type} : List (DataW H) → Nat
  | [] => 0
  | d :: r => uptoBulk d + uptoBulkAll r
def uptoBulkEntries {H : Type} : List (Lit × DataW H) → Nat
  | [] => 0
  | x :: r => uptoBulkEntry x + uptoBulkEntries r
def uptoBulkEntry {H : Type} : Lit × DataW H → Nat
  | (.string bytes, d) => bytes.length + uptoBulk d + 1
  | (_, d) => uptoBulk d + 1
 end
def uptoSmall : (H : Type) → List (DataW H) → Bool := fun _ ds => decide (uptoBulkAll ds ≤ 1048576)
def OpenSpec.upto (s : _root_.Go.ChangeSpec) : _root_.Go.OpenSpec := { _root_.Go.OpenSpec.ofChange s with cond := some uptoSmall }

/-- 'laws.FnPickAt', WHERE WHAT IT READS IS OF BULK AT MOST 1048576: true; the input reads as it did. -/
def fnPickAtUptoRow : OpenClaim := { program := "ytekikhjghnjgaac", sum := "18186fc0e158c2329cbd7d3514ee0587a0291dd14eef77fed10542550fde3de5", func := "loop.example/stepstone/laws.FnPickAt", spec := "fnPickAt", apart := false, narrowed := true }
def FnPickAtUptoSaid : Prop := fnPickAtUptoRow.holds Try.pinned (OpenSpec.upto fnPickAtSpec)

/-- 'laws.FnPickTwo', WHERE WHAT IT READS IS OF BULK AT MOST 1048576: true; the input reads as it did. -/
def fnPickTwoUptoRow : OpenClaim := { program := "ytekikhjghnjgaac", sum := "18186fc0e158c2329cbd7d3514ee0587a0291dd14eef77fed10542550fde3de5", func := "loop.example/stepstone/laws.FnPickTwo", spec := "fnPickTwo", apart := false, narrowed := true }
def FnPickTwoUptoSaid : Prop := fnPickTwoUptoRow.holds Try.pinned (OpenSpec.upto fnPickTwoSpec)

/-- 'laws.FnPickWants', WHERE WHAT IT READS IS OF BULK AT MOST 1048576: true; the input reads as it did. -/
def fnPickWantsUptoRow : OpenClaim := { program := "ytekikhjghnjgaac", sum := "18186fc0e158c2329cbd7d3514ee0587a0291dd14eef77fed10542550fde3de5", func := "loop.example/stepstone/laws.FnPickWants", spec := "fnPickWants", unfollowed := true, recurses := true, apart := false, narrowed := true }
def FnPickWantsUptoSaid : Prop := fnPickWantsUptoRow.holds Try.pinned (OpenSpec.upto fnPickWantsSpec)

/-- 'laws.FnPickStrong', WHERE WHAT IT READS IS OF BULK AT MOST 1048576: true; the input reads as it did. -/
def fnPickStrongUptoRow : OpenClaim := { program := "ytekikhjghnjgaac", sum := "18186fc0e158c2329cbd7d3514ee0587a0291dd14eef77fed10542550fde3de5", func := "loop.example/stepstone/laws.FnPickStrong", spec := "fnPickStrong", apart := false, narrowed := true }
def FnPickStrongUptoSaid : Prop := fnPickStrongUptoRow.holds Try.pinned (OpenSpec.upto fnPickStrongSpec)

end Rows
end Go.Proofs.Ytekikhjghnjgaac
