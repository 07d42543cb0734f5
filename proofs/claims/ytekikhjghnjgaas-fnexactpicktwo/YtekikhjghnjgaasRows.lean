/-
  No cell of these rows narrows 'for every input' (looked for: loops, veiled, ifaces, maps, wideKeys, modest, calm, conditions, laid).
  DERIVED. THE GIVEN ROWS OF THIS SEAT. 4 by the template 'for every input the law returns true; each argument reads behind the call as it read before'; 0 by the template 'total and deterministic' (their statements: YtekikhjghnjgaasTotals.lean).
  GIVEN WITH THE SEED: the statements are not yours to turn. If you find one false, say at which input.
  Laid BY PROGRAM, IN A SANDBOX (cutbox-rows.mjs): the forced cells as the released guide's own fill.sh prints them over the translation 16ec40aa7bbf1ae0… (all of the seat's roots in one cut). By AI agents, Wed Nov 11 2026. No macro, syntax, notation, axiom, sorry.
-/
import Derived.Test.YtekikhjghnjgaasChecked
import GoSem.Claim
import GoSem.ClaimJoined
import GoSem.ClaimMapViews
import Derived.JoinedTies
import Derived.KernelRfl
namespace Go.Proofs.Ytekikhjghnjgaas
/- THE CELL 'sum', in the pinned program and in every row, IS THE sha256 OF THE DUMP (.gsa) THAT YtekikhjghnjgaasProg.lean LOADS. Nothing in Lean hashes anything: it is a label: what it is worth is what the hold of that sum in a sandbox is worth. -/
noncomputable def Try.pinned : Pinned := { name := "ytekikhjghnjgaas", sum := "16ec40aa7bbf1ae071356b52075911ba1f907479e027ea820a50b36dfdaa26e3", checked := Try.checked }
namespace Rows
def none {H : Type} : Left H := { results := [], args := [] }

/-- 'laws.FnExactUnitFind': WHATEVER THE INPUT: true; the input reads as it did. -/
def fnExactUnitFindSpec : ChangeSpec := { name := "fnExactUnitFind", fn := fun _ => fun
  | [d1, d2] => { results := [.lit (.bool true)], args := [d1, d2] }
  | _ => none }
def fnExactUnitFindRow : OpenClaim := { program := "ytekikhjghnjgaas", sum := "16ec40aa7bbf1ae071356b52075911ba1f907479e027ea820a50b36dfdaa26e3", func := "loop.example/stepstone/laws.FnExactUnitFind", spec := "fnExactUnitFind", apart := false }
def FnExactUnitFindSaid : Prop := fnExactUnitFindRow.holds Try.pinned (OpenSpec.ofChange fnExactUnitFindSpec)

/-- ITS FALSE NEIGHBOUR: 'it returns false'. Refute it at one input. -/
def fnExactUnitFindWrong : ChangeSpec := { name := "fnExactUnitFind", fn := fun _ => fun
  | [d1, d2] => { results := [.lit (.bool false)], args := [d1, d2] }
  | _ => none }
def FnExactUnitFindWrongFalsely : Prop := fnExactUnitFindRow.holds Try.pinned (OpenSpec.ofChange fnExactUnitFindWrong)

/-- 'laws.FnExactUnitWants': WHATEVER THE INPUT: true; the input reads as it did. -/
def fnExactUnitWantsSpec : ChangeSpec := { name := "fnExactUnitWants", fn := fun _ => fun
  | [d] => { results := [.lit (.bool true)], args := [d] }
  | _ => none }
def fnExactUnitWantsRow : OpenClaim := { program := "ytekikhjghnjgaas", sum := "16ec40aa7bbf1ae071356b52075911ba1f907479e027ea820a50b36dfdaa26e3", func := "loop.example/stepstone/laws.FnExactUnitWants", spec := "fnExactUnitWants", unfollowed := true, recurses := true, apart := false }
def FnExactUnitWantsSaid : Prop := fnExactUnitWantsRow.holds Try.pinned (OpenSpec.ofChange fnExactUnitWantsSpec)

/-- ITS FALSE NEIGHBOUR: 'it returns false'. Refute it at one input. -/
def fnExactUnitWantsWrong : ChangeSpec := { name := "fnExactUnitWants", fn := fun _ => fun
  | [d] => { results := [.lit (.bool false)], args := [d] }
  | _ => none }
def FnExactUnitWantsWrongFalsely : Prop := fnExactUnitWantsRow.holds Try.pinned (OpenSpec.ofChange fnExactUnitWantsWrong)

/-- 'laws.FnExactPickAt': WHATEVER THE INPUT: true; the input reads as it did. -/
def fnExactPickAtSpec : ChangeSpec := { name := "fnExactPickAt", fn := fun _ => fun
  | [d1, d2] => { results := [.lit (.bool true)], args := [d1, d2] }
  | _ => none }
def fnExactPickAtRow : OpenClaim := { program := "ytekikhjghnjgaas", sum := "16ec40aa7bbf1ae071356b52075911ba1f907479e027ea820a50b36dfdaa26e3", func := "loop.example/stepstone/laws.FnExactPickAt", spec := "fnExactPickAt", apart := false }
def FnExactPickAtSaid : Prop := fnExactPickAtRow.holds Try.pinned (OpenSpec.ofChange fnExactPickAtSpec)

/-- ITS FALSE NEIGHBOUR: 'it returns false'. Refute it at one input. -/
def fnExactPickAtWrong : ChangeSpec := { name := "fnExactPickAt", fn := fun _ => fun
  | [d1, d2] => { results := [.lit (.bool false)], args := [d1, d2] }
  | _ => none }
def FnExactPickAtWrongFalsely : Prop := fnExactPickAtRow.holds Try.pinned (OpenSpec.ofChange fnExactPickAtWrong)

/-- 'laws.FnExactPickTwo': WHATEVER THE INPUT: true; the input reads as it did. -/
def fnExactPickTwoSpec : ChangeSpec := { name := "fnExactPickTwo", fn := fun _ => fun
  | [d] => { results := [.lit (.bool true)], args := [d] }
  | _ => none }
def fnExactPickTwoRow : OpenClaim := { program := "ytekikhjghnjgaas", sum := "16ec40aa7bbf1ae071356b52075911ba1f907479e027ea820a50b36dfdaa26e3", func := "loop.example/stepstone/laws.FnExactPickTwo", spec := "fnExactPickTwo", apart := false }
def FnExactPickTwoSaid : Prop := fnExactPickTwoRow.holds Try.pinned (OpenSpec.ofChange fnExactPickTwoSpec)

/-- ITS FALSE NEIGHBOUR: 'it returns false'. Refute it at one input. -/
def fnExactPickTwoWrong : ChangeSpec := { name := "fnExactPickTwo", fn := fun _ => fun
  | [d] => { results := [.lit (.bool false)], args := [d] }
  | _ => none }
def FnExactPickTwoWrongFalsely : Prop := fnExactPickTwoRow.holds Try.pinned (OpenSpec.ofChange fnExactPickTwoWrong)

/- THE SECOND FORM. 'bulk': how many values and letters a reading holds, each counted each time it is reached (what is shared counts as often as it is met; a slice's spare places count too). A statement '..UptoSaid' is the law's where the arguments, and the package variables that the reading takes, are together of bulk at most 1048576: NARROWER than '..Said'. Prove '..Said' where nothing that the law and all that it calls make is longer than what came in: it says more and counts as full. Else prove '..UptoSaid'. A law counts once. -/
mutual
def uptoBulk {H : Type} : DataW H → Nat
  | .lit (.string bytes) => bytes.length + 1
  | .lit _ => 1
  | .nil => 1
  | .ptr d => uptoBulk d + 1
  | .slice elems spare => uptoBulkAll elems + uptoBulkAll spare + 1
  | .agg parts => uptoBulkAll parts + 1
  | .iface _ d => uptoBulk d + 1
  | .map entries => uptoBulkEntries entries + 1
  | .held _ => 1
def uptoBulkAll {H : Type} : List (DataW H) → Nat
  | [] => 0
  | d :: r => uptoBulk d + uptoBulkAll r
def uptoBulkEntries {H : Type} : List (Lit × DataW H) → Nat
  | [] => 0
  | x :: r => uptoBulkEntry x + uptoBulkEntries r
def uptoBulkEntry {H : Type} : Lit × DataW H → Nat
  | (.string bytes, d) => bytes.length + uptoBulk d + 1
  | (_, d) => uptoBulk d + 1
 end
def uptoSmall : (H : Type) → List (DataW H) → Bool := fun _ ds => decide (uptoBulkAll ds ≤ 1048576)
def OpenSpec.upto (s : _root_.Go.ChangeSpec) : _root_.Go.OpenSpec := { _root_.Go.OpenSpec.ofChange s with cond := some uptoSmall }

/-- 'laws.FnExactUnitFind', WHERE WHAT IT READS IS OF BULK AT MOST 1048576: true; the input reads as it did. -/
def fnExactUnitFindUptoRow : OpenClaim := { program := "ytekikhjghnjgaas", sum := "16ec40aa7bbf1ae071356b52075911ba1f907479e027ea820a50b36dfdaa26e3", func := "loop.example/stepstone/laws.FnExactUnitFind", spec := "fnExactUnitFind", apart := false, narrowed := true }
def FnExactUnitFindUptoSaid : Prop := fnExactUnitFindUptoRow.holds Try.pinned (OpenSpec.upto fnExactUnitFindSpec)

/-- 'laws.FnExactUnitWants', WHERE WHAT IT READS IS OF BULK AT MOST 1048576: true; the input reads as it did. -/
def fnExactUnitWantsUptoRow : OpenClaim := { program := "ytekikhjghnjgaas", sum := "16ec40aa7bbf1ae071356b52075911ba1f907479e027ea820a50b36dfdaa26e3", func := "loop.example/stepstone/laws.FnExactUnitWants", spec := "fnExactUnitWants", unfollowed := true, recurses := true, apart := false, narrowed := true }
def FnExactUnitWantsUptoSaid : Prop := fnExactUnitWantsUptoRow.holds Try.pinned (OpenSpec.upto fnExactUnitWantsSpec)

/-- 'laws.FnExactPickAt', WHERE WHAT IT READS IS OF BULK AT MOST 1048576: true; the input reads as it did. -/
def fnExactPickAtUptoRow : OpenClaim := { program := "ytekikhjghnjgaas", sum := "16ec40aa7bbf1ae071356b52075911ba1f907479e027ea820a50b36dfdaa26e3", func := "loop.example/stepstone/laws.FnExactPickAt", spec := "fnExactPickAt", apart := false, narrowed := true }
def FnExactPickAtUptoSaid : Prop := fnExactPickAtUptoRow.holds Try.pinned (OpenSpec.upto fnExactPickAtSpec)

/-- 'laws.FnExactPickTwo', WHERE WHAT IT READS IS OF BULK AT MOST 1048576: true; the input reads as it did. -/
def fnExactPickTwoUptoRow : OpenClaim := { program := "ytekikhjghnjgaas", sum := "16ec40aa7bbf1ae071356b52075911ba1f907479e027ea820a50b36dfdaa26e3", func := "loop.example/stepstone/laws.FnExactPickTwo", spec := "fnExactPickTwo", apart := false, narrowed := true }
def FnExactPickTwoUptoSaid : Prop := fnExactPickTwoUptoRow.holds Try.pinned (OpenSpec.upto fnExactPickTwoSpec)

end Rows
end Go.Proofs.Ytekikhjghnjgaas
