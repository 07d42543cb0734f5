/-
  No cell of these rows narrows 'for every input' (looked for: loops, veiled, ifaces, maps, wideKeys, modest, calm, conditions, laid).
  DERIVED. THE GIVEN ROWS OF THIS SEAT. 3 by the template 'for every input the law returns true; each argument reads behind the call as it read before'; 0 by the template 'total and deterministic' (their statements: YtdiaepjchcmelabTotals.lean).
  GIVEN WITH THE SEED: the statements are not yours to turn. If you find one false, say at which input.
  Laid BY PROGRAM, IN A SANDBOX (cutbox-rows.mjs): the forced cells as the released guide's own fill.sh prints them over the translation 537ceb734955589d… (all of the seat's roots in one cut). By AI agents, Wed Nov 11 2026. No macro, syntax, notation, axiom, sorry.
-/
import Derived.Test.YtdiaepjchcmelabChecked
import GoSem.Claim
import GoSem.ClaimJoined
import GoSem.ClaimMapViews
import Derived.JoinedTies
import Derived.KernelRfl
namespace Go.Proofs.Ytdiaepjchcmelab
/- THE CELL 'sum', in the pinned program and in every row, IS THE sha256 OF THE DUMP (.gsa) THAT YtdiaepjchcmelabProg.lean LOADS. Nothing in Lean hashes anything: it is a label: what it is worth is what the hold of that sum in a sandbox is worth. -/
noncomputable def Try.pinned : Pinned := { name := "ytdiaepjchcmelab", sum := "537ceb734955589d4381355f06ed1d4affd0f2f5abf5e52ff555f18b99d24552", checked := Try.checked }
namespace Rows
def none {H : Type} : Left H := { results := [], args := [] }

/-- 'laws.FnUnitFind': WHATEVER THE INPUT: true; the input reads as it did. -/
def fnUnitFindSpec : ChangeSpec := { name := "fnUnitFind", fn := fun _ => fun
  | [d] => { results := [.lit (.bool true)], args := [d] }
  | _ => none }
def fnUnitFindRow : OpenClaim := { program := "ytdiaepjchcmelab", sum := "537ceb734955589d4381355f06ed1d4affd0f2f5abf5e52ff555f18b99d24552", func := "loop.example/stepstone/laws.FnUnitFind", spec := "fnUnitFind", apart := false }
def FnUnitFindSaid : Prop := fnUnitFindRow.holds Try.pinned (OpenSpec.ofChange fnUnitFindSpec)

/-- ITS FALSE NEIGHBOUR: 'it returns false'. Refute it at one input. -/
def fnUnitFindWrong : ChangeSpec := { name := "fnUnitFind", fn := fun _ => fun
  | [d] => { results := [.lit (.bool false)], args := [d] }
  | _ => none }
def FnUnitFindWrongFalsely : Prop := fnUnitFindRow.holds Try.pinned (OpenSpec.ofChange fnUnitFindWrong)

/-- 'laws.FnFun': WHATEVER THE INPUT: true; the input reads as it did. -/
def fnFunSpec : ChangeSpec := { name := "fnFun", fn := fun _ => fun
  | [d] => { results := [.lit (.bool true)], args := [d] }
  | _ => none }
def fnFunRow : OpenClaim := { program := "ytdiaepjchcmelab", sum := "537ceb734955589d4381355f06ed1d4affd0f2f5abf5e52ff555f18b99d24552", func := "loop.example/stepstone/laws.FnFun", spec := "fnFun", apart := false }
def FnFunSaid : Prop := fnFunRow.holds Try.pinned (OpenSpec.ofChange fnFunSpec)

/-- ITS FALSE NEIGHBOUR: 'it returns false'. Refute it at one input. -/
def fnFunWrong : ChangeSpec := { name := "fnFun", fn := fun _ => fun
  | [d] => { results := [.lit (.bool false)], args := [d] }
  | _ => none }
def FnFunWrongFalsely : Prop := fnFunRow.holds Try.pinned (OpenSpec.ofChange fnFunWrong)

/-- 'laws.FnFunRefs': WHATEVER THE INPUT: true; the input reads as it did. -/
def fnFunRefsSpec : ChangeSpec := { name := "fnFunRefs", fn := fun _ => fun
  | [d] => { results := [.lit (.bool true)], args := [d] }
  | _ => none }
def fnFunRefsRow : OpenClaim := { program := "ytdiaepjchcmelab", sum := "537ceb734955589d4381355f06ed1d4affd0f2f5abf5e52ff555f18b99d24552", func := "loop.example/stepstone/laws.FnFunRefs", spec := "fnFunRefs", apart := false }
def FnFunRefsSaid : Prop := fnFunRefsRow.holds Try.pinned (OpenSpec.ofChange fnFunRefsSpec)

/-- ITS FALSE NEIGHBOUR: 'it returns false'. Refute it at one input. -/
def fnFunRefsWrong : ChangeSpec := { name := "fnFunRefs", fn := fun _ => fun
  | [d] => { results := [.lit (.bool false)], args := [d] }
  | _ => none }
def FnFunRefsWrongFalsely : Prop := fnFunRefsRow.holds Try.pinned (OpenSpec.ofChange fnFunRefsWrong)

/- THE SECOND FORM. 'bulk': how many values and letters a reading holds, each counted each time it is reached (what is shared counts as often as it is met; a slice's spare places count too). A statement '..UptoSaid' is the law's where the arguments, and the package variables that the reading takes, are together of bulk at most 1048576: NARROWER than '..Said'. Prove '..Said' where nothing that the law and all that it calls make is longer than what came in: it says more and counts as full. Else prove '..UptoSaid'. A law counts once. -/
mutual
def uptoBulk {H : Type} : DataW H → Nat
  | .lit (.string bytes) => bytes.length + 1
  | .lit _ => 1
  | .nil => 1
  | .ptr d => uptoBulk d + 1
  | .slice elems spare => uptoBulkAll elems + uptoBulkAll spare + 1
  | .agg parts => uptoBulkAll parts + 1
  | .iface _ d => uptoBulk d + 1
  | .map entries => uptoBulkEntries entries + 1
  | .held _ => 1
def uptoBulkAll {H : Type} : List (DataW H) → Nat
  | [] => 0
  | d :: r => uptoBulk d + uptoBulkAll r
def uptoBulkEntries {H : Type} : List (Lit × DataW H) → Nat
  | [] => 0
  | x :: r => uptoBulkEntry x + uptoBulkEntries r
def uptoBulkEntry {H : Type} : Lit × DataW H → Nat
  | (.string bytes, d) => bytes.length + uptoBulk d + 1
  | (_, d) => uptoBulk d + 1
 end
def uptoSmall : (H : Type) → List (DataW H) → Bool := fun _ ds => decide (uptoBulkAll ds ≤ 1048576)
def OpenSpec.upto (s : _root_.Go.ChangeSpec) : _root_.Go.OpenSpec := { _root_.Go.OpenSpec.ofChange s with cond := some uptoSmall }

/-- 'laws.FnUnitFind', WHERE WHAT IT READS IS OF BULK AT MOST 1048576: true; the input reads as it did. -/
def fnUnitFindUptoRow : OpenClaim := { program := "ytdiaepjchcmelab", sum := "537ceb734955589d4381355f06ed1d4affd0f2f5abf5e52ff555f18b99d24552", func := "loop.example/stepstone/laws.FnUnitFind", spec := "fnUnitFind", apart := false, narrowed := true }
def FnUnitFindUptoSaid : Prop := fnUnitFindUptoRow.holds Try.pinned (OpenSpec.upto fnUnitFindSpec)

/-- 'laws.FnFun', WHERE WHAT IT READS IS OF BULK AT MOST 1048576: true; the input reads as it did. -/
def fnFunUptoRow : OpenClaim := { program := "ytdiaepjchcmelab", sum := "537ceb734955589d4381355f06ed1d4affd0f2f5abf5e52ff555f18b99d24552", func := "loop.example/stepstone/laws.FnFun", spec := "fnFun", apart := false, narrowed := true }
def FnFunUptoSaid : Prop := fnFunUptoRow.holds Try.pinned (OpenSpec.upto fnFunSpec)

/-- 'laws.FnFunRefs', WHERE WHAT IT READS IS OF BULK AT MOST 1048576: true; the input reads as it did. -/
def fnFunRefsUptoRow : OpenClaim := { program := "ytdiaepjchcmelab", sum := "537ceb734955589d4381355f06ed1d4affd0f2f5abf5e52ff555f18b99d24552", func := "loop.example/stepstone/laws.FnFunRefs", spec := "fnFunRefs", apart := false, narrowed := true }
def FnFunRefsUptoSaid : Prop := fnFunRefsUptoRow.holds Try.pinned (OpenSpec.upto fnFunRefsSpec)

end Rows
end Go.Proofs.Ytdiaepjchcmelab
