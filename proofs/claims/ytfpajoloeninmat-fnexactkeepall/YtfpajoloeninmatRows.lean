/-
  No cell of these rows narrows 'for every input' (looked for: loops, veiled, ifaces, maps, wideKeys, modest, calm, conditions, laid).
  DERIVED. THE GIVEN ROWS OF THIS SEAT. 5 by the template 'for every input the law returns true; each argument reads behind the call as it read before'; 0 by the template 'total and deterministic' (their statements: YtfpajoloeninmatTotals.lean).
  GIVEN WITH THE SEED: the statements are not yours to turn. If you find one false, say at which input.
  Laid BY PROGRAM, IN A SANDBOX (cutbox-rows.mjs): the forced cells as the released guide's own fill.sh prints them over the translation 9c43eaf2e418109f… (all of the seat's roots in one cut). By AI agents, Wed Nov 11 2026. No macro, syntax, notation, axiom, sorry.
-/
import Derived.Test.YtfpajoloeninmatChecked
import GoSem.Claim
import GoSem.ClaimJoined
import GoSem.ClaimMapViews
import Derived.JoinedTies
import Derived.KernelRfl
namespace Go.Proofs.Ytfpajoloeninmat
/- THE CELL 'sum', in the pinned program and in every row, IS THE sha256 OF THE DUMP (.gsa) THAT YtfpajoloeninmatProg.lean LOADS. Nothing in Lean hashes anything: it is a label: what it is worth is what the hold of that sum in a sandbox is worth. -/
noncomputable def Try.pinned : Pinned := { name := "ytfpajoloeninmat", sum := "9c43eaf2e418109f3a69aa18394c1bffce6f7b9e5a8ffe53f90cdd6d19906b9c", checked := Try.checked }
namespace Rows
def none {H : Type} : Left H := { results := [], args := [] }

/-- 'laws.FnExactPickWants': WHATEVER THE INPUT: true; the input reads as it did. -/
def fnExactPickWantsSpec : ChangeSpec := { name := "fnExactPickWants", fn := fun _ => fun
  | [d] => { results := [.lit (.bool true)], args := [d] }
  | _ => none }
def fnExactPickWantsRow : OpenClaim := { program := "ytfpajoloeninmat", sum := "9c43eaf2e418109f3a69aa18394c1bffce6f7b9e5a8ffe53f90cdd6d19906b9c", func := "loop.example/stepstone/laws.FnExactPickWants", spec := "fnExactPickWants", unfollowed := true, recurses := true, apart := false }
def FnExactPickWantsSaid : Prop := fnExactPickWantsRow.holds Try.pinned (OpenSpec.ofChange fnExactPickWantsSpec)

/-- ITS FALSE NEIGHBOUR: 'it returns false'. Refute it at one input. -/
def fnExactPickWantsWrong : ChangeSpec := { name := "fnExactPickWants", fn := fun _ => fun
  | [d] => { results := [.lit (.bool false)], args := [d] }
  | _ => none }
def FnExactPickWantsWrongFalsely : Prop := fnExactPickWantsRow.holds Try.pinned (OpenSpec.ofChange fnExactPickWantsWrong)

/-- 'laws.FnExactPickSame': WHATEVER THE INPUT: true; the input reads as it did. -/
def fnExactPickSameSpec : ChangeSpec := { name := "fnExactPickSame", fn := fun _ => fun
  | [d1, d2] => { results := [.lit (.bool true)], args := [d1, d2] }
  | _ => none }
def fnExactPickSameRow : OpenClaim := { program := "ytfpajoloeninmat", sum := "9c43eaf2e418109f3a69aa18394c1bffce6f7b9e5a8ffe53f90cdd6d19906b9c", func := "loop.example/stepstone/laws.FnExactPickSame", spec := "fnExactPickSame", unfollowed := true, recurses := true, apart := false }
def FnExactPickSameSaid : Prop := fnExactPickSameRow.holds Try.pinned (OpenSpec.ofChange fnExactPickSameSpec)

/-- ITS FALSE NEIGHBOUR: 'it returns false'. Refute it at one input. -/
def fnExactPickSameWrong : ChangeSpec := { name := "fnExactPickSame", fn := fun _ => fun
  | [d1, d2] => { results := [.lit (.bool false)], args := [d1, d2] }
  | _ => none }
def FnExactPickSameWrongFalsely : Prop := fnExactPickSameRow.holds Try.pinned (OpenSpec.ofChange fnExactPickSameWrong)

/-- 'laws.FnExactKeepOk': WHATEVER THE INPUT: true; the input reads as it did. -/
def fnExactKeepOkSpec : ChangeSpec := { name := "fnExactKeepOk", fn := fun _ => fun
  | [d] => { results := [.lit (.bool true)], args := [d] }
  | _ => none }
def fnExactKeepOkRow : OpenClaim := { program := "ytfpajoloeninmat", sum := "9c43eaf2e418109f3a69aa18394c1bffce6f7b9e5a8ffe53f90cdd6d19906b9c", func := "loop.example/stepstone/laws.FnExactKeepOk", spec := "fnExactKeepOk", unfollowed := true, recurses := true, apart := false }
def FnExactKeepOkSaid : Prop := fnExactKeepOkRow.holds Try.pinned (OpenSpec.ofChange fnExactKeepOkSpec)

/-- ITS FALSE NEIGHBOUR: 'it returns false'. Refute it at one input. -/
def fnExactKeepOkWrong : ChangeSpec := { name := "fnExactKeepOk", fn := fun _ => fun
  | [d] => { results := [.lit (.bool false)], args := [d] }
  | _ => none }
def FnExactKeepOkWrongFalsely : Prop := fnExactKeepOkRow.holds Try.pinned (OpenSpec.ofChange fnExactKeepOkWrong)

/-- 'laws.FnExactKeepAll': WHATEVER THE INPUT: true; the input reads as it did. -/
def fnExactKeepAllSpec : ChangeSpec := { name := "fnExactKeepAll", fn := fun _ => fun
  | [d1, d2] => { results := [.lit (.bool true)], args := [d1, d2] }
  | _ => none }
def fnExactKeepAllRow : OpenClaim := { program := "ytfpajoloeninmat", sum := "9c43eaf2e418109f3a69aa18394c1bffce6f7b9e5a8ffe53f90cdd6d19906b9c", func := "loop.example/stepstone/laws.FnExactKeepAll", spec := "fnExactKeepAll", apart := false }
def FnExactKeepAllSaid : Prop := fnExactKeepAllRow.holds Try.pinned (OpenSpec.ofChange fnExactKeepAllSpec)

/-- ITS FALSE NEIGHBOUR: 'it returns false'. Refute it at one input. -/
def fnExactKeepAllWrong : ChangeSpec := { name := "fnExactKeepAll", fn := fun _ => fun
  | [d1, d2] => { results := [.lit (.bool false)], args := [d1, d2] }
  | _ => none }
def FnExactKeepAllWrongFalsely : Prop := fnExactKeepAllRow.holds Try.pinned (OpenSpec.ofChange fnExactKeepAllWrong)

/-- 'laws.FnExactKeepOnly': WHATEVER THE INPUT: true; the input reads as it did. -/
def fnExactKeepOnlySpec : ChangeSpec := { name := "fnExactKeepOnly", fn := fun _ => fun
  | [d] => { results := [.lit (.bool true)], args := [d] }
  | _ => none }
def fnExactKeepOnlyRow : OpenClaim := { program := "ytfpajoloeninmat", sum := "9c43eaf2e418109f3a69aa18394c1bffce6f7b9e5a8ffe53f90cdd6d19906b9c", func := "loop.example/stepstone/laws.FnExactKeepOnly", spec := "fnExactKeepOnly", unfollowed := true, recurses := true, apart := false }
def FnExactKeepOnlySaid : Prop := fnExactKeepOnlyRow.holds Try.pinned (OpenSpec.ofChange fnExactKeepOnlySpec)

/-- ITS FALSE NEIGHBOUR: 'it returns false'. Refute it at one input. -/
def fnExactKeepOnlyWrong : ChangeSpec := { name := "fnExactKeepOnly", fn := fun _ => fun
  | [d] => { results := [.lit (.bool false)], args := [d] }
  | _ => none }
def FnExactKeepOnlyWrongFalsely : Prop := fnExactKeepOnlyRow.holds Try.pinned (OpenSpec.ofChange fnExactKeepOnlyWrong)

/- THE SECOND FORM. 'bulk': how many values and letters a reading holds, each counted each time it is reached (what is shared counts as often as it is met; a slice's spare places count too). A statement '..UptoSaid' is the law's where the arguments, and the package variables that the reading takes, are together of bulk at most 1048576: NARROWER than '..Said'. Prove '..Said' where nothing that the law and all that it calls make is longer than what came in: it says more and counts as full. Else prove '..UptoSaid'. A law counts once. -/
mutual
def uptoBulk {H : Type} : DataW H → Nat
  | .lit (.string bytes) => bytes.length + 1
  | .lit _ => 1
  | .nil => 1
  | .ptr d => uptoBulk d + 1
  | .slice elems spare => uptoBulkAll elems + uptoBulkAll spare + 1
  | .agg parts => uptoBulkAll parts + 1
  | .iface _ d => uptoBulk d + 1
  | .map entries => uptoBulkEntries entries + 1
  | .held _ => 1
def uptoBulkAll {H : Type} : List (DataW H) → Nat
  | [] => 0
  | d :: r => uptoBulk d + uptoBulkAll r
def uptoBulkEntries {H : Type} : List (Lit × DataW H) → Nat
  | [] => 0
  | x :: r => uptoBulkEntry x + uptoBulkEntries r
def uptoBulkEntry {H : Type} : Lit × DataW H → Nat
  | (.string bytes, d) => bytes.length + uptoBulk d + 1
  | (_, d) => uptoBulk d + 1
 end
def uptoSmall : (H : Type) → List (DataW H) → Bool := fun _ ds => decide (uptoBulkAll ds ≤ 1048576)
def OpenSpec.upto (s : _root_.Go.ChangeSpec) : _root_.Go.OpenSpec := { _root_.Go.OpenSpec.ofChange s with cond := some uptoSmall }

/-- 'laws.FnExactPickWants', WHERE WHAT IT READS IS OF BULK AT MOST 1048576: true; the input reads as it did. -/
def fnExactPickWantsUptoRow : OpenClaim := { program := "ytfpajoloeninmat", sum := "9c43eaf2e418109f3a69aa18394c1bffce6f7b9e5a8ffe53f90cdd6d19906b9c", func := "loop.example/stepstone/laws.FnExactPickWants", spec := "fnExactPickWants", unfollowed := true, recurses := true, apart := false, narrowed := true }
def FnExactPickWantsUptoSaid : Prop := fnExactPickWantsUptoRow.holds Try.pinned (OpenSpec.upto fnExactPickWantsSpec)

/-- 'laws.FnExactPickSame', WHERE WHAT IT READS IS OF BULK AT MOST 1048576: true; the input reads as it did. -/
def fnExactPickSameUptoRow : OpenClaim := { program := "ytfpajoloeninmat", sum := "9c43eaf2e418109f3a69aa18394c1bffce6f7b9e5a8ffe53f90cdd6d19906b9c", func := "loop.example/stepstone/laws.FnExactPickSame", spec := "fnExactPickSame", unfollowed := true, recurses := true, apart := false, narrowed := true }
def FnExactPickSameUptoSaid : Prop := fnExactPickSameUptoRow.holds Try.pinned (OpenSpec.upto fnExactPickSameSpec)

/-- 'laws.FnExactKeepOk', WHERE WHAT IT READS IS OF BULK AT MOST 1048576: true; the input reads as it did. -/
def fnExactKeepOkUptoRow : OpenClaim := { program := "ytfpajoloeninmat", sum := "9c43eaf2e418109f3a69aa18394c1bffce6f7b9e5a8ffe53f90cdd6d19906b9c", func := "loop.example/stepstone/laws.FnExactKeepOk", spec := "fnExactKeepOk", unfollowed := true, recurses := true, apart := false, narrowed := true }
def FnExactKeepOkUptoSaid : Prop := fnExactKeepOkUptoRow.holds Try.pinned (OpenSpec.upto fnExactKeepOkSpec)

/-- 'laws.FnExactKeepAll', WHERE WHAT IT READS IS OF BULK AT MOST 1048576: true; the input reads as it did. -/
def fnExactKeepAllUptoRow : OpenClaim := { program := "ytfpajoloeninmat", sum := "9c43eaf2e418109f3a69aa18394c1bffce6f7b9e5a8ffe53f90cdd6d19906b9c", func := "loop.example/stepstone/laws.FnExactKeepAll", spec := "fnExactKeepAll", apart := false, narrowed := true }
def FnExactKeepAllUptoSaid : Prop := fnExactKeepAllUptoRow.holds Try.pinned (OpenSpec.upto fnExactKeepAllSpec)

/-- 'laws.FnExactKeepOnly', WHERE WHAT IT READS IS OF BULK AT MOST 1048576: true; the input reads as it did. -/
def fnExactKeepOnlyUptoRow : OpenClaim := { program := "ytfpajoloeninmat", sum := "9c43eaf2e418109f3a69aa18394c1bffce6f7b9e5a8ffe53f90cdd6d19906b9c", func := "loop.example/stepstone/laws.FnExactKeepOnly", spec := "fnExactKeepOnly", unfollowed := true, recurses := true, apart := false, narrowed := true }
def FnExactKeepOnlyUptoSaid : Prop := fnExactKeepOnlyUptoRow.holds Try.pinned (OpenSpec.upto fnExactKeepOnlySpec)

end Rows
end Go.Proofs.Ytfpajoloeninmat
