/-
  No cell of these rows narrows 'for every input' (looked for: loops, veiled, ifaces, maps, wideKeys, modest, calm, conditions, laid).
  DERIVED. THE GIVEN ROWS OF THIS SEAT. 4 by the template 'for every input the law returns true; each argument reads behind the call as it read before'; 0 by the template 'total and deterministic' (their statements: YtfpajoloeninmaeTotals.lean).
  GIVEN WITH THE SEED: the statements are not yours to turn. If you find one false, say at which input.
  Laid BY PROGRAM, IN A SANDBOX (cutbox-rows.mjs): the forced cells as the released guide's own fill.sh prints them over the translation d7811cdea47f4f46… (all of the seat's roots in one cut). By AI agents, Wed Nov 11 2026. No macro, syntax, notation, axiom, sorry.
-/
import Derived.Test.YtfpajoloeninmaeChecked
import GoSem.Claim
import GoSem.ClaimJoined
import GoSem.ClaimMapViews
import Derived.JoinedTies
import Derived.KernelRfl
namespace Go.Proofs.Ytfpajoloeninmae
/- THE CELL 'sum', in the pinned program and in every row, IS THE sha256 OF THE DUMP (.gsa) THAT YtfpajoloeninmaeProg.lean LOADS. Nothing in Lean hashes anything: it is a label: what it is worth is what the hold of that sum in a sandbox is worth. -/
noncomputable def Try.pinned : Pinned := { name := "ytfpajoloeninmae", sum := "d7811cdea47f4f460f7f423ef11f43defe36a23d270c89c997781fd9d9be3fb4", checked := Try.checked }
namespace Rows
def none {H : Type} : Left H := { results := [], args := [] }

/-- 'laws.FnKeepBent': WHATEVER THE INPUT: true; the input reads as it did. -/
def fnKeepBentSpec : ChangeSpec := { name := "fnKeepBent", fn := fun _ => fun
  | [d] => { results := [.lit (.bool true)], args := [d] }
  | _ => none }
def fnKeepBentRow : OpenClaim := { program := "ytfpajoloeninmae", sum := "d7811cdea47f4f460f7f423ef11f43defe36a23d270c89c997781fd9d9be3fb4", func := "loop.example/stepstone/laws.FnKeepBent", spec := "fnKeepBent", unfollowed := true, recurses := true, apart := false }
def FnKeepBentSaid : Prop := fnKeepBentRow.holds Try.pinned (OpenSpec.ofChange fnKeepBentSpec)

/-- ITS FALSE NEIGHBOUR: 'it returns false'. Refute it at one input. -/
def fnKeepBentWrong : ChangeSpec := { name := "fnKeepBent", fn := fun _ => fun
  | [d] => { results := [.lit (.bool false)], args := [d] }
  | _ => none }
def FnKeepBentWrongFalsely : Prop := fnKeepBentRow.holds Try.pinned (OpenSpec.ofChange fnKeepBentWrong)

/-- 'laws.FnKeepSame': WHATEVER THE INPUT: true; the input reads as it did. -/
def fnKeepSameSpec : ChangeSpec := { name := "fnKeepSame", fn := fun _ => fun
  | [d] => { results := [.lit (.bool true)], args := [d] }
  | _ => none }
def fnKeepSameRow : OpenClaim := { program := "ytfpajoloeninmae", sum := "d7811cdea47f4f460f7f423ef11f43defe36a23d270c89c997781fd9d9be3fb4", func := "loop.example/stepstone/laws.FnKeepSame", spec := "fnKeepSame", unfollowed := true, recurses := true, apart := false }
def FnKeepSameSaid : Prop := fnKeepSameRow.holds Try.pinned (OpenSpec.ofChange fnKeepSameSpec)

/-- ITS FALSE NEIGHBOUR: 'it returns false'. Refute it at one input. -/
def fnKeepSameWrong : ChangeSpec := { name := "fnKeepSame", fn := fun _ => fun
  | [d] => { results := [.lit (.bool false)], args := [d] }
  | _ => none }
def FnKeepSameWrongFalsely : Prop := fnKeepSameRow.holds Try.pinned (OpenSpec.ofChange fnKeepSameWrong)

/-- 'laws.FnKeepUnion': WHATEVER THE INPUT: true; the input reads as it did. -/
def fnKeepUnionSpec : ChangeSpec := { name := "fnKeepUnion", fn := fun _ => fun
  | [d] => { results := [.lit (.bool true)], args := [d] }
  | _ => none }
def fnKeepUnionRow : OpenClaim := { program := "ytfpajoloeninmae", sum := "d7811cdea47f4f460f7f423ef11f43defe36a23d270c89c997781fd9d9be3fb4", func := "loop.example/stepstone/laws.FnKeepUnion", spec := "fnKeepUnion", unfollowed := true, recurses := true, apart := false }
def FnKeepUnionSaid : Prop := fnKeepUnionRow.holds Try.pinned (OpenSpec.ofChange fnKeepUnionSpec)

/-- ITS FALSE NEIGHBOUR: 'it returns false'. Refute it at one input. -/
def fnKeepUnionWrong : ChangeSpec := { name := "fnKeepUnion", fn := fun _ => fun
  | [d] => { results := [.lit (.bool false)], args := [d] }
  | _ => none }
def FnKeepUnionWrongFalsely : Prop := fnKeepUnionRow.holds Try.pinned (OpenSpec.ofChange fnKeepUnionWrong)

/-- 'laws.FnKeepMore': WHATEVER THE INPUT: true; the input reads as it did. -/
def fnKeepMoreSpec : ChangeSpec := { name := "fnKeepMore", fn := fun _ => fun
  | [d] => { results := [.lit (.bool true)], args := [d] }
  | _ => none }
def fnKeepMoreRow : OpenClaim := { program := "ytfpajoloeninmae", sum := "d7811cdea47f4f460f7f423ef11f43defe36a23d270c89c997781fd9d9be3fb4", func := "loop.example/stepstone/laws.FnKeepMore", spec := "fnKeepMore", unfollowed := true, recurses := true, apart := false }
def FnKeepMoreSaid : Prop := fnKeepMoreRow.holds Try.pinned (OpenSpec.ofChange fnKeepMoreSpec)

/-- ITS FALSE NEIGHBOUR: 'it returns false'. Refute it at one input. -/
def fnKeepMoreWrong : ChangeSpec := { name := "fnKeepMore", fn := fun _ => fun
  | [d] => { results := [.lit (.bool false)], args := [d] }
  | _ => none }
def FnKeepMoreWrongFalsely : Prop := fnKeepMoreRow.holds Try.pinned (OpenSpec.ofChange fnKeepMoreWrong)

/- THE SECOND FORM. 'bulk': how many values and letters a reading holds, each counted each time it is reached (what is shared counts as often as it is met; a slice's spare places count too). A statement '..UptoSaid' is the law's where the arguments, and the package variables that the reading takes, are together of bulk at most 1048576: NARROWER than '..Said'. Prove '..Said' where nothing that the law and all that it calls make is longer than what came in: it says more and counts as full. Else prove '..UptoSaid'. A law counts once. -/
mutual
def uptoBulk {H : Type} : DataW H → Nat
  | .lit (.string bytes) => bytes.length + 1
  | .lit _ => 1
  | .nil => 1
  | .ptr d => uptoBulk d + 1
  | .slice elems spare => uptoBulkAll elems + uptoBulkAll spare + 1
  | .agg parts => uptoBulkAll parts + 1
  | .iface _ d => uptoBulk d + 1
  | .map entries => uptoBulkEntries entries + 1
  | .held _ => 1
def uptoBulkAll {H : Type} : List (DataW H) → Nat
  | [] => 0
  | d :: r => uptoBulk d + uptoBulkAll r
def uptoBulkEntries {H : Type} : List (Lit × DataW H) → Nat
  | [] => 0
  | x :: r => uptoBulkEntry x + uptoBulkEntries r
def uptoBulkEntry {H : Type} : Lit × DataW H → Nat
  | (.string bytes, d) => bytes.length + uptoBulk d + 1
  | (_, d) => uptoBulk d + 1
 end
def uptoSmall : (H : Type) → List (DataW H) → Bool := fun _ ds => decide (uptoBulkAll ds ≤ 1048576)
def OpenSpec.upto (s : _root_.Go.ChangeSpec) : _root_.Go.OpenSpec := { _root_.Go.OpenSpec.ofChange s with cond := some uptoSmall }

/-- 'laws.FnKeepBent', WHERE WHAT IT READS IS OF BULK AT MOST 1048576: true; the input reads as it did. -/
def fnKeepBentUptoRow : OpenClaim := { program := "ytfpajoloeninmae", sum := "d7811cdea47f4f460f7f423ef11f43defe36a23d270c89c997781fd9d9be3fb4", func := "loop.example/stepstone/laws.FnKeepBent", spec := "fnKeepBent", unfollowed := true, recurses := true, apart := false, narrowed := true }
def FnKeepBentUptoSaid : Prop := fnKeepBentUptoRow.holds Try.pinned (OpenSpec.upto fnKeepBentSpec)

/-- 'laws.FnKeepSame', WHERE WHAT IT READS IS OF BULK AT MOST 1048576: true; the input reads as it did. -/
def fnKeepSameUptoRow : OpenClaim := { program := "ytfpajoloeninmae", sum := "d7811cdea47f4f460f7f423ef11f43defe36a23d270c89c997781fd9d9be3fb4", func := "loop.example/stepstone/laws.FnKeepSame", spec := "fnKeepSame", unfollowed := true, recurses := true, apart := false, narrowed := true }
def FnKeepSameUptoSaid : Prop := fnKeepSameUptoRow.holds Try.pinned (OpenSpec.upto fnKeepSameSpec)

/-- 'laws.FnKeepUnion', WHERE WHAT IT READS IS OF BULK AT MOST 1048576: true; the input reads as it did. -/
def fnKeepUnionUptoRow : OpenClaim := { program := "ytfpajoloeninmae", sum := "d7811cdea47f4f460f7f423ef11f43defe36a23d270c89c997781fd9d9be3fb4", func := "loop.example/stepstone/laws.FnKeepUnion", spec := "fnKeepUnion", unfollowed := true, recurses := true, apart := false, narrowed := true }
def FnKeepUnionUptoSaid : Prop := fnKeepUnionUptoRow.holds Try.pinned (OpenSpec.upto fnKeepUnionSpec)

/-- 'laws.FnKeepMore', WHERE WHAT IT READS IS OF BULK AT MOST 1048576: true; the input reads as it did. -/
def fnKeepMoreUptoRow : OpenClaim := { program := "ytfpajoloeninmae", sum := "d7811cdea47f4f460f7f423ef11f43defe36a23d270c89c997781fd9d9be3fb4", func := "loop.example/stepstone/laws.FnKeepMore", spec := "fnKeepMore", unfollowed := true, recurses := true, apart := false, narrowed := true }
def FnKeepMoreUptoSaid : Prop := fnKeepMoreUptoRow.holds Try.pinned (OpenSpec.upto fnKeepMoreSpec)

end Rows
end Go.Proofs.Ytfpajoloeninmae
