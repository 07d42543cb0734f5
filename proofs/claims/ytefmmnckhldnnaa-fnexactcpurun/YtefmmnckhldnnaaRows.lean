/-
  No cell of these rows narrows 'for every input' (looked for: loops, veiled, ifaces, maps, wideKeys, modest, calm, conditions, laid).
  DERIVED. THE GIVEN ROWS OF THIS SEAT. 11 by the template 'for every input the law returns true; each argument reads behind the call as it read before'; 0 by the template 'total and deterministic' (their statements: YtefmmnckhldnnaaTotals.lean).
  GIVEN WITH THE SEED: the statements are not yours to turn. If you find one false, say at which input.
  Laid BY PROGRAM, IN A SANDBOX (cutbox-rows.mjs): the forced cells as the released guide's own fill.sh prints them over the translation 7405730b810237db… (all of the seat's roots in one cut). By AI agents, Wed Nov 11 2026. No macro, syntax, notation, axiom, sorry.
-/
import Derived.Test.YtefmmnckhldnnaaChecked
import GoSem.Claim
import GoSem.ClaimJoined
import GoSem.ClaimMapViews
import Derived.JoinedTies
import Derived.KernelRfl
namespace Go.Proofs.Ytefmmnckhldnnaa
/- THE CELL 'sum', in the pinned program and in every row, IS THE sha256 OF THE DUMP (.gsa) THAT YtefmmnckhldnnaaProg.lean LOADS. Nothing in Lean hashes anything: it is a label: what it is worth is what the hold of that sum in a sandbox is worth. -/
noncomputable def Try.pinned : Pinned := { name := "ytefmmnckhldnnaa", sum := "7405730b810237db5510755091f4cf4ee503ab607b46eddcd9cbc2555c7c38f0", checked := Try.checked }
namespace Rows
def none {H : Type} : Left H := { results := [], args := [] }

/-- 'laws.FnLayTo': WHATEVER THE INPUT: true; the input reads as it did. -/
def fnLayToSpec : ChangeSpec := { name := "fnLayTo", fn := fun _ => fun
  | [d] => { results := [.lit (.bool true)], args := [d] }
  | _ => none }
def fnLayToRow : OpenClaim := { program := "ytefmmnckhldnnaa", sum := "7405730b810237db5510755091f4cf4ee503ab607b46eddcd9cbc2555c7c38f0", func := "loop.example/stepstone/laws.FnLayTo", spec := "fnLayTo", unfollowed := true, recurses := true, apart := false }
def FnLayToSaid : Prop := fnLayToRow.holds Try.pinned (OpenSpec.ofChange fnLayToSpec)

/-- ITS FALSE NEIGHBOUR: 'it returns false'. Refute it at one input. -/
def fnLayToWrong : ChangeSpec := { name := "fnLayTo", fn := fun _ => fun
  | [d] => { results := [.lit (.bool false)], args := [d] }
  | _ => none }
def FnLayToWrongFalsely : Prop := fnLayToRow.holds Try.pinned (OpenSpec.ofChange fnLayToWrong)

/-- 'laws.FnLayStone': WHATEVER THE INPUT: true; the input reads as it did. -/
def fnLayStoneSpec : ChangeSpec := { name := "fnLayStone", fn := fun _ => fun
  | [d] => { results := [.lit (.bool true)], args := [d] }
  | _ => none }
def fnLayStoneRow : OpenClaim := { program := "ytefmmnckhldnnaa", sum := "7405730b810237db5510755091f4cf4ee503ab607b46eddcd9cbc2555c7c38f0", func := "loop.example/stepstone/laws.FnLayStone", spec := "fnLayStone", unfollowed := true, recurses := true, apart := false }
def FnLayStoneSaid : Prop := fnLayStoneRow.holds Try.pinned (OpenSpec.ofChange fnLayStoneSpec)

/-- ITS FALSE NEIGHBOUR: 'it returns false'. Refute it at one input. -/
def fnLayStoneWrong : ChangeSpec := { name := "fnLayStone", fn := fun _ => fun
  | [d] => { results := [.lit (.bool false)], args := [d] }
  | _ => none }
def FnLayStoneWrongFalsely : Prop := fnLayStoneRow.holds Try.pinned (OpenSpec.ofChange fnLayStoneWrong)

/-- 'laws.FnLayBent': WHATEVER THE INPUT: true; the input reads as it did. -/
def fnLayBentSpec : ChangeSpec := { name := "fnLayBent", fn := fun _ => fun
  | [d] => { results := [.lit (.bool true)], args := [d] }
  | _ => none }
def fnLayBentRow : OpenClaim := { program := "ytefmmnckhldnnaa", sum := "7405730b810237db5510755091f4cf4ee503ab607b46eddcd9cbc2555c7c38f0", func := "loop.example/stepstone/laws.FnLayBent", spec := "fnLayBent", unfollowed := true, recurses := true, apart := false }
def FnLayBentSaid : Prop := fnLayBentRow.holds Try.pinned (OpenSpec.ofChange fnLayBentSpec)

/-- ITS FALSE NEIGHBOUR: 'it returns false'. Refute it at one input. -/
def fnLayBentWrong : ChangeSpec := { name := "fnLayBent", fn := fun _ => fun
  | [d] => { results := [.lit (.bool false)], args := [d] }
  | _ => none }
def FnLayBentWrongFalsely : Prop := fnLayBentRow.holds Try.pinned (OpenSpec.ofChange fnLayBentWrong)

/-- 'laws.FnImageOk': WHATEVER THE INPUT: true; the input reads as it did. -/
def fnImageOkSpec : ChangeSpec := { name := "fnImageOk", fn := fun _ => fun
  | [d] => { results := [.lit (.bool true)], args := [d] }
  | _ => none }
def fnImageOkRow : OpenClaim := { program := "ytefmmnckhldnnaa", sum := "7405730b810237db5510755091f4cf4ee503ab607b46eddcd9cbc2555c7c38f0", func := "loop.example/stepstone/laws.FnImageOk", spec := "fnImageOk", apart := false }
def FnImageOkSaid : Prop := fnImageOkRow.holds Try.pinned (OpenSpec.ofChange fnImageOkSpec)

/-- ITS FALSE NEIGHBOUR: 'it returns false'. Refute it at one input. -/
def fnImageOkWrong : ChangeSpec := { name := "fnImageOk", fn := fun _ => fun
  | [d] => { results := [.lit (.bool false)], args := [d] }
  | _ => none }
def FnImageOkWrongFalsely : Prop := fnImageOkRow.holds Try.pinned (OpenSpec.ofChange fnImageOkWrong)

/-- 'laws.FnExactMachOk': WHATEVER THE INPUT: true; the input reads as it did. -/
def fnExactMachOkSpec : ChangeSpec := { name := "fnExactMachOk", fn := fun _ => fun
  | [d1, d2] => { results := [.lit (.bool true)], args := [d1, d2] }
  | _ => none }
def fnExactMachOkRow : OpenClaim := { program := "ytefmmnckhldnnaa", sum := "7405730b810237db5510755091f4cf4ee503ab607b46eddcd9cbc2555c7c38f0", func := "loop.example/stepstone/laws.FnExactMachOk", spec := "fnExactMachOk", unfollowed := true, recurses := true, apart := false }
def FnExactMachOkSaid : Prop := fnExactMachOkRow.holds Try.pinned (OpenSpec.ofChange fnExactMachOkSpec)

/-- ITS FALSE NEIGHBOUR: 'it returns false'. Refute it at one input. -/
def fnExactMachOkWrong : ChangeSpec := { name := "fnExactMachOk", fn := fun _ => fun
  | [d1, d2] => { results := [.lit (.bool false)], args := [d1, d2] }
  | _ => none }
def FnExactMachOkWrongFalsely : Prop := fnExactMachOkRow.holds Try.pinned (OpenSpec.ofChange fnExactMachOkWrong)

/-- 'laws.FnExactImageOk': WHATEVER THE INPUT: true; the input reads as it did. -/
def fnExactImageOkSpec : ChangeSpec := { name := "fnExactImageOk", fn := fun _ => fun
  | [d1, d2] => { results := [.lit (.bool true)], args := [d1, d2] }
  | _ => none }
def fnExactImageOkRow : OpenClaim := { program := "ytefmmnckhldnnaa", sum := "7405730b810237db5510755091f4cf4ee503ab607b46eddcd9cbc2555c7c38f0", func := "loop.example/stepstone/laws.FnExactImageOk", spec := "fnExactImageOk", apart := false }
def FnExactImageOkSaid : Prop := fnExactImageOkRow.holds Try.pinned (OpenSpec.ofChange fnExactImageOkSpec)

/-- ITS FALSE NEIGHBOUR: 'it returns false'. Refute it at one input. -/
def fnExactImageOkWrong : ChangeSpec := { name := "fnExactImageOk", fn := fun _ => fun
  | [d1, d2] => { results := [.lit (.bool false)], args := [d1, d2] }
  | _ => none }
def FnExactImageOkWrongFalsely : Prop := fnExactImageOkRow.holds Try.pinned (OpenSpec.ofChange fnExactImageOkWrong)

/-- 'laws.FnExactImageSame': WHATEVER THE INPUT: true; the input reads as it did. -/
def fnExactImageSameSpec : ChangeSpec := { name := "fnExactImageSame", fn := fun _ => fun
  | [d1, d2] => { results := [.lit (.bool true)], args := [d1, d2] }
  | _ => none }
def fnExactImageSameRow : OpenClaim := { program := "ytefmmnckhldnnaa", sum := "7405730b810237db5510755091f4cf4ee503ab607b46eddcd9cbc2555c7c38f0", func := "loop.example/stepstone/laws.FnExactImageSame", spec := "fnExactImageSame", apart := false }
def FnExactImageSameSaid : Prop := fnExactImageSameRow.holds Try.pinned (OpenSpec.ofChange fnExactImageSameSpec)

/-- ITS FALSE NEIGHBOUR: 'it returns false'. Refute it at one input. -/
def fnExactImageSameWrong : ChangeSpec := { name := "fnExactImageSame", fn := fun _ => fun
  | [d1, d2] => { results := [.lit (.bool false)], args := [d1, d2] }
  | _ => none }
def FnExactImageSameWrongFalsely : Prop := fnExactImageSameRow.holds Try.pinned (OpenSpec.ofChange fnExactImageSameWrong)

/-- 'laws.FnExactCpuOk': WHATEVER THE INPUT: true; the input reads as it did. -/
def fnExactCpuOkSpec : ChangeSpec := { name := "fnExactCpuOk", fn := fun _ => fun
  | [d1, d2] => { results := [.lit (.bool true)], args := [d1, d2] }
  | _ => none }
def fnExactCpuOkRow : OpenClaim := { program := "ytefmmnckhldnnaa", sum := "7405730b810237db5510755091f4cf4ee503ab607b46eddcd9cbc2555c7c38f0", func := "loop.example/stepstone/laws.FnExactCpuOk", spec := "fnExactCpuOk", apart := false }
def FnExactCpuOkSaid : Prop := fnExactCpuOkRow.holds Try.pinned (OpenSpec.ofChange fnExactCpuOkSpec)

/-- ITS FALSE NEIGHBOUR: 'it returns false'. Refute it at one input. -/
def fnExactCpuOkWrong : ChangeSpec := { name := "fnExactCpuOk", fn := fun _ => fun
  | [d1, d2] => { results := [.lit (.bool false)], args := [d1, d2] }
  | _ => none }
def FnExactCpuOkWrongFalsely : Prop := fnExactCpuOkRow.holds Try.pinned (OpenSpec.ofChange fnExactCpuOkWrong)

/-- 'laws.FnExactCpuSame': WHATEVER THE INPUT: true; the input reads as it did. -/
def fnExactCpuSameSpec : ChangeSpec := { name := "fnExactCpuSame", fn := fun _ => fun
  | [d1, d2] => { results := [.lit (.bool true)], args := [d1, d2] }
  | _ => none }
def fnExactCpuSameRow : OpenClaim := { program := "ytefmmnckhldnnaa", sum := "7405730b810237db5510755091f4cf4ee503ab607b46eddcd9cbc2555c7c38f0", func := "loop.example/stepstone/laws.FnExactCpuSame", spec := "fnExactCpuSame", apart := false }
def FnExactCpuSameSaid : Prop := fnExactCpuSameRow.holds Try.pinned (OpenSpec.ofChange fnExactCpuSameSpec)

/-- ITS FALSE NEIGHBOUR: 'it returns false'. Refute it at one input. -/
def fnExactCpuSameWrong : ChangeSpec := { name := "fnExactCpuSame", fn := fun _ => fun
  | [d1, d2] => { results := [.lit (.bool false)], args := [d1, d2] }
  | _ => none }
def FnExactCpuSameWrongFalsely : Prop := fnExactCpuSameRow.holds Try.pinned (OpenSpec.ofChange fnExactCpuSameWrong)

/-- 'laws.FnExactCpuStep': WHATEVER THE INPUT: true; the input reads as it did. -/
def fnExactCpuStepSpec : ChangeSpec := { name := "fnExactCpuStep", fn := fun _ => fun
  | [d1, d2] => { results := [.lit (.bool true)], args := [d1, d2] }
  | _ => none }
def fnExactCpuStepRow : OpenClaim := { program := "ytefmmnckhldnnaa", sum := "7405730b810237db5510755091f4cf4ee503ab607b46eddcd9cbc2555c7c38f0", func := "loop.example/stepstone/laws.FnExactCpuStep", spec := "fnExactCpuStep", apart := false }
def FnExactCpuStepSaid : Prop := fnExactCpuStepRow.holds Try.pinned (OpenSpec.ofChange fnExactCpuStepSpec)

/-- ITS FALSE NEIGHBOUR: 'it returns false'. Refute it at one input. -/
def fnExactCpuStepWrong : ChangeSpec := { name := "fnExactCpuStep", fn := fun _ => fun
  | [d1, d2] => { results := [.lit (.bool false)], args := [d1, d2] }
  | _ => none }
def FnExactCpuStepWrongFalsely : Prop := fnExactCpuStepRow.holds Try.pinned (OpenSpec.ofChange fnExactCpuStepWrong)

/-- 'laws.FnExactCpuRun': WHATEVER THE INPUT: true; the input reads as it did. -/
def fnExactCpuRunSpec : ChangeSpec := { name := "fnExactCpuRun", fn := fun _ => fun
  | [d1, d2] => { results := [.lit (.bool true)], args := [d1, d2] }
  | _ => none }
def fnExactCpuRunRow : OpenClaim := { program := "ytefmmnckhldnnaa", sum := "7405730b810237db5510755091f4cf4ee503ab607b46eddcd9cbc2555c7c38f0", func := "loop.example/stepstone/laws.FnExactCpuRun", spec := "fnExactCpuRun", apart := false }
def FnExactCpuRunSaid : Prop := fnExactCpuRunRow.holds Try.pinned (OpenSpec.ofChange fnExactCpuRunSpec)

/-- ITS FALSE NEIGHBOUR: 'it returns false'. Refute it at one input. -/
def fnExactCpuRunWrong : ChangeSpec := { name := "fnExactCpuRun", fn := fun _ => fun
  | [d1, d2] => { results := [.lit (.bool false)], args := [d1, d2] }
  | _ => none }
def FnExactCpuRunWrongFalsely : Prop := fnExactCpuRunRow.holds Try.pinned (OpenSpec.ofChange fnExactCpuRunWrong)

/- THE SECOND FORM. 'bulk': how many values and letters a reading holds, each counted each time it is reached (what is shared counts as often as it is met; a slice's spare places count too). A statement '..UptoSaid' is the law's where the arguments, and the package variables that the reading takes, are together of bulk at most 1048576: NARROWER than '..Said'. Prove '..Said' where nothing that the law and all that it calls make is longer than what came in: it says more and counts as full. Else prove '..UptoSaid'. A law counts once. -/
mutual
def uptoBulk {H : Type} : DataW H → Nat
  | .lit (.string bytes) => bytes.length + 1
  | .lit _ => 1
  | .nil => 1
  | .ptr d => uptoBulk d + 1
  | .slice elems spare => uptoBulkAll elems + uptoBulkAll spare + 1
  | .agg parts => uptoBulkAll parts + 1
  | .iface _ d => uptoBulk d + 1
  | .map entries => uptoBulkEntries entries + 1
  | .held _ => 1
def uptoBulkAll {H : Type} : List (DataW H) → Nat
  | [] => 0
  | d :: r => uptoBulk d + uptoBulkAll r
def uptoBulkEntries {H : Type} : List (Lit × DataW H) → Nat
  | [] => 0
  | x :: r => uptoBulkEntry x + uptoBulkEntries r
def uptoBulkEntry {H : Type} : Lit × DataW H → Nat
  | (.string bytes, d) => bytes.length + uptoBulk d + 1
  | (_, d) => uptoBulk d + 1
 end
def uptoSmall : (H : Type) → List (DataW H) → Bool := fun _ ds => decide (uptoBulkAll ds ≤ 1048576)
def OpenSpec.upto (s : _root_.Go.ChangeSpec) : _root_.Go.OpenSpec := { _root_.Go.OpenSpec.ofChange s with cond := some uptoSmall }

/-- 'laws.FnLayTo', WHERE WHAT IT READS IS OF BULK AT MOST 1048576: true; the input reads as it did. -/
def fnLayToUptoRow : OpenClaim := { program := "ytefmmnckhldnnaa", sum := "7405730b810237db5510755091f4cf4ee503ab607b46eddcd9cbc2555c7c38f0", func := "loop.example/stepstone/laws.FnLayTo", spec := "fnLayTo", unfollowed := true, recurses := true, apart := false, narrowed := true }
def FnLayToUptoSaid : Prop := fnLayToUptoRow.holds Try.pinned (OpenSpec.upto fnLayToSpec)

/-- 'laws.FnLayStone', WHERE WHAT IT READS IS OF BULK AT MOST 1048576: true; the input reads as it did. -/
def fnLayStoneUptoRow : OpenClaim := { program := "ytefmmnckhldnnaa", sum := "7405730b810237db5510755091f4cf4ee503ab607b46eddcd9cbc2555c7c38f0", func := "loop.example/stepstone/laws.FnLayStone", spec := "fnLayStone", unfollowed := true, recurses := true, apart := false, narrowed := true }
def FnLayStoneUptoSaid : Prop := fnLayStoneUptoRow.holds Try.pinned (OpenSpec.upto fnLayStoneSpec)

/-- 'laws.FnLayBent', WHERE WHAT IT READS IS OF BULK AT MOST 1048576: true; the input reads as it did. -/
def fnLayBentUptoRow : OpenClaim := { program := "ytefmmnckhldnnaa", sum := "7405730b810237db5510755091f4cf4ee503ab607b46eddcd9cbc2555c7c38f0", func := "loop.example/stepstone/laws.FnLayBent", spec := "fnLayBent", unfollowed := true, recurses := true, apart := false, narrowed := true }
def FnLayBentUptoSaid : Prop := fnLayBentUptoRow.holds Try.pinned (OpenSpec.upto fnLayBentSpec)

/-- 'laws.FnImageOk', WHERE WHAT IT READS IS OF BULK AT MOST 1048576: true; the input reads as it did. -/
def fnImageOkUptoRow : OpenClaim := { program := "ytefmmnckhldnnaa", sum := "7405730b810237db5510755091f4cf4ee503ab607b46eddcd9cbc2555c7c38f0", func := "loop.example/stepstone/laws.FnImageOk", spec := "fnImageOk", apart := false, narrowed := true }
def FnImageOkUptoSaid : Prop := fnImageOkUptoRow.holds Try.pinned (OpenSpec.upto fnImageOkSpec)

/-- 'laws.FnExactMachOk', WHERE WHAT IT READS IS OF BULK AT MOST 1048576: true; the input reads as it did. -/
def fnExactMachOkUptoRow : OpenClaim := { program := "ytefmmnckhldnnaa", sum := "7405730b810237db5510755091f4cf4ee503ab607b46eddcd9cbc2555c7c38f0", func := "loop.example/stepstone/laws.FnExactMachOk", spec := "fnExactMachOk", unfollowed := true, recurses := true, apart := false, narrowed := true }
def FnExactMachOkUptoSaid : Prop := fnExactMachOkUptoRow.holds Try.pinned (OpenSpec.upto fnExactMachOkSpec)

/-- 'laws.FnExactImageOk', WHERE WHAT IT READS IS OF BULK AT MOST 1048576: true; the input reads as it did. -/
def fnExactImageOkUptoRow : OpenClaim := { program := "ytefmmnckhldnnaa", sum := "7405730b810237db5510755091f4cf4ee503ab607b46eddcd9cbc2555c7c38f0", func := "loop.example/stepstone/laws.FnExactImageOk", spec := "fnExactImageOk", apart := false, narrowed := true }
def FnExactImageOkUptoSaid : Prop := fnExactImageOkUptoRow.holds Try.pinned (OpenSpec.upto fnExactImageOkSpec)

/-- 'laws.FnExactImageSame', WHERE WHAT IT READS IS OF BULK AT MOST 1048576: true; the input reads as it did. -/
def fnExactImageSameUptoRow : OpenClaim := { program := "ytefmmnckhldnnaa", sum := "7405730b810237db5510755091f4cf4ee503ab607b46eddcd9cbc2555c7c38f0", func := "loop.example/stepstone/laws.FnExactImageSame", spec := "fnExactImageSame", apart := false, narrowed := true }
def FnExactImageSameUptoSaid : Prop := fnExactImageSameUptoRow.holds Try.pinned (OpenSpec.upto fnExactImageSameSpec)

/-- 'laws.FnExactCpuOk', WHERE WHAT IT READS IS OF BULK AT MOST 1048576: true; the input reads as it did. -/
def fnExactCpuOkUptoRow : OpenClaim := { program := "ytefmmnckhldnnaa", sum := "7405730b810237db5510755091f4cf4ee503ab607b46eddcd9cbc2555c7c38f0", func := "loop.example/stepstone/laws.FnExactCpuOk", spec := "fnExactCpuOk", apart := false, narrowed := true }
def FnExactCpuOkUptoSaid : Prop := fnExactCpuOkUptoRow.holds Try.pinned (OpenSpec.upto fnExactCpuOkSpec)

/-- 'laws.FnExactCpuSame', WHERE WHAT IT READS IS OF BULK AT MOST 1048576: true; the input reads as it did. -/
def fnExactCpuSameUptoRow : OpenClaim := { program := "ytefmmnckhldnnaa", sum := "7405730b810237db5510755091f4cf4ee503ab607b46eddcd9cbc2555c7c38f0", func := "loop.example/stepstone/laws.FnExactCpuSame", spec := "fnExactCpuSame", apart := false, narrowed := true }
def FnExactCpuSameUptoSaid : Prop := fnExactCpuSameUptoRow.holds Try.pinned (OpenSpec.upto fnExactCpuSameSpec)

/-- 'laws.FnExactCpuStep', WHERE WHAT IT READS IS OF BULK AT MOST 1048576: true; the input reads as it did. -/
def fnExactCpuStepUptoRow : OpenClaim := { program := "ytefmmnckhldnnaa", sum := "7405730b810237db5510755091f4cf4ee503ab607b46eddcd9cbc2555c7c38f0", func := "loop.example/stepstone/laws.FnExactCpuStep", spec := "fnExactCpuStep", apart := false, narrowed := true }
def FnExactCpuStepUptoSaid : Prop := fnExactCpuStepUptoRow.holds Try.pinned (OpenSpec.upto fnExactCpuStepSpec)

/-- 'laws.FnExactCpuRun', WHERE WHAT IT READS IS OF BULK AT MOST 1048576: true; the input reads as it did. -/
def fnExactCpuRunUptoRow : OpenClaim := { program := "ytefmmnckhldnnaa", sum := "7405730b810237db5510755091f4cf4ee503ab607b46eddcd9cbc2555c7c38f0", func := "loop.example/stepstone/laws.FnExactCpuRun", spec := "fnExactCpuRun", apart := false, narrowed := true }
def FnExactCpuRunUptoSaid : Prop := fnExactCpuRunUptoRow.holds Try.pinned (OpenSpec.upto fnExactCpuRunSpec)

end Rows
end Go.Proofs.Ytefmmnckhldnnaa
