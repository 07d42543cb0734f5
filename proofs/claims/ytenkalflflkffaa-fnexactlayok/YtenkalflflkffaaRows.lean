/-
  No cell of these rows narrows 'for every input' (looked for: loops, veiled, ifaces, maps, wideKeys, modest, calm, conditions, laid).
  DERIVED. THE GIVEN ROWS OF THIS SEAT. 9 by the template 'for every input the law returns true; each argument reads behind the call as it read before'; 0 by the template 'total and deterministic' (their statements: YtenkalflflkffaaTotals.lean).
  GIVEN WITH THE SEED: the statements are not yours to turn. If you find one false, say at which input.
  Laid BY PROGRAM, IN A SANDBOX (cutbox-rows.mjs): the forced cells as the released guide's own fill.sh prints them over the translation 81e1959045a076ae… (all of the seat's roots in one cut). By AI agents, Wed Nov 11 2026. No macro, syntax, notation, axiom, sorry.
-/
import Derived.Test.YtenkalflflkffaaChecked
import GoSem.Claim
import GoSem.ClaimJoined
import GoSem.ClaimMapViews
import Derived.JoinedTies
import Derived.KernelRfl
namespace Go.Proofs.Ytenkalflflkffaa
/- THE CELL 'sum', in the pinned program and in every row, IS THE sha256 OF THE DUMP (.gsa) THAT YtenkalflflkffaaProg.lean LOADS. Nothing in Lean hashes anything: it is a label: what it is worth is what the hold of that sum in a sandbox is worth. -/
noncomputable def Try.pinned : Pinned := { name := "ytenkalflflkffaa", sum := "81e1959045a076aec92832a37b34493716fa83952e9e8d2a8cbf90396569a95e", checked := Try.checked }
namespace Rows
def none {H : Type} : Left H := { results := [], args := [] }

/-- 'laws.FnLayTo': WHATEVER THE INPUT: true; the input reads as it did. -/
def fnLayToSpec : ChangeSpec := { name := "fnLayTo", fn := fun _ => fun
  | [d] => { results := [.lit (.bool true)], args := [d] }
  | _ => none }
def fnLayToRow : OpenClaim := { program := "ytenkalflflkffaa", sum := "81e1959045a076aec92832a37b34493716fa83952e9e8d2a8cbf90396569a95e", func := "loop.example/stepstone/laws.FnLayTo", spec := "fnLayTo", unfollowed := true, recurses := true, apart := false }
def FnLayToSaid : Prop := fnLayToRow.holds Try.pinned (OpenSpec.ofChange fnLayToSpec)

/-- ITS FALSE NEIGHBOUR: 'it returns false'. Refute it at one input. -/
def fnLayToWrong : ChangeSpec := { name := "fnLayTo", fn := fun _ => fun
  | [d] => { results := [.lit (.bool false)], args := [d] }
  | _ => none }
def FnLayToWrongFalsely : Prop := fnLayToRow.holds Try.pinned (OpenSpec.ofChange fnLayToWrong)

/-- 'laws.FnLayStone': WHATEVER THE INPUT: true; the input reads as it did. -/
def fnLayStoneSpec : ChangeSpec := { name := "fnLayStone", fn := fun _ => fun
  | [d] => { results := [.lit (.bool true)], args := [d] }
  | _ => none }
def fnLayStoneRow : OpenClaim := { program := "ytenkalflflkffaa", sum := "81e1959045a076aec92832a37b34493716fa83952e9e8d2a8cbf90396569a95e", func := "loop.example/stepstone/laws.FnLayStone", spec := "fnLayStone", unfollowed := true, recurses := true, apart := false }
def FnLayStoneSaid : Prop := fnLayStoneRow.holds Try.pinned (OpenSpec.ofChange fnLayStoneSpec)

/-- ITS FALSE NEIGHBOUR: 'it returns false'. Refute it at one input. -/
def fnLayStoneWrong : ChangeSpec := { name := "fnLayStone", fn := fun _ => fun
  | [d] => { results := [.lit (.bool false)], args := [d] }
  | _ => none }
def FnLayStoneWrongFalsely : Prop := fnLayStoneRow.holds Try.pinned (OpenSpec.ofChange fnLayStoneWrong)

/-- 'laws.FnLayBent': WHATEVER THE INPUT: true; the input reads as it did. -/
def fnLayBentSpec : ChangeSpec := { name := "fnLayBent", fn := fun _ => fun
  | [d] => { results := [.lit (.bool true)], args := [d] }
  | _ => none }
def fnLayBentRow : OpenClaim := { program := "ytenkalflflkffaa", sum := "81e1959045a076aec92832a37b34493716fa83952e9e8d2a8cbf90396569a95e", func := "loop.example/stepstone/laws.FnLayBent", spec := "fnLayBent", unfollowed := true, recurses := true, apart := false }
def FnLayBentSaid : Prop := fnLayBentRow.holds Try.pinned (OpenSpec.ofChange fnLayBentSpec)

/-- ITS FALSE NEIGHBOUR: 'it returns false'. Refute it at one input. -/
def fnLayBentWrong : ChangeSpec := { name := "fnLayBent", fn := fun _ => fun
  | [d] => { results := [.lit (.bool false)], args := [d] }
  | _ => none }
def FnLayBentWrongFalsely : Prop := fnLayBentRow.holds Try.pinned (OpenSpec.ofChange fnLayBentWrong)

/-- 'laws.FnExactLayOk': WHATEVER THE INPUT: true; the input reads as it did. -/
def fnExactLayOkSpec : ChangeSpec := { name := "fnExactLayOk", fn := fun _ => fun
  | [d1, d2, d3] => { results := [.lit (.bool true)], args := [d1, d2, d3] }
  | _ => none }
def fnExactLayOkRow : OpenClaim := { program := "ytenkalflflkffaa", sum := "81e1959045a076aec92832a37b34493716fa83952e9e8d2a8cbf90396569a95e", func := "loop.example/stepstone/laws.FnExactLayOk", spec := "fnExactLayOk", unfollowed := true, recurses := true, apart := false }
def FnExactLayOkSaid : Prop := fnExactLayOkRow.holds Try.pinned (OpenSpec.ofChange fnExactLayOkSpec)

/-- ITS FALSE NEIGHBOUR: 'it returns false'. Refute it at one input. -/
def fnExactLayOkWrong : ChangeSpec := { name := "fnExactLayOk", fn := fun _ => fun
  | [d1, d2, d3] => { results := [.lit (.bool false)], args := [d1, d2, d3] }
  | _ => none }
def FnExactLayOkWrongFalsely : Prop := fnExactLayOkRow.holds Try.pinned (OpenSpec.ofChange fnExactLayOkWrong)

/-- 'laws.FnExactLaySame': WHATEVER THE INPUT: true; the input reads as it did. -/
def fnExactLaySameSpec : ChangeSpec := { name := "fnExactLaySame", fn := fun _ => fun
  | [d1, d2] => { results := [.lit (.bool true)], args := [d1, d2] }
  | _ => none }
def fnExactLaySameRow : OpenClaim := { program := "ytenkalflflkffaa", sum := "81e1959045a076aec92832a37b34493716fa83952e9e8d2a8cbf90396569a95e", func := "loop.example/stepstone/laws.FnExactLaySame", spec := "fnExactLaySame", unfollowed := true, recurses := true, apart := false }
def FnExactLaySameSaid : Prop := fnExactLaySameRow.holds Try.pinned (OpenSpec.ofChange fnExactLaySameSpec)

/-- ITS FALSE NEIGHBOUR: 'it returns false'. Refute it at one input. -/
def fnExactLaySameWrong : ChangeSpec := { name := "fnExactLaySame", fn := fun _ => fun
  | [d1, d2] => { results := [.lit (.bool false)], args := [d1, d2] }
  | _ => none }
def FnExactLaySameWrongFalsely : Prop := fnExactLaySameRow.holds Try.pinned (OpenSpec.ofChange fnExactLaySameWrong)

/-- 'laws.FnExactLaySize': WHATEVER THE INPUT: true; the input reads as it did. -/
def fnExactLaySizeSpec : ChangeSpec := { name := "fnExactLaySize", fn := fun _ => fun
  | [d1, d2] => { results := [.lit (.bool true)], args := [d1, d2] }
  | _ => none }
def fnExactLaySizeRow : OpenClaim := { program := "ytenkalflflkffaa", sum := "81e1959045a076aec92832a37b34493716fa83952e9e8d2a8cbf90396569a95e", func := "loop.example/stepstone/laws.FnExactLaySize", spec := "fnExactLaySize", unfollowed := true, recurses := true, apart := false }
def FnExactLaySizeSaid : Prop := fnExactLaySizeRow.holds Try.pinned (OpenSpec.ofChange fnExactLaySizeSpec)

/-- ITS FALSE NEIGHBOUR: 'it returns false'. Refute it at one input. -/
def fnExactLaySizeWrong : ChangeSpec := { name := "fnExactLaySize", fn := fun _ => fun
  | [d1, d2] => { results := [.lit (.bool false)], args := [d1, d2] }
  | _ => none }
def FnExactLaySizeWrongFalsely : Prop := fnExactLaySizeRow.holds Try.pinned (OpenSpec.ofChange fnExactLaySizeWrong)

/-- 'laws.FnExactLayStone': WHATEVER THE INPUT: true; the input reads as it did. -/
def fnExactLayStoneSpec : ChangeSpec := { name := "fnExactLayStone", fn := fun _ => fun
  | [d1, d2, d3, d4] => { results := [.lit (.bool true)], args := [d1, d2, d3, d4] }
  | _ => none }
def fnExactLayStoneRow : OpenClaim := { program := "ytenkalflflkffaa", sum := "81e1959045a076aec92832a37b34493716fa83952e9e8d2a8cbf90396569a95e", func := "loop.example/stepstone/laws.FnExactLayStone", spec := "fnExactLayStone", unfollowed := true, recurses := true, apart := false }
def FnExactLayStoneSaid : Prop := fnExactLayStoneRow.holds Try.pinned (OpenSpec.ofChange fnExactLayStoneSpec)

/-- ITS FALSE NEIGHBOUR: 'it returns false'. Refute it at one input. -/
def fnExactLayStoneWrong : ChangeSpec := { name := "fnExactLayStone", fn := fun _ => fun
  | [d1, d2, d3, d4] => { results := [.lit (.bool false)], args := [d1, d2, d3, d4] }
  | _ => none }
def FnExactLayStoneWrongFalsely : Prop := fnExactLayStoneRow.holds Try.pinned (OpenSpec.ofChange fnExactLayStoneWrong)

/-- 'laws.FnExactLayTo': WHATEVER THE INPUT: true; the input reads as it did. -/
def fnExactLayToSpec : ChangeSpec := { name := "fnExactLayTo", fn := fun _ => fun
  | [d1, d2, d3, d4, d5] => { results := [.lit (.bool true)], args := [d1, d2, d3, d4, d5] }
  | _ => none }
def fnExactLayToRow : OpenClaim := { program := "ytenkalflflkffaa", sum := "81e1959045a076aec92832a37b34493716fa83952e9e8d2a8cbf90396569a95e", func := "loop.example/stepstone/laws.FnExactLayTo", spec := "fnExactLayTo", unfollowed := true, recurses := true, apart := false }
def FnExactLayToSaid : Prop := fnExactLayToRow.holds Try.pinned (OpenSpec.ofChange fnExactLayToSpec)

/-- ITS FALSE NEIGHBOUR: 'it returns false'. Refute it at one input. -/
def fnExactLayToWrong : ChangeSpec := { name := "fnExactLayTo", fn := fun _ => fun
  | [d1, d2, d3, d4, d5] => { results := [.lit (.bool false)], args := [d1, d2, d3, d4, d5] }
  | _ => none }
def FnExactLayToWrongFalsely : Prop := fnExactLayToRow.holds Try.pinned (OpenSpec.ofChange fnExactLayToWrong)

/-- 'laws.FnExactLayMany': WHATEVER THE INPUT: true; the input reads as it did. -/
def fnExactLayManySpec : ChangeSpec := { name := "fnExactLayMany", fn := fun _ => fun
  | [d] => { results := [.lit (.bool true)], args := [d] }
  | _ => none }
def fnExactLayManyRow : OpenClaim := { program := "ytenkalflflkffaa", sum := "81e1959045a076aec92832a37b34493716fa83952e9e8d2a8cbf90396569a95e", func := "loop.example/stepstone/laws.FnExactLayMany", spec := "fnExactLayMany", apart := false }
def FnExactLayManySaid : Prop := fnExactLayManyRow.holds Try.pinned (OpenSpec.ofChange fnExactLayManySpec)

/-- ITS FALSE NEIGHBOUR: 'it returns false'. Refute it at one input. -/
def fnExactLayManyWrong : ChangeSpec := { name := "fnExactLayMany", fn := fun _ => fun
  | [d] => { results := [.lit (.bool false)], args := [d] }
  | _ => none }
def FnExactLayManyWrongFalsely : Prop := fnExactLayManyRow.holds Try.pinned (OpenSpec.ofChange fnExactLayManyWrong)

/- THE SECOND FORM. 'bulk': how many values and letters a reading holds, each counted each time it is reached (what is shared counts as often as it is met; a slice's spare places count too). A statement '..UptoSaid' is the law's where the arguments, and the package variables that the reading takes, are together of bulk at most 1048576: NARROWER than '..Said'. Prove '..Said' where nothing that the law and all that it calls make is longer than what came in: it says more and counts as full. Else prove '..UptoSaid'. A law counts once. -/
mutual
def uptoBulk {H : Type} : DataW H → Nat
  | .lit (.string bytes) => bytes.length + 1
  | .lit _ => 1
  | .nil => 1
  | .ptr d => uptoBulk d + 1
  | .slice elems spare => uptoBulkAll elems + uptoBulkAll spare + 1
  | .agg parts => uptoBulkAll parts + 1
  | .iface _ d => uptoBulk d + 1
  | .map entries => uptoBulkEntries entries + 1
  | .held _ => 1
def uptoBulkAll {H : Type} : List (DataW H) → Nat
  | [] => 0
  | d :: r => uptoBulk d + uptoBulkAll r
def uptoBulkEntries {H : Type} : List (Lit × DataW H) → Nat
  | [] => 0
  | x :: r => uptoBulkEntry x + uptoBulkEntries r
def uptoBulkEntry {H : Type} : Lit × DataW H → Nat
  | (.string bytes, d) => bytes.length + uptoBulk d + 1
  | (_, d) => uptoBulk d + 1
 end
def uptoSmall : (H : Type) → List (DataW H) → Bool := fun _ ds => decide (uptoBulkAll ds ≤ 1048576)
def OpenSpec.upto (s : _root_.Go.ChangeSpec) : _root_.Go.OpenSpec := { _root_.Go.OpenSpec.ofChange s with cond := some uptoSmall }

/-- 'laws.FnLayTo', WHERE WHAT IT READS IS OF BULK AT MOST 1048576: true; the input reads as it did. -/
def fnLayToUptoRow : OpenClaim := { program := "ytenkalflflkffaa", sum := "81e1959045a076aec92832a37b34493716fa83952e9e8d2a8cbf90396569a95e", func := "loop.example/stepstone/laws.FnLayTo", spec := "fnLayTo", unfollowed := true, recurses := true, apart := false, narrowed := true }
def FnLayToUptoSaid : Prop := fnLayToUptoRow.holds Try.pinned (OpenSpec.upto fnLayToSpec)

/-- 'laws.FnLayStone', WHERE WHAT IT READS IS OF BULK AT MOST 1048576: true; the input reads as it did. -/
def fnLayStoneUptoRow : OpenClaim := { program := "ytenkalflflkffaa", sum := "81e1959045a076aec92832a37b34493716fa83952e9e8d2a8cbf90396569a95e", func := "loop.example/stepstone/laws.FnLayStone", spec := "fnLayStone", unfollowed := true, recurses := true, apart := false, narrowed := true }
def FnLayStoneUptoSaid : Prop := fnLayStoneUptoRow.holds Try.pinned (OpenSpec.upto fnLayStoneSpec)

/-- 'laws.FnLayBent', WHERE WHAT IT READS IS OF BULK AT MOST 1048576: true; the input reads as it did. -/
def fnLayBentUptoRow : OpenClaim := { program := "ytenkalflflkffaa", sum := "81e1959045a076aec92832a37b34493716fa83952e9e8d2a8cbf90396569a95e", func := "loop.example/stepstone/laws.FnLayBent", spec := "fnLayBent", unfollowed := true, recurses := true, apart := false, narrowed := true }
def FnLayBentUptoSaid : Prop := fnLayBentUptoRow.holds Try.pinned (OpenSpec.upto fnLayBentSpec)

/-- 'laws.FnExactLayOk', WHERE WHAT IT READS IS OF BULK AT MOST 1048576: true; the input reads as it did. -/
def fnExactLayOkUptoRow : OpenClaim := { program := "ytenkalflflkffaa", sum := "81e1959045a076aec92832a37b34493716fa83952e9e8d2a8cbf90396569a95e", func := "loop.example/stepstone/laws.FnExactLayOk", spec := "fnExactLayOk", unfollowed := true, recurses := true, apart := false, narrowed := true }
def FnExactLayOkUptoSaid : Prop := fnExactLayOkUptoRow.holds Try.pinned (OpenSpec.upto fnExactLayOkSpec)

/-- 'laws.FnExactLaySame', WHERE WHAT IT READS IS OF BULK AT MOST 1048576: true; the input reads as it did. -/
def fnExactLaySameUptoRow : OpenClaim := { program := "ytenkalflflkffaa", sum := "81e1959045a076aec92832a37b34493716fa83952e9e8d2a8cbf90396569a95e", func := "loop.example/stepstone/laws.FnExactLaySame", spec := "fnExactLaySame", unfollowed := true, recurses := true, apart := false, narrowed := true }
def FnExactLaySameUptoSaid : Prop := fnExactLaySameUptoRow.holds Try.pinned (OpenSpec.upto fnExactLaySameSpec)

/-- 'laws.FnExactLaySize', WHERE WHAT IT READS IS OF BULK AT MOST 1048576: true; the input reads as it did. -/
def fnExactLaySizeUptoRow : OpenClaim := { program := "ytenkalflflkffaa", sum := "81e1959045a076aec92832a37b34493716fa83952e9e8d2a8cbf90396569a95e", func := "loop.example/stepstone/laws.FnExactLaySize", spec := "fnExactLaySize", unfollowed := true, recurses := true, apart := false, narrowed := true }
def FnExactLaySizeUptoSaid : Prop := fnExactLaySizeUptoRow.holds Try.pinned (OpenSpec.upto fnExactLaySizeSpec)

/-- 'laws.FnExactLayStone', WHERE WHAT IT READS IS OF BULK AT MOST 1048576: true; the input reads as it did. -/
def fnExactLayStoneUptoRow : OpenClaim := { program := "ytenkalflflkffaa", sum := "81e1959045a076aec92832a37b34493716fa83952e9e8d2a8cbf90396569a95e", func := "loop.example/stepstone/laws.FnExactLayStone", spec := "fnExactLayStone", unfollowed := true, recurses := true, apart := false, narrowed := true }
def FnExactLayStoneUptoSaid : Prop := fnExactLayStoneUptoRow.holds Try.pinned (OpenSpec.upto fnExactLayStoneSpec)

/-- 'laws.FnExactLayTo', WHERE WHAT IT READS IS OF BULK AT MOST 1048576: true; the input reads as it did. -/
def fnExactLayToUptoRow : OpenClaim := { program := "ytenkalflflkffaa", sum := "81e1959045a076aec92832a37b34493716fa83952e9e8d2a8cbf90396569a95e", func := "loop.example/stepstone/laws.FnExactLayTo", spec := "fnExactLayTo", unfollowed := true, recurses := true, apart := false, narrowed := true }
def FnExactLayToUptoSaid : Prop := fnExactLayToUptoRow.holds Try.pinned (OpenSpec.upto fnExactLayToSpec)

/-- 'laws.FnExactLayMany', WHERE WHAT IT READS IS OF BULK AT MOST 1048576: true; the input reads as it did. -/
def fnExactLayManyUptoRow : OpenClaim := { program := "ytenkalflflkffaa", sum := "81e1959045a076aec92832a37b34493716fa83952e9e8d2a8cbf90396569a95e", func := "loop.example/stepstone/laws.FnExactLayMany", spec := "fnExactLayMany", apart := false, narrowed := true }
def FnExactLayManyUptoSaid : Prop := fnExactLayManyUptoRow.holds Try.pinned (OpenSpec.upto fnExactLayManySpec)

end Rows
end Go.Proofs.Ytenkalflflkffaa
