/-
  No cell of these rows narrows 'for every input' (looked for: loops, veiled, ifaces, maps, wideKeys, modest, calm, conditions, laid).
  DERIVED. THE GIVEN ROWS OF THIS SEAT. 9 by the template 'for every input the law returns true; each argument reads behind the call as it read before'; 0 by the template 'total and deterministic' (their statements: YtjbhbkkkjdpamaaTotals.lean).
  GIVEN WITH THE SEED: the statements are not yours to turn. If you find one false, say at which input.
  Laid BY PROGRAM, IN A SANDBOX (cutbox-rows.mjs): the forced cells as the released guide's own fill.sh prints them over the translation 0180cdca522e927e… (all of the seat's roots in one cut). By AI agents, Wed Nov 11 2026. No macro, syntax, notation, axiom, sorry.
-/
import Derived.Test.YtjbhbkkkjdpamaaChecked
import GoSem.Claim
import GoSem.ClaimJoined
import GoSem.ClaimMapViews
import Derived.JoinedTies
import Derived.KernelRfl
namespace Go.Proofs.Ytjbhbkkkjdpamaa
/- THE CELL 'sum', in the pinned program and in every row, IS THE sha256 OF THE DUMP (.gsa) THAT YtjbhbkkkjdpamaaProg.lean LOADS. Nothing in Lean hashes anything: it is a label: what it is worth is what the hold of that sum in a sandbox is worth. -/
noncomputable def Try.pinned : Pinned := { name := "ytjbhbkkkjdpamaa", sum := "0180cdca522e927e4604f66ca01d5ad47593d76587e06d43005958c92bd97006", checked := Try.checked }
namespace Rows
def none {H : Type} : Left H := { results := [], args := [] }

/-- 'laws.FnExactMapAt': WHATEVER THE INPUT: true; the input reads as it did. -/
def fnExactMapAtSpec : ChangeSpec := { name := "fnExactMapAt", fn := fun _ => fun
  | [d1, d2, d3] => { results := [.lit (.bool true)], args := [d1, d2, d3] }
  | _ => none }
def fnExactMapAtRow : OpenClaim := { program := "ytjbhbkkkjdpamaa", sum := "0180cdca522e927e4604f66ca01d5ad47593d76587e06d43005958c92bd97006", func := "loop.example/stepstone/laws.FnExactMapAt", spec := "fnExactMapAt", unfollowed := true, recurses := true, apart := false }
def FnExactMapAtSaid : Prop := fnExactMapAtRow.holds Try.pinned (OpenSpec.ofChange fnExactMapAtSpec)

/-- ITS FALSE NEIGHBOUR: 'it returns false'. Refute it at one input. -/
def fnExactMapAtWrong : ChangeSpec := { name := "fnExactMapAt", fn := fun _ => fun
  | [d1, d2, d3] => { results := [.lit (.bool false)], args := [d1, d2, d3] }
  | _ => none }
def FnExactMapAtWrongFalsely : Prop := fnExactMapAtRow.holds Try.pinned (OpenSpec.ofChange fnExactMapAtWrong)

/-- 'laws.FnExactMapSpot': WHATEVER THE INPUT: true; the input reads as it did. -/
def fnExactMapSpotSpec : ChangeSpec := { name := "fnExactMapSpot", fn := fun _ => fun
  | [d1, d2, d3] => { results := [.lit (.bool true)], args := [d1, d2, d3] }
  | _ => none }
def fnExactMapSpotRow : OpenClaim := { program := "ytjbhbkkkjdpamaa", sum := "0180cdca522e927e4604f66ca01d5ad47593d76587e06d43005958c92bd97006", func := "loop.example/stepstone/laws.FnExactMapSpot", spec := "fnExactMapSpot", unfollowed := true, recurses := true, apart := false }
def FnExactMapSpotSaid : Prop := fnExactMapSpotRow.holds Try.pinned (OpenSpec.ofChange fnExactMapSpotSpec)

/-- ITS FALSE NEIGHBOUR: 'it returns false'. Refute it at one input. -/
def fnExactMapSpotWrong : ChangeSpec := { name := "fnExactMapSpot", fn := fun _ => fun
  | [d1, d2, d3] => { results := [.lit (.bool false)], args := [d1, d2, d3] }
  | _ => none }
def FnExactMapSpotWrongFalsely : Prop := fnExactMapSpotRow.holds Try.pinned (OpenSpec.ofChange fnExactMapSpotWrong)

/-- 'laws.FnMapAt': WHATEVER THE INPUT: true; the input reads as it did. -/
def fnMapAtSpec : ChangeSpec := { name := "fnMapAt", fn := fun _ => fun
  | [d] => { results := [.lit (.bool true)], args := [d] }
  | _ => none }
def fnMapAtRow : OpenClaim := { program := "ytjbhbkkkjdpamaa", sum := "0180cdca522e927e4604f66ca01d5ad47593d76587e06d43005958c92bd97006", func := "loop.example/stepstone/laws.FnMapAt", spec := "fnMapAt", unfollowed := true, recurses := true, apart := false }
def FnMapAtSaid : Prop := fnMapAtRow.holds Try.pinned (OpenSpec.ofChange fnMapAtSpec)

/-- ITS FALSE NEIGHBOUR: 'it returns false'. Refute it at one input. -/
def fnMapAtWrong : ChangeSpec := { name := "fnMapAt", fn := fun _ => fun
  | [d] => { results := [.lit (.bool false)], args := [d] }
  | _ => none }
def FnMapAtWrongFalsely : Prop := fnMapAtRow.holds Try.pinned (OpenSpec.ofChange fnMapAtWrong)

/-- 'laws.FnMapSpot': WHATEVER THE INPUT: true; the input reads as it did. -/
def fnMapSpotSpec : ChangeSpec := { name := "fnMapSpot", fn := fun _ => fun
  | [d] => { results := [.lit (.bool true)], args := [d] }
  | _ => none }
def fnMapSpotRow : OpenClaim := { program := "ytjbhbkkkjdpamaa", sum := "0180cdca522e927e4604f66ca01d5ad47593d76587e06d43005958c92bd97006", func := "loop.example/stepstone/laws.FnMapSpot", spec := "fnMapSpot", unfollowed := true, recurses := true, apart := false }
def FnMapSpotSaid : Prop := fnMapSpotRow.holds Try.pinned (OpenSpec.ofChange fnMapSpotSpec)

/-- ITS FALSE NEIGHBOUR: 'it returns false'. Refute it at one input. -/
def fnMapSpotWrong : ChangeSpec := { name := "fnMapSpot", fn := fun _ => fun
  | [d] => { results := [.lit (.bool false)], args := [d] }
  | _ => none }
def FnMapSpotWrongFalsely : Prop := fnMapSpotRow.holds Try.pinned (OpenSpec.ofChange fnMapSpotWrong)

/-- 'laws.FnExactCpuStep': WHATEVER THE INPUT: true; the input reads as it did. -/
def fnExactCpuStepSpec : ChangeSpec := { name := "fnExactCpuStep", fn := fun _ => fun
  | [d1, d2] => { results := [.lit (.bool true)], args := [d1, d2] }
  | _ => none }
def fnExactCpuStepRow : OpenClaim := { program := "ytjbhbkkkjdpamaa", sum := "0180cdca522e927e4604f66ca01d5ad47593d76587e06d43005958c92bd97006", func := "loop.example/stepstone/laws.FnExactCpuStep", spec := "fnExactCpuStep", apart := false }
def FnExactCpuStepSaid : Prop := fnExactCpuStepRow.holds Try.pinned (OpenSpec.ofChange fnExactCpuStepSpec)

/-- ITS FALSE NEIGHBOUR: 'it returns false'. Refute it at one input. -/
def fnExactCpuStepWrong : ChangeSpec := { name := "fnExactCpuStep", fn := fun _ => fun
  | [d1, d2] => { results := [.lit (.bool false)], args := [d1, d2] }
  | _ => none }
def FnExactCpuStepWrongFalsely : Prop := fnExactCpuStepRow.holds Try.pinned (OpenSpec.ofChange fnExactCpuStepWrong)

/-- 'laws.FnLayTo': WHATEVER THE INPUT: true; the input reads as it did. -/
def fnLayToSpec : ChangeSpec := { name := "fnLayTo", fn := fun _ => fun
  | [d] => { results := [.lit (.bool true)], args := [d] }
  | _ => none }
def fnLayToRow : OpenClaim := { program := "ytjbhbkkkjdpamaa", sum := "0180cdca522e927e4604f66ca01d5ad47593d76587e06d43005958c92bd97006", func := "loop.example/stepstone/laws.FnLayTo", spec := "fnLayTo", unfollowed := true, recurses := true, apart := false }
def FnLayToSaid : Prop := fnLayToRow.holds Try.pinned (OpenSpec.ofChange fnLayToSpec)

/-- ITS FALSE NEIGHBOUR: 'it returns false'. Refute it at one input. -/
def fnLayToWrong : ChangeSpec := { name := "fnLayTo", fn := fun _ => fun
  | [d] => { results := [.lit (.bool false)], args := [d] }
  | _ => none }
def FnLayToWrongFalsely : Prop := fnLayToRow.holds Try.pinned (OpenSpec.ofChange fnLayToWrong)

/-- 'laws.FnLayStone': WHATEVER THE INPUT: true; the input reads as it did. -/
def fnLayStoneSpec : ChangeSpec := { name := "fnLayStone", fn := fun _ => fun
  | [d] => { results := [.lit (.bool true)], args := [d] }
  | _ => none }
def fnLayStoneRow : OpenClaim := { program := "ytjbhbkkkjdpamaa", sum := "0180cdca522e927e4604f66ca01d5ad47593d76587e06d43005958c92bd97006", func := "loop.example/stepstone/laws.FnLayStone", spec := "fnLayStone", unfollowed := true, recurses := true, apart := false }
def FnLayStoneSaid : Prop := fnLayStoneRow.holds Try.pinned (OpenSpec.ofChange fnLayStoneSpec)

/-- ITS FALSE NEIGHBOUR: 'it returns false'. Refute it at one input. -/
def fnLayStoneWrong : ChangeSpec := { name := "fnLayStone", fn := fun _ => fun
  | [d] => { results := [.lit (.bool false)], args := [d] }
  | _ => none }
def FnLayStoneWrongFalsely : Prop := fnLayStoneRow.holds Try.pinned (OpenSpec.ofChange fnLayStoneWrong)

/-- 'laws.FnLayBent': WHATEVER THE INPUT: true; the input reads as it did. -/
def fnLayBentSpec : ChangeSpec := { name := "fnLayBent", fn := fun _ => fun
  | [d] => { results := [.lit (.bool true)], args := [d] }
  | _ => none }
def fnLayBentRow : OpenClaim := { program := "ytjbhbkkkjdpamaa", sum := "0180cdca522e927e4604f66ca01d5ad47593d76587e06d43005958c92bd97006", func := "loop.example/stepstone/laws.FnLayBent", spec := "fnLayBent", unfollowed := true, recurses := true, apart := false }
def FnLayBentSaid : Prop := fnLayBentRow.holds Try.pinned (OpenSpec.ofChange fnLayBentSpec)

/-- ITS FALSE NEIGHBOUR: 'it returns false'. Refute it at one input. -/
def fnLayBentWrong : ChangeSpec := { name := "fnLayBent", fn := fun _ => fun
  | [d] => { results := [.lit (.bool false)], args := [d] }
  | _ => none }
def FnLayBentWrongFalsely : Prop := fnLayBentRow.holds Try.pinned (OpenSpec.ofChange fnLayBentWrong)

/-- 'laws.FnImageOk': WHATEVER THE INPUT: true; the input reads as it did. -/
def fnImageOkSpec : ChangeSpec := { name := "fnImageOk", fn := fun _ => fun
  | [d] => { results := [.lit (.bool true)], args := [d] }
  | _ => none }
def fnImageOkRow : OpenClaim := { program := "ytjbhbkkkjdpamaa", sum := "0180cdca522e927e4604f66ca01d5ad47593d76587e06d43005958c92bd97006", func := "loop.example/stepstone/laws.FnImageOk", spec := "fnImageOk", apart := false }
def FnImageOkSaid : Prop := fnImageOkRow.holds Try.pinned (OpenSpec.ofChange fnImageOkSpec)

/-- ITS FALSE NEIGHBOUR: 'it returns false'. Refute it at one input. -/
def fnImageOkWrong : ChangeSpec := { name := "fnImageOk", fn := fun _ => fun
  | [d] => { results := [.lit (.bool false)], args := [d] }
  | _ => none }
def FnImageOkWrongFalsely : Prop := fnImageOkRow.holds Try.pinned (OpenSpec.ofChange fnImageOkWrong)

/- THE SECOND FORM. 'bulk': how many values and letters a reading holds, each counted each time it is reached (what is shared counts as often as it is met; a slice's spare places count too). A statement '..UptoSaid' is the law's where the arguments, and the package variables that the reading takes, are together of bulk at most 1048576: NARROWER than '..Said'. Prove '..Said' where nothing that the law and all that it calls make is longer than what came in: it says more and counts as full. Else prove '..UptoSaid'. A law counts once. -/
mutual
def uptoBulk {H : Type} : DataW H → Nat
  | .lit (.string bytes) => bytes.length + 1
  | .lit _ => 1
  | .nil => 1
  | .ptr d => uptoBulk d + 1
  | .slice elems spare => uptoBulkAll elems + uptoBulkAll spare + 1
  | .agg parts => uptoBulkAll parts + 1
  | .iface _ d => uptoBulk d + 1
  | .map entries => uptoBulkEntries entries + 1
  | .held _ => 1
def uptoBulkAll {H : Type} : List (DataW H) → Nat
  | [] => 0
  | d :: r => uptoBulk d + uptoBulkAll r
def uptoBulkEntries {H : Type} : List (Lit × DataW H) → Nat
  | [] => 0
  | x :: r => uptoBulkEntry x + uptoBulkEntries r
def uptoBulkEntry {H : Type} : Lit × DataW H → Nat
  | (.string bytes, d) => bytes.length + uptoBulk d + 1
  | (_, d) => uptoBulk d + 1
 end
def uptoSmall : (H : Type) → List (DataW H) → Bool := fun _ ds => decide (uptoBulkAll ds ≤ 1048576)
def OpenSpec.upto (s : _root_.Go.ChangeSpec) : _root_.Go.OpenSpec := { _root_.Go.OpenSpec.ofChange s with cond := some uptoSmall }

/-- 'laws.FnExactMapAt', WHERE WHAT IT READS IS OF BULK AT MOST 1048576: true; the input reads as it did. -/
def fnExactMapAtUptoRow : OpenClaim := { program := "ytjbhbkkkjdpamaa", sum := "0180cdca522e927e4604f66ca01d5ad47593d76587e06d43005958c92bd97006", func := "loop.example/stepstone/laws.FnExactMapAt", spec := "fnExactMapAt", unfollowed := true, recurses := true, apart := false, narrowed := true }
def FnExactMapAtUptoSaid : Prop := fnExactMapAtUptoRow.holds Try.pinned (OpenSpec.upto fnExactMapAtSpec)

/-- 'laws.FnExactMapSpot', WHERE WHAT IT READS IS OF BULK AT MOST 1048576: true; the input reads as it did. -/
def fnExactMapSpotUptoRow : OpenClaim := { program := "ytjbhbkkkjdpamaa", sum := "0180cdca522e927e4604f66ca01d5ad47593d76587e06d43005958c92bd97006", func := "loop.example/stepstone/laws.FnExactMapSpot", spec := "fnExactMapSpot", unfollowed := true, recurses := true, apart := false, narrowed := true }
def FnExactMapSpotUptoSaid : Prop := fnExactMapSpotUptoRow.holds Try.pinned (OpenSpec.upto fnExactMapSpotSpec)

/-- 'laws.FnMapAt', WHERE WHAT IT READS IS OF BULK AT MOST 1048576: true; the input reads as it did. -/
def fnMapAtUptoRow : OpenClaim := { program := "ytjbhbkkkjdpamaa", sum := "0180cdca522e927e4604f66ca01d5ad47593d76587e06d43005958c92bd97006", func := "loop.example/stepstone/laws.FnMapAt", spec := "fnMapAt", unfollowed := true, recurses := true, apart := false, narrowed := true }
def FnMapAtUptoSaid : Prop := fnMapAtUptoRow.holds Try.pinned (OpenSpec.upto fnMapAtSpec)

/-- 'laws.FnMapSpot', WHERE WHAT IT READS IS OF BULK AT MOST 1048576: true; the input reads as it did. -/
def fnMapSpotUptoRow : OpenClaim := { program := "ytjbhbkkkjdpamaa", sum := "0180cdca522e927e4604f66ca01d5ad47593d76587e06d43005958c92bd97006", func := "loop.example/stepstone/laws.FnMapSpot", spec := "fnMapSpot", unfollowed := true, recurses := true, apart := false, narrowed := true }
def FnMapSpotUptoSaid : Prop := fnMapSpotUptoRow.holds Try.pinned (OpenSpec.upto fnMapSpotSpec)

/-- 'laws.FnExactCpuStep', WHERE WHAT IT READS IS OF BULK AT MOST 1048576: true; the input reads as it did. -/
def fnExactCpuStepUptoRow : OpenClaim := { program := "ytjbhbkkkjdpamaa", sum := "0180cdca522e927e4604f66ca01d5ad47593d76587e06d43005958c92bd97006", func := "loop.example/stepstone/laws.FnExactCpuStep", spec := "fnExactCpuStep", apart := false, narrowed := true }
def FnExactCpuStepUptoSaid : Prop := fnExactCpuStepUptoRow.holds Try.pinned (OpenSpec.upto fnExactCpuStepSpec)

/-- 'laws.FnLayTo', WHERE WHAT IT READS IS OF BULK AT MOST 1048576: true; the input reads as it did. -/
def fnLayToUptoRow : OpenClaim := { program := "ytjbhbkkkjdpamaa", sum := "0180cdca522e927e4604f66ca01d5ad47593d76587e06d43005958c92bd97006", func := "loop.example/stepstone/laws.FnLayTo", spec := "fnLayTo", unfollowed := true, recurses := true, apart := false, narrowed := true }
def FnLayToUptoSaid : Prop := fnLayToUptoRow.holds Try.pinned (OpenSpec.upto fnLayToSpec)

/-- 'laws.FnLayStone', WHERE WHAT IT READS IS OF BULK AT MOST 1048576: true; the input reads as it did. -/
def fnLayStoneUptoRow : OpenClaim := { program := "ytjbhbkkkjdpamaa", sum := "0180cdca522e927e4604f66ca01d5ad47593d76587e06d43005958c92bd97006", func := "loop.example/stepstone/laws.FnLayStone", spec := "fnLayStone", unfollowed := true, recurses := true, apart := false, narrowed := true }
def FnLayStoneUptoSaid : Prop := fnLayStoneUptoRow.holds Try.pinned (OpenSpec.upto fnLayStoneSpec)

/-- 'laws.FnLayBent', WHERE WHAT IT READS IS OF BULK AT MOST 1048576: true; the input reads as it did. -/
def fnLayBentUptoRow : OpenClaim := { program := "ytjbhbkkkjdpamaa", sum := "0180cdca522e927e4604f66ca01d5ad47593d76587e06d43005958c92bd97006", func := "loop.example/stepstone/laws.FnLayBent", spec := "fnLayBent", unfollowed := true, recurses := true, apart := false, narrowed := true }
def FnLayBentUptoSaid : Prop := fnLayBentUptoRow.holds Try.pinned (OpenSpec.upto fnLayBentSpec)

/-- 'laws.FnImageOk', WHERE WHAT IT READS IS OF BULK AT MOST 1048576: true; the input reads as it did. -/
def fnImageOkUptoRow : OpenClaim := { program := "ytjbhbkkkjdpamaa", sum := "0180cdca522e927e4604f66ca01d5ad47593d76587e06d43005958c92bd97006", func := "loop.example/stepstone/laws.FnImageOk", spec := "fnImageOk", apart := false, narrowed := true }
def FnImageOkUptoSaid : Prop := fnImageOkUptoRow.holds Try.pinned (OpenSpec.upto fnImageOkSpec)

end Rows
end Go.Proofs.Ytjbhbkkkjdpamaa
