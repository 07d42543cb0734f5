/-
  No cell of these rows narrows 'for every input' (looked for: loops, veiled, ifaces, maps, wideKeys, modest, calm, conditions, laid).
  DERIVED. THE GIVEN ROWS OF THIS SEAT. 6 by the template 'for every input the law returns true; each argument reads behind the call as it read before'; 0 by the template 'total and deterministic' (their statements: YtdiaepjchcmelarTotals.lean).
  GIVEN WITH THE SEED: the statements are not yours to turn. If you find one false, say at which input.
  Laid BY PROGRAM, IN A SANDBOX (cutbox-rows.mjs): the forced cells as the released guide's own fill.sh prints them over the translation ee1d45e206a7a425… (all of the seat's roots in one cut). By AI agents, Wed Nov 11 2026. No macro, syntax, notation, axiom, sorry.
-/
import Derived.Test.YtdiaepjchcmelarChecked
import GoSem.Claim
import GoSem.ClaimJoined
import GoSem.ClaimMapViews
import Derived.JoinedTies
import Derived.KernelRfl
namespace Go.Proofs.Ytdiaepjchcmelar
/- THE CELL 'sum', in the pinned program and in every row, IS THE sha256 OF THE DUMP (.gsa) THAT YtdiaepjchcmelarProg.lean LOADS. Nothing in Lean hashes anything: it is a label: what it is worth is what the hold of that sum in a sandbox is worth. -/
noncomputable def Try.pinned : Pinned := { name := "ytdiaepjchcmelar", sum := "ee1d45e206a7a425067eb4a106ef351d9f68e37e9f1c3c6d09c57c460f1f04e8", checked := Try.checked }
namespace Rows
def none {H : Type} : Left H := { results := [], args := [] }

/-- 'laws.FnExactInsSum': WHATEVER THE INPUT: true; the input reads as it did. -/
def fnExactInsSumSpec : ChangeSpec := { name := "fnExactInsSum", fn := fun _ => fun
  | [d1, d2] => { results := [.lit (.bool true)], args := [d1, d2] }
  | _ => none }
def fnExactInsSumRow : OpenClaim := { program := "ytdiaepjchcmelar", sum := "ee1d45e206a7a425067eb4a106ef351d9f68e37e9f1c3c6d09c57c460f1f04e8", func := "loop.example/stepstone/laws.FnExactInsSum", spec := "fnExactInsSum", apart := false }
def FnExactInsSumSaid : Prop := fnExactInsSumRow.holds Try.pinned (OpenSpec.ofChange fnExactInsSumSpec)

/-- ITS FALSE NEIGHBOUR: 'it returns false'. Refute it at one input. -/
def fnExactInsSumWrong : ChangeSpec := { name := "fnExactInsSum", fn := fun _ => fun
  | [d1, d2] => { results := [.lit (.bool false)], args := [d1, d2] }
  | _ => none }
def FnExactInsSumWrongFalsely : Prop := fnExactInsSumRow.holds Try.pinned (OpenSpec.ofChange fnExactInsSumWrong)

/-- 'laws.FnExactFunOk': WHATEVER THE INPUT: true; the input reads as it did. -/
def fnExactFunOkSpec : ChangeSpec := { name := "fnExactFunOk", fn := fun _ => fun
  | [d] => { results := [.lit (.bool true)], args := [d] }
  | _ => none }
def fnExactFunOkRow : OpenClaim := { program := "ytdiaepjchcmelar", sum := "ee1d45e206a7a425067eb4a106ef351d9f68e37e9f1c3c6d09c57c460f1f04e8", func := "loop.example/stepstone/laws.FnExactFunOk", spec := "fnExactFunOk", apart := false }
def FnExactFunOkSaid : Prop := fnExactFunOkRow.holds Try.pinned (OpenSpec.ofChange fnExactFunOkSpec)

/-- ITS FALSE NEIGHBOUR: 'it returns false'. Refute it at one input. -/
def fnExactFunOkWrong : ChangeSpec := { name := "fnExactFunOk", fn := fun _ => fun
  | [d] => { results := [.lit (.bool false)], args := [d] }
  | _ => none }
def FnExactFunOkWrongFalsely : Prop := fnExactFunOkRow.holds Try.pinned (OpenSpec.ofChange fnExactFunOkWrong)

/-- 'laws.FnExactFunSame': WHATEVER THE INPUT: true; the input reads as it did. -/
def fnExactFunSameSpec : ChangeSpec := { name := "fnExactFunSame", fn := fun _ => fun
  | [d1, d2] => { results := [.lit (.bool true)], args := [d1, d2] }
  | _ => none }
def fnExactFunSameRow : OpenClaim := { program := "ytdiaepjchcmelar", sum := "ee1d45e206a7a425067eb4a106ef351d9f68e37e9f1c3c6d09c57c460f1f04e8", func := "loop.example/stepstone/laws.FnExactFunSame", spec := "fnExactFunSame", apart := false }
def FnExactFunSameSaid : Prop := fnExactFunSameRow.holds Try.pinned (OpenSpec.ofChange fnExactFunSameSpec)

/-- ITS FALSE NEIGHBOUR: 'it returns false'. Refute it at one input. -/
def fnExactFunSameWrong : ChangeSpec := { name := "fnExactFunSame", fn := fun _ => fun
  | [d1, d2] => { results := [.lit (.bool false)], args := [d1, d2] }
  | _ => none }
def FnExactFunSameWrongFalsely : Prop := fnExactFunSameRow.holds Try.pinned (OpenSpec.ofChange fnExactFunSameWrong)

/-- 'laws.FnExactFunRefs': WHATEVER THE INPUT: true; the input reads as it did. -/
def fnExactFunRefsSpec : ChangeSpec := { name := "fnExactFunRefs", fn := fun _ => fun
  | [d] => { results := [.lit (.bool true)], args := [d] }
  | _ => none }
def fnExactFunRefsRow : OpenClaim := { program := "ytdiaepjchcmelar", sum := "ee1d45e206a7a425067eb4a106ef351d9f68e37e9f1c3c6d09c57c460f1f04e8", func := "loop.example/stepstone/laws.FnExactFunRefs", spec := "fnExactFunRefs", apart := false }
def FnExactFunRefsSaid : Prop := fnExactFunRefsRow.holds Try.pinned (OpenSpec.ofChange fnExactFunRefsSpec)

/-- ITS FALSE NEIGHBOUR: 'it returns false'. Refute it at one input. -/
def fnExactFunRefsWrong : ChangeSpec := { name := "fnExactFunRefs", fn := fun _ => fun
  | [d] => { results := [.lit (.bool false)], args := [d] }
  | _ => none }
def FnExactFunRefsWrongFalsely : Prop := fnExactFunRefsRow.holds Try.pinned (OpenSpec.ofChange fnExactFunRefsWrong)

/-- 'laws.FnExactUnitOk': WHATEVER THE INPUT: true; the input reads as it did. -/
def fnExactUnitOkSpec : ChangeSpec := { name := "fnExactUnitOk", fn := fun _ => fun
  | [d] => { results := [.lit (.bool true)], args := [d] }
  | _ => none }
def fnExactUnitOkRow : OpenClaim := { program := "ytdiaepjchcmelar", sum := "ee1d45e206a7a425067eb4a106ef351d9f68e37e9f1c3c6d09c57c460f1f04e8", func := "loop.example/stepstone/laws.FnExactUnitOk", spec := "fnExactUnitOk", apart := false }
def FnExactUnitOkSaid : Prop := fnExactUnitOkRow.holds Try.pinned (OpenSpec.ofChange fnExactUnitOkSpec)

/-- ITS FALSE NEIGHBOUR: 'it returns false'. Refute it at one input. -/
def fnExactUnitOkWrong : ChangeSpec := { name := "fnExactUnitOk", fn := fun _ => fun
  | [d] => { results := [.lit (.bool false)], args := [d] }
  | _ => none }
def FnExactUnitOkWrongFalsely : Prop := fnExactUnitOkRow.holds Try.pinned (OpenSpec.ofChange fnExactUnitOkWrong)

/-- 'laws.FnExactUnitSame': WHATEVER THE INPUT: true; the input reads as it did. -/
def fnExactUnitSameSpec : ChangeSpec := { name := "fnExactUnitSame", fn := fun _ => fun
  | [d1, d2] => { results := [.lit (.bool true)], args := [d1, d2] }
  | _ => none }
def fnExactUnitSameRow : OpenClaim := { program := "ytdiaepjchcmelar", sum := "ee1d45e206a7a425067eb4a106ef351d9f68e37e9f1c3c6d09c57c460f1f04e8", func := "loop.example/stepstone/laws.FnExactUnitSame", spec := "fnExactUnitSame", unfollowed := true, recurses := true, apart := false }
def FnExactUnitSameSaid : Prop := fnExactUnitSameRow.holds Try.pinned (OpenSpec.ofChange fnExactUnitSameSpec)

/-- ITS FALSE NEIGHBOUR: 'it returns false'. Refute it at one input. -/
def fnExactUnitSameWrong : ChangeSpec := { name := "fnExactUnitSame", fn := fun _ => fun
  | [d1, d2] => { results := [.lit (.bool false)], args := [d1, d2] }
  | _ => none }
def FnExactUnitSameWrongFalsely : Prop := fnExactUnitSameRow.holds Try.pinned (OpenSpec.ofChange fnExactUnitSameWrong)

/- THE SECOND FORM. 'bulk': how many values and letters a reading holds, each counted each time it is reached (what is shared counts as often as it is met; a slice's spare places count too). A statement '..UptoSaid' is the law's where the arguments, and the package variables that the reading takes, are together of bulk at most 1048576: NARROWER than '..Said'. Prove '..Said' where nothing that the law and all that it calls make is longer than what came in: it says more and counts as full. Else prove '..UptoSaid'. A law counts once. -/
mutual
def uptoBulk {H : Type} : DataW H → Nat
  | .lit (.string bytes) => bytes.length + 1
  | .lit _ => 1
  | .nil => 1
  | .ptr d => uptoBulk d + 1
  | .slice elems spare => uptoBulkAll elems + uptoBulkAll spare + 1
  | .agg parts => uptoBulkAll parts + 1
  | .iface _ d => uptoBulk d + 1
  | .map entries => uptoBulkEntries entries + 1
  | .held _ => 1
def uptoBulkAll {H : Type} : List (DataW H) → Nat
  | [] => 0
  | d :: r => uptoBulk d + uptoBulkAll r
def uptoBulkEntries {H : Type} : List (Lit × DataW H) → Nat
  | [] => 0
  | x :: r => uptoBulkEntry x + uptoBulkEntries r
def uptoBulkEntry {H : Type} : Lit × DataW H → Nat
  | (.string bytes, d) => bytes.length + uptoBulk d + 1
  | (_, d) => uptoBulk d + 1
 end
def uptoSmall : (H : Type) → List (DataW H) → Bool := fun _ ds => decide (uptoBulkAll ds ≤ 1048576)
def OpenSpec.upto (s : _root_.Go.ChangeSpec) : _root_.Go.OpenSpec := { _root_.Go.OpenSpec.ofChange s with cond := some uptoSmall }

/-- 'laws.FnExactInsSum', WHERE WHAT IT READS IS OF BULK AT MOST 1048576: true; the input reads as it did. -/
def fnExactInsSumUptoRow : OpenClaim := { program := "ytdiaepjchcmelar", sum := "ee1d45e206a7a425067eb4a106ef351d9f68e37e9f1c3c6d09c57c460f1f04e8", func := "loop.example/stepstone/laws.FnExactInsSum", spec := "fnExactInsSum", apart := false, narrowed := true }
def FnExactInsSumUptoSaid : Prop := fnExactInsSumUptoRow.holds Try.pinned (OpenSpec.upto fnExactInsSumSpec)

/-- 'laws.FnExactFunOk', WHERE WHAT IT READS IS OF BULK AT MOST 1048576: true; the input reads as it did. -/
def fnExactFunOkUptoRow : OpenClaim := { program := "ytdiaepjchcmelar", sum := "ee1d45e206a7a425067eb4a106ef351d9f68e37e9f1c3c6d09c57c460f1f04e8", func := "loop.example/stepstone/laws.FnExactFunOk", spec := "fnExactFunOk", apart := false, narrowed := true }
def FnExactFunOkUptoSaid : Prop := fnExactFunOkUptoRow.holds Try.pinned (OpenSpec.upto fnExactFunOkSpec)

/-- 'laws.FnExactFunSame', WHERE WHAT IT READS IS OF BULK AT MOST 1048576: true; the input reads as it did. -/
def fnExactFunSameUptoRow : OpenClaim := { program := "ytdiaepjchcmelar", sum := "ee1d45e206a7a425067eb4a106ef351d9f68e37e9f1c3c6d09c57c460f1f04e8", func := "loop.example/stepstone/laws.FnExactFunSame", spec := "fnExactFunSame", apart := false, narrowed := true }
def FnExactFunSameUptoSaid : Prop := fnExactFunSameUptoRow.holds Try.pinned (OpenSpec.upto fnExactFunSameSpec)

/-- 'laws.FnExactFunRefs', WHERE WHAT IT READS IS OF BULK AT MOST 1048576: true; the input reads as it did. -/
def fnExactFunRefsUptoRow : OpenClaim := { program := "ytdiaepjchcmelar", sum := "ee1d45e206a7a425067eb4a106ef351d9f68e37e9f1c3c6d09c57c460f1f04e8", func := "loop.example/stepstone/laws.FnExactFunRefs", spec := "fnExactFunRefs", apart := false, narrowed := true }
def FnExactFunRefsUptoSaid : Prop := fnExactFunRefsUptoRow.holds Try.pinned (OpenSpec.upto fnExactFunRefsSpec)

/-- 'laws.FnExactUnitOk', WHERE WHAT IT READS IS OF BULK AT MOST 1048576: true; the input reads as it did. -/
def fnExactUnitOkUptoRow : OpenClaim := { program := "ytdiaepjchcmelar", sum := "ee1d45e206a7a425067eb4a106ef351d9f68e37e9f1c3c6d09c57c460f1f04e8", func := "loop.example/stepstone/laws.FnExactUnitOk", spec := "fnExactUnitOk", apart := false, narrowed := true }
def FnExactUnitOkUptoSaid : Prop := fnExactUnitOkUptoRow.holds Try.pinned (OpenSpec.upto fnExactUnitOkSpec)

/-- 'laws.FnExactUnitSame', WHERE WHAT IT READS IS OF BULK AT MOST 1048576: true; the input reads as it did. -/
def fnExactUnitSameUptoRow : OpenClaim := { program := "ytdiaepjchcmelar", sum := "ee1d45e206a7a425067eb4a106ef351d9f68e37e9f1c3c6d09c57c460f1f04e8", func := "loop.example/stepstone/laws.FnExactUnitSame", spec := "fnExactUnitSame", unfollowed := true, recurses := true, apart := false, narrowed := true }
def FnExactUnitSameUptoSaid : Prop := fnExactUnitSameUptoRow.holds Try.pinned (OpenSpec.upto fnExactUnitSameSpec)

end Rows
end Go.Proofs.Ytdiaepjchcmelar
