/-
  No cell of these rows narrows 'for every input' (looked for: loops, veiled, ifaces, maps, wideKeys, modest, calm, conditions, laid).
  DERIVED. THE GIVEN ROWS OF THIS SEAT. 5 by the template 'for every input the law returns true; each argument reads behind the call as it read before'; 0 by the template 'total and deterministic' (their statements: YtnmgeaonhbhbkaaTotals.lean).
  GIVEN WITH THE SEED: the statements are not yours to turn. If you find one false, say at which input.
  Laid BY PROGRAM, IN A SANDBOX (cutbox-rows.mjs): the forced cells as the released guide's own fill.sh prints them over the translation e118eac42e39740e… (all of the seat's roots in one cut). By AI agents, Wed Nov 11 2026. No macro, syntax, notation, axiom, sorry.
-/
import Derived.Test.YtnmgeaonhbhbkaaChecked
import GoSem.Claim
import GoSem.ClaimJoined
import GoSem.ClaimMapViews
import Derived.JoinedTies
import Derived.KernelRfl
namespace Go.Proofs.Ytnmgeaonhbhbkaa
/- THE CELL 'sum', in the pinned program and in every row, IS THE sha256 OF THE DUMP (.gsa) THAT YtnmgeaonhbhbkaaProg.lean LOADS. Nothing in Lean hashes anything: it is a label: what it is worth is what the hold of that sum in a sandbox is worth. -/
noncomputable def Try.pinned : Pinned := { name := "ytnmgeaonhbhbkaa", sum := "e118eac42e39740e16c6c4e8e26ca93d178deee2f638091453d78a51773f6eca", checked := Try.checked }
namespace Rows
def none {H : Type} : Left H := { results := [], args := [] }

/-- 'laws.FnKeepBent': WHATEVER THE INPUT: true; the input reads as it did. -/
def fnKeepBentSpec : ChangeSpec := { name := "fnKeepBent", fn := fun _ => fun
  | [d] => { results := [.lit (.bool true)], args := [d] }
  | _ => none }
def fnKeepBentRow : OpenClaim := { program := "ytnmgeaonhbhbkaa", sum := "e118eac42e39740e16c6c4e8e26ca93d178deee2f638091453d78a51773f6eca", func := "loop.example/stepstone/laws.FnKeepBent", spec := "fnKeepBent", unfollowed := true, recurses := true, apart := false }
def FnKeepBentSaid : Prop := fnKeepBentRow.holds Try.pinned (OpenSpec.ofChange fnKeepBentSpec)

/-- ITS FALSE NEIGHBOUR: 'it returns false'. Refute it at one input. -/
def fnKeepBentWrong : ChangeSpec := { name := "fnKeepBent", fn := fun _ => fun
  | [d] => { results := [.lit (.bool false)], args := [d] }
  | _ => none }
def FnKeepBentWrongFalsely : Prop := fnKeepBentRow.holds Try.pinned (OpenSpec.ofChange fnKeepBentWrong)

/-- 'laws.FnGraphBy': WHATEVER THE INPUT: true; the input reads as it did. -/
def fnGraphBySpec : ChangeSpec := { name := "fnGraphBy", fn := fun _ => fun
  | [d] => { results := [.lit (.bool true)], args := [d] }
  | _ => none }
def fnGraphByRow : OpenClaim := { program := "ytnmgeaonhbhbkaa", sum := "e118eac42e39740e16c6c4e8e26ca93d178deee2f638091453d78a51773f6eca", func := "loop.example/stepstone/laws.FnGraphBy", spec := "fnGraphBy", unfollowed := true, recurses := true, apart := false }
def FnGraphBySaid : Prop := fnGraphByRow.holds Try.pinned (OpenSpec.ofChange fnGraphBySpec)

/-- ITS FALSE NEIGHBOUR: 'it returns false'. Refute it at one input. -/
def fnGraphByWrong : ChangeSpec := { name := "fnGraphBy", fn := fun _ => fun
  | [d] => { results := [.lit (.bool false)], args := [d] }
  | _ => none }
def FnGraphByWrongFalsely : Prop := fnGraphByRow.holds Try.pinned (OpenSpec.ofChange fnGraphByWrong)

/-- 'laws.FnGraphBack': WHATEVER THE INPUT: true; the input reads as it did. -/
def fnGraphBackSpec : ChangeSpec := { name := "fnGraphBack", fn := fun _ => fun
  | [d] => { results := [.lit (.bool true)], args := [d] }
  | _ => none }
def fnGraphBackRow : OpenClaim := { program := "ytnmgeaonhbhbkaa", sum := "e118eac42e39740e16c6c4e8e26ca93d178deee2f638091453d78a51773f6eca", func := "loop.example/stepstone/laws.FnGraphBack", spec := "fnGraphBack", unfollowed := true, recurses := true, apart := false }
def FnGraphBackSaid : Prop := fnGraphBackRow.holds Try.pinned (OpenSpec.ofChange fnGraphBackSpec)

/-- ITS FALSE NEIGHBOUR: 'it returns false'. Refute it at one input. -/
def fnGraphBackWrong : ChangeSpec := { name := "fnGraphBack", fn := fun _ => fun
  | [d] => { results := [.lit (.bool false)], args := [d] }
  | _ => none }
def FnGraphBackWrongFalsely : Prop := fnGraphBackRow.holds Try.pinned (OpenSpec.ofChange fnGraphBackWrong)

/-- 'laws.FnGraphOnly': WHATEVER THE INPUT: true; the input reads as it did. -/
def fnGraphOnlySpec : ChangeSpec := { name := "fnGraphOnly", fn := fun _ => fun
  | [d] => { results := [.lit (.bool true)], args := [d] }
  | _ => none }
def fnGraphOnlyRow : OpenClaim := { program := "ytnmgeaonhbhbkaa", sum := "e118eac42e39740e16c6c4e8e26ca93d178deee2f638091453d78a51773f6eca", func := "loop.example/stepstone/laws.FnGraphOnly", spec := "fnGraphOnly", unfollowed := true, recurses := true, apart := false }
def FnGraphOnlySaid : Prop := fnGraphOnlyRow.holds Try.pinned (OpenSpec.ofChange fnGraphOnlySpec)

/-- ITS FALSE NEIGHBOUR: 'it returns false'. Refute it at one input. -/
def fnGraphOnlyWrong : ChangeSpec := { name := "fnGraphOnly", fn := fun _ => fun
  | [d] => { results := [.lit (.bool false)], args := [d] }
  | _ => none }
def FnGraphOnlyWrongFalsely : Prop := fnGraphOnlyRow.holds Try.pinned (OpenSpec.ofChange fnGraphOnlyWrong)

/-- 'laws.FnGraphLeaf': WHATEVER THE INPUT: true; the input reads as it did. -/
def fnGraphLeafSpec : ChangeSpec := { name := "fnGraphLeaf", fn := fun _ => fun
  | [d] => { results := [.lit (.bool true)], args := [d] }
  | _ => none }
def fnGraphLeafRow : OpenClaim := { program := "ytnmgeaonhbhbkaa", sum := "e118eac42e39740e16c6c4e8e26ca93d178deee2f638091453d78a51773f6eca", func := "loop.example/stepstone/laws.FnGraphLeaf", spec := "fnGraphLeaf", unfollowed := true, recurses := true, apart := false }
def FnGraphLeafSaid : Prop := fnGraphLeafRow.holds Try.pinned (OpenSpec.ofChange fnGraphLeafSpec)

/-- ITS FALSE NEIGHBOUR: 'it returns false'. Refute it at one input. -/
def fnGraphLeafWrong : ChangeSpec := { name := "fnGraphLeaf", fn := fun _ => fun
  | [d] => { results := [.lit (.bool false)], args := [d] }
  | _ => none }
def FnGraphLeafWrongFalsely : Prop := fnGraphLeafRow.holds Try.pinned (OpenSpec.ofChange fnGraphLeafWrong)

/- THE SECOND FORM. 'bulk': how many values and letters a reading holds, each counted each time it is reached (what is shared counts as often as it is met; a slice's spare places count too). A statement '..UptoSaid' is the law's where the arguments, and the package variables that the reading takes, are together of bulk at most 1048576: NARROWER than '..Said'. Prove '..Said' where nothing that the law and all that it calls make is longer than what came in: it says more and counts as full. Else prove '..UptoSaid'. A law counts once. -/
mutual
def uptoBulk {H : Type} : DataW H → Nat
  | .lit (.string bytes) => bytes.length + 1
  | .lit _ => 1
  | .nil => 1
  | .ptr d => uptoBulk d + 1
  | .slice elems spare => uptoBulkAll elems + uptoBulkAll spare + 1
  | .agg parts => uptoBulkAll parts + 1
  | .iface _ d => uptoBulk d + 1
  | .map entries => uptoBulkEntries entries + 1
  | .held _ => 1
def uptoBulkAll {H : Type} : List (DataW H) → Nat
  | [] => 0
  | d :: r => uptoBulk d + uptoBulkAll r
def uptoBulkEntries {H : Type} : List (Lit × DataW H) → Nat
  | [] => 0
  | x :: r => uptoBulkEntry x + uptoBulkEntries r
def uptoBulkEntry {H : Type} : Lit × DataW H → Nat
  | (.string bytes, d) => bytes.length + uptoBulk d + 1
  | (_, d) => uptoBulk d + 1
 end
def uptoSmall : (H : Type) → List (DataW H) → Bool := fun _ ds => decide (uptoBulkAll ds ≤ 1048576)
def OpenSpec.upto (s : _root_.Go.ChangeSpec) : _root_.Go.OpenSpec := { _root_.Go.OpenSpec.ofChange s with cond := some uptoSmall }

/-- 'laws.FnKeepBent', WHERE WHAT IT READS IS OF BULK AT MOST 1048576: true; the input reads as it did. -/
def fnKeepBentUptoRow : OpenClaim := { program := "ytnmgeaonhbhbkaa", sum := "e118eac42e39740e16c6c4e8e26ca93d178deee2f638091453d78a51773f6eca", func := "loop.example/stepstone/laws.FnKeepBent", spec := "fnKeepBent", unfollowed := true, recurses := true, apart := false, narrowed := true }
def FnKeepBentUptoSaid : Prop := fnKeepBentUptoRow.holds Try.pinned (OpenSpec.upto fnKeepBentSpec)

/-- 'laws.FnGraphBy', WHERE WHAT IT READS IS OF BULK AT MOST 1048576: true; the input reads as it did. -/
def fnGraphByUptoRow : OpenClaim := { program := "ytnmgeaonhbhbkaa", sum := "e118eac42e39740e16c6c4e8e26ca93d178deee2f638091453d78a51773f6eca", func := "loop.example/stepstone/laws.FnGraphBy", spec := "fnGraphBy", unfollowed := true, recurses := true, apart := false, narrowed := true }
def FnGraphByUptoSaid : Prop := fnGraphByUptoRow.holds Try.pinned (OpenSpec.upto fnGraphBySpec)

/-- 'laws.FnGraphBack', WHERE WHAT IT READS IS OF BULK AT MOST 1048576: true; the input reads as it did. -/
def fnGraphBackUptoRow : OpenClaim := { program := "ytnmgeaonhbhbkaa", sum := "e118eac42e39740e16c6c4e8e26ca93d178deee2f638091453d78a51773f6eca", func := "loop.example/stepstone/laws.FnGraphBack", spec := "fnGraphBack", unfollowed := true, recurses := true, apart := false, narrowed := true }
def FnGraphBackUptoSaid : Prop := fnGraphBackUptoRow.holds Try.pinned (OpenSpec.upto fnGraphBackSpec)

/-- 'laws.FnGraphOnly', WHERE WHAT IT READS IS OF BULK AT MOST 1048576: true; the input reads as it did. -/
def fnGraphOnlyUptoRow : OpenClaim := { program := "ytnmgeaonhbhbkaa", sum := "e118eac42e39740e16c6c4e8e26ca93d178deee2f638091453d78a51773f6eca", func := "loop.example/stepstone/laws.FnGraphOnly", spec := "fnGraphOnly", unfollowed := true, recurses := true, apart := false, narrowed := true }
def FnGraphOnlyUptoSaid : Prop := fnGraphOnlyUptoRow.holds Try.pinned (OpenSpec.upto fnGraphOnlySpec)

/-- 'laws.FnGraphLeaf', WHERE WHAT IT READS IS OF BULK AT MOST 1048576: true; the input reads as it did. -/
def fnGraphLeafUptoRow : OpenClaim := { program := "ytnmgeaonhbhbkaa", sum := "e118eac42e39740e16c6c4e8e26ca93d178deee2f638091453d78a51773f6eca", func := "loop.example/stepstone/laws.FnGraphLeaf", spec := "fnGraphLeaf", unfollowed := true, recurses := true, apart := false, narrowed := true }
def FnGraphLeafUptoSaid : Prop := fnGraphLeafUptoRow.holds Try.pinned (OpenSpec.upto fnGraphLeafSpec)

end Rows
end Go.Proofs.Ytnmgeaonhbhbkaa
