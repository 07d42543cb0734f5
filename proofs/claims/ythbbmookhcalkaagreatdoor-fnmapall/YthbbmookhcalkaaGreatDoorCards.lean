/-
  DERIVED. GIVEN WITH THE SEED: THE CARDS: each row of YthbbmookhcalkaaGreatDoorRows.lean that lists a variable, with what it lists TIED to the program's text (the seventh form; the later family's looks); each row that meets fmt, with fmt's text TOLD by the authors' own Lean function (tested against real Go, not proved from fmt's source: count such statements apart). THE CARD IS WHAT COUNTS. Prove the row's statement (the work); the ties are given (YthbbmookhcalkaaGreatDoorTie.lean); close each card by the builder's one call (the guide's Derived/Test/ToyasCard.lean, 'card_holds'). Laid BY PROGRAM, IN A SANDBOX (cutbox-door.mjs). By AI agents, Wed Nov 11 2026. No macro, syntax, notation, axiom, sorry.
-/
import Derived.Test.YthbbmookhcalkaaGreatDoorRows
import GoSem.ClaimSeven
namespace Go.Proofs.YthbbmookhcalkaaGreatDoor
namespace Rows

/-- THE TIED CARD OF 'laws.FnFoldNew'. -/
def fnFoldNewCard : Claim7 := { stood := { row := fnFoldNewRow, standIns := [], harness := (true, "fc8d3014333b242f06ac6dc40fa6a60af1d16a71b965edeb077e08166d9b832b"), looks := false }, kinds := [], alts := [], laidByText := true, laidKinds := [.data, .data, .data], laidTests := true, laidLooks := .later }
def FnFoldNewCardSaid : Prop := Claim7.holds Tryz.pinned (.plain (OpenSpec.ofChange fnFoldNewSpec)) fnFoldNewCard

/-- THE TIED CARD OF 'laws.FnExactFoldOne'. -/
def fnExactFoldOneCard : Claim7 := { stood := { row := fnExactFoldOneRow, standIns := [], harness := (true, "fc8d3014333b242f06ac6dc40fa6a60af1d16a71b965edeb077e08166d9b832b"), looks := false }, kinds := [], alts := [], laidByText := true, laidKinds := [.data, .data, .data], laidTests := true, laidLooks := .later }
def FnExactFoldOneCardSaid : Prop := Claim7.holds Tryz.pinned (.plain (OpenSpec.ofChange fnExactFoldOneSpec)) fnExactFoldOneCard

/-- THE TIED CARD OF 'laws.FnExactFoldAll'. -/
def fnExactFoldAllCard : Claim7 := { stood := { row := fnExactFoldAllRow, standIns := [], harness := (true, "fc8d3014333b242f06ac6dc40fa6a60af1d16a71b965edeb077e08166d9b832b"), looks := false }, kinds := [], alts := [], laidByText := true, laidKinds := [.data, .data, .data], laidTests := true, laidLooks := .later }
def FnExactFoldAllCardSaid : Prop := Claim7.holds Tryz.pinned (.plain (OpenSpec.ofChange fnExactFoldAllSpec)) fnExactFoldAllCard

/-- THE TIED CARD OF 'laws.FnMapAll'. -/
def fnMapAllCard : Claim7 := { stood := { row := fnMapAllRow, standIns := [], harness := (true, "fc8d3014333b242f06ac6dc40fa6a60af1d16a71b965edeb077e08166d9b832b"), looks := false }, kinds := [], alts := [], laidByText := true, laidKinds := [.data, .data, .data], laidTests := true, laidLooks := .later }
def FnMapAllCardSaid : Prop := Claim7.holds Tryz.pinned (.plain (OpenSpec.ofChange fnMapAllSpec)) fnMapAllCard

/-- THE SECOND FORM's CARD OF 'laws.FnFoldNew'. -/
def fnFoldNewUptoCard : Claim7 := { stood := { row := fnFoldNewUptoRow, standIns := [], harness := (true, "fc8d3014333b242f06ac6dc40fa6a60af1d16a71b965edeb077e08166d9b832b"), looks := false }, kinds := [], alts := [], laidByText := true, laidKinds := [.data, .data, .data], laidTests := true, laidLooks := .later }
def FnFoldNewUptoCardSaid : Prop := Claim7.holds Tryz.pinned (.plain (OpenSpec.upto fnFoldNewSpec)) fnFoldNewUptoCard

/-- THE SECOND FORM's CARD OF 'laws.FnExactFoldOne'. -/
def fnExactFoldOneUptoCard : Claim7 := { stood := { row := fnExactFoldOneUptoRow, standIns := [], harness := (true, "fc8d3014333b242f06ac6dc40fa6a60af1d16a71b965edeb077e08166d9b832b"), looks := false }, kinds := [], alts := [], laidByText := true, laidKinds := [.data, .data, .data], laidTests := true, laidLooks := .later }
def FnExactFoldOneUptoCardSaid : Prop := Claim7.holds Tryz.pinned (.plain (OpenSpec.upto fnExactFoldOneSpec)) fnExactFoldOneUptoCard

/-- THE SECOND FORM's CARD OF 'laws.FnExactFoldAll'. -/
def fnExactFoldAllUptoCard : Claim7 := { stood := { row := fnExactFoldAllUptoRow, standIns := [], harness := (true, "fc8d3014333b242f06ac6dc40fa6a60af1d16a71b965edeb077e08166d9b832b"), looks := false }, kinds := [], alts := [], laidByText := true, laidKinds := [.data, .data, .data], laidTests := true, laidLooks := .later }
def FnExactFoldAllUptoCardSaid : Prop := Claim7.holds Tryz.pinned (.plain (OpenSpec.upto fnExactFoldAllSpec)) fnExactFoldAllUptoCard

/-- THE SECOND FORM's CARD OF 'laws.FnMapAll'. -/
def fnMapAllUptoCard : Claim7 := { stood := { row := fnMapAllUptoRow, standIns := [], harness := (true, "fc8d3014333b242f06ac6dc40fa6a60af1d16a71b965edeb077e08166d9b832b"), looks := false }, kinds := [], alts := [], laidByText := true, laidKinds := [.data, .data, .data], laidTests := true, laidLooks := .later }
def FnMapAllUptoCardSaid : Prop := Claim7.holds Tryz.pinned (.plain (OpenSpec.upto fnMapAllSpec)) fnMapAllUptoCard
end Rows
end Go.Proofs.YthbbmookhcalkaaGreatDoor
