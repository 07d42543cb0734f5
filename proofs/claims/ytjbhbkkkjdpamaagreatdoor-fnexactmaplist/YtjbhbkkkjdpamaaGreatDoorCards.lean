/-
  DERIVED. GIVEN WITH THE SEED: THE CARDS: each row of YtjbhbkkkjdpamaaGreatDoorRows.lean that lists a variable, with what it lists TIED to the program's text (the seventh form; the later family's looks); each row that meets fmt, with fmt's text TOLD by the authors' own Lean function (tested against real Go, not proved from fmt's source: count such statements apart). THE CARD IS WHAT COUNTS. Prove the row's statement (the work); the ties are given (YtjbhbkkkjdpamaaGreatDoorTie.lean); close each card by the builder's one call (the guide's Derived/Test/ToyasCard.lean, 'card_holds'). Laid BY PROGRAM, IN A SANDBOX (cutbox-door.mjs). By AI agents, Wed Nov 11 2026. No macro, syntax, notation, axiom, sorry.
-/
import Derived.Test.YtjbhbkkkjdpamaaGreatDoorRows
import GoSem.ClaimSeven
namespace Go.Proofs.YtjbhbkkkjdpamaaGreatDoor
namespace Rows

/-- THE TIED CARD OF 'laws.FnExactMapName'. -/
def fnExactMapNameCard : Claim7 := { stood := { row := fnExactMapNameRow, standIns := [], harness := (true, "b0ecc3a9d245fbae8975519315d16543252ebf5ff4fa3ff2e0524e0a945b0ecb"), looks := false }, kinds := [], alts := [], laidByText := true, laidKinds := [.data, .data, .data], laidTests := true, laidLooks := .later }
def FnExactMapNameCardSaid : Prop := Claim7.holds Tryz.pinned (.plain (OpenSpec.ofChange fnExactMapNameSpec)) fnExactMapNameCard

/-- THE TIED CARD OF 'laws.FnExactMapList'. -/
def fnExactMapListCard : Claim7 := { stood := { row := fnExactMapListRow, standIns := [], harness := (true, "b0ecc3a9d245fbae8975519315d16543252ebf5ff4fa3ff2e0524e0a945b0ecb"), looks := false }, kinds := [], alts := [], laidByText := true, laidKinds := [.data, .data, .data], laidTests := true, laidLooks := .later }
def FnExactMapListCardSaid : Prop := Claim7.holds Tryz.pinned (.plain (OpenSpec.ofChange fnExactMapListSpec)) fnExactMapListCard

/-- THE TIED CARD OF 'laws.FnMapAll'. -/
def fnMapAllCard : Claim7 := { stood := { row := fnMapAllRow, standIns := [], harness := (true, "b0ecc3a9d245fbae8975519315d16543252ebf5ff4fa3ff2e0524e0a945b0ecb"), looks := false }, kinds := [], alts := [], laidByText := true, laidKinds := [.data, .data, .data], laidTests := true, laidLooks := .later }
def FnMapAllCardSaid : Prop := Claim7.holds Tryz.pinned (.plain (OpenSpec.ofChange fnMapAllSpec)) fnMapAllCard

/-- THE SECOND FORM's CARD OF 'laws.FnExactMapName'. -/
def fnExactMapNameUptoCard : Claim7 := { stood := { row := fnExactMapNameUptoRow, standIns := [], harness := (true, "b0ecc3a9d245fbae8975519315d16543252ebf5ff4fa3ff2e0524e0a945b0ecb"), looks := false }, kinds := [], alts := [], laidByText := true, laidKinds := [.data, .data, .data], laidTests := true, laidLooks := .later }
def FnExactMapNameUptoCardSaid : Prop := Claim7.holds Tryz.pinned (.plain (OpenSpec.upto fnExactMapNameSpec)) fnExactMapNameUptoCard

/-- THE SECOND FORM's CARD OF 'laws.FnExactMapList'. -/
def fnExactMapListUptoCard : Claim7 := { stood := { row := fnExactMapListUptoRow, standIns := [], harness := (true, "b0ecc3a9d245fbae8975519315d16543252ebf5ff4fa3ff2e0524e0a945b0ecb"), looks := false }, kinds := [], alts := [], laidByText := true, laidKinds := [.data, .data, .data], laidTests := true, laidLooks := .later }
def FnExactMapListUptoCardSaid : Prop := Claim7.holds Tryz.pinned (.plain (OpenSpec.upto fnExactMapListSpec)) fnExactMapListUptoCard

/-- THE SECOND FORM's CARD OF 'laws.FnMapAll'. -/
def fnMapAllUptoCard : Claim7 := { stood := { row := fnMapAllUptoRow, standIns := [], harness := (true, "b0ecc3a9d245fbae8975519315d16543252ebf5ff4fa3ff2e0524e0a945b0ecb"), looks := false }, kinds := [], alts := [], laidByText := true, laidKinds := [.data, .data, .data], laidTests := true, laidLooks := .later }
def FnMapAllUptoCardSaid : Prop := Claim7.holds Tryz.pinned (.plain (OpenSpec.upto fnMapAllSpec)) fnMapAllUptoCard
end Rows
end Go.Proofs.YtjbhbkkkjdpamaaGreatDoor
