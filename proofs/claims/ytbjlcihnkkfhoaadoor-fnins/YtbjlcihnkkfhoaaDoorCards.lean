/-
  DERIVED. GIVEN WITH THE SEED: THE CARDS: each row of YtbjlcihnkkfhoaaDoorRows.lean that lists a variable, with what it lists TIED to the program's text (the seventh form; the later family's looks); each row that meets fmt, with fmt's text TOLD by the authors' own Lean function (tested against real Go, not proved from fmt's source: count such statements apart). THE CARD IS WHAT COUNTS. Prove the row's statement (the work); the ties are given (YtbjlcihnkkfhoaaDoorTie.lean); close each card by the builder's one call (the guide's Derived/Test/ToyasCard.lean, 'card_holds'). Laid BY PROGRAM, IN A SANDBOX (cutbox-door.mjs). By AI agents, Wed Nov 11 2026. No macro, syntax, notation, axiom, sorry.
-/
import Derived.Test.YtbjlcihnkkfhoaaDoorRows
import GoSem.ClaimSeven
namespace Go.Proofs.YtbjlcihnkkfhoaaDoor
namespace Rows

/-- THE TIED CARD OF 'laws.FnIns'. -/
def fnInsCard : Claim7 := { stood := { row := fnInsRow, standIns := [], harness := (true, "4afc605d22916f9d51857db53720ac0960a335a2f2d2dc79851d3e9bf42e0898"), looks := false }, kinds := [], alts := [], laidByText := true, laidKinds := [.data, .data, .data], laidTests := true, laidLooks := .later }
def FnInsCardSaid : Prop := Claim7.holds Tryd.pinned (.plain (OpenSpec.ofChange fnInsSpec)) fnInsCard

/-- THE TIED CARD OF 'laws.FnInsBent'. -/
def fnInsBentCard : Claim7 := { stood := { row := fnInsBentRow, standIns := [], harness := (true, "4afc605d22916f9d51857db53720ac0960a335a2f2d2dc79851d3e9bf42e0898"), looks := false }, kinds := [], alts := [], laidByText := true, laidKinds := [.data, .data, .data], laidTests := true, laidLooks := .later }
def FnInsBentCardSaid : Prop := Claim7.holds Tryd.pinned (.plain (OpenSpec.ofChange fnInsBentSpec)) fnInsBentCard

/-- THE SECOND FORM's CARD OF 'laws.FnIns'. -/
def fnInsUptoCard : Claim7 := { stood := { row := fnInsUptoRow, standIns := [], harness := (true, "4afc605d22916f9d51857db53720ac0960a335a2f2d2dc79851d3e9bf42e0898"), looks := false }, kinds := [], alts := [], laidByText := true, laidKinds := [.data, .data, .data], laidTests := true, laidLooks := .later }
def FnInsUptoCardSaid : Prop := Claim7.holds Tryd.pinned (.plain (OpenSpec.upto fnInsSpec)) fnInsUptoCard

/-- THE SECOND FORM's CARD OF 'laws.FnInsBent'. -/
def fnInsBentUptoCard : Claim7 := { stood := { row := fnInsBentUptoRow, standIns := [], harness := (true, "4afc605d22916f9d51857db53720ac0960a335a2f2d2dc79851d3e9bf42e0898"), looks := false }, kinds := [], alts := [], laidByText := true, laidKinds := [.data, .data, .data], laidTests := true, laidLooks := .later }
def FnInsBentUptoCardSaid : Prop := Claim7.holds Tryd.pinned (.plain (OpenSpec.upto fnInsBentSpec)) fnInsBentUptoCard
end Rows
end Go.Proofs.YtbjlcihnkkfhoaaDoor
