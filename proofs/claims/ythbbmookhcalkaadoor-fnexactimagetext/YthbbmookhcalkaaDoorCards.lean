/-
  DERIVED. GIVEN WITH THE SEED: THE CARDS: each row of YthbbmookhcalkaaDoorRows.lean that lists a variable, with what it lists TIED to the program's text (the seventh form; the later family's looks); each row that meets fmt, with fmt's text TOLD by the authors' own Lean function (tested against real Go, not proved from fmt's source: count such statements apart). THE CARD IS WHAT COUNTS. Prove the row's statement (the work); the ties are given (YthbbmookhcalkaaDoorTie.lean); close each card by the builder's one call (the guide's Derived/Test/ToyasCard.lean, 'card_holds'). Laid BY PROGRAM, IN A SANDBOX (cutbox-door.mjs). By AI agents, Wed Nov 11 2026. No macro, syntax, notation, axiom, sorry.
-/
import Derived.Test.YthbbmookhcalkaaDoorRows
import GoSem.ClaimSeven
namespace Go.Proofs.YthbbmookhcalkaaDoor
namespace Rows

/-- THE TIED CARD OF 'laws.FnExactFoldTwo'. -/
def fnExactFoldTwoCard : Claim7 := { stood := { row := fnExactFoldTwoRow, standIns := [], harness := (true, "1af9ccd41ee7990291a3520af02435ffb8bb39a87ed8e359986c99f1f6737410"), looks := false }, kinds := [], alts := [], laidByText := true, laidKinds := [.data, .data, .data], laidTests := true, laidLooks := .later }
def FnExactFoldTwoCardSaid : Prop := Claim7.holds Tryd.pinned (.plain (OpenSpec.ofChange fnExactFoldTwoSpec)) fnExactFoldTwoCard

/-- THE TIED CARD OF 'laws.FnExactUnitText'. -/
def fnExactUnitTextCard : Claim7 := { stood := { row := fnExactUnitTextRow, standIns := [], harness := (true, "1af9ccd41ee7990291a3520af02435ffb8bb39a87ed8e359986c99f1f6737410"), looks := false }, kinds := [], alts := [], laidByText := true, laidKinds := [.data, .data, .data], laidTests := true, laidLooks := .later }
def FnExactUnitTextCardSaid : Prop := Claim7.holds Tryd.pinned (.plain (OpenSpec.ofChange fnExactUnitTextSpec)) fnExactUnitTextCard

/-- THE TIED CARD OF 'laws.FnExactImageText'. -/
def fnExactImageTextCard : Claim7 := { stood := { row := fnExactImageTextRow, standIns := [], harness := (true, "1af9ccd41ee7990291a3520af02435ffb8bb39a87ed8e359986c99f1f6737410"), looks := false }, kinds := [], alts := [], laidByText := true, laidKinds := [.data, .data, .data], laidTests := true, laidLooks := .later }
def FnExactImageTextCardSaid : Prop := Claim7.holds Tryd.pinned (.plain (OpenSpec.ofChange fnExactImageTextSpec)) fnExactImageTextCard

/-- THE SECOND FORM's CARD OF 'laws.FnExactFoldTwo'. -/
def fnExactFoldTwoUptoCard : Claim7 := { stood := { row := fnExactFoldTwoUptoRow, standIns := [], harness := (true, "1af9ccd41ee7990291a3520af02435ffb8bb39a87ed8e359986c99f1f6737410"), looks := false }, kinds := [], alts := [], laidByText := true, laidKinds := [.data, .data, .data], laidTests := true, laidLooks := .later }
def FnExactFoldTwoUptoCardSaid : Prop := Claim7.holds Tryd.pinned (.plain (OpenSpec.upto fnExactFoldTwoSpec)) fnExactFoldTwoUptoCard

/-- THE SECOND FORM's CARD OF 'laws.FnExactUnitText'. -/
def fnExactUnitTextUptoCard : Claim7 := { stood := { row := fnExactUnitTextUptoRow, standIns := [], harness := (true, "1af9ccd41ee7990291a3520af02435ffb8bb39a87ed8e359986c99f1f6737410"), looks := false }, kinds := [], alts := [], laidByText := true, laidKinds := [.data, .data, .data], laidTests := true, laidLooks := .later }
def FnExactUnitTextUptoCardSaid : Prop := Claim7.holds Tryd.pinned (.plain (OpenSpec.upto fnExactUnitTextSpec)) fnExactUnitTextUptoCard

/-- THE SECOND FORM's CARD OF 'laws.FnExactImageText'. -/
def fnExactImageTextUptoCard : Claim7 := { stood := { row := fnExactImageTextUptoRow, standIns := [], harness := (true, "1af9ccd41ee7990291a3520af02435ffb8bb39a87ed8e359986c99f1f6737410"), looks := false }, kinds := [], alts := [], laidByText := true, laidKinds := [.data, .data, .data], laidTests := true, laidLooks := .later }
def FnExactImageTextUptoCardSaid : Prop := Claim7.holds Tryd.pinned (.plain (OpenSpec.upto fnExactImageTextSpec)) fnExactImageTextUptoCard
end Rows
end Go.Proofs.YthbbmookhcalkaaDoor
