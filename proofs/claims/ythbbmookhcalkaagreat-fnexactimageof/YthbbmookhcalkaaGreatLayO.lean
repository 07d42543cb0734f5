/- The contracts of the program's LaySize and LayStone. -/
import Derived.Test.YthbbmookhcalkaaGreatLayM
namespace Go.Proofs.YthbbmookhcalkaaGreat.LayO
open Go.ChangeShapes Go.WideShapes Go.ChangeAt Go.RowKit Go.Joins Go.WideMaps Go.Maps Go.Deep
open Go.Proofs.YthbbmookhcalkaaGreat.Base Go.Proofs.YthbbmookhcalkaaGreat.InsA Go.Proofs.YthbbmookhcalkaaGreat.Funs Go.Proofs.YthbbmookhcalkaaGreat.Open Go.Proofs.YthbbmookhcalkaaGreat.Keep Go.Proofs.YthbbmookhcalkaaGreat.UnitS Go.Proofs.YthbbmookhcalkaaGreat.UnitM Go.Proofs.YthbbmookhcalkaaGreat.Refs Go.Proofs.YthbbmookhcalkaaGreat.LayN Go.Proofs.YthbbmookhcalkaaGreat.LayA Go.Proofs.YthbbmookhcalkaaGreat.KeepD Go.Proofs.YthbbmookhcalkaaGreat.KeepA Go.Proofs.YthbbmookhcalkaaGreat.LayD Go.Proofs.YthbbmookhcalkaaGreat.LayS Go.Proofs.YthbbmookhcalkaaGreat.LayT Go.Proofs.YthbbmookhcalkaaGreat.LayG Go.Proofs.YthbbmookhcalkaaGreat.LayH Go.Proofs.YthbbmookhcalkaaGreat.LayJ Go.Proofs.YthbbmookhcalkaaGreat.LayK Go.Proofs.YthbbmookhcalkaaGreat.LayV Go.Proofs.YthbbmookhcalkaaGreat.LayM
set_option linter.unusedVariables false
set_option maxRecDepth 100000

theorem tup_eq {a b : Value} {c : Bool} (h : a = b) : Ending.returned (.tuple #[a, .bool c]) = .returned (.tuple #[b, .bool c]) := by rw [h]
/-- The two ways in which groundAsLaid ends. -/
theorem ground_ways {w w' : World} {fs : List FunD} {ns : List Int} {st : List (List ByteArray)} {e : Ending} (h : GroundEnd w fs ns st e w') : Below w.heap.size w w' ∧ ((formB fs ns st = false ∧ e = .returned (.tuple #[.agg #[.slice none 0 0, .map none, .map none, .int .i64 0], .bool false])) ∨ (formB fs ns st = true ∧ ∃ na nc G B1 B2, e = .returned (.tuple #[.agg #[.slice na fs.length nc, .map (some B1), .map (some B2), .int .i64 (place fs st fs.length : Nat)], .bool true]) ∧ GS w w' G B1 B2 fs.length fs.length (stonesTo fs st fs.length) (place fs st fs.length) na nc fs st)) := by
  obtain ⟨v, rfl, hg, hb⟩ := h
  refine ⟨hb, ?_⟩
  rcases hg with ⟨h1, rfl⟩ | ⟨h1, na, nc, G, B1, B2, rfl, hg⟩
  · exact .inl ⟨h1, by rw [h1]; rfl⟩
  · exact .inr ⟨h1, na, nc, G, B1, B2, by rw [h1]; rfl, hg⟩
end Go.Proofs.YthbbmookhcalkaaGreat.LayO
