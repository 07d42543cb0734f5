/- The contracts of the program's LaySize and LayStone. -/
import Derived.Test.YtjbhbkkkjdpamaaGreatDoorLayM
namespace Go.Proofs.YtjbhbkkkjdpamaaGreatDoor.LayO
open Go.ChangeShapes Go.WideShapes Go.ChangeAt Go.RowKit Go.Joins Go.WideMaps Go.Maps Go.Deep
open Go.Proofs.YtjbhbkkkjdpamaaGreatDoor.Base Go.Proofs.YtjbhbkkkjdpamaaGreatDoor.InsA Go.Proofs.YtjbhbkkkjdpamaaGreatDoor.Funs Go.Proofs.YtjbhbkkkjdpamaaGreatDoor.Open Go.Proofs.YtjbhbkkkjdpamaaGreatDoor.Keep Go.Proofs.YtjbhbkkkjdpamaaGreatDoor.UnitS Go.Proofs.YtjbhbkkkjdpamaaGreatDoor.UnitM Go.Proofs.YtjbhbkkkjdpamaaGreatDoor.Refs Go.Proofs.YtjbhbkkkjdpamaaGreatDoor.LayN Go.Proofs.YtjbhbkkkjdpamaaGreatDoor.LayA Go.Proofs.YtjbhbkkkjdpamaaGreatDoor.KeepD Go.Proofs.YtjbhbkkkjdpamaaGreatDoor.KeepA Go.Proofs.YtjbhbkkkjdpamaaGreatDoor.LayD Go.Proofs.YtjbhbkkkjdpamaaGreatDoor.LayS Go.Proofs.YtjbhbkkkjdpamaaGreatDoor.LayT Go.Proofs.YtjbhbkkkjdpamaaGreatDoor.LayG Go.Proofs.YtjbhbkkkjdpamaaGreatDoor.LayH Go.Proofs.YtjbhbkkkjdpamaaGreatDoor.LayJ Go.Proofs.YtjbhbkkkjdpamaaGreatDoor.LayK Go.Proofs.YtjbhbkkkjdpamaaGreatDoor.LayV Go.Proofs.YtjbhbkkkjdpamaaGreatDoor.LayM
set_option linter.unusedVariables false
set_option maxRecDepth 100000

theorem tup_eq {a b : Value} {c : Bool} (h : a = b) : Ending.returned (.tuple #[a, .bool c]) = .returned (.tuple #[b, .bool c]) := by rw [h]
/-- The two ways in which groundAsLaid ends. -/
theorem ground_ways {w w' : World} {fs : List FunD} {ns : List Int} {st : List (List ByteArray)} {e : Ending} (h : GroundEnd w fs ns st e w') : Below w.heap.size w w' ∧ ((formB fs ns st = false ∧ e = .returned (.tuple #[.agg #[.slice none 0 0, .map none, .map none, .int .i64 0], .bool false])) ∨ (formB fs ns st = true ∧ ∃ na nc G B1 B2, e = .returned (.tuple #[.agg #[.slice na fs.length nc, .map (some B1), .map (some B2), .int .i64 (place fs st fs.length : Nat)], .bool true]) ∧ GS w w' G B1 B2 fs.length fs.length (stonesTo fs st fs.length) (place fs st fs.length) na nc fs st)) := by
  obtain ⟨v, rfl, hg, hb⟩ := h
  refine ⟨hb, ?_⟩
  rcases hg with ⟨h1, rfl⟩ | ⟨h1, na, nc, G, B1, B2, rfl, hg⟩
  · exact .inl ⟨h1, by rw [h1]; rfl⟩
  · exact .inr ⟨h1, na, nc, G, B1, B2, by rw [h1]; rfl, hg⟩
set_option maxHeartbeats 4000000 in
theorem implLaySize_any (a : Option Addr) (cap : Nat) (fs : List FunD) (na sa : Option Addr) (nc sc : Nat) (ns : List Int) (st : List (List ByteArray)) (w : World) (hcap : fs.length ≤ cap) (hcm : cap ≤ maxLen) (h1 : ns.length ≤ nc) (h2 : nc ≤ maxLen) (h3 : st.length ≤ sc) (h4 : sc ≤ maxLen) (hft : FewT st) (hR : FunRow w a fs) (hs : NumRow w na ns) (ho : TextsRow w sa st) :
    Calls Tryz.prog 17 #[.slice a fs.length cap, .agg #[.slice na ns.length nc, .slice sa st.length sc]] w fun e w' => e = .returned (.int .i64 (sizeI fs ns st)) ∧ Below w.heap.size w w' := by
  have HR := hide hR
  have HS := hide hs
  have HO := hide ho
  have hB0 := below_alloc1 w (.cells #[.slice na ns.length nc, .slice sa st.length sc] 32)
  clear hR hs ho
  go_enter Tryz.func17, Tryz.ntmps17
  go_wp2_with fail
  refine (groundAsLaid_any _ _ _ _ _ _ fs ns st _ hcap hcm h1 h2 h3 h4 hft ((unhide HR).below hB0) ((unhide HS).below hB0) ((unhide HO).below hB0)).mono ?_
  rintro e w1 hge
  obtain ⟨hb1, ⟨hf, rfl⟩ | ⟨hf, na', nc', G, B1, B2, rfl, hG⟩⟩ := ground_ways hge
  · have HE := hide (size_no hf)
    have hB1 := bl_trans hB0 hb1
    clear hge
    go_wp2_with fail
    go_ret
    exact ⟨ret_int (unhide HE).symm, bl_alloc hB1 _⟩
  · have HE := hide (size_yes hf)
    have hB1 := bl_trans hB0 hb1
    clear hge hG
    generalize place fs st fs.length = pl at *
    go_wp2_with fail
    go_ret
    exact ⟨ret_int (unhide HE).symm, bl_alloc hB1 _⟩
end Go.Proofs.YtjbhbkkkjdpamaaGreatDoor.LayO
