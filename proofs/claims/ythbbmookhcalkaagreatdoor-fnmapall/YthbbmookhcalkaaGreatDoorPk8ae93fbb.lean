/- The contracts of what says whether a place is an instruction, of both sides, and of the copy and comparison of a place. -/
import Derived.Test.YthbbmookhcalkaaGreatDoorPk1249d682
import Derived.Test.YthbbmookhcalkaaGreatDoorPke34f4da7
import Derived.Deep.QuietTactic
import Derived.BigQuiet
import Derived.Test.YthbbmookhcalkaaGreatDoorPk3b7a8e77
import Derived.WalkKit
import Derived.ProofKit
import Derived.OpenShut
import Derived.Below
import Derived.Outline
import Derived.Lib.SmallJoins
import Derived.Lib.ItoaNum
namespace Go.Proofs.YthbbmookhcalkaaGreatDoor.MapA
open Go.ChangeShapes Go.WideShapes Go.ChangeAt Go.RowKit Go.Joins Go.Deep
open Go.Proofs.YthbbmookhcalkaaGreatDoor.Base Go.Proofs.YthbbmookhcalkaaGreatDoor.InsA Go.Proofs.YthbbmookhcalkaaGreatDoor.Funs Go.Proofs.YthbbmookhcalkaaGreatDoor.Open Go.Proofs.YthbbmookhcalkaaGreatDoor.Keep Go.Proofs.YthbbmookhcalkaaGreatDoor.UnitS Go.Proofs.YthbbmookhcalkaaGreatDoor.Refs Go.Proofs.YthbbmookhcalkaaGreatDoor.LayN Go.Proofs.YthbbmookhcalkaaGreatDoor.LayA Go.Proofs.YthbbmookhcalkaaGreatDoor.KeepA Go.Proofs.YthbbmookhcalkaaGreatDoor.KeepD Go.Proofs.YthbbmookhcalkaaGreatDoor.LayD Go.Proofs.YthbbmookhcalkaaGreatDoor.LayS Go.Proofs.YthbbmookhcalkaaGreatDoor.LayT Go.Proofs.YthbbmookhcalkaaGreatDoor.LayU Go.Proofs.YthbbmookhcalkaaGreatDoor.LayV Go.Proofs.YthbbmookhcalkaaGreatDoor.MapD
set_option linter.unusedVariables false
set_option maxRecDepth 100000

set_option maxHeartbeats 2000000 in
theorem spotOk_any (a : Option Addr) (cap : Nat) (fs : List FunD) (f p : Int) (w : World) (hcap : fs.length ≤ cap) (hcm : cap ≤ maxLen) (hR : FunRow w a fs) :
    Calls Tryz.prog 62 #[.slice a fs.length cap, .agg #[.int .i64 f, .int .i64 p]] w fun e w' => e = .returned (.bool (spotQ fs f p)) ∧ Below w.heap.size w w' := by
  have HR := hide hR
  clear hR
  unfold maxLen at hcm
  have hn : (fs.length : Int) ≤ 9223372036854775807 := by omega
  have hB := below_alloc1 w (.cells #[.int .i64 f, .int .i64 p] 31)
  by_cases h0 : 0 ≤ f
  · by_cases h1 : f < (fs.length : Int)
    · by_cases h2 : 0 ≤ p
      · obtain ⟨k, rfl⟩ : ∃ k : Nat, f = (k : Int) := ⟨f.toNat, by omega⟩
        have hk : k < fs.length := by omega
        obtain ⟨b, off, rfl⟩ := (unhide HR).get (by omega)
        obtain ⟨ai, ci, _, _, c2, _, g1, g2, _⟩ := ((unhide HR).below hB).at hk
        unfold maxLen at g2
        have HE : Hid (spotQ fs (k : Int) p = decide (p < (fs[k].body.length : Int))) := by
          show _ = _
          unfold spotQ
          rw [decide_eq_true h0, decide_eq_true h1, decide_eq_true h2]
          rw [show ((k : Nat) : Int).toNat = k from Int.toNat_natCast k, lenAt_is hk]; simp
        generalize fs[k].body.length = m at *
        have hm : (m : Int) ≤ 9223372036854775807 := by omega
        by_cases h3 : p < (m : Int)
        · have HF : Hid (true = spotQ fs (k : Int) p) := by show _ = _; rw [unhide HE, decide_eq_true h3]
          have d0 : decide ((0 : Int) ≤ (k : Int)) = true := decide_eq_true h0
          have d1 : decide ((k : Int) < (fs.length : Int)) = true := decide_eq_true h1
          have d2 : decide ((0 : Int) ≤ p) = true := decide_eq_true h2
          have d3 : decide (p < (m : Int)) = true := decide_eq_true h3
          go_enter Tryz.func62, Tryz.ntmps62
          go_wp2_with fail
          go_quiet (fail)
          go_wp2_with fail
          go_ret
          exact ⟨ret_bool (unhide HF), by first | exact hB | exact bl_drewN hB _ | exact hB.drew⟩
        · have HF : Hid (false = spotQ fs (k : Int) p) := by show _ = _; rw [unhide HE, decide_eq_false h3]
          have d0 : decide ((0 : Int) ≤ (k : Int)) = true := decide_eq_true h0
          have d1 : decide ((k : Int) < (fs.length : Int)) = true := decide_eq_true h1
          have d2 : decide ((0 : Int) ≤ p) = true := decide_eq_true h2
          have d3 : decide (p < (m : Int)) = false := decide_eq_false h3
          go_enter Tryz.func62, Tryz.ntmps62
          go_wp2_with fail
          go_quiet (fail)
          go_wp2_with fail
          go_ret
          exact ⟨ret_bool (unhide HF), by first | exact hB | exact bl_drewN hB _ | exact hB.drew⟩
      · have HF : Hid (false = spotQ fs f p) := by show _ = _; unfold spotQ; rw [decide_eq_false h2]; simp
        have d0 : decide ((0 : Int) ≤ f) = true := decide_eq_true h0
        have d1 : decide (f < (fs.length : Int)) = true := decide_eq_true h1
        have d2 : decide ((0 : Int) ≤ p) = false := decide_eq_false h2
        go_enter Tryz.func62, Tryz.ntmps62
        go_wp2_with fail
        go_quiet (fail)
        go_wp2_with fail
        go_ret
        exact ⟨ret_bool (unhide HF), by first | exact hB | exact bl_drewN hB _ | exact hB.drew⟩
    · have HF : Hid (false = spotQ fs f p) := by show _ = _; unfold spotQ; rw [decide_eq_false h1]; simp
      have d0 : decide ((0 : Int) ≤ f) = true := decide_eq_true h0
      have d1 : decide (f < (fs.length : Int)) = false := decide_eq_false h1
      go_enter Tryz.func62, Tryz.ntmps62
      go_wp2_with fail
      go_quiet (fail)
      go_wp2_with fail
      go_ret
      exact ⟨ret_bool (unhide HF), by first | exact hB | exact bl_drewN hB _ | exact hB.drew⟩
  · have HF : Hid (false = spotQ fs f p) := by show _ = _; unfold spotQ; rw [decide_eq_false h0]; simp
    have d0 : decide ((0 : Int) ≤ f) = false := decide_eq_false h0
    go_enter Tryz.func62, Tryz.ntmps62
    go_wp2_with fail
    go_quiet (fail)
    go_wp2_with fail
    go_ret
    exact ⟨ret_bool (unhide HF), by first | exact hB | exact bl_drewN hB _ | exact hB.drew⟩

end Go.Proofs.YthbbmookhcalkaaGreatDoor.MapA
/- The contract of the specification's MapAt. -/
namespace Go.Proofs.YthbbmookhcalkaaGreatDoor.MapS
open Go.ChangeShapes Go.WideShapes Go.ChangeAt Go.RowKit Go.Joins Go.Deep
open Go.Proofs.YthbbmookhcalkaaGreatDoor.Base Go.Proofs.YthbbmookhcalkaaGreatDoor.InsA Go.Proofs.YthbbmookhcalkaaGreatDoor.Funs Go.Proofs.YthbbmookhcalkaaGreatDoor.Open Go.Proofs.YthbbmookhcalkaaGreatDoor.Keep Go.Proofs.YthbbmookhcalkaaGreatDoor.UnitS Go.Proofs.YthbbmookhcalkaaGreatDoor.Refs Go.Proofs.YthbbmookhcalkaaGreatDoor.LayN Go.Proofs.YthbbmookhcalkaaGreatDoor.LayA Go.Proofs.YthbbmookhcalkaaGreatDoor.KeepD Go.Proofs.YthbbmookhcalkaaGreatDoor.KeepA Go.Proofs.YthbbmookhcalkaaGreatDoor.LayD Go.Proofs.YthbbmookhcalkaaGreatDoor.LayS Go.Proofs.YthbbmookhcalkaaGreatDoor.LayT Go.Proofs.YthbbmookhcalkaaGreatDoor.LayU Go.Proofs.YthbbmookhcalkaaGreatDoor.LayV Go.Proofs.YthbbmookhcalkaaGreatDoor.MapD Go.Proofs.YthbbmookhcalkaaGreatDoor.MapA
set_option linter.unusedVariables false
set_option maxRecDepth 100000

end Go.Proofs.YthbbmookhcalkaaGreatDoor.MapS
/- The contract of the program's MapAt. -/
namespace Go.Proofs.YthbbmookhcalkaaGreatDoor.MapI
open Go.ChangeShapes Go.WideShapes Go.ChangeAt Go.RowKit Go.Joins Go.WideMaps Go.Maps Go.Deep
open Go.Proofs.YthbbmookhcalkaaGreatDoor.Base Go.Proofs.YthbbmookhcalkaaGreatDoor.InsA Go.Proofs.YthbbmookhcalkaaGreatDoor.Funs Go.Proofs.YthbbmookhcalkaaGreatDoor.Open Go.Proofs.YthbbmookhcalkaaGreatDoor.Keep Go.Proofs.YthbbmookhcalkaaGreatDoor.UnitS Go.Proofs.YthbbmookhcalkaaGreatDoor.UnitM Go.Proofs.YthbbmookhcalkaaGreatDoor.Refs Go.Proofs.YthbbmookhcalkaaGreatDoor.LayN Go.Proofs.YthbbmookhcalkaaGreatDoor.LayA Go.Proofs.YthbbmookhcalkaaGreatDoor.KeepD Go.Proofs.YthbbmookhcalkaaGreatDoor.KeepA Go.Proofs.YthbbmookhcalkaaGreatDoor.LayD Go.Proofs.YthbbmookhcalkaaGreatDoor.LayS Go.Proofs.YthbbmookhcalkaaGreatDoor.LayT Go.Proofs.YthbbmookhcalkaaGreatDoor.LayG Go.Proofs.YthbbmookhcalkaaGreatDoor.LayH Go.Proofs.YthbbmookhcalkaaGreatDoor.LayJ Go.Proofs.YthbbmookhcalkaaGreatDoor.LayK Go.Proofs.YthbbmookhcalkaaGreatDoor.LayV Go.Proofs.YthbbmookhcalkaaGreatDoor.LayM Go.Proofs.YthbbmookhcalkaaGreatDoor.LayO Go.Proofs.YthbbmookhcalkaaGreatDoor.MapD Go.Proofs.YthbbmookhcalkaaGreatDoor.MapA
set_option linter.unusedVariables false
set_option maxRecDepth 100000

set_option maxHeartbeats 4000000 in
theorem implMapAt_any (a : Option Addr) (cap : Nat) (fs : List FunD) (na sa : Option Addr) (nc sc : Nat) (ns : List Int) (st : List (List ByteArray)) (ff pp : Int) (w : World) (hcap : fs.length ≤ cap) (hcm : cap ≤ maxLen) (h1 : ns.length ≤ nc) (h2 : nc ≤ maxLen) (h3 : st.length ≤ sc) (h4 : sc ≤ maxLen) (hft : FewT st) (hR : FunRow w a fs) (hs : NumRow w na ns) (ho : TextsRow w sa st) :
    Calls Tryz.prog 26 #[.slice a fs.length cap, .agg #[.slice na ns.length nc, .slice sa st.length sc], .agg #[.int .i64 ff, .int .i64 pp]] w fun e w' => e = .returned (.int .i64 (mapAtI fs ns st ff pp)) ∧ Below w.heap.size w w' := by
  have HR := hide hR
  have HS := hide hs
  have HO := hide ho
  have hB0 := below_alloc2 w (.cells #[.slice na ns.length nc, .slice sa st.length sc] 47) (.cells #[.int .i64 ff, .int .i64 pp] 31)
  have hY := new_block (w.alloc (.cells #[.slice na ns.length nc, .slice sa st.length sc] 47)) (.cells #[.int .i64 ff, .int .i64 pp] 31)
  rw [World.size_alloc] at hY
  have HY := hide hY
  clear hR hs ho hY
  go_enter Tryz.func26, Tryz.ntmps26
  go_wp2_with fail
  refine (groundAsLaid_any _ _ _ _ _ _ fs ns st _ hcap hcm h1 h2 h3 h4 hft ((unhide HR).below hB0) ((unhide HS).below hB0) ((unhide HO).below hB0)).mono ?_
  rintro e w1 hge
  obtain ⟨hb1, ⟨hf, rfl⟩ | ⟨hf, na', nc', G, B1, B2, rfl, hG⟩⟩ := ground_ways hge
  · have HE := hide (mapAt_no (f := ff) (p := pp) (.inl hf))
    have hB1 := bl_trans hB0 hb1
    clear hge
    go_wp2_with fail
    go_ret
    exact ⟨ret_int (unhide HE).symm, bl_alloc hB1 _⟩
  have HL := hide (lying_of hf hft)
  have hB1 := bl_alloc (bl_trans hB0 hb1) (.cells #[.slice na' fs.length nc', .map (some B1), .map (some B2), .int .i64 (place fs st fs.length : Nat)] 89)
  have HY1 := hide (box_below (box_below (unhide HY) hb1) (below_alloc1 _ (.cells #[.slice na' fs.length nc', .map (some B1), .map (some B2), .int .i64 (place fs st fs.length : Nat)] 89)))
  have HZ1 := hide (new_block w1 (.cells #[.slice na' fs.length nc', .map (some B1), .map (some B2), .int .i64 (place fs st fs.length : Nat)] 89))
  obtain ⟨k1, k2, k3⟩ := GS.nums hG
  have HK := hide (k3.below (below_alloc1 w1 (.cells #[.slice na' fs.length nc', .map (some B1), .map (some B2), .int .i64 (place fs st fs.length : Nat)] 89)))
  have hnl : (fs.length : Int) ≤ 9223372036854775807 := by have := (unhide HL).1; omega
  clear hge hG HY hB0 hb1 k3
  generalize hpl : place fs st fs.length = pt at *
  clear hpl
  cases hq : spotQ fs ff pp
  · have HE := hide (mapAt_no (fs := fs) (ns := ns) (st := st) (.inr hq))
    have hY := box2 (unhide HY1)
    go_wp2_with fail
    refine (spotOk_any a cap fs ff pp _ hcap hcm ((unhide HR).below hB1)).mono ?_
    rw [hq]
    rintro e w2 ⟨rfl, hb2⟩
    have hB2 := bl_trans hB1 hb2
    clear hY
    go_wp2_with fail
    go_ret
    exact ⟨ret_int (unhide HE).symm, hB2⟩
  obtain ⟨k, j, rfl, rfl, hk, hj⟩ := spotQ_parts hq
  have HE := hide (mapAt_yes hf hq)
  have hY := box2 (unhide HY1)
  go_wp2_with fail
  refine (spotOk_any a cap fs _ _ _ hcap hcm ((unhide HR).below hB1)).mono ?_
  rw [hq]
  rintro e w2 ⟨rfl, hb2⟩
  have hB2 := bl_trans hB1 hb2
  have HZ2 := hide (box_below (unhide HZ1) hb2)
  have HY2 := hide (box_below (unhide HY1) hb2)
  have HK2 := hide ((unhide HK).below hb2)
  clear hY hb2 hB1 HZ1 HY1 HK
  have hZ := box4 (unhide HZ2)
  have hY := box2 (unhide HY2)
  have hk' : (k : Int) < (fs.length : Int) := by omega
  have hk0 : (0 : Int) ≤ (k : Int) := by omega
  have hfl : fs[k].body.length ≤ 10 := (unhide HL).2.1 _ (List.getElem_mem _)
  have hpb := (unhide HL).small k (by omega)
  have hjb : j < 10 := by omega
  have hkp : k < (placesTo fs st fs.length).length := by rw [placesTo_len]; exact hk
  obtain ⟨gb, go', rfl⟩ := (unhide HK2).get (by omega)
  have g0 := (unhide HK2).cells hkp
  rw [placesTo_at hkp] at g0
  clear hkp
  generalize place fs st k = p0 at *
  clear hj hfl hq hf
  go_wp2_with fail
  go_quiet (fail)
  go_wp2_with fail
  go_ret
  exact ⟨ret_int (by rw [unhide HE]; go_num), by first | exact hB2 | exact bl_drewN hB2 _ | exact hB2.drew⟩
end Go.Proofs.YthbbmookhcalkaaGreatDoor.MapI
/- The contracts of the program's lastUpTo, standing and MapSpot. -/
namespace Go.Proofs.YthbbmookhcalkaaGreatDoor.MapJ
open Go.ChangeShapes Go.WideShapes Go.ChangeAt Go.RowKit Go.Joins Go.WideMaps Go.Maps Go.Deep
open Go.Proofs.YthbbmookhcalkaaGreatDoor.Base Go.Proofs.YthbbmookhcalkaaGreatDoor.InsA Go.Proofs.YthbbmookhcalkaaGreatDoor.Funs Go.Proofs.YthbbmookhcalkaaGreatDoor.Open Go.Proofs.YthbbmookhcalkaaGreatDoor.Keep Go.Proofs.YthbbmookhcalkaaGreatDoor.UnitS Go.Proofs.YthbbmookhcalkaaGreatDoor.UnitM Go.Proofs.YthbbmookhcalkaaGreatDoor.Refs Go.Proofs.YthbbmookhcalkaaGreatDoor.LayN Go.Proofs.YthbbmookhcalkaaGreatDoor.LayA Go.Proofs.YthbbmookhcalkaaGreatDoor.KeepD Go.Proofs.YthbbmookhcalkaaGreatDoor.KeepA Go.Proofs.YthbbmookhcalkaaGreatDoor.LayD Go.Proofs.YthbbmookhcalkaaGreatDoor.LayS Go.Proofs.YthbbmookhcalkaaGreatDoor.LayT Go.Proofs.YthbbmookhcalkaaGreatDoor.LayG Go.Proofs.YthbbmookhcalkaaGreatDoor.LayH Go.Proofs.YthbbmookhcalkaaGreatDoor.LayJ Go.Proofs.YthbbmookhcalkaaGreatDoor.LayK Go.Proofs.YthbbmookhcalkaaGreatDoor.LayV Go.Proofs.YthbbmookhcalkaaGreatDoor.LayM Go.Proofs.YthbbmookhcalkaaGreatDoor.LayO Go.Proofs.YthbbmookhcalkaaGreatDoor.MapD Go.Proofs.YthbbmookhcalkaaGreatDoor.MapA
set_option linter.unusedVariables false
set_option maxRecDepth 100000

end Go.Proofs.YthbbmookhcalkaaGreatDoor.MapJ
/- The contract of the specification's MapSpot. -/
namespace Go.Proofs.YthbbmookhcalkaaGreatDoor.MapT
open Go.ChangeShapes Go.WideShapes Go.ChangeAt Go.RowKit Go.Joins Go.Deep
open Go.Proofs.YthbbmookhcalkaaGreatDoor.Base Go.Proofs.YthbbmookhcalkaaGreatDoor.InsA Go.Proofs.YthbbmookhcalkaaGreatDoor.Funs Go.Proofs.YthbbmookhcalkaaGreatDoor.Open Go.Proofs.YthbbmookhcalkaaGreatDoor.Keep Go.Proofs.YthbbmookhcalkaaGreatDoor.UnitS Go.Proofs.YthbbmookhcalkaaGreatDoor.Refs Go.Proofs.YthbbmookhcalkaaGreatDoor.LayN Go.Proofs.YthbbmookhcalkaaGreatDoor.LayA Go.Proofs.YthbbmookhcalkaaGreatDoor.KeepD Go.Proofs.YthbbmookhcalkaaGreatDoor.KeepA Go.Proofs.YthbbmookhcalkaaGreatDoor.LayD Go.Proofs.YthbbmookhcalkaaGreatDoor.LayS Go.Proofs.YthbbmookhcalkaaGreatDoor.LayT Go.Proofs.YthbbmookhcalkaaGreatDoor.LayU Go.Proofs.YthbbmookhcalkaaGreatDoor.LayV Go.Proofs.YthbbmookhcalkaaGreatDoor.MapD Go.Proofs.YthbbmookhcalkaaGreatDoor.MapA
set_option linter.unusedVariables false
set_option maxRecDepth 100000

def SpotEnd (w : World) (z : Int × Int × Bool) (e : Ending) (w' : World) : Prop := e = .returned (.tuple #[.agg #[.int .i64 z.1, .int .i64 z.2.1], .bool z.2.2]) ∧ Below w.heap.size w w'
theorem below_set2 {w w' : World} {B : Nat} (hB : w.heap.size ≤ B) (h : Below w.heap.size w w') (v0 v1 : Value) : Below w.heap.size w ((w'.setCell ⟨B, 0, none⟩ v0).setCell ⟨B, 1, none⟩ v1) := (h.setCell (by show w.heap.size ≤ B; exact hB) _).setCell (by show w.heap.size ≤ B; exact hB) _
theorem spot_none {w w' : World} {z : Int × Int × Bool} (h : z = (0, 0, false)) (hb : Below w.heap.size w w') (v0 v1 : Value) : SpotEnd w z (.returned (.tuple #[.agg #[.int .i64 0, .int .i64 0], .bool false])) ((w'.setCell ⟨w.heap.size + 1, 0, none⟩ v0).setCell ⟨w.heap.size + 1, 1, none⟩ v1) := by
  subst h
  exact ⟨rfl, below_set2 (by omega) hb _ _⟩
theorem spot_some {w w' : World} {z : Int × Int × Bool} {k p : Int} (h : z = (k, p, true)) (hb : Below w.heap.size w w') (v0 v1 : Value) : SpotEnd w z (.returned (.tuple #[.agg #[.int .i64 k, .int .i64 p], .bool true])) ((w'.setCell ⟨w.heap.size + 1, 0, none⟩ v0).setCell ⟨w.heap.size + 1, 1, none⟩ v1) := by
  subst h
  exact ⟨rfl, below_set2 (by omega) hb _ _⟩
end Go.Proofs.YthbbmookhcalkaaGreatDoor.MapT
/- The contracts of the program's standing and MapSpot. -/
namespace Go.Proofs.YthbbmookhcalkaaGreatDoor.MapK
open Go.ChangeShapes Go.WideShapes Go.ChangeAt Go.RowKit Go.Joins Go.WideMaps Go.Maps Go.Deep
open Go.Proofs.YthbbmookhcalkaaGreatDoor.Base Go.Proofs.YthbbmookhcalkaaGreatDoor.InsA Go.Proofs.YthbbmookhcalkaaGreatDoor.Funs Go.Proofs.YthbbmookhcalkaaGreatDoor.Open Go.Proofs.YthbbmookhcalkaaGreatDoor.FunS Go.Proofs.YthbbmookhcalkaaGreatDoor.Keep Go.Proofs.YthbbmookhcalkaaGreatDoor.UnitS Go.Proofs.YthbbmookhcalkaaGreatDoor.UnitM Go.Proofs.YthbbmookhcalkaaGreatDoor.Refs Go.Proofs.YthbbmookhcalkaaGreatDoor.LayN Go.Proofs.YthbbmookhcalkaaGreatDoor.LayA Go.Proofs.YthbbmookhcalkaaGreatDoor.KeepD Go.Proofs.YthbbmookhcalkaaGreatDoor.KeepA Go.Proofs.YthbbmookhcalkaaGreatDoor.LayD Go.Proofs.YthbbmookhcalkaaGreatDoor.LayS Go.Proofs.YthbbmookhcalkaaGreatDoor.LayT Go.Proofs.YthbbmookhcalkaaGreatDoor.LayG Go.Proofs.YthbbmookhcalkaaGreatDoor.LayH Go.Proofs.YthbbmookhcalkaaGreatDoor.LayJ Go.Proofs.YthbbmookhcalkaaGreatDoor.LayK Go.Proofs.YthbbmookhcalkaaGreatDoor.LayV Go.Proofs.YthbbmookhcalkaaGreatDoor.LayM Go.Proofs.YthbbmookhcalkaaGreatDoor.LayO Go.Proofs.YthbbmookhcalkaaGreatDoor.MapD Go.Proofs.YthbbmookhcalkaaGreatDoor.MapA Go.Proofs.YthbbmookhcalkaaGreatDoor.MapJ Go.Proofs.YthbbmookhcalkaaGreatDoor.MapT
set_option linter.unusedVariables false
set_option maxRecDepth 100000

end Go.Proofs.YthbbmookhcalkaaGreatDoor.MapK
/- The contract of the specification's decimal writer, at the numbers that it is asked: the decimal numeral. -/
namespace Go.Proofs.YthbbmookhcalkaaGreatDoor.Dec
open Go.Proofs.YthbbmookhcalkaaGreatDoor.Base
open Go.ChangeShapes Go.WideShapes Go.ChangeAt Go.RowKit Go.Joins
set_option linter.unusedVariables false

theorem ret_str {a b : ByteArray} (h : a = b) : Ending.returned (.string a) = .returned (.string b) := by rw [h]

theorem str_cons_eq (c : UInt8) (l : List UInt8) : (⟨#[c]⟩ : ByteArray) ++ ⟨l.toArray⟩ = ⟨(c :: l).toArray⟩ := by
  apply ByteArray.ext
  rw [ByteArray.data_append]
  simp
theorem str_cons (c : UInt8) (l : List UInt8) : Value.string ((⟨#[c]⟩ : ByteArray) ++ ⟨l.toArray⟩) = Value.string ⟨(c :: l).toArray⟩ := by rw [str_cons_eq]
theorem ofNat_add (m : Nat) : UInt8.ofNat (48 + m) = 48 + UInt8.ofNat m := by simp

theorem dlen (m : Nat) : (Lib.decDigits m).length ≤ m + 1 := by
  induction m using Nat.strongRecOn with
  | ind m ih =>
    rw [Lib.decDigits]
    by_cases h : m < 10
    · rw [dif_pos h]; simp
    · rw [dif_neg h]
      have := ih (m / 10) (by omega)
      simp
      omega
theorem ilen (n : Int) : (Lib.itoa n).length ≤ n.natAbs + 2 := by
  unfold Lib.itoa
  split
  · have := dlen n.natAbs; simp; omega
  · have := dlen n.toNat; omega

theorem conv1 (w : World) (x : Int) : (convert 22 9 (.slice (some ⟨w.heap.size, 0, none⟩) 1 1)).run Tryz.prog (w.alloc (.cells #[.int .u8 x] 5)) = .ok (.string ⟨#[UInt8.ofNat x.toNat]⟩) (w.alloc (.cells #[.int .u8 x] 5)) := by
  rw [run_convert_bytes_string _ _ _ 5 _ _ _ Tryz.underlying22 Tryz.underlying5 Tryz.underlying9]
  rw [run_bytesToString _ _ 1 1 [x] (by simp [loadCells, go_sem])]
  rfl

theorem dec_step {n k : Nat} {l : List UInt8} (h : Lib.decDigits n = Lib.decDigits k ++ l) (h9 : 9 < k) : Lib.decDigits n = Lib.decDigits (k / 10) ++ (UInt8.ofNat (48 + k % 10) :: l) := by
  rw [h, Lib.decDigits, dif_neg (by omega), List.append_assoc]
  rfl
theorem dec_end {n k : Nat} {l : List UInt8} (h : Lib.decDigits n = Lib.decDigits k ++ l) (h9 : ¬ 9 < k) : Lib.decDigits n = UInt8.ofNat (48 + k) :: l := by
  rw [h, Lib.decDigits, dif_pos (by omega)]
  rfl

set_option maxHeartbeats 400000 in
theorem decPos_any (n : Nat) (w : World) (h1 : n ≤ 1000000) :
    Calls Tryz.prog 61 #[.int .i64 n] w fun e w' => e = .returned (.string ⟨(Lib.decDigits n).toArray⟩) ∧ Below w.heap.size w w' := by
  go_enter Tryz.func61, Tryz.ntmps61
  go_wp2
  go_loopw [0, 3] (fun m out w' => ∃ (k : Nat) (l : List UInt8), k ≤ 1000000 ∧ m = .int .i64 k ∧ out = .string ⟨l.toArray⟩ ∧ Lib.decDigits n = Lib.decDigits k ++ l ∧ l.length + k ≤ n ∧ Below w.heap.size w w') (fun m _ _ => (intOf m).toNat)
  case atStart => exact ⟨n, [], h1, rfl, rfl, by simp, by simp, Below.refl _ _⟩
  case round =>
    obtain ⟨k, l, hk, rfl, rfl, hd, hlen, hb⟩ := hrel
    have HD : Hid (Lib.decDigits n = Lib.decDigits k ++ l) := hd
    clear hd
    have hc1 := conv1 wr
    by_cases h9 : 9 < k
    · have h9' : (9 : Int) < (k : Int) := by omega
      go_wp2
      exact ⟨⟨k / 10, _, by omega, by go_num, str_cons _ _, by rw [dec_step HD.out h9, ofNat_add], by simp; omega, bl_alloc hb _⟩, by simp [intOf]; omega⟩
    · have h9' : ¬ (9 : Int) < (k : Int) := by omega
      go_wp2
      go_ret
      exact ⟨ret_str (by rw [dec_end HD.out h9, ofNat_add]; exact str_cons_eq _ _), bl_alloc hb _⟩

set_option maxHeartbeats 400000 in
theorem dec_any (n : Int) (w : World) (h0 : -1000000 ≤ n) (h1 : n ≤ 1000000) :
    Calls Tryz.prog 61 #[.int .i64 n] w fun e w' => e = .returned (.string ⟨(Lib.itoa n).toArray⟩) ∧ Below w.heap.size w w' := by
  by_cases hn : n < 0
  · obtain ⟨m, hm⟩ := Int.eq_ofNat_of_zero_le (show 0 ≤ -n by omega)
    have hit : Lib.itoa n = 45 :: Lib.decDigits m := by
      unfold Lib.itoa; rw [if_pos hn, show n.natAbs = m by omega]
    have HI : Hid (Lib.itoa n = 45 :: Lib.decDigits m) := hit
    clear hit
    go_enter Tryz.func61, Tryz.ntmps61
    go_wp2_with fail
    refine (decPos_any m _ (by omega)).mono ?_
    rintro e w1 ⟨rfl, hb⟩
    have hdl := dlen m
    have hmb : m ≤ 1000000 := by omega
    clear hm
    go_wp2_with fail
    go_ret
    exact ⟨ret_str (by rw [HI.out]; exact str_cons_eq _ _), hb⟩
  · obtain ⟨m, rfl⟩ := Int.eq_ofNat_of_zero_le (show 0 ≤ n by omega)
    have hit : Lib.itoa (m : Int) = Lib.decDigits m := by
      unfold Lib.itoa; rw [if_neg hn]; rfl
    rw [hit]
    exact decPos_any m w (by omega)
end Go.Proofs.YthbbmookhcalkaaGreatDoor.Dec
