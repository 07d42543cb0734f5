/- The contracts of the program's groundAsLaid, LaySize, LayStone. -/
import Derived.Test.YthbbmookhcalkaaGreatDoorLayK
import Derived.Test.YthbbmookhcalkaaGreatDoorLayT
namespace Go.Proofs.YthbbmookhcalkaaGreatDoor.LayM
open Go.ChangeShapes Go.WideShapes Go.ChangeAt Go.RowKit Go.Joins Go.WideMaps Go.Maps Go.Deep
open Go.Proofs.YthbbmookhcalkaaGreatDoor.Base Go.Proofs.YthbbmookhcalkaaGreatDoor.InsA Go.Proofs.YthbbmookhcalkaaGreatDoor.Funs Go.Proofs.YthbbmookhcalkaaGreatDoor.Open Go.Proofs.YthbbmookhcalkaaGreatDoor.Keep Go.Proofs.YthbbmookhcalkaaGreatDoor.UnitS Go.Proofs.YthbbmookhcalkaaGreatDoor.UnitM Go.Proofs.YthbbmookhcalkaaGreatDoor.Refs Go.Proofs.YthbbmookhcalkaaGreatDoor.LayN Go.Proofs.YthbbmookhcalkaaGreatDoor.LayA Go.Proofs.YthbbmookhcalkaaGreatDoor.KeepD Go.Proofs.YthbbmookhcalkaaGreatDoor.KeepA Go.Proofs.YthbbmookhcalkaaGreatDoor.LayD Go.Proofs.YthbbmookhcalkaaGreatDoor.LayS Go.Proofs.YthbbmookhcalkaaGreatDoor.LayT Go.Proofs.YthbbmookhcalkaaGreatDoor.LayG Go.Proofs.YthbbmookhcalkaaGreatDoor.LayH Go.Proofs.YthbbmookhcalkaaGreatDoor.LayJ Go.Proofs.YthbbmookhcalkaaGreatDoor.LayK Go.Proofs.YthbbmookhcalkaaGreatDoor.LayV
set_option linter.unusedVariables false
set_option maxRecDepth 100000

def GroundEnd (w : World) (fs : List FunD) (ns : List Int) (st : List (List ByteArray)) (e : Ending) (w' : World) : Prop := ∃ v, e = .returned (.tuple #[v, .bool (formB fs ns st)]) ∧ GroundIs w w' fs ns st v ∧ Below w.heap.size w w'
theorem end_no {w w' : World} {fs : List FunD} {ns : List Int} {st : List (List ByteArray)} (h : false = formB fs ns st) (hb : Below w.heap.size w w') : GroundEnd w fs ns st (.returned (.tuple #[.agg #[.slice none 0 0, .map none, .map none, .int .i64 0], .bool false])) w' := ⟨_, by rw [← h]; rfl, ground_no h, hb⟩
theorem below_set4 {w w' : World} (h : Below w.heap.size w w') (v0 v1 v2 v3 : Value) : Below w.heap.size w ((((w'.setCell ⟨w.heap.size + 1, 0, none⟩ v0).setCell ⟨w.heap.size + 1, 1, none⟩ v1).setCell ⟨w.heap.size + 1, 2, none⟩ v2).setCell ⟨w.heap.size + 1, 3, none⟩ v3) :=
  (((h.setCell (by show w.heap.size ≤ w.heap.size + 1; omega) _).setCell (by show w.heap.size ≤ w.heap.size + 1; omega) _).setCell (by show w.heap.size ≤ w.heap.size + 1; omega) _).setCell (by show w.heap.size ≤ w.heap.size + 1; omega) _
set_option maxHeartbeats 8000000 in
theorem groundAsLaid_any (a na sa : Option Addr) (cap nc sc : Nat) (fs : List FunD) (ns : List Int) (st : List (List ByteArray)) (w : World) (hcap : fs.length ≤ cap) (hcm : cap ≤ maxLen) (h1 : ns.length ≤ nc) (h2 : nc ≤ maxLen) (h3 : st.length ≤ sc) (h4 : sc ≤ maxLen) (hft : FewT st) (hR : FunRow w a fs) (hs : NumRow w na ns) (ho : TextsRow w sa st) :
    Calls Tryz.prog 55 #[.slice a fs.length cap, .agg #[.slice na ns.length nc, .slice sa st.length sc]] w (GroundEnd w fs ns st) := by
  have HR := hide hR
  have HS := hide hs
  have HO := hide ho
  have hB0 := below_alloc2 w (.cells #[.slice na ns.length nc, .slice sa st.length sc] 47) (.cells #[.slice none 0 0, .map none, .map none, .int .i64 0] 89)
  have HX := hide (box_below (new_block w (.cells #[.slice na ns.length nc, .slice sa st.length sc] 47)) (below_alloc1 _ (.cells #[.slice none 0 0, .map none, .map none, .int .i64 0] 89)))
  have hY := new_block (w.alloc (.cells #[.slice na ns.length nc, .slice sa st.length sc] 47)) (.cells #[.slice none 0 0, .map none, .map none, .int .i64 0] 89)
  rw [World.size_alloc] at hY
  have HY := hide hY
  have hls : (st.length : Int) ≤ 9223372036854775807 := by unfold maxLen at h4; omega
  have hlf : (fs.length : Int) ≤ 9223372036854775807 := by unfold maxLen at hcm; omega
  clear hR hs ho hY
  cases hk : keepOkB fs
  · have HE : Hid (false = formB fs ns st) := (form_keep hk).symm
    go_enter Tryz.func55, Tryz.ntmps55
    go_wp2_with fail
    refine (implKeepOk_any a cap fs _ hcap hcm ((unhide HR).below hB0)).mono ?_
    rw [hk]
    rintro e w1 ⟨rfl, hb1⟩
    have hY := box4 (box_below (unhide HY) hb1)
    have hB1 := bl_trans hB0 hb1
    go_wp2_with fail
    exact bodyPost_ret (v := .tuple #[.agg #[.slice none 0 0, .map none, .map none, .int .i64 0], .bool false]) (by simp [results, Tryz.results55, go_sem, hY]) rfl (end_no (unhide HE) (below_set4 hB1 _ _ _ _))
  by_cases hm : st.length = fs.length
  rotate_left
  · have HE : Hid (false = formB fs ns st) := (form_len hm).symm
    have hm' : ¬ (st.length : Int) = (fs.length : Int) := by omega
    go_enter Tryz.func55, Tryz.ntmps55
    go_wp2_with fail
    refine (implKeepOk_any a cap fs _ hcap hcm ((unhide HR).below hB0)).mono ?_
    rw [hk]
    rintro e w1 ⟨rfl, hb1⟩
    have hY := box4 (box_below (unhide HY) hb1)
    have hX := box2 (box_below (unhide HX) hb1)
    have hB1 := bl_trans hB0 hb1
    go_wp2_with fail
    exact bodyPost_ret (v := .tuple #[.agg #[.slice none 0 0, .map none, .map none, .int .i64 0], .bool false]) (by simp [results, Tryz.results55, go_sem, hY]) rfl (end_no (unhide HE) (below_set4 hB1 _ _ _ _))
  have h40 := (keep_parts hk).2.1
  have HKB := hide (keep_bodies hk)
  have HKE := hide hk
  have HEND : Hid ((∀ i (h : i < st.length), stonesB fs st[i] = true) → ns = placesTo fs st fs.length → true = formB fs ns st) := fun e1 e2 => (form_end hk hm e1 e2).symm
  have HAT : Hid (ns ≠ placesTo fs st fs.length → false = formB fs ns st) := fun h => (form_at h).symm
  have HST : Hid (∀ k (h : k < st.length), stonesB fs st[k] = false → false = formB fs ns st) := fun k h e => (form_stones h e).symm
  have HGO := hide (fun w' (hr : FunRow w' a fs) (ht : TextsRow w' sa st) => groundOf_any a sa cap sc fs st w' h40 (unhide HKB) hm hft hcap hcm h3 h4 hr ht)
  have HFT := hide hft.2
  have HM := hide hm
  rw [hm] at HX hB0 HY h3 HGO ⊢
  clear hm hft hls
  have hkk := hk
  clear hk
  go_enter Tryz.func55, Tryz.ntmps55
  go_wp2_with fail
  refine (implKeepOk_any a cap fs _ hcap hcm ((unhide HR).below hB0)).mono ?_
  rw [hkk]
  rintro e w1 ⟨rfl, hb1⟩
  replace HX := hide (box_below (unhide HX) hb1)
  replace HY := hide (box_below (unhide HY) hb1)
  replace hB0 := bl_trans hB0 hb1
  have hX := box2 (unhide HX)
  clear hb1 hkk
  go_wp2_with fail
  refine (places_any a cap fs _ hcap hcm h40 ((unhide HR).below hB0)).mono ?_
  rintro e w2 ⟨rfl, hown, hb2⟩
  replace HX := hide (box_below (unhide HX) hb2)
  replace HY := hide (box_below (unhide HY) hb2)
  replace hB0 := bl_trans hB0 hb2
  have HNM := hide hown
  clear hX hown hb2
  generalize w1.heap.size = nb at *
  have hX := box2 (unhide HX)
  go_wp2_with fail
  clear hX
  go_loopw [27] (fun i w' => ∃ j : Nat, j ≤ fs.length ∧ i = .int .i64 j ∧ Hid (∀ k (h : k < st.length), k < j → stonesB fs st[k] = true) ∧ w'.heap[w.heap.size]? = some (.cells #[.slice na ns.length nc, .slice sa fs.length sc] 47) ∧ w'.heap[w.heap.size + 1]? = some (.cells #[.slice none 0 0, .map none, .map none, .int .i64 0] 89) ∧ w'.ownsMap Tryz.prog 9 (plainElem Tryz.prog 3) nb fs.length (PD fs fs.length) ∧ Below w.heap.size w w') (fun i _ => fs.length - (intOf i).toNat)
  case atStart => exact ⟨0, Nat.zero_le _, rfl, fun k _ h => by omega, unhide HX, unhide HY, unhide HNM, hB0⟩
  case round =>
    obtain ⟨j, hj, rfl, HJ, hX, hY, hnm, hB⟩ := hrel
    clear HX HY HNM hB0
    have HX := hide hX
    have HY := hide hY
    have HNM := hide hnm
    clear hX hY hnm
    by_cases hjl : j < fs.length
    · have hjl' : (j : Int) < (fs.length : Int) := by omega
      have hjs : j < st.length := by rw [unhide HM]; exact hjl
      obtain ⟨sb, so, rfl⟩ := (unhide HO).get (by omega)
      obtain ⟨ai, ci, t0, h5, h6, h7⟩ := ((unhide HO).below hB).at hjs
      have HT7 := hide h7
      have hsl := unhide HFT st[j] (List.getElem_mem _)
      have HNO := hide (unhide HST j hjs)
      have HJX : Hid (stonesB fs st[j] = true → ∀ k (h : k < st.length), k < j + 1 → stonesB fs st[k] = true) := fun hq k h hk => by
        by_cases e : k = j
        · subst e; exact hq
        · exact unhide HJ k h (by omega)
      clear h7
      generalize st[j] = ss at *
      cases hq : stonesB fs ss
      · have HE := hide (unhide HNO hq)
        go_wp2_with fail
        refine (stonesOk_any ai ci nb fs.length ss fs _ hsl h5 h6 (unhide HT7) (unhide HNM)).mono ?_
        rw [hq]
        rintro e w3 ⟨rfl, hb3⟩
        have hY := box4 (box_below (unhide HY) hb3)
        have hB3 := bl_trans hB hb3
        clear t0
        go_wp2_with fail
        exact bodyPost_ret (v := .tuple #[.agg #[.slice none 0 0, .map none, .map none, .int .i64 0], .bool false]) (by simp [results, Tryz.results55, go_sem, hY]) rfl (end_no (unhide HE) (below_set4 hB3 _ _ _ _))
      · have HJ2 := hide (unhide HJX hq)
        go_wp2_with fail
        refine (stonesOk_any ai ci nb fs.length ss fs _ hsl h5 h6 (unhide HT7) (unhide HNM)).mono ?_
        rw [hq]
        rintro e w3 ⟨rfl, hb3⟩
        have HX3 := hide (box_below (unhide HX) hb3)
        have HY3 := hide (box_below (unhide HY) hb3)
        have HN3 := hide (map_kept (unhide HNM) (hb3.block _ (map_lt (unhide HNM))))
        have hB3 := bl_trans hB hb3
        clear t0
        go_wp2_with fail
        exact ⟨⟨j + 1, by omega, by go_num, unhide HJ2, unhide HX3, unhide HY3, unhide HN3, hB3⟩, by simp [intOf]; omega⟩
    · have hjl' : ¬ (j : Int) < (fs.length : Int) := by omega
      have HALL : Hid (∀ k (h : k < st.length), stonesB fs st[k] = true) := fun k h => unhide HJ k h (by have := unhide HM; omega)
      have hX := box2 (unhide HX)
      go_wp2_with fail
      refine (unhide HGO _ ((unhide HR).below hB) ((unhide HO).below hB)).mono ?_
      rintro e w3 ⟨na3, nc3, G, B1, B2, rfl, hG⟩
      have HG := hide (GS.base hG hB)
      have hwB : w.heap.size + 1 < B1 := by
        have := (Array.getElem?_eq_some_iff.1 (unhide HY)).1
        have := hG.o1
        omega
      have hb3 := hG.blw
      have HX3 := hide (box_below (unhide HX) hb3)
      have HY3 := hide (box_below (unhide HY) hb3)
      obtain ⟨k1, k2, k3⟩ := GS.nums (unhide HG)
      have hB3 := bl_trans hB hb3
      have HG4 := hide ((unhide HG).next (below_alloc1 w3 (.cells #[.slice na3 fs.length nc3, .map (some B1), .map (some B2), .int .i64 (place fs st fs.length : Nat)] 89)))
      have HK3 := hide (k3.below (below_alloc1 w3 (.cells #[.slice na3 fs.length nc3, .map (some B1), .map (some B2), .int .i64 (place fs st fs.length : Nat)] 89)))
      have hZ := box4 (new_block w3 (.cells #[.slice na3 fs.length nc3, .map (some B1), .map (some B2), .int .i64 (place fs st fs.length : Nat)] 89))
      have HZ := hide (new_block w3 (.cells #[.slice na3 fs.length nc3, .map (some B1), .map (some B2), .int .i64 (place fs st fs.length : Nat)] 89))
      have HX4 := hide (box_below (unhide HX3) (below_alloc1 w3 (.cells #[.slice na3 fs.length nc3, .map (some B1), .map (some B2), .int .i64 (place fs st fs.length : Nat)] 89)))
      have HY4 := hide (box_below (unhide HY3) (below_alloc1 w3 (.cells #[.slice na3 fs.length nc3, .map (some B1), .map (some B2), .int .i64 (place fs st fs.length : Nat)] 89)))
      have hB4 := bl_alloc hB3 (.cells #[.slice na3 fs.length nc3, .map (some B1), .map (some B2), .int .i64 (place fs st fs.length : Nat)] 89)
      have HEQ := hide (fun w' (hr : NumRow w' na3 (placesTo fs st fs.length)) (hq : NumRow w' na ns) => equalInts_any na3 na nc3 nc (placesTo fs st fs.length) ns w' (by rw [placesTo_len]; exact k1) k2 h1 h2 hr hq)
      rw [placesTo_len] at HEQ
      clear hG hb3 k3 HX3 HY3 HG hX
      have hX := box2 (unhide HX4)
      generalize hpl : place fs st fs.length = pl at *
      have HPL := hide hpl
      clear hpl
      go_wp2_with fail
      refine (unhide HEQ _ (unhide HK3) ((unhide HS).below hB4)).mono ?_
      rintro e w5 ⟨rfl, hb5⟩
      have hY := box4 (box_below (unhide HY4) hb5)
      have hZ5 := box4 (box_below (unhide HZ) hb5)
      have hB5 := bl_trans hB4 hb5
      have HG5 := hide ((unhide HG4).next hb5)
      clear hX hZ
      by_cases hq : ns = placesTo fs st fs.length
      · have HE : Hid (true = formB fs ns st) := unhide HEND (unhide HALL) hq
        rw [decide_eq_true hq.symm]
        clear hq
        go_wp2_with fail
        refine bodyPost_ret (v := .tuple #[.agg #[.slice na3 fs.length nc3, .map (some B1), .map (some B2), .int .i64 (pl : Int)], .bool true]) (by simp [results, Tryz.results55, go_sem, hY]) rfl ⟨_, by rw [← unhide HE], .inr ⟨(unhide HE).symm, na3, nc3, G, B1, B2, by rw [unhide HPL]; rfl, ?_⟩, below_set4 hB5 _ _ _ _⟩
        rw [unhide HPL]
        exact GS.set (GS.set (GS.set (GS.set (unhide HG5) hwB (by omega) _) hwB (by omega) _) hwB (by omega) _) hwB (by omega) _
      · have HE := hide (unhide HAT hq)
        rw [decide_eq_false (fun e => hq e.symm)]
        clear hq
        go_wp2_with fail
        exact bodyPost_ret (v := .tuple #[.agg #[.slice none 0 0, .map none, .map none, .int .i64 0], .bool false]) (by simp [results, Tryz.results55, go_sem, hY]) rfl (end_no (unhide HE) (below_set4 hB5 _ _ _ _))
end Go.Proofs.YthbbmookhcalkaaGreatDoor.LayM
/- The contracts of the program's LaySize and LayStone. -/
namespace Go.Proofs.YthbbmookhcalkaaGreatDoor.LayO
open Go.ChangeShapes Go.WideShapes Go.ChangeAt Go.RowKit Go.Joins Go.WideMaps Go.Maps Go.Deep
open Go.Proofs.YthbbmookhcalkaaGreatDoor.Base Go.Proofs.YthbbmookhcalkaaGreatDoor.InsA Go.Proofs.YthbbmookhcalkaaGreatDoor.Funs Go.Proofs.YthbbmookhcalkaaGreatDoor.Open Go.Proofs.YthbbmookhcalkaaGreatDoor.Keep Go.Proofs.YthbbmookhcalkaaGreatDoor.UnitS Go.Proofs.YthbbmookhcalkaaGreatDoor.UnitM Go.Proofs.YthbbmookhcalkaaGreatDoor.Refs Go.Proofs.YthbbmookhcalkaaGreatDoor.LayN Go.Proofs.YthbbmookhcalkaaGreatDoor.LayA Go.Proofs.YthbbmookhcalkaaGreatDoor.KeepD Go.Proofs.YthbbmookhcalkaaGreatDoor.KeepA Go.Proofs.YthbbmookhcalkaaGreatDoor.LayD Go.Proofs.YthbbmookhcalkaaGreatDoor.LayS Go.Proofs.YthbbmookhcalkaaGreatDoor.LayT Go.Proofs.YthbbmookhcalkaaGreatDoor.LayG Go.Proofs.YthbbmookhcalkaaGreatDoor.LayH Go.Proofs.YthbbmookhcalkaaGreatDoor.LayJ Go.Proofs.YthbbmookhcalkaaGreatDoor.LayK Go.Proofs.YthbbmookhcalkaaGreatDoor.LayV Go.Proofs.YthbbmookhcalkaaGreatDoor.LayM
set_option linter.unusedVariables false
set_option maxRecDepth 100000

theorem tup_eq {a b : Value} {c : Bool} (h : a = b) : Ending.returned (.tuple #[a, .bool c]) = .returned (.tuple #[b, .bool c]) := by rw [h]
/-- The two ways in which groundAsLaid ends. -/
theorem ground_ways {w w' : World} {fs : List FunD} {ns : List Int} {st : List (List ByteArray)} {e : Ending} (h : GroundEnd w fs ns st e w') : Below w.heap.size w w' ∧ ((formB fs ns st = false ∧ e = .returned (.tuple #[.agg #[.slice none 0 0, .map none, .map none, .int .i64 0], .bool false])) ∨ (formB fs ns st = true ∧ ∃ na nc G B1 B2, e = .returned (.tuple #[.agg #[.slice na fs.length nc, .map (some B1), .map (some B2), .int .i64 (place fs st fs.length : Nat)], .bool true]) ∧ GS w w' G B1 B2 fs.length fs.length (stonesTo fs st fs.length) (place fs st fs.length) na nc fs st)) := by
  obtain ⟨v, rfl, hg, hb⟩ := h
  refine ⟨hb, ?_⟩
  rcases hg with ⟨h1, rfl⟩ | ⟨h1, na, nc, G, B1, B2, rfl, hg⟩
  · exact .inl ⟨h1, by rw [h1]; rfl⟩
  · exact .inr ⟨h1, na, nc, G, B1, B2, by rw [h1]; rfl, hg⟩
set_option maxHeartbeats 4000000 in
theorem implLaySize_any (a : Option Addr) (cap : Nat) (fs : List FunD) (na sa : Option Addr) (nc sc : Nat) (ns : List Int) (st : List (List ByteArray)) (w : World) (hcap : fs.length ≤ cap) (hcm : cap ≤ maxLen) (h1 : ns.length ≤ nc) (h2 : nc ≤ maxLen) (h3 : st.length ≤ sc) (h4 : sc ≤ maxLen) (hft : FewT st) (hR : FunRow w a fs) (hs : NumRow w na ns) (ho : TextsRow w sa st) :
    Calls Tryz.prog 22 #[.slice a fs.length cap, .agg #[.slice na ns.length nc, .slice sa st.length sc]] w fun e w' => e = .returned (.int .i64 (sizeI fs ns st)) ∧ Below w.heap.size w w' := by
  have HR := hide hR
  have HS := hide hs
  have HO := hide ho
  have hB0 := below_alloc1 w (.cells #[.slice na ns.length nc, .slice sa st.length sc] 47)
  clear hR hs ho
  go_enter Tryz.func22, Tryz.ntmps22
  go_wp2_with fail
  refine (groundAsLaid_any _ _ _ _ _ _ fs ns st _ hcap hcm h1 h2 h3 h4 hft ((unhide HR).below hB0) ((unhide HS).below hB0) ((unhide HO).below hB0)).mono ?_
  rintro e w1 hge
  obtain ⟨hb1, ⟨hf, rfl⟩ | ⟨hf, na', nc', G, B1, B2, rfl, hG⟩⟩ := ground_ways hge
  · have HE := hide (size_no hf)
    have hB1 := bl_trans hB0 hb1
    clear hge
    go_wp2_with fail
    go_ret
    exact ⟨ret_int (unhide HE).symm, bl_alloc hB1 _⟩
  · have HE := hide (size_yes hf)
    have hB1 := bl_trans hB0 hb1
    clear hge hG
    generalize place fs st fs.length = pl at *
    go_wp2_with fail
    go_ret
    exact ⟨ret_int (unhide HE).symm, bl_alloc hB1 _⟩
end Go.Proofs.YthbbmookhcalkaaGreatDoor.LayO
/- Plain data: where an instruction stands, what stands at a place, and what the map says of it. -/
namespace Go.Proofs.YthbbmookhcalkaaGreatDoor.MapD
open Go.Proofs.YthbbmookhcalkaaGreatDoor.InsA Go.Proofs.YthbbmookhcalkaaGreatDoor.Funs Go.Proofs.YthbbmookhcalkaaGreatDoor.Open Go.Proofs.YthbbmookhcalkaaGreatDoor.UnitS Go.Proofs.YthbbmookhcalkaaGreatDoor.Refs Go.Proofs.YthbbmookhcalkaaGreatDoor.KeepD Go.Proofs.YthbbmookhcalkaaGreatDoor.KeepA Go.Proofs.YthbbmookhcalkaaGreatDoor.LayA Go.Proofs.YthbbmookhcalkaaGreatDoor.LayD Go.Proofs.YthbbmookhcalkaaGreatDoor.LayT
set_option linter.unusedVariables false
set_option maxRecDepth 100000

/-- Whether a program has such an instruction. -/
def spotQ (fs : List FunD) (f p : Int) : Bool := decide (0 ≤ f) && decide (f < fs.length) && decide (0 ≤ p) && decide (p < (lenAt fs f.toNat : Int))
/-- Where it stands. -/
def mapAtI (fs : List FunD) (ns : List Int) (st : List (List ByteArray)) (f p : Int) : Int :=
  if formB fs ns st && spotQ fs f p then (place fs st f.toNat : Int) + p else -1
/-- Whether an instruction of the i'th function stands at a place. -/
def hitB (fs : List FunD) (st : List (List ByteArray)) (at_ : Int) (i : Nat) : Bool := decide ((place fs st i : Int) ≤ at_) && decide (at_ < ((place fs st i + lenAt fs i : Nat) : Int))
/-- The function of which an instruction stands there. -/
def spotN (fs : List FunD) (ns : List Int) (st : List (List ByteArray)) (at_ : Int) : Option Nat :=
  if formB fs ns st then (List.range fs.length).find? (hitB fs st at_) else none

theorem mapAt_no {fs : List FunD} {ns : List Int} {st : List (List ByteArray)} {f p : Int} (h : formB fs ns st = false ∨ spotQ fs f p = false) : mapAtI fs ns st f p = -1 := by
  unfold mapAtI
  rcases h with h | h <;> simp [h]
theorem mapAt_yes {fs : List FunD} {ns : List Int} {st : List (List ByteArray)} {k j : Nat} (h : formB fs ns st = true) (hs : spotQ fs (k : Int) (j : Int) = true) : mapAtI fs ns st (k : Int) (j : Int) = ((place fs st k + j : Nat) : Int) := by
  unfold mapAtI
  simp [h, hs]
theorem spotQ_parts {fs : List FunD} {f p : Int} (h : spotQ fs f p = true) : ∃ k j : Nat, f = (k : Int) ∧ p = (j : Int) ∧ ∃ hk : k < fs.length, j < fs[k].body.length := by
  unfold spotQ at h
  simp only [Bool.and_eq_true, decide_eq_true_iff] at h
  obtain ⟨⟨⟨h1, h2⟩, h3⟩, h4⟩ := h
  have hk : f.toNat < fs.length := by omega
  refine ⟨f.toNat, p.toNat, by omega, by omega, hk, ?_⟩
  rw [lenAt_is hk] at h4
  omega
theorem spotQ_yes {fs : List FunD} {k j : Nat} (hk : k < fs.length) (hj : j < fs[k].body.length) : spotQ fs (k : Int) (j : Int) = true := by
  unfold spotQ
  simp only [Bool.and_eq_true, decide_eq_true_iff, Int.toNat_natCast]
  rw [lenAt_is hk]
  exact ⟨⟨⟨by omega, by omega⟩, by omega⟩, by omega⟩
theorem spotQ_pc {fs : List FunD} {k j : Nat} (hk : k < fs.length) (hj : ¬ j < fs[k].body.length) : spotQ fs (k : Int) (j : Int) = false := by
  have h : ¬ ((j : Int) < (fs[k].body.length : Int)) := by omega
  unfold spotQ
  rw [Int.toNat_natCast, lenAt_is hk, decide_eq_false h, Bool.and_false]
/-- One place is of one function. -/
theorem hit_one {fs : List FunD} {st : List (List ByteArray)} {at_ : Int} {i j : Nat} (hi : hitB fs st at_ i = true) (hj : hitB fs st at_ j = true) : i = j := by
  unfold hitB at hi hj
  simp only [Bool.and_eq_true, decide_eq_true_iff] at hi hj
  rcases Nat.lt_trichotomy i j with h | h | h
  · have := place_mono (fs := fs) (st := st) (show i + 1 ≤ j by omega)
    rw [place] at this
    omega
  · exact h
  · have := place_mono (fs := fs) (st := st) (show j + 1 ≤ i by omega)
    rw [place] at this
    omega
theorem hit_iff {fs : List FunD} {st : List (List ByteArray)} {at_ : Int} {i : Nat} : hitB fs st at_ i = true ↔ (place fs st i : Int) ≤ at_ ∧ at_ < ((place fs st i + lenAt fs i : Nat) : Int) := by
  unfold hitB
  simp only [Bool.and_eq_true, decide_eq_true_iff]
theorem spotN_form {fs : List FunD} {ns : List Int} {st : List (List ByteArray)} {at_ : Int} (h : formB fs ns st = false) : spotN fs ns st at_ = none := by simp [spotN, h]
theorem spotN_some {fs : List FunD} {ns : List Int} {st : List (List ByteArray)} {at_ : Int} {k : Nat} (h : formB fs ns st = true) (hk : k < fs.length) (hh : hitB fs st at_ k = true) : spotN fs ns st at_ = some k := by
  unfold spotN
  rw [if_pos h]
  exact range_find hk hh (fun j hj => by
    cases e : hitB fs st at_ j with
    | false => rfl
    | true => have := hit_one e hh; omega)
theorem spotN_none {fs : List FunD} {ns : List Int} {st : List (List ByteArray)} {at_ : Int} (h : ∀ j, j < fs.length → hitB fs st at_ j = false) : spotN fs ns st at_ = none := by
  unfold spotN
  split
  · exact range_none h
  · rfl
theorem spotN_facts {fs : List FunD} {ns : List Int} {st : List (List ByteArray)} {at_ : Int} {k : Nat} (h : spotN fs ns st at_ = some k) : formB fs ns st = true ∧ k < fs.length ∧ hitB fs st at_ k = true := by
  unfold spotN at h
  split at h
  · rename_i hf
    rw [List.find?_range_eq_some] at h
    exact ⟨hf, by simpa using h.2.1, h.1⟩
  · cases h
/-- What MapSpot answers. -/
def spotE (fs : List FunD) (ns : List Int) (st : List (List ByteArray)) (at_ : Int) : Int × Int × Bool :=
  match spotN fs ns st at_ with | none => (0, 0, false) | some k => ((k : Int), at_ - (place fs st k : Int), true)
theorem spotE_none {fs : List FunD} {ns : List Int} {st : List (List ByteArray)} {at_ : Int} (h : spotN fs ns st at_ = none) : spotE fs ns st at_ = (0, 0, false) := by simp [spotE, h]
theorem spotE_some {fs : List FunD} {ns : List Int} {st : List (List ByteArray)} {at_ : Int} {k : Nat} (h : spotN fs ns st at_ = some k) : spotE fs ns st at_ = ((k : Int), at_ - (place fs st k : Int), true) := by simp [spotE, h]
/-- The last function that begins at a place or ahead of it. -/
def UpTo (fs : List FunD) (st : List (List ByteArray)) (at_ : Int) (k : Nat) : Prop := (place fs st k : Int) ≤ at_ ∧ ∀ j, k < j → j < fs.length → at_ < (place fs st j : Int)
/-- Behind its instructions there is none. -/
theorem upTo_miss {fs : List FunD} {ns : List Int} {st : List (List ByteArray)} {at_ : Int} {k : Nat} (hu : UpTo fs st at_ k) (hm : ((place fs st k + lenAt fs k : Nat) : Int) ≤ at_) : spotN fs ns st at_ = none := by
  refine spotN_none fun j hj => ?_
  cases e : hitB fs st at_ j with
  | false => rfl
  | true =>
    rw [hit_iff] at e
    rcases Nat.lt_trichotomy j k with h | h | h
    · have := place_mono (fs := fs) (st := st) (show j + 1 ≤ k by omega)
      rw [place] at this
      have := hu.1
      omega
    · subst h; omega
    · have := hu.2 j h hj
      omega
end Go.Proofs.YthbbmookhcalkaaGreatDoor.MapD
