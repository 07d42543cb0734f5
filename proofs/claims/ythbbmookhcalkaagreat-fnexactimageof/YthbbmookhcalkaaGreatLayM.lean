/- The contracts of the program's groundAsLaid, LaySize, LayStone. -/
import Derived.Test.YthbbmookhcalkaaGreatLayK
namespace Go.Proofs.YthbbmookhcalkaaGreat.LayM
open Go.ChangeShapes Go.WideShapes Go.ChangeAt Go.RowKit Go.Joins Go.WideMaps Go.Maps Go.Deep
open Go.Proofs.YthbbmookhcalkaaGreat.Base Go.Proofs.YthbbmookhcalkaaGreat.InsA Go.Proofs.YthbbmookhcalkaaGreat.Funs Go.Proofs.YthbbmookhcalkaaGreat.Open Go.Proofs.YthbbmookhcalkaaGreat.Keep Go.Proofs.YthbbmookhcalkaaGreat.UnitS Go.Proofs.YthbbmookhcalkaaGreat.UnitM Go.Proofs.YthbbmookhcalkaaGreat.Refs Go.Proofs.YthbbmookhcalkaaGreat.LayN Go.Proofs.YthbbmookhcalkaaGreat.LayA Go.Proofs.YthbbmookhcalkaaGreat.KeepD Go.Proofs.YthbbmookhcalkaaGreat.KeepA Go.Proofs.YthbbmookhcalkaaGreat.LayD Go.Proofs.YthbbmookhcalkaaGreat.LayS Go.Proofs.YthbbmookhcalkaaGreat.LayT Go.Proofs.YthbbmookhcalkaaGreat.LayG Go.Proofs.YthbbmookhcalkaaGreat.LayH Go.Proofs.YthbbmookhcalkaaGreat.LayJ Go.Proofs.YthbbmookhcalkaaGreat.LayK Go.Proofs.YthbbmookhcalkaaGreat.LayV
set_option linter.unusedVariables false
set_option maxRecDepth 100000

def GroundEnd (w : World) (fs : List FunD) (ns : List Int) (st : List (List ByteArray)) (e : Ending) (w' : World) : Prop := ∃ v, e = .returned (.tuple #[v, .bool (formB fs ns st)]) ∧ GroundIs w w' fs ns st v ∧ Below w.heap.size w w'
theorem end_no {w w' : World} {fs : List FunD} {ns : List Int} {st : List (List ByteArray)} (h : false = formB fs ns st) (hb : Below w.heap.size w w') : GroundEnd w fs ns st (.returned (.tuple #[.agg #[.slice none 0 0, .map none, .map none, .int .i64 0], .bool false])) w' := ⟨_, by rw [← h]; rfl, ground_no h, hb⟩
theorem below_set4 {w w' : World} (h : Below w.heap.size w w') (v0 v1 v2 v3 : Value) : Below w.heap.size w ((((w'.setCell ⟨w.heap.size + 1, 0, none⟩ v0).setCell ⟨w.heap.size + 1, 1, none⟩ v1).setCell ⟨w.heap.size + 1, 2, none⟩ v2).setCell ⟨w.heap.size + 1, 3, none⟩ v3) :=
  (((h.setCell (by show w.heap.size ≤ w.heap.size + 1; omega) _).setCell (by show w.heap.size ≤ w.heap.size + 1; omega) _).setCell (by show w.heap.size ≤ w.heap.size + 1; omega) _).setCell (by show w.heap.size ≤ w.heap.size + 1; omega) _
set_option maxHeartbeats 8000000 in
theorem groundAsLaid_any (a na sa : Option Addr) (cap nc sc : Nat) (fs : List FunD) (ns : List Int) (st : List (List ByteArray)) (w : World) (hcap : fs.length ≤ cap) (hcm : cap ≤ maxLen) (h1 : ns.length ≤ nc) (h2 : nc ≤ maxLen) (h3 : st.length ≤ sc) (h4 : sc ≤ maxLen) (hft : FewT st) (hR : FunRow w a fs) (hs : NumRow w na ns) (ho : TextsRow w sa st) :
    Calls Tryz.prog 44 #[.slice a fs.length cap, .agg #[.slice na ns.length nc, .slice sa st.length sc]] w (GroundEnd w fs ns st) := by
  have HR := hide hR
  have HS := hide hs
  have HO := hide ho
  have hB0 := below_alloc2 w (.cells #[.slice na ns.length nc, .slice sa st.length sc] 33) (.cells #[.slice none 0 0, .map none, .map none, .int .i64 0] 58)
  have HX := hide (box_below (new_block w (.cells #[.slice na ns.length nc, .slice sa st.length sc] 33)) (below_alloc1 _ (.cells #[.slice none 0 0, .map none, .map none, .int .i64 0] 58)))
  have hY := new_block (w.alloc (.cells #[.slice na ns.length nc, .slice sa st.length sc] 33)) (.cells #[.slice none 0 0, .map none, .map none, .int .i64 0] 58)
  rw [World.size_alloc] at hY
  have HY := hide hY
  have hls : (st.length : Int) ≤ 9223372036854775807 := by unfold maxLen at h4; omega
  have hlf : (fs.length : Int) ≤ 9223372036854775807 := by unfold maxLen at hcm; omega
  clear hR hs ho hY
  cases hk : keepOkB fs
  · have HE : Hid (false = formB fs ns st) := (form_keep hk).symm
    go_enter Tryz.func44, Tryz.ntmps44
    go_wp2_with fail
    refine (implKeepOk_any a cap fs _ hcap hcm ((unhide HR).below hB0)).mono ?_
    rw [hk]
    rintro e w1 ⟨rfl, hb1⟩
    have hY := box4 (box_below (unhide HY) hb1)
    have hB1 := bl_trans hB0 hb1
    go_wp2_with fail
    exact bodyPost_ret (v := .tuple #[.agg #[.slice none 0 0, .map none, .map none, .int .i64 0], .bool false]) (by simp [results, Tryz.results44, go_sem, hY]) rfl (end_no (unhide HE) (below_set4 hB1 _ _ _ _))
  by_cases hm : st.length = fs.length
  rotate_left
  · have HE : Hid (false = formB fs ns st) := (form_len hm).symm
    have hm' : ¬ (st.length : Int) = (fs.length : Int) := by omega
    go_enter Tryz.func44, Tryz.ntmps44
    go_wp2_with fail
    refine (implKeepOk_any a cap fs _ hcap hcm ((unhide HR).below hB0)).mono ?_
    rw [hk]
    rintro e w1 ⟨rfl, hb1⟩
    have hY := box4 (box_below (unhide HY) hb1)
    have hX := box2 (box_below (unhide HX) hb1)
    have hB1 := bl_trans hB0 hb1
    go_wp2_with fail
    exact bodyPost_ret (v := .tuple #[.agg #[.slice none 0 0, .map none, .map none, .int .i64 0], .bool false]) (by simp [results, Tryz.results44, go_sem, hY]) rfl (end_no (unhide HE) (below_set4 hB1 _ _ _ _))
  have h40 := (keep_parts hk).2.1
  have HKB := hide (keep_bodies hk)
  have HKE := hide hk
  have HEND : Hid ((∀ i (h : i < st.length), stonesB fs st[i] = true) → ns = placesTo fs st fs.length → true = formB fs ns st) := fun e1 e2 => (form_end hk hm e1 e2).symm
  have HAT : Hid (ns ≠ placesTo fs st fs.length → false = formB fs ns st) := fun h => (form_at h).symm
  have HST : Hid (∀ k (h : k < st.length), stonesB fs st[k] = false → false = formB fs ns st) := fun k h e => (form_stones h e).symm
  have HGO := hide (fun w' (hr : FunRow w' a fs) (ht : TextsRow w' sa st) => groundOf_any a sa cap sc fs st w' h40 (unhide HKB) hm hft hcap hcm h3 h4 hr ht)
  have HFT := hide hft.2
  have HM := hide hm
  rw [hm] at HX hB0 HY h3 HGO ⊢
  clear hm hft hls
  have hkk := hk
  clear hk
  go_enter Tryz.func44, Tryz.ntmps44
  go_wp2_with fail
  refine (implKeepOk_any a cap fs _ hcap hcm ((unhide HR).below hB0)).mono ?_
  rw [hkk]
  rintro e w1 ⟨rfl, hb1⟩
  replace HX := hide (box_below (unhide HX) hb1)
  replace HY := hide (box_below (unhide HY) hb1)
  replace hB0 := bl_trans hB0 hb1
  have hX := box2 (unhide HX)
  clear hb1 hkk
  go_wp2_with fail
  refine (places_any a cap fs _ hcap hcm h40 ((unhide HR).below hB0)).mono ?_
  rintro e w2 ⟨rfl, hown, hb2⟩
  replace HX := hide (box_below (unhide HX) hb2)
  replace HY := hide (box_below (unhide HY) hb2)
  replace hB0 := bl_trans hB0 hb2
  have HNM := hide hown
  clear hX hown hb2
  generalize w1.heap.size = nb at *
  have hX := box2 (unhide HX)
  go_wp2_with fail
  clear hX
  go_loopw [27] (fun i w' => ∃ j : Nat, j ≤ fs.length ∧ i = .int .i64 j ∧ Hid (∀ k (h : k < st.length), k < j → stonesB fs st[k] = true) ∧ w'.heap[w.heap.size]? = some (.cells #[.slice na ns.length nc, .slice sa fs.length sc] 33) ∧ w'.heap[w.heap.size + 1]? = some (.cells #[.slice none 0 0, .map none, .map none, .int .i64 0] 58) ∧ w'.ownsMap Tryz.prog 9 (plainElem Tryz.prog 3) nb fs.length (PD fs fs.length) ∧ Below w.heap.size w w') (fun i _ => fs.length - (intOf i).toNat)
  case atStart => exact ⟨0, Nat.zero_le _, rfl, fun k _ h => by omega, unhide HX, unhide HY, unhide HNM, hB0⟩
  case round =>
    obtain ⟨j, hj, rfl, HJ, hX, hY, hnm, hB⟩ := hrel
    clear HX HY HNM hB0
    have HX := hide hX
    have HY := hide hY
    have HNM := hide hnm
    clear hX hY hnm
    by_cases hjl : j < fs.length
    · have hjl' : (j : Int) < (fs.length : Int) := by omega
      have hjs : j < st.length := by rw [unhide HM]; exact hjl
      obtain ⟨sb, so, rfl⟩ := (unhide HO).get (by omega)
      obtain ⟨ai, ci, t0, h5, h6, h7⟩ := ((unhide HO).below hB).at hjs
      have HT7 := hide h7
      have hsl := unhide HFT st[j] (List.getElem_mem _)
      have HNO := hide (unhide HST j hjs)
      have HJX : Hid (stonesB fs st[j] = true → ∀ k (h : k < st.length), k < j + 1 → stonesB fs st[k] = true) := fun hq k h hk => by
        by_cases e : k = j
        · subst e; exact hq
        · exact unhide HJ k h (by omega)
      clear h7
      generalize st[j] = ss at *
      cases hq : stonesB fs ss
      · have HE := hide (unhide HNO hq)
        go_wp2_with fail
        refine (stonesOk_any ai ci nb fs.length ss fs _ hsl h5 h6 (unhide HT7) (unhide HNM)).mono ?_
        rw [hq]
        rintro e w3 ⟨rfl, hb3⟩
        have hY := box4 (box_below (unhide HY) hb3)
        have hB3 := bl_trans hB hb3
        clear t0
        go_wp2_with fail
        exact bodyPost_ret (v := .tuple #[.agg #[.slice none 0 0, .map none, .map none, .int .i64 0], .bool false]) (by simp [results, Tryz.results44, go_sem, hY]) rfl (end_no (unhide HE) (below_set4 hB3 _ _ _ _))
      · have HJ2 := hide (unhide HJX hq)
        go_wp2_with fail
        refine (stonesOk_any ai ci nb fs.length ss fs _ hsl h5 h6 (unhide HT7) (unhide HNM)).mono ?_
        rw [hq]
        rintro e w3 ⟨rfl, hb3⟩
        have HX3 := hide (box_below (unhide HX) hb3)
        have HY3 := hide (box_below (unhide HY) hb3)
        have HN3 := hide (map_kept (unhide HNM) (hb3.block _ (map_lt (unhide HNM))))
        have hB3 := bl_trans hB hb3
        clear t0
        go_wp2_with fail
        exact ⟨⟨j + 1, by omega, by go_num, unhide HJ2, unhide HX3, unhide HY3, unhide HN3, hB3⟩, by simp [intOf]; omega⟩
    · have hjl' : ¬ (j : Int) < (fs.length : Int) := by omega
      have HALL : Hid (∀ k (h : k < st.length), stonesB fs st[k] = true) := fun k h => unhide HJ k h (by have := unhide HM; omega)
      have hX := box2 (unhide HX)
      go_wp2_with fail
      refine (unhide HGO _ ((unhide HR).below hB) ((unhide HO).below hB)).mono ?_
      rintro e w3 ⟨na3, nc3, G, B1, B2, rfl, hG⟩
      have HG := hide (GS.base hG hB)
      have hwB : w.heap.size + 1 < B1 := by
        have := (Array.getElem?_eq_some_iff.1 (unhide HY)).1
        have := hG.o1
        omega
      have hb3 := hG.blw
      have HX3 := hide (box_below (unhide HX) hb3)
      have HY3 := hide (box_below (unhide HY) hb3)
      obtain ⟨k1, k2, k3⟩ := GS.nums (unhide HG)
      have hB3 := bl_trans hB hb3
      have HG4 := hide ((unhide HG).next (below_alloc1 w3 (.cells #[.slice na3 fs.length nc3, .map (some B1), .map (some B2), .int .i64 (place fs st fs.length : Nat)] 58)))
      have HK3 := hide (k3.below (below_alloc1 w3 (.cells #[.slice na3 fs.length nc3, .map (some B1), .map (some B2), .int .i64 (place fs st fs.length : Nat)] 58)))
      have hZ := box4 (new_block w3 (.cells #[.slice na3 fs.length nc3, .map (some B1), .map (some B2), .int .i64 (place fs st fs.length : Nat)] 58))
      have HZ := hide (new_block w3 (.cells #[.slice na3 fs.length nc3, .map (some B1), .map (some B2), .int .i64 (place fs st fs.length : Nat)] 58))
      have HX4 := hide (box_below (unhide HX3) (below_alloc1 w3 (.cells #[.slice na3 fs.length nc3, .map (some B1), .map (some B2), .int .i64 (place fs st fs.length : Nat)] 58)))
      have HY4 := hide (box_below (unhide HY3) (below_alloc1 w3 (.cells #[.slice na3 fs.length nc3, .map (some B1), .map (some B2), .int .i64 (place fs st fs.length : Nat)] 58)))
      have hB4 := bl_alloc hB3 (.cells #[.slice na3 fs.length nc3, .map (some B1), .map (some B2), .int .i64 (place fs st fs.length : Nat)] 58)
      have HEQ := hide (fun w' (hr : NumRow w' na3 (placesTo fs st fs.length)) (hq : NumRow w' na ns) => equalInts_any na3 na nc3 nc (placesTo fs st fs.length) ns w' (by rw [placesTo_len]; exact k1) k2 h1 h2 hr hq)
      rw [placesTo_len] at HEQ
      clear hG hb3 k3 HX3 HY3 HG hX
      have hX := box2 (unhide HX4)
      generalize hpl : place fs st fs.length = pl at *
      have HPL := hide hpl
      clear hpl
      go_wp2_with fail
      refine (unhide HEQ _ (unhide HK3) ((unhide HS).below hB4)).mono ?_
      rintro e w5 ⟨rfl, hb5⟩
      have hY := box4 (box_below (unhide HY4) hb5)
      have hZ5 := box4 (box_below (unhide HZ) hb5)
      have hB5 := bl_trans hB4 hb5
      have HG5 := hide ((unhide HG4).next hb5)
      clear hX hZ
      by_cases hq : ns = placesTo fs st fs.length
      · have HE : Hid (true = formB fs ns st) := unhide HEND (unhide HALL) hq
        rw [decide_eq_true hq.symm]
        clear hq
        go_wp2_with fail
        refine bodyPost_ret (v := .tuple #[.agg #[.slice na3 fs.length nc3, .map (some B1), .map (some B2), .int .i64 (pl : Int)], .bool true]) (by simp [results, Tryz.results44, go_sem, hY]) rfl ⟨_, by rw [← unhide HE], .inr ⟨(unhide HE).symm, na3, nc3, G, B1, B2, by rw [unhide HPL]; rfl, ?_⟩, below_set4 hB5 _ _ _ _⟩
        rw [unhide HPL]
        exact GS.set (GS.set (GS.set (GS.set (unhide HG5) hwB (by omega) _) hwB (by omega) _) hwB (by omega) _) hwB (by omega) _
      · have HE := hide (unhide HAT hq)
        rw [decide_eq_false (fun e => hq e.symm)]
        clear hq
        go_wp2_with fail
        exact bodyPost_ret (v := .tuple #[.agg #[.slice none 0 0, .map none, .map none, .int .i64 0], .bool false]) (by simp [results, Tryz.results44, go_sem, hY]) rfl (end_no (unhide HE) (below_set4 hB5 _ _ _ _))
end Go.Proofs.YthbbmookhcalkaaGreat.LayM
