/- The contracts of the program's stoneRow.put, stonesOk, groundAsLaid. -/
import Derived.Test.YthbbmookhcalkaaGreatDoorLayJ
import Derived.Test.YthbbmookhcalkaaGreatDoorPke34f4da7
namespace Go.Proofs.YthbbmookhcalkaaGreatDoor.LayK
open Go.ChangeShapes Go.WideShapes Go.ChangeAt Go.RowKit Go.Joins Go.WideMaps Go.Maps Go.Deep
open Go.Proofs.YthbbmookhcalkaaGreatDoor.Base Go.Proofs.YthbbmookhcalkaaGreatDoor.InsA Go.Proofs.YthbbmookhcalkaaGreatDoor.Funs Go.Proofs.YthbbmookhcalkaaGreatDoor.Open Go.Proofs.YthbbmookhcalkaaGreatDoor.Keep Go.Proofs.YthbbmookhcalkaaGreatDoor.UnitS Go.Proofs.YthbbmookhcalkaaGreatDoor.UnitM Go.Proofs.YthbbmookhcalkaaGreatDoor.Refs Go.Proofs.YthbbmookhcalkaaGreatDoor.LayN Go.Proofs.YthbbmookhcalkaaGreatDoor.LayA Go.Proofs.YthbbmookhcalkaaGreatDoor.KeepD Go.Proofs.YthbbmookhcalkaaGreatDoor.KeepA Go.Proofs.YthbbmookhcalkaaGreatDoor.LayD Go.Proofs.YthbbmookhcalkaaGreatDoor.LayS Go.Proofs.YthbbmookhcalkaaGreatDoor.LayT Go.Proofs.YthbbmookhcalkaaGreatDoor.LayG Go.Proofs.YthbbmookhcalkaaGreatDoor.LayH Go.Proofs.YthbbmookhcalkaaGreatDoor.LayJ
set_option linter.unusedVariables false
set_option maxRecDepth 100000

set_option maxHeartbeats 2000000 in
theorem put_any (b n : Nat) (D : DataW Unit) (s : ByteArray) (w : World) (hn : n ≤ 100000000) (hs : s.size ≤ maxLen) (hown : w.ownsMap Tryz.prog 9 (plainElem Tryz.prog 3) b n D) :
    Calls Tryz.prog 115 #[.map (some b), .string s] w fun e w' => e = .returned (.bool (!has D (keyS s))) ∧ (has D (keyS s) = true → w' = w) ∧ (has D (keyS s) = false → w'.ownsMap Tryz.prog 9 (plainElem Tryz.prog 3) b (n + 1) (D.put (keyS s) (.lit (.int .i64 (Maps.size D : Nat)))) ∧ w.grownBy w' (some b)) := by
  have hkey : keyOf Tryz.prog 9 (.string s) = some (keyS s) := keyOf_string_mk Tryz.underlying9 hs
  have hwf := nat_wf (x := Maps.size D) (by have := hown.size_le; omega)
  cases hh : has D (keyS s)
  · go_enter Tryz.func115, Tryz.ntmps115
    go_wp2_with (first
      | (at_lookup; refine wpList_lookup_own_ok_int _ rfl _ _ 171 rfl 9 3 .i64 lawS Tryz.underlying171 Tryz.underlying3 (zeroI _) b n _ rfl hown _ _ rfl hkey ?_; intro c hat hwc)
      | (at_len; refine wpList_len_own _ rfl _ 171 rfl 9 3 Tryz.underlying171 _ b n _ rfl hown ?_)
      | (at_mapUpdate; refine wpList_mapUpdate_own _ rfl _ _ _ 171 rfl 9 3 lawS Tryz.underlying171 _ b n _ rfl hown (by unfold maxLen; omega) _ _ _ rfl rfl hkey _ [] (plainElem_int Tryz.underlying3 hwf) ?_; intro w1 hown1 hgrow1)
      | fail)
    go_ret
    exact ⟨rfl, (fun h => by cases h), fun _ => ⟨hown1, hgrow1⟩⟩
  · go_enter Tryz.func115, Tryz.ntmps115
    go_wp2_with (first
      | (at_lookup; refine wpList_lookup_own_ok_int _ rfl _ _ 171 rfl 9 3 .i64 lawS Tryz.underlying171 Tryz.underlying3 (zeroI _) b n _ rfl hown _ _ rfl hkey ?_; intro c hat hwc)
      | fail)
    go_ret
    exact ⟨rfl, (fun _ => rfl), fun h => by cases h⟩
/-- The row of stones behind the first j names. -/
def RD (ss : List ByteArray) : Nat → DataW Unit
  | 0 => .map []
  | j + 1 => (RD ss j).put (keyS (ss.getD j ⟨#[]⟩)) (.lit (.int .i64 (Maps.size (RD ss j) : Nat)))
theorem RD_tidy (ss : List ByteArray) : ∀ j, Tidy (RD ss j)
  | 0 => tidy_empty
  | j + 1 => (RD_tidy ss j).put (keyS_is _) _
theorem RD_has (ss : List ByteArray) (s : ByteArray) : ∀ j, j ≤ ss.length → (has (RD ss j) (keyS s) = true ↔ ∃ i, ∃ hi : i < ss.length, i < j ∧ ss[i].toList = s.toList)
  | 0, _ => by simp [RD, has]
  | j + 1, hj => by
    have ih := RD_has ss s j (by omega)
    have e : ss.getD j ⟨#[]⟩ = ss[j] := by simp [List.getD, List.getElem?_eq_getElem (show j < ss.length by omega)]
    rw [RD, e]
    by_cases h : ss[j].toList = s.toList
    · rw [keyS_eq h, has_put_same (RD_tidy ss j).isMap (keyS_is _)]
      exact ⟨fun _ => ⟨j, by omega, by omega, h⟩, fun _ => rfl⟩
    · rw [has_put_other (keyS_ne (fun e => h e.symm)), ih]
      constructor
      · rintro ⟨i, hi, h1, h2⟩; exact ⟨i, hi, by omega, h2⟩
      · rintro ⟨i, hi, h1, h2⟩
        have : i ≠ j := fun e => by subst e; exact h h2
        exact ⟨i, hi, by omega, h2⟩
theorem RD_succ {ss : List ByteArray} {j : Nat} (h : j < ss.length) : RD ss (j + 1) = (RD ss j).put (keyS ss[j]) (.lit (.int .i64 (Maps.size (RD ss j) : Nat))) := by
  rw [RD]; simp [List.getD, List.getElem?_eq_getElem h]
theorem has_find {fs : List FunD} {s : ByteArray} : has (PD fs fs.length) (keyS s) = decide (0 ≤ findI fs s) := by
  rw [PD_has fs (Nat.le_refl _), List.take_length, Bool.eq_iff_iff, decide_eq_true_iff, List.any_eq_true]
  constructor
  · rintro ⟨f, hf, h⟩
    unfold findI
    rw [if_pos (List.findIdx_lt_length_of_exists ⟨f, hf, h⟩)]
    omega
  · intro h
    unfold findI at h
    by_cases hlt : fs.findIdx (isNm s) < fs.length
    · exact ⟨_, List.getElem_mem hlt, List.findIdx_getElem (w := hlt)⟩
    · rw [if_neg hlt] at h; omega
set_option maxHeartbeats 4000000 in
theorem stonesOk_any (a : Option Addr) (cap nb m : Nat) (ss : List ByteArray) (fs : List FunD) (w : World) (hl : ss.length ≤ 1048576) (hcap : ss.length ≤ cap) (hcm : cap ≤ maxLen) (hR : TextRow w a ss) (hm : w.ownsMap Tryz.prog 9 (plainElem Tryz.prog 3) nb m (PD fs fs.length)) :
    Calls Tryz.prog 89 #[.slice a ss.length cap, .map (some nb)] w fun e w' => e = .returned (.bool (stonesB fs ss)) ∧ Below w.heap.size w w' := by
  have HR := hide hR
  have HM := hide hm
  have hlen : (ss.length : Int) ≤ 9223372036854775807 := by unfold maxLen at hcm; omega
  clear hR hm
  have hmm := @run_makeMap Tryz.prog
  go_enter Tryz.func89, Tryz.ntmps89
  go_wp2_with fail
  clear hmm
  go_loopw [13] (fun i w' => ∃ j : Nat, j ≤ ss.length ∧ i = .int .i64 j ∧ Hid (∀ i (h : i < ss.length), i < j → 0 ≤ findI fs ss[i]) ∧ Hid (∀ i j' (h : j' < ss.length) (hi : i < j'), j' < j → ss[j'].toList ≠ (ss[i]'(by omega)).toList) ∧ w'.ownsMap Tryz.prog 9 (plainElem Tryz.prog 3) w.heap.size j (RD ss j) ∧ Below w.heap.size w w') (fun i _ => ss.length - (intOf i).toNat)
  case atStart => exact ⟨0, Nat.zero_le _, rfl, fun i _ h => by omega, fun i j' _ _ h => by omega, World.ownsMap_made _ _ _ _, (Below.refl _ _).alloc (Nat.le_refl _) _⟩
  case round =>
    obtain ⟨j, hj, rfl, HJ1, HJ2, hrow, hB⟩ := hrel
    by_cases hjl : j < ss.length
    · have hjl' : (j : Int) < (ss.length : Int) := by omega
      obtain ⟨tb, to', rfl⟩ := (unhide HR).get (by omega)
      obtain ⟨u0, hsz⟩ := ((unhide HR).below hB).cells hjl
      have hnum := map_kept (unhide HM) (hB.block _ (map_lt (unhide HM)))
      have hkey : keyOf Tryz.prog 9 (.string ss[j]) = some (keyS ss[j]) := keyOf_string_mk Tryz.underlying9 hsz
      have HN1 : Hid (has (PD fs fs.length) (keyS ss[j]) = false → false = stonesB fs ss) := fun h => (stones_none hjl (by rw [has_find] at h; simpa using h)).symm
      have HN2 : Hid (has (RD ss j) (keyS ss[j]) = true → false = stonesB fs ss) := fun h => by
        obtain ⟨i, hi, h1, h2⟩ := (RD_has ss ss[j] j (by omega)).1 h
        exact (stones_twice hjl h1 h2.symm).symm
      have HY1 : Hid (has (PD fs fs.length) (keyS ss[j]) = true → ∀ i (h : i < ss.length), i < j + 1 → 0 ≤ findI fs ss[i]) := fun h i hi hlt => by
        by_cases e : i = j
        · subst e; rw [has_find] at h; simpa using h
        · exact unhide HJ1 i hi (by omega)
      have HY2 : Hid (has (RD ss j) (keyS ss[j]) = false → ∀ i j' (h : j' < ss.length) (hi : i < j'), j' < j + 1 → ss[j'].toList ≠ (ss[i]'(by omega)).toList) := fun h i j' hj' hi hlt => by
        by_cases e : j' = j
        · subst e
          intro e2
          have := (RD_has ss ss[j'] j' (by omega)).2 ⟨i, by omega, hi, e2.symm⟩
          rw [h] at this
          cases this
        · exact unhide HJ2 i j' hj' hi (by omega)
      have HRD := hide (RD_succ hjl)
      generalize ss[j] = s at *
      cases hp : has (PD fs fs.length) (keyS s)
      · have HE := hide (unhide HN1 hp)
        go_wp2_with (first
          | (at_lookup; refine wpList_lookup_own_ok_int _ rfl _ _ 58 rfl 9 3 .i64 lawS Tryz.underlying58 Tryz.underlying3 (zeroI _) nb m _ rfl hnum _ _ rfl hkey ?_; intro c hat hwc)
          | fail)
        go_ret
        exact ⟨ret_bool (unhide HE), hB⟩
      · have HP1 := hide (unhide HY1 hp)
        have HPUT := hide (put_any w.heap.size j (RD ss j) s wr (by omega) hsz hrow)
        cases hr : has (RD ss j) (keyS s)
        · have HP2 := hide (unhide HY2 hr)
          go_wp2_with (first
            | (at_lookup; refine wpList_lookup_own_ok_int _ rfl _ _ 58 rfl 9 3 .i64 lawS Tryz.underlying58 Tryz.underlying3 (zeroI _) nb m _ rfl hnum _ _ rfl hkey ?_; intro c hat hwc)
            | fail)
          refine (unhide HPUT).mono ?_
          rw [hr]
          rintro e w2 ⟨rfl, _, hq⟩
          obtain ⟨hown2, hg2⟩ := hq rfl
          rw [← unhide HRD] at hown2
          have hB2 := hB.grown hg2 hB.size (fun q hq => by cases hq; exact Nat.le_refl _)
          go_wp2_with fail
          exact ⟨⟨j + 1, by omega, by go_num, unhide HP1, unhide HP2, hown2, hB2⟩, by simp [intOf]; omega⟩
        · have HE := hide (unhide HN2 hr)
          go_wp2_with (first
            | (at_lookup; refine wpList_lookup_own_ok_int _ rfl _ _ 58 rfl 9 3 .i64 lawS Tryz.underlying58 Tryz.underlying3 (zeroI _) nb m _ rfl hnum _ _ rfl hkey ?_; intro c hat hwc)
            | fail)
          refine (unhide HPUT).mono ?_
          rw [hr]
          rintro e w2 ⟨rfl, hq, _⟩
          obtain rfl := hq rfl
          go_wp2_with fail
          go_ret
          exact ⟨ret_bool (unhide HE), hB⟩
    · have hjl' : ¬ (j : Int) < (ss.length : Int) := by omega
      have HE := hide (stones_end (fs := fs) (ss := ss) (fun i h => unhide HJ1 i h (by omega)) (fun i j' h hi => unhide HJ2 i j' h hi (by omega)))
      go_wp2_with fail
      go_ret
      exact ⟨ret_bool (unhide HE).symm, hB⟩
theorem GS.nums {W w : World} {G B1 B2 ka kb : Nat} {l : List (ByteArray × Nat)} {sz : Nat} {na : Option Addr} {nc : Nat} {fs : List FunD} {st : List (List ByteArray)} (h : GS W w G B1 B2 ka kb l sz na nc fs st) : ka ≤ nc ∧ nc ≤ maxLen ∧ NumRow w na (placesTo fs st ka) := by
  obtain ⟨q1, ⟨q2, q0⟩ | ⟨g, cap, cur, q2, hB, hgg, hn, hm, hs, ht⟩⟩ := h.row
  · simp only [Value.slice.injEq] at q2
    obtain ⟨rfl, h2, h3⟩ := q2
    exact ⟨by omega, by unfold maxLen; omega, .inl (by rw [q0]; rfl)⟩
  · simp only [Value.slice.injEq] at q2
    obtain ⟨rfl, _, rfl⟩ := q2
    refine ⟨hn, hm, .inr ⟨g, 0, rfl, fun i hi => ?_⟩⟩
    rw [cell_of_block hgg]
    have hik : i < ka := by rw [placesTo_len] at hi; exact hi
    have e : (cur.toList.take (ka * 1))[i]? = some (.int .i64 (placesTo fs st ka)[i]) := by rw [ht]; simp [hi]
    rw [List.getElem?_take_of_lt (by omega)] at e
    simpa using e
/-- What a program's ground is. -/
def groundV (na : Option Addr) (n nc B1 B2 : Nat) (sz : Nat) : Value := .agg #[.slice na n nc, .map (some B1), .map (some B2), .int .i64 (sz : Int)]
def zeroV : Value := .agg #[.slice none 0 0, .map none, .map none, .int .i64 0]
def GroundIs (w w' : World) (fs : List FunD) (ns : List Int) (st : List (List ByteArray)) (v : Value) : Prop :=
  (formB fs ns st = false ∧ v = zeroV) ∨ (formB fs ns st = true ∧ ∃ na nc G B1 B2, v = groundV na fs.length nc B1 B2 (place fs st fs.length) ∧ GS w w' G B1 B2 fs.length fs.length (stonesTo fs st fs.length) (place fs st fs.length) na nc fs st)
theorem ground_no {w w' : World} {fs : List FunD} {ns : List Int} {st : List (List ByteArray)} (h : false = formB fs ns st) : GroundIs w w' fs ns st zeroV := .inl ⟨h.symm, rfl⟩
theorem GS.base {W0 W w : World} {G B1 B2 ka kb : Nat} {l : List (ByteArray × Nat)} {sz : Nat} {na : Option Addr} {nc : Nat} {fs : List FunD} {st : List (List ByteArray)} (h : GS W w G B1 B2 ka kb l sz na nc fs st) (hb : Below W0.heap.size W0 W) : GS W0 w G B1 B2 ka kb l sz na nc fs st :=
  ⟨h.box, h.beg, h.grp, h.shn, h.row, bl_trans hb h.blw, Nat.le_trans hb.size h.o1, h.o2, h.o3⟩
end Go.Proofs.YthbbmookhcalkaaGreatDoor.LayK
/- The contracts of the program's groundAsLaid, LaySize, LayStone. -/
namespace Go.Proofs.YthbbmookhcalkaaGreatDoor.LayM
open Go.ChangeShapes Go.WideShapes Go.ChangeAt Go.RowKit Go.Joins Go.WideMaps Go.Maps Go.Deep
open Go.Proofs.YthbbmookhcalkaaGreatDoor.Base Go.Proofs.YthbbmookhcalkaaGreatDoor.InsA Go.Proofs.YthbbmookhcalkaaGreatDoor.Funs Go.Proofs.YthbbmookhcalkaaGreatDoor.Open Go.Proofs.YthbbmookhcalkaaGreatDoor.Keep Go.Proofs.YthbbmookhcalkaaGreatDoor.UnitS Go.Proofs.YthbbmookhcalkaaGreatDoor.UnitM Go.Proofs.YthbbmookhcalkaaGreatDoor.Refs Go.Proofs.YthbbmookhcalkaaGreatDoor.LayN Go.Proofs.YthbbmookhcalkaaGreatDoor.LayA Go.Proofs.YthbbmookhcalkaaGreatDoor.KeepD Go.Proofs.YthbbmookhcalkaaGreatDoor.KeepA Go.Proofs.YthbbmookhcalkaaGreatDoor.LayD Go.Proofs.YthbbmookhcalkaaGreatDoor.LayS Go.Proofs.YthbbmookhcalkaaGreatDoor.LayT Go.Proofs.YthbbmookhcalkaaGreatDoor.LayG Go.Proofs.YthbbmookhcalkaaGreatDoor.LayH Go.Proofs.YthbbmookhcalkaaGreatDoor.LayJ Go.Proofs.YthbbmookhcalkaaGreatDoor.LayK Go.Proofs.YthbbmookhcalkaaGreatDoor.LayV
set_option linter.unusedVariables false
set_option maxRecDepth 100000

def GroundEnd (w : World) (fs : List FunD) (ns : List Int) (st : List (List ByteArray)) (e : Ending) (w' : World) : Prop := ∃ v, e = .returned (.tuple #[v, .bool (formB fs ns st)]) ∧ GroundIs w w' fs ns st v ∧ Below w.heap.size w w'
theorem end_no {w w' : World} {fs : List FunD} {ns : List Int} {st : List (List ByteArray)} (h : false = formB fs ns st) (hb : Below w.heap.size w w') : GroundEnd w fs ns st (.returned (.tuple #[.agg #[.slice none 0 0, .map none, .map none, .int .i64 0], .bool false])) w' := ⟨_, by rw [← h]; rfl, ground_no h, hb⟩
theorem below_set4 {w w' : World} (h : Below w.heap.size w w') (v0 v1 v2 v3 : Value) : Below w.heap.size w ((((w'.setCell ⟨w.heap.size + 1, 0, none⟩ v0).setCell ⟨w.heap.size + 1, 1, none⟩ v1).setCell ⟨w.heap.size + 1, 2, none⟩ v2).setCell ⟨w.heap.size + 1, 3, none⟩ v3) :=
  (((h.setCell (by show w.heap.size ≤ w.heap.size + 1; omega) _).setCell (by show w.heap.size ≤ w.heap.size + 1; omega) _).setCell (by show w.heap.size ≤ w.heap.size + 1; omega) _).setCell (by show w.heap.size ≤ w.heap.size + 1; omega) _
set_option maxHeartbeats 8000000 in
theorem groundAsLaid_any (a na sa : Option Addr) (cap nc sc : Nat) (fs : List FunD) (ns : List Int) (st : List (List ByteArray)) (w : World) (hcap : fs.length ≤ cap) (hcm : cap ≤ maxLen) (h1 : ns.length ≤ nc) (h2 : nc ≤ maxLen) (h3 : st.length ≤ sc) (h4 : sc ≤ maxLen) (hft : FewT st) (hR : FunRow w a fs) (hs : NumRow w na ns) (ho : TextsRow w sa st) :
    Calls Tryz.prog 55 #[.slice a fs.length cap, .agg #[.slice na ns.length nc, .slice sa st.length sc]] w (GroundEnd w fs ns st) := by
  have HR := hide hR
  have HS := hide hs
  have HO := hide ho
  have hB0 := below_alloc2 w (.cells #[.slice na ns.length nc, .slice sa st.length sc] 47) (.cells #[.slice none 0 0, .map none, .map none, .int .i64 0] 89)
  have HX := hide (box_below (new_block w (.cells #[.slice na ns.length nc, .slice sa st.length sc] 47)) (below_alloc1 _ (.cells #[.slice none 0 0, .map none, .map none, .int .i64 0] 89)))
  have hY := new_block (w.alloc (.cells #[.slice na ns.length nc, .slice sa st.length sc] 47)) (.cells #[.slice none 0 0, .map none, .map none, .int .i64 0] 89)
  rw [World.size_alloc] at hY
  have HY := hide hY
  have hls : (st.length : Int) ≤ 9223372036854775807 := by unfold maxLen at h4; omega
  have hlf : (fs.length : Int) ≤ 9223372036854775807 := by unfold maxLen at hcm; omega
  clear hR hs ho hY
  cases hk : keepOkB fs
  · have HE : Hid (false = formB fs ns st) := (form_keep hk).symm
    go_enter Tryz.func55, Tryz.ntmps55
    go_wp2_with fail
    refine (implKeepOk_any a cap fs _ hcap hcm ((unhide HR).below hB0)).mono ?_
    rw [hk]
    rintro e w1 ⟨rfl, hb1⟩
    have hY := box4 (box_below (unhide HY) hb1)
    have hB1 := bl_trans hB0 hb1
    go_wp2_with fail
    exact bodyPost_ret (v := .tuple #[.agg #[.slice none 0 0, .map none, .map none, .int .i64 0], .bool false]) (by simp [results, Tryz.results55, go_sem, hY]) rfl (end_no (unhide HE) (below_set4 hB1 _ _ _ _))
  by_cases hm : st.length = fs.length
  rotate_left
  · have HE : Hid (false = formB fs ns st) := (form_len hm).symm
    have hm' : ¬ (st.length : Int) = (fs.length : Int) := by omega
    go_enter Tryz.func55, Tryz.ntmps55
    go_wp2_with fail
    refine (implKeepOk_any a cap fs _ hcap hcm ((unhide HR).below hB0)).mono ?_
    rw [hk]
    rintro e w1 ⟨rfl, hb1⟩
    have hY := box4 (box_below (unhide HY) hb1)
    have hX := box2 (box_below (unhide HX) hb1)
    have hB1 := bl_trans hB0 hb1
    go_wp2_with fail
    exact bodyPost_ret (v := .tuple #[.agg #[.slice none 0 0, .map none, .map none, .int .i64 0], .bool false]) (by simp [results, Tryz.results55, go_sem, hY]) rfl (end_no (unhide HE) (below_set4 hB1 _ _ _ _))
  have h40 := (keep_parts hk).2.1
  have HKB := hide (keep_bodies hk)
  have HKE := hide hk
  have HEND : Hid ((∀ i (h : i < st.length), stonesB fs st[i] = true) → ns = placesTo fs st fs.length → true = formB fs ns st) := fun e1 e2 => (form_end hk hm e1 e2).symm
  have HAT : Hid (ns ≠ placesTo fs st fs.length → false = formB fs ns st) := fun h => (form_at h).symm
  have HST : Hid (∀ k (h : k < st.length), stonesB fs st[k] = false → false = formB fs ns st) := fun k h e => (form_stones h e).symm
  have HGO := hide (fun w' (hr : FunRow w' a fs) (ht : TextsRow w' sa st) => groundOf_any a sa cap sc fs st w' h40 (unhide HKB) hm hft hcap hcm h3 h4 hr ht)
  have HFT := hide hft.2
  have HM := hide hm
  rw [hm] at HX hB0 HY h3 HGO ⊢
  clear hm hft hls
  have hkk := hk
  clear hk
  go_enter Tryz.func55, Tryz.ntmps55
  go_wp2_with fail
  refine (implKeepOk_any a cap fs _ hcap hcm ((unhide HR).below hB0)).mono ?_
  rw [hkk]
  rintro e w1 ⟨rfl, hb1⟩
  replace HX := hide (box_below (unhide HX) hb1)
  replace HY := hide (box_below (unhide HY) hb1)
  replace hB0 := bl_trans hB0 hb1
  have hX := box2 (unhide HX)
  clear hb1 hkk
  go_wp2_with fail
  refine (places_any a cap fs _ hcap hcm h40 ((unhide HR).below hB0)).mono ?_
  rintro e w2 ⟨rfl, hown, hb2⟩
  replace HX := hide (box_below (unhide HX) hb2)
  replace HY := hide (box_below (unhide HY) hb2)
  replace hB0 := bl_trans hB0 hb2
  have HNM := hide hown
  clear hX hown hb2
  generalize w1.heap.size = nb at *
  have hX := box2 (unhide HX)
  go_wp2_with fail
  clear hX
  go_loopw [27] (fun i w' => ∃ j : Nat, j ≤ fs.length ∧ i = .int .i64 j ∧ Hid (∀ k (h : k < st.length), k < j → stonesB fs st[k] = true) ∧ w'.heap[w.heap.size]? = some (.cells #[.slice na ns.length nc, .slice sa fs.length sc] 47) ∧ w'.heap[w.heap.size + 1]? = some (.cells #[.slice none 0 0, .map none, .map none, .int .i64 0] 89) ∧ w'.ownsMap Tryz.prog 9 (plainElem Tryz.prog 3) nb fs.length (PD fs fs.length) ∧ Below w.heap.size w w') (fun i _ => fs.length - (intOf i).toNat)
  case atStart => exact ⟨0, Nat.zero_le _, rfl, fun k _ h => by omega, unhide HX, unhide HY, unhide HNM, hB0⟩
  case round =>
    obtain ⟨j, hj, rfl, HJ, hX, hY, hnm, hB⟩ := hrel
    clear HX HY HNM hB0
    have HX := hide hX
    have HY := hide hY
    have HNM := hide hnm
    clear hX hY hnm
    by_cases hjl : j < fs.length
    · have hjl' : (j : Int) < (fs.length : Int) := by omega
      have hjs : j < st.length := by rw [unhide HM]; exact hjl
      obtain ⟨sb, so, rfl⟩ := (unhide HO).get (by omega)
      obtain ⟨ai, ci, t0, h5, h6, h7⟩ := ((unhide HO).below hB).at hjs
      have HT7 := hide h7
      have hsl := unhide HFT st[j] (List.getElem_mem _)
      have HNO := hide (unhide HST j hjs)
      have HJX : Hid (stonesB fs st[j] = true → ∀ k (h : k < st.length), k < j + 1 → stonesB fs st[k] = true) := fun hq k h hk => by
        by_cases e : k = j
        · subst e; exact hq
        · exact unhide HJ k h (by omega)
      clear h7
      generalize st[j] = ss at *
      cases hq : stonesB fs ss
      · have HE := hide (unhide HNO hq)
        go_wp2_with fail
        refine (stonesOk_any ai ci nb fs.length ss fs _ hsl h5 h6 (unhide HT7) (unhide HNM)).mono ?_
        rw [hq]
        rintro e w3 ⟨rfl, hb3⟩
        have hY := box4 (box_below (unhide HY) hb3)
        have hB3 := bl_trans hB hb3
        clear t0
        go_wp2_with fail
        exact bodyPost_ret (v := .tuple #[.agg #[.slice none 0 0, .map none, .map none, .int .i64 0], .bool false]) (by simp [results, Tryz.results55, go_sem, hY]) rfl (end_no (unhide HE) (below_set4 hB3 _ _ _ _))
      · have HJ2 := hide (unhide HJX hq)
        go_wp2_with fail
        refine (stonesOk_any ai ci nb fs.length ss fs _ hsl h5 h6 (unhide HT7) (unhide HNM)).mono ?_
        rw [hq]
        rintro e w3 ⟨rfl, hb3⟩
        have HX3 := hide (box_below (unhide HX) hb3)
        have HY3 := hide (box_below (unhide HY) hb3)
        have HN3 := hide (map_kept (unhide HNM) (hb3.block _ (map_lt (unhide HNM))))
        have hB3 := bl_trans hB hb3
        clear t0
        go_wp2_with fail
        exact ⟨⟨j + 1, by omega, by go_num, unhide HJ2, unhide HX3, unhide HY3, unhide HN3, hB3⟩, by simp [intOf]; omega⟩
    · have hjl' : ¬ (j : Int) < (fs.length : Int) := by omega
      have HALL : Hid (∀ k (h : k < st.length), stonesB fs st[k] = true) := fun k h => unhide HJ k h (by have := unhide HM; omega)
      have hX := box2 (unhide HX)
      go_wp2_with fail
      refine (unhide HGO _ ((unhide HR).below hB) ((unhide HO).below hB)).mono ?_
      rintro e w3 ⟨na3, nc3, G, B1, B2, rfl, hG⟩
      have HG := hide (GS.base hG hB)
      have hwB : w.heap.size + 1 < B1 := by
        have := (Array.getElem?_eq_some_iff.1 (unhide HY)).1
        have := hG.o1
        omega
      have hb3 := hG.blw
      have HX3 := hide (box_below (unhide HX) hb3)
      have HY3 := hide (box_below (unhide HY) hb3)
      obtain ⟨k1, k2, k3⟩ := GS.nums (unhide HG)
      have hB3 := bl_trans hB hb3
      have HG4 := hide ((unhide HG).next (below_alloc1 w3 (.cells #[.slice na3 fs.length nc3, .map (some B1), .map (some B2), .int .i64 (place fs st fs.length : Nat)] 89)))
      have HK3 := hide (k3.below (below_alloc1 w3 (.cells #[.slice na3 fs.length nc3, .map (some B1), .map (some B2), .int .i64 (place fs st fs.length : Nat)] 89)))
      have hZ := box4 (new_block w3 (.cells #[.slice na3 fs.length nc3, .map (some B1), .map (some B2), .int .i64 (place fs st fs.length : Nat)] 89))
      have HZ := hide (new_block w3 (.cells #[.slice na3 fs.length nc3, .map (some B1), .map (some B2), .int .i64 (place fs st fs.length : Nat)] 89))
      have HX4 := hide (box_below (unhide HX3) (below_alloc1 w3 (.cells #[.slice na3 fs.length nc3, .map (some B1), .map (some B2), .int .i64 (place fs st fs.length : Nat)] 89)))
      have HY4 := hide (box_below (unhide HY3) (below_alloc1 w3 (.cells #[.slice na3 fs.length nc3, .map (some B1), .map (some B2), .int .i64 (place fs st fs.length : Nat)] 89)))
      have hB4 := bl_alloc hB3 (.cells #[.slice na3 fs.length nc3, .map (some B1), .map (some B2), .int .i64 (place fs st fs.length : Nat)] 89)
      have HEQ := hide (fun w' (hr : NumRow w' na3 (placesTo fs st fs.length)) (hq : NumRow w' na ns) => equalInts_any na3 na nc3 nc (placesTo fs st fs.length) ns w' (by rw [placesTo_len]; exact k1) k2 h1 h2 hr hq)
      rw [placesTo_len] at HEQ
      clear hG hb3 k3 HX3 HY3 HG hX
      have hX := box2 (unhide HX4)
      generalize hpl : place fs st fs.length = pl at *
      have HPL := hide hpl
      clear hpl
      go_wp2_with fail
      refine (unhide HEQ _ (unhide HK3) ((unhide HS).below hB4)).mono ?_
      rintro e w5 ⟨rfl, hb5⟩
      have hY := box4 (box_below (unhide HY4) hb5)
      have hZ5 := box4 (box_below (unhide HZ) hb5)
      have hB5 := bl_trans hB4 hb5
      have HG5 := hide ((unhide HG4).next hb5)
      clear hX hZ
      by_cases hq : ns = placesTo fs st fs.length
      · have HE : Hid (true = formB fs ns st) := unhide HEND (unhide HALL) hq
        rw [decide_eq_true hq.symm]
        clear hq
        go_wp2_with fail
        refine bodyPost_ret (v := .tuple #[.agg #[.slice na3 fs.length nc3, .map (some B1), .map (some B2), .int .i64 (pl : Int)], .bool true]) (by simp [results, Tryz.results55, go_sem, hY]) rfl ⟨_, by rw [← unhide HE], .inr ⟨(unhide HE).symm, na3, nc3, G, B1, B2, by rw [unhide HPL]; rfl, ?_⟩, below_set4 hB5 _ _ _ _⟩
        rw [unhide HPL]
        exact GS.set (GS.set (GS.set (GS.set (unhide HG5) hwB (by omega) _) hwB (by omega) _) hwB (by omega) _) hwB (by omega) _
      · have HE := hide (unhide HAT hq)
        rw [decide_eq_false (fun e => hq e.symm)]
        clear hq
        go_wp2_with fail
        exact bodyPost_ret (v := .tuple #[.agg #[.slice none 0 0, .map none, .map none, .int .i64 0], .bool false]) (by simp [results, Tryz.results55, go_sem, hY]) rfl (end_no (unhide HE) (below_set4 hB5 _ _ _ _))
end Go.Proofs.YthbbmookhcalkaaGreatDoor.LayM
