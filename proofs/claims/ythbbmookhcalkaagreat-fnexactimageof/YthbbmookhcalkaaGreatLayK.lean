/- The contracts of the program's stoneRow.put, stonesOk, groundAsLaid. -/
import Derived.Test.YthbbmookhcalkaaGreatLayJ
import Derived.Test.YthbbmookhcalkaaGreatLayV
namespace Go.Proofs.YthbbmookhcalkaaGreat.LayK
open Go.ChangeShapes Go.WideShapes Go.ChangeAt Go.RowKit Go.Joins Go.WideMaps Go.Maps Go.Deep
open Go.Proofs.YthbbmookhcalkaaGreat.Base Go.Proofs.YthbbmookhcalkaaGreat.InsA Go.Proofs.YthbbmookhcalkaaGreat.Funs Go.Proofs.YthbbmookhcalkaaGreat.Open Go.Proofs.YthbbmookhcalkaaGreat.Keep Go.Proofs.YthbbmookhcalkaaGreat.UnitS Go.Proofs.YthbbmookhcalkaaGreat.UnitM Go.Proofs.YthbbmookhcalkaaGreat.Refs Go.Proofs.YthbbmookhcalkaaGreat.LayN Go.Proofs.YthbbmookhcalkaaGreat.LayA Go.Proofs.YthbbmookhcalkaaGreat.KeepD Go.Proofs.YthbbmookhcalkaaGreat.KeepA Go.Proofs.YthbbmookhcalkaaGreat.LayD Go.Proofs.YthbbmookhcalkaaGreat.LayS Go.Proofs.YthbbmookhcalkaaGreat.LayT Go.Proofs.YthbbmookhcalkaaGreat.LayG Go.Proofs.YthbbmookhcalkaaGreat.LayH Go.Proofs.YthbbmookhcalkaaGreat.LayJ
set_option linter.unusedVariables false
set_option maxRecDepth 100000

set_option maxHeartbeats 2000000 in
theorem put_any (b n : Nat) (D : DataW Unit) (s : ByteArray) (w : World) (hn : n ≤ 100000000) (hs : s.size ≤ maxLen) (hown : w.ownsMap Tryz.prog 9 (plainElem Tryz.prog 3) b n D) :
    Calls Tryz.prog 70 #[.map (some b), .string s] w fun e w' => e = .returned (.bool (!has D (keyS s))) ∧ (has D (keyS s) = true → w' = w) ∧ (has D (keyS s) = false → w'.ownsMap Tryz.prog 9 (plainElem Tryz.prog 3) b (n + 1) (D.put (keyS s) (.lit (.int .i64 (Maps.size D : Nat)))) ∧ w.grownBy w' (some b)) := by
  have hkey : keyOf Tryz.prog 9 (.string s) = some (keyS s) := keyOf_string_mk Tryz.underlying9 hs
  have hwf := nat_wf (x := Maps.size D) (by have := hown.size_le; omega)
  cases hh : has D (keyS s)
  · go_enter Tryz.func70, Tryz.ntmps70
    go_wp2_with (first
      | (at_lookup; refine wpList_lookup_own_ok_int _ rfl _ _ 110 rfl 9 3 .i64 lawS Tryz.underlying110 Tryz.underlying3 (zeroI _) b n _ rfl hown _ _ rfl hkey ?_; intro c hat hwc)
      | (at_len; refine wpList_len_own _ rfl _ 110 rfl 9 3 Tryz.underlying110 _ b n _ rfl hown ?_)
      | (at_mapUpdate; refine wpList_mapUpdate_own _ rfl _ _ _ 110 rfl 9 3 lawS Tryz.underlying110 _ b n _ rfl hown (by unfold maxLen; omega) _ _ _ rfl rfl hkey _ [] (plainElem_int Tryz.underlying3 hwf) ?_; intro w1 hown1 hgrow1)
      | fail)
    go_ret
    exact ⟨rfl, (fun h => by cases h), fun _ => ⟨hown1, hgrow1⟩⟩
  · go_enter Tryz.func70, Tryz.ntmps70
    go_wp2_with (first
      | (at_lookup; refine wpList_lookup_own_ok_int _ rfl _ _ 110 rfl 9 3 .i64 lawS Tryz.underlying110 Tryz.underlying3 (zeroI _) b n _ rfl hown _ _ rfl hkey ?_; intro c hat hwc)
      | fail)
    go_ret
    exact ⟨rfl, (fun _ => rfl), fun h => by cases h⟩
/-- The row of stones behind the first j names. -/
def RD (ss : List ByteArray) : Nat → DataW Unit
  | 0 => .map []
  | j + 1 => (RD ss j).put (keyS (ss.getD j ⟨#[]⟩)) (.lit (.int .i64 (Maps.size (RD ss j) : Nat)))
theorem RD_tidy (ss : List ByteArray) : ∀ j, Tidy (RD ss j)
  | 0 => tidy_empty
  | j + 1 => (RD_tidy ss j).put (keyS_is _) _
theorem RD_has (ss : List ByteArray) (s : ByteArray) : ∀ j, j ≤ ss.length → (has (RD ss j) (keyS s) = true ↔ ∃ i, ∃ hi : i < ss.length, i < j ∧ ss[i].toList = s.toList)
  | 0, _ => by simp [RD, has]
  | j + 1, hj => by
    have ih := RD_has ss s j (by omega)
    have e : ss.getD j ⟨#[]⟩ = ss[j] := by simp [List.getD, List.getElem?_eq_getElem (show j < ss.length by omega)]
    rw [RD, e]
    by_cases h : ss[j].toList = s.toList
    · rw [keyS_eq h, has_put_same (RD_tidy ss j).isMap (keyS_is _)]
      exact ⟨fun _ => ⟨j, by omega, by omega, h⟩, fun _ => rfl⟩
    · rw [has_put_other (keyS_ne (fun e => h e.symm)), ih]
      constructor
      · rintro ⟨i, hi, h1, h2⟩; exact ⟨i, hi, by omega, h2⟩
      · rintro ⟨i, hi, h1, h2⟩
        have : i ≠ j := fun e => by subst e; exact h h2
        exact ⟨i, hi, by omega, h2⟩
theorem RD_succ {ss : List ByteArray} {j : Nat} (h : j < ss.length) : RD ss (j + 1) = (RD ss j).put (keyS ss[j]) (.lit (.int .i64 (Maps.size (RD ss j) : Nat))) := by
  rw [RD]; simp [List.getD, List.getElem?_eq_getElem h]
theorem has_find {fs : List FunD} {s : ByteArray} : has (PD fs fs.length) (keyS s) = decide (0 ≤ findI fs s) := by
  rw [PD_has fs (Nat.le_refl _), List.take_length, Bool.eq_iff_iff, decide_eq_true_iff, List.any_eq_true]
  constructor
  · rintro ⟨f, hf, h⟩
    unfold findI
    rw [if_pos (List.findIdx_lt_length_of_exists ⟨f, hf, h⟩)]
    omega
  · intro h
    unfold findI at h
    by_cases hlt : fs.findIdx (isNm s) < fs.length
    · exact ⟨_, List.getElem_mem hlt, List.findIdx_getElem (w := hlt)⟩
    · rw [if_neg hlt] at h; omega
set_option maxHeartbeats 4000000 in
theorem stonesOk_any (a : Option Addr) (cap nb m : Nat) (ss : List ByteArray) (fs : List FunD) (w : World) (hl : ss.length ≤ 1048576) (hcap : ss.length ≤ cap) (hcm : cap ≤ maxLen) (hR : TextRow w a ss) (hm : w.ownsMap Tryz.prog 9 (plainElem Tryz.prog 3) nb m (PD fs fs.length)) :
    Calls Tryz.prog 59 #[.slice a ss.length cap, .map (some nb)] w fun e w' => e = .returned (.bool (stonesB fs ss)) ∧ Below w.heap.size w w' := by
  have HR := hide hR
  have HM := hide hm
  have hlen : (ss.length : Int) ≤ 9223372036854775807 := by unfold maxLen at hcm; omega
  clear hR hm
  have hmm := @run_makeMap Tryz.prog
  go_enter Tryz.func59, Tryz.ntmps59
  go_wp2_with fail
  clear hmm
  go_loopw [13] (fun i w' => ∃ j : Nat, j ≤ ss.length ∧ i = .int .i64 j ∧ Hid (∀ i (h : i < ss.length), i < j → 0 ≤ findI fs ss[i]) ∧ Hid (∀ i j' (h : j' < ss.length) (hi : i < j'), j' < j → ss[j'].toList ≠ (ss[i]'(by omega)).toList) ∧ w'.ownsMap Tryz.prog 9 (plainElem Tryz.prog 3) w.heap.size j (RD ss j) ∧ Below w.heap.size w w') (fun i _ => ss.length - (intOf i).toNat)
  case atStart => exact ⟨0, Nat.zero_le _, rfl, fun i _ h => by omega, fun i j' _ _ h => by omega, World.ownsMap_made _ _ _ _, (Below.refl _ _).alloc (Nat.le_refl _) _⟩
  case round =>
    obtain ⟨j, hj, rfl, HJ1, HJ2, hrow, hB⟩ := hrel
    by_cases hjl : j < ss.length
    · have hjl' : (j : Int) < (ss.length : Int) := by omega
      obtain ⟨tb, to', rfl⟩ := (unhide HR).get (by omega)
      obtain ⟨u0, hsz⟩ := ((unhide HR).below hB).cells hjl
      have hnum := map_kept (unhide HM) (hB.block _ (map_lt (unhide HM)))
      have hkey : keyOf Tryz.prog 9 (.string ss[j]) = some (keyS ss[j]) := keyOf_string_mk Tryz.underlying9 hsz
      have HN1 : Hid (has (PD fs fs.length) (keyS ss[j]) = false → false = stonesB fs ss) := fun h => (stones_none hjl (by rw [has_find] at h; simpa using h)).symm
      have HN2 : Hid (has (RD ss j) (keyS ss[j]) = true → false = stonesB fs ss) := fun h => by
        obtain ⟨i, hi, h1, h2⟩ := (RD_has ss ss[j] j (by omega)).1 h
        exact (stones_twice hjl h1 h2.symm).symm
      have HY1 : Hid (has (PD fs fs.length) (keyS ss[j]) = true → ∀ i (h : i < ss.length), i < j + 1 → 0 ≤ findI fs ss[i]) := fun h i hi hlt => by
        by_cases e : i = j
        · subst e; rw [has_find] at h; simpa using h
        · exact unhide HJ1 i hi (by omega)
      have HY2 : Hid (has (RD ss j) (keyS ss[j]) = false → ∀ i j' (h : j' < ss.length) (hi : i < j'), j' < j + 1 → ss[j'].toList ≠ (ss[i]'(by omega)).toList) := fun h i j' hj' hi hlt => by
        by_cases e : j' = j
        · subst e
          intro e2
          have := (RD_has ss ss[j'] j' (by omega)).2 ⟨i, by omega, hi, e2.symm⟩
          rw [h] at this
          cases this
        · exact unhide HJ2 i j' hj' hi (by omega)
      have HRD := hide (RD_succ hjl)
      generalize ss[j] = s at *
      cases hp : has (PD fs fs.length) (keyS s)
      · have HE := hide (unhide HN1 hp)
        go_wp2_with (first
          | (at_lookup; refine wpList_lookup_own_ok_int _ rfl _ _ 55 rfl 9 3 .i64 lawS Tryz.underlying55 Tryz.underlying3 (zeroI _) nb m _ rfl hnum _ _ rfl hkey ?_; intro c hat hwc)
          | fail)
        go_ret
        exact ⟨ret_bool (unhide HE), hB⟩
      · have HP1 := hide (unhide HY1 hp)
        have HPUT := hide (put_any w.heap.size j (RD ss j) s wr (by omega) hsz hrow)
        cases hr : has (RD ss j) (keyS s)
        · have HP2 := hide (unhide HY2 hr)
          go_wp2_with (first
            | (at_lookup; refine wpList_lookup_own_ok_int _ rfl _ _ 55 rfl 9 3 .i64 lawS Tryz.underlying55 Tryz.underlying3 (zeroI _) nb m _ rfl hnum _ _ rfl hkey ?_; intro c hat hwc)
            | fail)
          refine (unhide HPUT).mono ?_
          rw [hr]
          rintro e w2 ⟨rfl, _, hq⟩
          obtain ⟨hown2, hg2⟩ := hq rfl
          rw [← unhide HRD] at hown2
          have hB2 := hB.grown hg2 hB.size (fun q hq => by cases hq; exact Nat.le_refl _)
          go_wp2_with fail
          exact ⟨⟨j + 1, by omega, by go_num, unhide HP1, unhide HP2, hown2, hB2⟩, by simp [intOf]; omega⟩
        · have HE := hide (unhide HN2 hr)
          go_wp2_with (first
            | (at_lookup; refine wpList_lookup_own_ok_int _ rfl _ _ 55 rfl 9 3 .i64 lawS Tryz.underlying55 Tryz.underlying3 (zeroI _) nb m _ rfl hnum _ _ rfl hkey ?_; intro c hat hwc)
            | fail)
          refine (unhide HPUT).mono ?_
          rw [hr]
          rintro e w2 ⟨rfl, hq, _⟩
          obtain rfl := hq rfl
          go_wp2_with fail
          go_ret
          exact ⟨ret_bool (unhide HE), hB⟩
    · have hjl' : ¬ (j : Int) < (ss.length : Int) := by omega
      have HE := hide (stones_end (fs := fs) (ss := ss) (fun i h => unhide HJ1 i h (by omega)) (fun i j' h hi => unhide HJ2 i j' h hi (by omega)))
      go_wp2_with fail
      go_ret
      exact ⟨ret_bool (unhide HE).symm, hB⟩
theorem GS.nums {W w : World} {G B1 B2 ka kb : Nat} {l : List (ByteArray × Nat)} {sz : Nat} {na : Option Addr} {nc : Nat} {fs : List FunD} {st : List (List ByteArray)} (h : GS W w G B1 B2 ka kb l sz na nc fs st) : ka ≤ nc ∧ nc ≤ maxLen ∧ NumRow w na (placesTo fs st ka) := by
  obtain ⟨q1, ⟨q2, q0⟩ | ⟨g, cap, cur, q2, hB, hgg, hn, hm, hs, ht⟩⟩ := h.row
  · simp only [Value.slice.injEq] at q2
    obtain ⟨rfl, h2, h3⟩ := q2
    exact ⟨by omega, by unfold maxLen; omega, .inl (by rw [q0]; rfl)⟩
  · simp only [Value.slice.injEq] at q2
    obtain ⟨rfl, _, rfl⟩ := q2
    refine ⟨hn, hm, .inr ⟨g, 0, rfl, fun i hi => ?_⟩⟩
    rw [cell_of_block hgg]
    have hik : i < ka := by rw [placesTo_len] at hi; exact hi
    have e : (cur.toList.take (ka * 1))[i]? = some (.int .i64 (placesTo fs st ka)[i]) := by rw [ht]; simp [hi]
    rw [List.getElem?_take_of_lt (by omega)] at e
    simpa using e
/-- What a program's ground is. -/
def groundV (na : Option Addr) (n nc B1 B2 : Nat) (sz : Nat) : Value := .agg #[.slice na n nc, .map (some B1), .map (some B2), .int .i64 (sz : Int)]
def zeroV : Value := .agg #[.slice none 0 0, .map none, .map none, .int .i64 0]
def GroundIs (w w' : World) (fs : List FunD) (ns : List Int) (st : List (List ByteArray)) (v : Value) : Prop :=
  (formB fs ns st = false ∧ v = zeroV) ∨ (formB fs ns st = true ∧ ∃ na nc G B1 B2, v = groundV na fs.length nc B1 B2 (place fs st fs.length) ∧ GS w w' G B1 B2 fs.length fs.length (stonesTo fs st fs.length) (place fs st fs.length) na nc fs st)
theorem ground_no {w w' : World} {fs : List FunD} {ns : List Int} {st : List (List ByteArray)} (h : false = formB fs ns st) : GroundIs w w' fs ns st zeroV := .inl ⟨h.symm, rfl⟩
theorem GS.base {W0 W w : World} {G B1 B2 ka kb : Nat} {l : List (ByteArray × Nat)} {sz : Nat} {na : Option Addr} {nc : Nat} {fs : List FunD} {st : List (List ByteArray)} (h : GS W w G B1 B2 ka kb l sz na nc fs st) (hb : Below W0.heap.size W0 W) : GS W0 w G B1 B2 ka kb l sz na nc fs st :=
  ⟨h.box, h.beg, h.grp, h.shn, h.row, bl_trans hb h.blw, Nat.le_trans hb.size h.o1, h.o2, h.o3⟩
end Go.Proofs.YthbbmookhcalkaaGreat.LayK
