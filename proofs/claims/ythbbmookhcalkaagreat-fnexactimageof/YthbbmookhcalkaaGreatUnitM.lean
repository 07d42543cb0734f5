/- The contracts of the program's placesByName, UnitOk, UnitFind: functions kept in a map by their names. -/
import Derived.Test.YthbbmookhcalkaaGreatUnitS
import Derived.Maps.OwnSet
namespace Go.Proofs.YthbbmookhcalkaaGreat.UnitM
open Go.ChangeShapes Go.WideShapes Go.ChangeAt Go.RowKit Go.Joins Go.WideMaps Go.Maps
open Go.Proofs.YthbbmookhcalkaaGreat.Base Go.Proofs.YthbbmookhcalkaaGreat.InsA Go.Proofs.YthbbmookhcalkaaGreat.InsB Go.Proofs.YthbbmookhcalkaaGreat.Funs Go.Proofs.YthbbmookhcalkaaGreat.Open Go.Proofs.YthbbmookhcalkaaGreat.FunS Go.Proofs.YthbbmookhcalkaaGreat.Keep Go.Proofs.YthbbmookhcalkaaGreat.UnitS
set_option linter.unusedVariables false
set_option maxRecDepth 100000

def keyS (s : ByteArray) : Lit := .string s.data.toList
theorem keyS_is (s : ByteArray) : WideAt.IsKeyLit (keyS s) := trivial
theorem keyS_eq {a b : ByteArray} (h : a.toList = b.toList) : keyS a = keyS b := by
  rw [ByteArray.toList_eq, ByteArray.toList_eq] at h
  unfold keyS; rw [h]
theorem keyS_ne {a b : ByteArray} (h : a.toList ≠ b.toList) : keyS a ≠ keyS b := by
  rw [ByteArray.toList_eq, ByteArray.toList_eq] at h
  unfold keyS
  intro e
  exact h (by simpa using e)

/-- The map behind the first k functions. -/
def PD (fs : List FunD) : Nat → DataW Unit
  | 0 => .map []
  | k + 1 => if (fs.take k).any (isNm (fs.getD k default).nm) then PD fs k else (PD fs k).put (keyS (fs.getD k default).nm) (.lit (.int .i64 k))

theorem any_same {l : List FunD} {s t : ByteArray} (h : s.toList = t.toList) : l.any (isNm s) = l.any (isNm t) := by
  have : isNm s = isNm t := by funext f; simp [isNm, h]
  rw [this]
theorem PD_is (fs : List FunD) (k : Nat) : Tidy (PD fs k) := by
  induction k with
  | zero => exact tidy_empty
  | succ k ih =>
    unfold PD
    split
    · exact ih
    · exact ih.put (keyS_is _) _
theorem take_getD {fs : List FunD} {k : Nat} (hk : k < fs.length) : fs.take (k + 1) = fs.take k ++ [fs.getD k default] := by
  rw [List.take_succ_eq_append_getElem hk]
  simp [List.getD, List.getElem?_eq_getElem hk]
theorem PD_has (fs : List FunD) {k : Nat} (hk : k ≤ fs.length) (s : ByteArray) : has (PD fs k) (keyS s) = (fs.take k).any (isNm s) := by
  induction k with
  | zero => rfl
  | succ k ih =>
    have ih := ih (by omega)
    rw [take_getD (by omega), List.any_append]
    unfold PD
    generalize fs.getD k default = f at *
    by_cases hs : f.nm.toList = s.toList
    · have e1 : isNm s f = true := isNm_iff.2 hs
      split
      · rename_i h
        rw [any_same hs] at h
        rw [ih, h]; simp
      · rw [keyS_eq hs, has_put_same (PD_is fs k).isMap (keyS_is _)]; simp [e1]
    · have e1 : isNm s f = false := by rw [← Bool.not_eq_true, isNm_iff]; exact hs
      split
      · rw [ih]; simp [e1]
      · rw [has_put_other (keyS_ne (fun e => hs e.symm)), ih]; simp [e1]
theorem PD_at (fs : List FunD) {k : Nat} (hk : k ≤ fs.length) (s : ByteArray) (z : DataW Unit) (h : (fs.take k).any (isNm s) = true) : (PD fs k).atKey (keyS s) z = .lit (.int .i64 ((fs.take k).findIdx (isNm s) : Nat)) := by
  induction k with
  | zero => simp at h
  | succ k ih =>
    have ih := ih (by omega)
    rw [take_getD (by omega)] at h ⊢
    have hl : (fs.take k).length = k := by simp; omega
    unfold PD
    generalize fs.getD k default = f at *
    cases ha : (fs.take k).any (isNm s) with
    | true =>
      have hlt : (fs.take k).findIdx (isNm s) < (fs.take k).length := List.findIdx_lt_length_of_exists (by simpa using ha)
      rw [List.findIdx_append, if_pos hlt]
      split
      · exact ih ha
      · rename_i hn
        by_cases hs : f.nm.toList = s.toList
        · rw [any_same hs, ha] at hn; exact absurd rfl hn
        · rw [atKey_put_other (keyS_ne (fun e => hs e.symm)), ih ha]
    | false =>
      rw [List.any_append, ha] at h
      have e1 : isNm s f = true := by simpa using h
      have hs := isNm_iff.1 e1
      have hlt : ¬ (fs.take k).findIdx (isNm s) < (fs.take k).length := fun hlt => by
        have := List.findIdx_getElem (w := hlt)
        rw [List.any_eq_false] at ha
        exact ha _ (List.getElem_mem _) this
      rw [if_neg (by rw [any_same hs, ha]; simp), keyS_eq hs, atKey_put_same (PD_is fs k).isMap (keyS_is _), List.findIdx_append, if_neg hlt]
      simp [List.findIdx_cons, e1]
      omega
theorem apartF_snoc (l : List FunD) (f : FunD) : apartF (l ++ [f]) = (apartF l && !l.any (isNm f.nm)) := by
  induction l with
  | nil => simp [apartF]
  | cons g l ih =>
    have e : isNm g.nm f = isNm f.nm g := by unfold isNm; exact BEq.comm
    simp only [List.cons_append, apartF, ih, List.any_append, List.any_cons, List.any_nil, Bool.or_false, e]
    cases List.any l (isNm g.nm) <;> cases isNm f.nm g <;> cases apartF l <;> cases List.any l (isNm f.nm) <;> rfl
theorem PD_size (fs : List FunD) {k : Nat} (hk : k ≤ fs.length) : size (PD fs k) ≤ k ∧ (size (PD fs k) = k ↔ apartF (fs.take k) = true) := by
  induction k with
  | zero => simp [PD, size, apartF]
  | succ k ih =>
    obtain ⟨h1, h2⟩ := ih (by omega)
    rw [take_getD (by omega), apartF_snoc]
    have hh := PD_has fs (show k ≤ fs.length by omega) (fs.getD k default).nm
    unfold PD
    split
    · rename_i ha
      rw [ha]
      exact ⟨by omega, by simp; omega⟩
    · rename_i ha
      rw [Bool.not_eq_true] at ha
      rw [size_put (PD_is fs k), hh, ha]
      exact ⟨by simp; omega, by simp [← h2]⟩

theorem lawS : Keyed Tryz.prog 9 := string_keyed Tryz.underlying9
theorem zeroI (w : World) : (zeroValue 3).run Tryz.prog w = .ok (.int .i64 0) w := by kernel_rfl
theorem makeHint (n : Nat) (w : World) : (Instr.makeMap 55 (some (.int .i64 (n : Int)))).run Tryz.prog w = .ok (.map (some w.heap.size)) (w.alloc (.map #[] 0)) := by
  simp [Instr.makeMap, asInt, asIntOf]

theorem ownsMap_mono {w : World} {P : Program} {k b n m : Nat} {R : Value → Option (DataW Unit × List MemPlace)} {D : DataW Unit} (h : w.ownsMap P k R b n D) (hn : n ≤ m) : w.ownsMap P k R b m D := by
  obtain ⟨es, clock, hb, F, hs, hD⟩ := h
  exact ⟨es, clock, hb, F, by omega, hD⟩
theorem step_has {fs : List FunD} {k : Nat} (hk : k < fs.length) (h : has (PD fs k) (keyS fs[k].nm) = true) : PD fs (k + 1) = PD fs k := by
  rw [PD_has fs (by omega)] at h
  have e : fs.getD k default = fs[k] := by simp [List.getD, List.getElem?_eq_getElem hk]
  rw [PD, e, if_pos h]
theorem step_put {fs : List FunD} {k : Nat} (hk : k < fs.length) (h : has (PD fs k) (keyS fs[k].nm) = false) : PD fs (k + 1) = (PD fs k).put (keyS fs[k].nm) (.lit (.int .i64 k)) := by
  rw [PD_has fs (by omega)] at h
  have e : fs.getD k default = fs[k] := by simp [List.getD, List.getElem?_eq_getElem hk]
  rw [PD, e, if_neg (by rw [h]; simp)]

set_option maxRecDepth 100000 in
set_option maxHeartbeats 2000000 in
theorem places_any (a : Option Addr) (cap : Nat) (fs : List FunD) (w : World) (hcap : fs.length ≤ cap) (hcm : cap ≤ maxLen) (h55 : fs.length ≤ 40) (hR : FunRow w a fs) :
    Calls Tryz.prog 58 #[.slice a fs.length cap] w fun e w' => e = .returned (.map (some w.heap.size)) ∧ w'.ownsMap Tryz.prog 9 (plainElem Tryz.prog 3) w.heap.size fs.length (PD fs fs.length) ∧ Below w.heap.size w w' := by
  have HR := hide hR
  clear hR
  have hmm := makeHint fs.length
  go_enter Tryz.func58, Tryz.ntmps58
  go_wp2_with fail
  go_loopw [13] (fun i w' => ∃ k : Nat, k ≤ fs.length ∧ i = .int .i64 k ∧ w'.ownsMap Tryz.prog 9 (plainElem Tryz.prog 3) w.heap.size k (PD fs k) ∧ Below w.heap.size w w') (fun i _ => fs.length - (intOf i).toNat)
  case atStart => exact ⟨0, Nat.zero_le _, rfl, World.ownsMap_made _ _ _ _, (Below.refl _ _).alloc (Nat.le_refl _) _⟩
  case round =>
    obtain ⟨k, hk, rfl, hown, hB⟩ := hrel
    clear hmm
    by_cases hkl : k < fs.length
    · obtain ⟨b, off, rfl⟩ := (unhide HR).get (by omega)
      obtain ⟨ai, ci, c0, c1, c2, hn, h4, h5, h6⟩ := ((unhide HR).below hB).at hkl
      clear h6
      have hkl' : (k : Int) < (fs.length : Int) := by omega
      have hkey : keyOf Tryz.prog 9 (.string fs[k].nm) = some (keyS fs[k].nm) := keyOf_string_mk Tryz.underlying9 hn
      have hwf : (Lit.int .i64 (k : Int)).wf = true := by
        unfold Lit.wf
        rw [Bool.and_eq_true, decide_eq_true_iff, decide_eq_true_iff]
        exact ⟨by show (-9223372036854775808 : Int) ≤ _; omega, by show _ ≤ (9223372036854775807 : Int); omega⟩
      have HS1 := hide (step_has hkl)
      have HS2 := hide (step_put hkl)
      generalize fs[k] = f at *
      cases hh : has (PD fs k) (keyS f.nm)
      · go_wp2_with (first
          | (at_lookup; refine wpList_lookup_own_ok_int _ rfl _ _ 55 rfl 9 3 .i64 lawS Tryz.underlying55 Tryz.underlying3 (zeroI _) w.heap.size k _ rfl (hown.alloc _) _ _ rfl hkey ?_; intro c hat hwc)
          | (at_mapUpdate; refine wpList_mapUpdate_own _ rfl _ _ _ 55 rfl 9 3 lawS Tryz.underlying55 _ w.heap.size k _ rfl (hown.alloc _) (by unfold maxLen; omega) _ _ _ rfl rfl hkey _ [] (plainElem_int Tryz.underlying3 hwf) ?_; intro w1 hown1 hgrow1)
          | go_in)
        have hB1 : Below w.heap.size w w1 := (bl_alloc hB _).grown hgrow1 (bl_alloc hB _).size (fun j hj => by cases hj; exact Nat.le_refl _)
        exact ⟨⟨k + 1, by omega, by go_num, by rw [unhide HS2 hh]; exact hown1, hB1⟩, by simp [intOf]; omega⟩
      · go_wp2_with (first
          | (at_lookup; refine wpList_lookup_own_ok_int _ rfl _ _ 55 rfl 9 3 .i64 lawS Tryz.underlying55 Tryz.underlying3 (zeroI _) w.heap.size k _ rfl (hown.alloc _) _ _ rfl hkey ?_; intro c hat hwc)
          | go_in)
        exact ⟨⟨k + 1, by omega, by go_num, by rw [unhide HS1 hh]; exact ownsMap_mono (hown.alloc _) (by omega), bl_alloc hB _⟩, by simp [intOf]; omega⟩
    · have hke : k = fs.length := by omega
      subst hke
      go_wp2_with fail
      go_ret
      exact ⟨rfl, hown, hB⟩

theorem unit_long {fs : List FunD} (h : 5 < fs.length) : false = unitOkB fs := by
  have : decide (fs.length ≤ 5) = false := decide_eq_false (by omega)
  simp [unitOkB, this]
theorem unit_size {fs : List FunD} (h5 : fs.length ≤ 5) (h : ∀ i (hi : i < fs.length), okD fs[i] = true) : unitOkB fs = decide (Maps.size (PD fs fs.length) = fs.length) := by
  have h1 : fs.all okD = true := by rw [List.all_eq_true]; intro f hf; obtain ⟨i, hi, rfl⟩ := List.getElem_of_mem hf; exact h i hi
  have h2 := (PD_size fs (Nat.le_refl _)).2
  rw [List.take_length] at h2
  rw [Bool.eq_iff_iff, decide_eq_true_iff, h2]
  simp [unitOkB, h1, h5]


theorem at_find {fs : List FunD} {s : ByteArray} {c : Int} (h : has (PD fs fs.length) (keyS s) = true) (hat : (PD fs fs.length).atKey (keyS s) (.lit (.int .i64 0)) = .lit (.int .i64 c)) : c = findI fs s := by
  rw [PD_has fs (Nat.le_refl _)] at h
  rw [PD_at fs (Nat.le_refl _) s _ h] at hat
  rw [List.take_length] at h hat
  have hlt : fs.findIdx (isNm s) < fs.length := List.findIdx_lt_length_of_exists (by simpa using h)
  unfold findI
  rw [if_pos hlt]
  simp at hat
  exact hat.symm
theorem no_find {fs : List FunD} {s : ByteArray} (h : has (PD fs fs.length) (keyS s) = false) : -1 = findI fs s := by
  rw [PD_has fs (Nat.le_refl _), List.take_length, List.any_eq_false] at h
  exact find_miss (fun i hi => by simpa using h _ (List.getElem_mem hi))
theorem unit_le {fs : List FunD} (h : unitOkB fs = true) : fs.length ≤ 5 := by
  unfold unitOkB at h
  simp only [Bool.and_eq_true, decide_eq_true_iff] at h
  exact h.1.1

end Go.Proofs.YthbbmookhcalkaaGreat.UnitM
