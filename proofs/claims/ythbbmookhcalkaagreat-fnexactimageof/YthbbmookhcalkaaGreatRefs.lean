/- The contracts of what a function names: l2Has, l2Refs, FunRefs of the specification; slices.Contains, FunRefs of the program. -/
import Derived.Test.YthbbmookhcalkaaGreatFunS
import Derived.Test.YthbbmookhcalkaaGreatKeep
import Derived.OwnWalk
import Derived.Maps.AppendAt
namespace Go.Proofs.YthbbmookhcalkaaGreat.Refs
open Go.ChangeShapes Go.WideShapes Go.ChangeAt Go.RowKit Go.Joins
open Go.Proofs.YthbbmookhcalkaaGreat.Base Go.Proofs.YthbbmookhcalkaaGreat.InsA Go.Proofs.YthbbmookhcalkaaGreat.InsB Go.Proofs.YthbbmookhcalkaaGreat.Funs Go.Proofs.YthbbmookhcalkaaGreat.Open Go.Proofs.YthbbmookhcalkaaGreat.FunS Go.Proofs.YthbbmookhcalkaaGreat.Keep
set_option linter.unusedVariables false
set_option maxRecDepth 100000

/-- A slice of texts, readable. -/
def StrAt (w : World) (v : Value) (ss : List ByteArray) : Prop :=
  ∃ a cap, v = .slice a ss.length cap ∧ ss.length ≤ cap ∧ cap ≤ maxLen ∧ (ss = [] ∨ ∃ b off, a = some ⟨b, off, none⟩ ∧ ∀ i (h : i < ss.length), w.cell? ⟨b, off + i, none⟩ = some (.string ss[i]))
/-- A slice of texts of the call's own. -/
def StrOwn (w : World) (B : Nat) (v : Value) (ss : List ByteArray) : Prop := w.ownsRow B 9 1 v ss.length (ss.map Value.string)

theorem StrAt.below {w w' : World} {v : Value} {ss : List ByteArray} (h : StrAt w v ss) (hb : Below w.heap.size w w') : StrAt w' v ss := by
  obtain ⟨a, cap, rfl, h1, h2, h3⟩ := h
  refine ⟨a, cap, rfl, h1, h2, ?_⟩
  rcases h3 with h3 | ⟨b, off, ha, h3⟩
  · exact .inl h3
  · exact .inr ⟨b, off, ha, fun i hi => (hb.cell (p := ⟨b, off + i, none⟩) (World.block_lt_of_cell? w _ (h3 i hi))).trans (h3 i hi)⟩
theorem StrOwn.at {w : World} {B : Nat} {v : Value} {ss : List ByteArray} (h : StrOwn w B v ss) : StrAt w v ss := by
  obtain ⟨_, ⟨rfl, h0⟩ | ⟨g, cap, cur, rfl, hB, hg, hn, hm, hs, ht⟩⟩ := h
  · exact ⟨none, 0, by rw [h0], by omega, Nat.zero_le _, .inl (List.length_eq_zero_iff.1 h0)⟩
  · refine ⟨_, cap, rfl, hn, hm, .inr ⟨g, 0, rfl, fun i hi => ?_⟩⟩
    rw [cell_of_block hg]
    have e : (cur.toList.take (ss.length * 1))[i]? = some (.string ss[i]) := by rw [ht]; simp [hi]
    rw [List.getElem?_take_of_lt (by omega)] at e
    simpa using e
theorem StrOwn.below {w w' : World} {B : Nat} {v : Value} {ss : List ByteArray} (h : StrOwn w B v ss) (hb : Below w.heap.size w w') : StrOwn w' B v ss := by
  obtain ⟨h0, h1 | ⟨g, cap, cur, hv, hB, hg, hr⟩⟩ := h
  · exact ⟨h0, .inl h1⟩
  · exact ⟨h0, .inr ⟨g, cap, cur, hv, hB, box_below hg hb, hr⟩⟩
theorem StrOwn.base {w : World} {B C : Nat} {v : Value} {ss : List ByteArray} (h : StrOwn w B v ss) (hb : C ≤ B) : StrOwn w C v ss := by
  obtain ⟨h0, h1 | ⟨g, cap, cur, hv, hB, hr⟩⟩ := h
  · exact ⟨h0, .inl h1⟩
  · exact ⟨h0, .inr ⟨g, cap, cur, hv, by omega, hr⟩⟩
theorem Stable.strAt (v : Value) (ss : List ByteArray) : Stable (fun w => StrAt w v ss) := ⟨fun w w' hb hs => hs.below hb, fun w hs => hs⟩
theorem Stable.strOwn (B : Nat) (v : Value) (ss : List ByteArray) : Stable (fun w => StrOwn w B v ss) := ⟨fun w w' hb hs => hs.below hb, fun w hs => hs⟩

def hasB (ss : List ByteArray) (s : ByteArray) : Bool := ss.any (fun t => t.toList == s.toList)
def idxB (ss : List ByteArray) (s : ByteArray) : Int := if hasB ss s then (ss.findIdx (fun t => t.toList == s.toList) : Nat) else -1
theorem hasB_hit {ss : List ByteArray} {s : ByteArray} {k : Nat} (hk : k < ss.length) (h : (ss[k].toList == s.toList) = true) : true = hasB ss s := by
  unfold hasB
  exact (List.any_eq_true.2 ⟨ss[k], List.getElem_mem _, h⟩).symm
theorem hasB_miss {ss : List ByteArray} {s : ByteArray} (h : ∀ i (hi : i < ss.length), (ss[i].toList == s.toList) = false) : false = hasB ss s := by
  unfold hasB
  refine (List.any_eq_false.2 fun x hx => ?_).symm
  obtain ⟨i, hi, rfl⟩ := List.getElem_of_mem hx
  simp [h i hi]
theorem idxB_hit {ss : List ByteArray} {s : ByteArray} {k : Nat} (hk : k < ss.length) (hb : ∀ i (hi : i < ss.length), i < k → (ss[i].toList == s.toList) = false) (h : (ss[k].toList == s.toList) = true) : (k : Int) = idxB ss s := by
  unfold idxB
  rw [← hasB_hit hk h, if_pos rfl, (List.findIdx_eq hk).2 ⟨h, fun j hj => hb j (by omega) hj⟩]
theorem idxB_miss {ss : List ByteArray} {s : ByteArray} (h : ∀ i (hi : i < ss.length), (ss[i].toList == s.toList) = false) : -1 = idxB ss s := by
  unfold idxB
  rw [← hasB_miss h]; rfl
theorem idxB_has (ss : List ByteArray) (s : ByteArray) : decide (0 ≤ idxB ss s) = hasB ss s := by
  unfold idxB
  cases hasB ss s
  · rfl
  · rw [if_pos rfl]; exact decide_eq_true (by omega)

set_option maxHeartbeats 1000000 in
theorem specHas_any (v : Value) (ss : List ByteArray) (s : ByteArray) (w : World) (hR : StrAt w v ss) :
    Calls Tryz.prog 74 #[v, .string s] w fun e w' => e = .returned (.bool (hasB ss s)) ∧ Below w.heap.size w w' := by
  obtain ⟨a, cap, rfl, hcap, hcm, hR⟩ := hR
  have HR := hide hR
  clear hR
  unfold maxLen at hcm
  have hlen : (ss.length : Int) ≤ 9223372036854775807 := by omega
  go_enter Tryz.func74, Tryz.ntmps74
  go_wp2_with fail
  go_loopw [5] (fun i w' => ∃ k : Nat, k ≤ ss.length ∧ i = .int .i64 k ∧ Hid (∀ i (h : i < ss.length), i < k → (ss[i].toList == s.toList) = false) ∧ Below w.heap.size w w') (fun i _ => ss.length - (intOf i).toNat)
  case atStart => exact ⟨0, Nat.zero_le _, rfl, fun i h h0 => by omega, Below.refl _ _⟩
  case round =>
    obtain ⟨k, hk, rfl, HN, hB⟩ := hrel
    by_cases hkl : k < ss.length
    · obtain h0 | ⟨b, off, rfl, hc⟩ := unhide HR
      · rw [h0] at hkl; simp at hkl
      have c0 := (Stable.cell ⟨b, off + k, none⟩ (.string ss[k])).1 _ _ hB (hc k hkl)
      have hkl' : (k : Int) < (ss.length : Int) := by omega
      have HH := hide (hasB_hit (s := s) hkl)
      have HX : Hid ((ss[k].toList == s.toList) = false → ∀ i (h : i < ss.length), i < k + 1 → (ss[i].toList == s.toList) = false) := fun h i hi hlt => by
        by_cases e : i = k
        · subst e; exact h
        · exact unhide HN i hi (by omega)
      clear hc
      generalize ss[k] = t at *
      cases hq : (t.toList == s.toList)
      · go_wp2_with fail
        exact ⟨⟨k + 1, by omega, by go_num, unhide HX hq, hB⟩, by simp [intOf]; omega⟩
      · go_wp2_with fail
        go_ret
        exact ⟨ret_bool (unhide HH hq), hB⟩
    · have HE := hide (hasB_miss (fun i h => unhide HN i h (by omega)))
      go_wp2_with fail
      go_ret
      exact ⟨ret_bool (unhide HE), hB⟩

set_option maxHeartbeats 1000000 in
theorem index_any (v : Value) (ss : List ByteArray) (s : ByteArray) (w : World) (hR : StrAt w v ss) :
    Calls Tryz.prog 90 #[v, .string s] w fun e w' => e = .returned (.int .i64 (idxB ss s)) ∧ Below w.heap.size w w' := by
  obtain ⟨a, cap, rfl, hcap, hcm, hR⟩ := hR
  have HR := hide hR
  clear hR
  unfold maxLen at hcm
  have hlen : (ss.length : Int) ≤ 9223372036854775807 := by omega
  go_enter Tryz.func90, Tryz.ntmps90
  go_wp2_with fail
  go_loopw [8] (fun i w' => ∃ k : Nat, k ≤ ss.length ∧ i = .int .i64 k ∧ Hid (∀ i (h : i < ss.length), i < k → (ss[i].toList == s.toList) = false) ∧ Below w.heap.size w w') (fun i _ => ss.length - (intOf i).toNat)
  case atStart => exact ⟨0, Nat.zero_le _, rfl, fun i h h0 => by omega, Below.refl _ _⟩
  case round =>
    obtain ⟨k, hk, rfl, HN, hB⟩ := hrel
    by_cases hkl : k < ss.length
    · obtain h0 | ⟨b, off, rfl, hc⟩ := unhide HR
      · rw [h0] at hkl; simp at hkl
      have c0 := (Stable.cell ⟨b, off + k, none⟩ (.string ss[k])).1 _ _ hB (hc k hkl)
      have hkl' : (k : Int) < (ss.length : Int) := by omega
      have HH := hide (idxB_hit (s := s) hkl (unhide HN))
      have HX : Hid ((ss[k].toList == s.toList) = false → ∀ i (h : i < ss.length), i < k + 1 → (ss[i].toList == s.toList) = false) := fun h i hi hlt => by
        by_cases e : i = k
        · subst e; exact h
        · exact unhide HN i hi (by omega)
      clear hc
      generalize ss[k] = t at *
      cases hq : (s.toList == t.toList)
      · go_wp2_with fail
        exact ⟨⟨k + 1, by omega, by go_num, unhide HX (BEq.comm.trans hq), hB⟩, by simp [intOf]; omega⟩
      · go_wp2_with fail
        go_ret
        exact ⟨ret_int (unhide HH (BEq.comm.trans hq)), hB⟩
    · have HE := hide (idxB_miss (fun i h => unhide HN i h (by omega)))
      go_wp2_with fail
      go_ret
      exact ⟨ret_int (unhide HE), hB⟩
set_option maxHeartbeats 1000000 in
theorem contains_any (v : Value) (ss : List ByteArray) (s : ByteArray) (w : World) (hR : StrAt w v ss) :
    Calls Tryz.prog 87 #[v, .string s] w fun e w' => e = .returned (.bool (hasB ss s)) ∧ Below w.heap.size w w' := by
  have HR := hide hR
  clear hR
  go_enter Tryz.func87, Tryz.ntmps87
  go_wp2_with fail
  refine (index_any v ss s _ (unhide HR)).mono ?_
  rintro e w1 ⟨rfl, hb1⟩
  go_wp2_with fail
  go_ret
  exact ⟨ret_bool (idxB_has ss s), hb1⟩

def refStep (acc : List ByteArray) (x : InsD) : List ByteArray := if refsB x.o && !hasB acc x.s then acc ++ [x.s] else acc
def refsOf (xs : List InsD) : List ByteArray := xs.foldl refStep []
def funRefs (nm : ByteArray) (xs : List InsD) : List ByteArray := if funOkB nm xs then refsOf xs else []

theorem refs_snoc {xs : List InsD} {k : Nat} (hk : k < xs.length) : refsOf (xs.take (k + 1)) = refStep (refsOf (xs.take k)) xs[k] := by
  unfold refsOf
  rw [List.take_succ_eq_append_getElem hk, List.foldl_append]
  rfl
theorem refs_len (xs : List InsD) : (refsOf xs).length ≤ xs.length := by
  have : ∀ (acc : List ByteArray), (xs.foldl refStep acc).length ≤ acc.length + xs.length := by
    induction xs with
    | nil => intro acc; simp
    | cons x r ih =>
      intro acc
      refine Nat.le_trans (ih _) ?_
      unfold refStep
      split <;> simp <;> omega
  simpa [refsOf] using this []
theorem fun_le {nm : ByteArray} {xs : List InsD} (h : funOkB nm xs = true) : xs.length ≤ 10 := by
  unfold funOkB at h
  simp only [Bool.and_eq_true, decide_eq_true_iff] at h
  exact h.1.1.2.2
theorem fun_pos {nm : ByteArray} {xs : List InsD} (h : funOkB nm xs = true) : 1 ≤ xs.length := by
  unfold funOkB at h
  simp only [Bool.and_eq_true, decide_eq_true_iff] at h
  exact h.1.1.2.1
theorem infoStr : (Tryz.prog.info? 9).map (fun i => (i.zero, i.size, i.bytes)) = some (some (.string ⟨#[]⟩), 1, 16) := by kernel_rfl
theorem refs_skip {acc : List ByteArray} {x : InsD} (h : (refsB x.o && !hasB acc x.s) = false) : refStep acc x = acc := by unfold refStep; rw [h]; rfl
theorem refs_put {acc : List ByteArray} {x : InsD} (h : (refsB x.o && !hasB acc x.s) = true) : refStep acc x = acc ++ [x.s] := by unfold refStep; rw [h]; rfl
theorem str_snoc {w : World} {B : Nat} {v : Value} {ss : List ByteArray} {s : ByteArray} (h : w.ownsRow B 9 1 v (ss.length + 1) (ss.map Value.string ++ [.string s])) : StrOwn w B v (ss ++ [s]) := by
  unfold StrOwn
  simpa using h

theorem str_made (w : World) : StrOwn (w.alloc (.cells #[] 9)) w.heap.size (.slice (some ⟨w.heap.size, 0, none⟩) 0 0) [] :=
  ⟨by simp, .inr ⟨_, _, _, rfl, Nat.le_refl _, new_block w _, Nat.le_refl _, Nat.zero_le _, rfl, rfl⟩⟩
set_option maxRecDepth 100000 in
set_option maxHeartbeats 2000000 in
theorem specRefsOf_any (a : Option Addr) (cap : Nat) (xs : List InsD) (w : World) (hlen : xs.length ≤ 1048576) (hcap : xs.length ≤ cap) (hcm : cap ≤ maxLen) (hR : InsRow w a xs) :
    Calls Tryz.prog 65 #[.slice a xs.length cap] w fun e w' => ∃ v, e = .returned v ∧ StrOwn w' w.heap.size v (refsOf xs) ∧ Below w.heap.size w w' := by
  have HR := hide hR
  clear hR
  obtain ⟨i0, hi, hz0, hz1, hz2⟩ := info_parts infoStr
  go_enter Tryz.func65, Tryz.ntmps65
  go_wp2_with fail
  go_loopw [3, 4] (fun v i w' => ∃ k : Nat, k ≤ xs.length ∧ i = .int .i64 k ∧ StrOwn w' w.heap.size v (refsOf (xs.take k)) ∧ Below w.heap.size w w') (fun _ i _ => xs.length - (intOf i).toNat)
  case atStart => exact ⟨0, Nat.zero_le _, rfl, str_made w, below_alloc1 _ _⟩
  case round =>
    obtain ⟨k, hk, rfl, hown, hB⟩ := hrel
    by_cases hkl : k < xs.length
    · obtain ⟨b, off, rfl⟩ := (unhide HR).get (by omega)
      have HW := hide ((unhide HR).below hB)
      obtain ⟨c0, c1, c2, hks⟩ := (unhide HW).cells hkl
      have hkl' : (k : Int) < (xs.length : Int) := by omega
      have HS := hide (refs_snoc hkl)
      have hle := refs_len (xs.take k)
      have hle2 : (refsOf (xs.take k)).length ≤ 1048576 := by simp at hle; omega
      clear hle
      generalize xs[k] = x at *
      generalize refsOf (xs.take k) = acc at *
      have HO := hide hown
      clear hown
      cases hrf : refsB x.o
      · go_wp2_with fail
        refine (specRefs_any _ _ _ _).mono ?_
        rintro e w1 ⟨rfl, hb1⟩
        rw [hrf]
        go_wp2_with fail
        exact ⟨⟨k + 1, by omega, by go_num, by rw [unhide HS, refs_skip (by rw [hrf]; rfl)]; exact (unhide HO).below hb1, bl_trans hB hb1⟩, by simp [intOf]; omega⟩
      · go_wp2_with fail
        refine (specRefs_any _ _ _ _).mono ?_
        rintro e w1 ⟨rfl, hb1⟩
        rw [hrf]
        have HO1 := hide ((unhide HO).below hb1)
        have hB1 := bl_trans hB hb1
        replace c2 := (Stable.cell ⟨b, off + k * 3 + 2, none⟩ (.string x.s)).1 _ _ hb1 c2
        clear c0 c1 HO hB hb1
        cases hh : hasB acc x.s
        · go_wp2_with fail
          refine (specHas_any _ acc x.s _ (unhide HO1).at).mono ?_
          rintro e w2 ⟨rfl, hb2⟩
          rw [hh]
          have HO2 := hide ((unhide HO1).below hb2)
          have hB2 := bl_trans hB1 hb2
          have hsz2 := hB2.size
          replace c2 := (Stable.cell ⟨b, off + k * 3 + 2, none⟩ (.string x.s)).1 _ _ hb2 c2
          clear HO1 hB1 hb2
          go_wp2_with (first
            | (at_builtin; refine wpList_append_own _ rfl _ _ 65 rfl w.heap.size 9 i0 (.string ⟨#[]⟩) 1 16 Tryz.underlying65 hi hz0 hz1 hz2 rfl (by decide) _ acc.length (acc.map Value.string) rfl ((unhide HO2).alloc _) ⟨w2.heap.size, 0, none⟩ 1 1 [.string x.s] rfl rfl (cell_one_new _ _ _) (by simp [Value.oneCell']) (by unfold maxLen; omega) (by omega) (by simp; omega) ?_; intro v' w3 hown3 hgrow3 _)
            | go_in)
          have hB3 : Below w.heap.size w w3 := (bl_alloc hB2 _).grown hgrow3 (bl_alloc hB2 _).size (fun j hj => (World.ownsRow.lt (unhide HO2) j hj).1)
          exact ⟨⟨k + 1, by omega, by go_num, by rw [unhide HS, refs_put (by rw [hrf, hh]; rfl)]; exact str_snoc hown3, hB3⟩, by simp [intOf]; omega⟩
        · go_wp2_with fail
          refine (specHas_any _ acc x.s _ (unhide HO1).at).mono ?_
          rintro e w2 ⟨rfl, hb2⟩
          rw [hh]
          go_wp2_with fail
          exact ⟨⟨k + 1, by omega, by go_num, by rw [unhide HS, refs_skip (by rw [hrf, hh]; rfl)]; exact (unhide HO1).below hb2, bl_trans hB1 hb2⟩, by simp [intOf]; omega⟩
    · have hke : k = xs.length := by omega
      subst hke
      rw [List.take_length] at hown
      have HO := hide hown
      clear hown
      go_wp2_with fail
      go_ret
      exact ⟨_, rfl, unhide HO, hB⟩

set_option maxRecDepth 100000 in
set_option maxHeartbeats 2000000 in
theorem implFunRefs_any (nm : ByteArray) (wk : Bool) (a : Option Addr) (cap : Nat) (xs : List InsD) (w : World) (hnm : nm.size ≤ maxLen) (hcap : xs.length ≤ cap) (hcm : cap ≤ maxLen) (hR : InsRow w a xs) :
    Calls Tryz.prog 80 #[.agg #[.string nm, .bool wk, .slice a xs.length cap]] w fun e w' => ∃ v, e = .returned v ∧ StrOwn w' w.heap.size v (funRefs nm xs) ∧ Below w.heap.size w w' := by
  have HR0 := hide hR
  have HR := hide (hR.below (below_alloc1 w (.cells #[.string nm, .bool wk, .slice a xs.length cap] 51)))
  clear hR
  obtain ⟨i0, hi, hz0, hz1, hz2⟩ := info_parts infoStr
  cases hok : funOkB nm xs
  · have HE : Hid (funRefs nm xs = []) := by show funRefs nm xs = []; simp [funRefs, hok]
    go_enter Tryz.func80, Tryz.ntmps80
    go_wp2_with fail
    refine (implFunOk_any nm wk a cap xs _ hnm hcap hcm (unhide HR)).mono ?_
    rintro e w1 ⟨rfl, hb1⟩
    rw [hok]
    have hB1 := bl_trans (below_alloc1 _ _) hb1
    go_wp2_with fail
    go_ret
    exact ⟨_, rfl, by rw [unhide HE]; exact World.ownsRow_nil _ _ _ _, hB1⟩
  · have HE : Hid (funRefs nm xs = refsOf xs) := by show funRefs nm xs = refsOf xs; simp [funRefs, hok]
    have hlen := fun_le hok
    have hpos := fun_pos hok
    obtain ⟨b, off, rfl⟩ := (unhide HR).get (by omega)
    go_enter Tryz.func80, Tryz.ntmps80
    go_wp2_with fail
    refine (implFunOk_any nm wk _ cap xs _ hnm hcap hcm (unhide HR)).mono ?_
    rintro e w1 ⟨rfl, hb1⟩
    rw [hok]
    have hB1 := bl_trans (below_alloc1 _ _) hb1
    have HR1 := hide ((unhide HR).below hb1)
    obtain ⟨⟨d0, d1, d2⟩, _⟩ := box3 (box_below (new_block w _) hb1)
    clear hb1 HR
    go_wp2_with fail
    clear d0 d1 d2
    go_loopw [3, 12] (fun v i w' => ∃ k : Nat, k ≤ xs.length ∧ i = .int .i64 k ∧ StrOwn w' w.heap.size v (refsOf (xs.take k)) ∧ InsRow w' (some ⟨b, off, none⟩) xs ∧ Below w.heap.size w w') (fun _ i _ => xs.length - (intOf i).toNat)
    case atStart => exact ⟨0, Nat.zero_le _, rfl, World.ownsRow_nil _ _ _ _, unhide HR1, hB1⟩
    case round =>
      obtain ⟨k, hk, rfl, hown, hrow, hB⟩ := hrel
      have HW := hide hrow
      have HO := hide hown
      clear hown hrow hB1 HR1
      by_cases hkl : k < xs.length
      · obtain ⟨c0, c1, c2, hks⟩ := (unhide HW).cells hkl
        have hkl' : (k : Int) < (xs.length : Int) := by omega
        have HS := hide (refs_snoc hkl)
        have hle := refs_len (xs.take k)
        have hle2 : (refsOf (xs.take k)).length ≤ 1048576 := by simp at hle; omega
        clear hle
        generalize xs[k] = x at *
        generalize refsOf (xs.take k) = acc at *
        cases hrf : refsB x.o
        · go_wp2_with fail
          refine (implRefs_any _ _ _ _).mono ?_
          rintro e w2 ⟨rfl, hb2⟩
          rw [hrf]
          have hb := bl_trans (below_alloc1 wr _) hb2
          clear c0 c1 c2 hb2
          go_wp2_with fail
          exact ⟨⟨k + 1, by omega, by go_num, by rw [unhide HS, refs_skip (by rw [hrf]; rfl)]; exact (unhide HO).below hb, (unhide HW).below hb, bl_trans hB hb⟩, by simp [intOf]; omega⟩
        · go_wp2_with fail
          refine (implRefs_any _ _ _ _).mono ?_
          rintro e w2 ⟨rfl, hb2⟩
          rw [hrf]
          have HX := hide (box_below (new_block wr _) hb2)
          have hb := bl_trans (below_alloc1 wr _) hb2
          have HO1 := hide ((unhide HO).below hb)
          have HW1 := hide ((unhide HW).below hb)
          have hB2 := bl_trans hB hb
          clear c0 c1 c2 hb2 HO HW hB hb
          obtain ⟨⟨d0, d1, d2⟩, _⟩ := box3 (unhide HX)
          cases hh : hasB acc x.s
          · go_wp2_with fail
            refine (contains_any _ acc x.s _ (unhide HO1).at).mono ?_
            rintro e w3 ⟨rfl, hb3⟩
            rw [hh]
            have HO2 := hide ((unhide HO1).below hb3)
            have HW2 := hide ((unhide HW1).below hb3)
            have hB3 := bl_trans hB2 hb3
            have hsz3 := hB3.size
            obtain ⟨⟨e0, e1, e2⟩, _⟩ := box3 (box_below (unhide HX) hb3)
            clear HO1 HW1 hB2 hb3 d0 d1 d2
            go_wp2_with (first
              | (at_builtin; refine wpList_append_own _ rfl _ _ 65 rfl w.heap.size 9 i0 (.string ⟨#[]⟩) 1 16 Tryz.underlying65 hi hz0 hz1 hz2 rfl (by decide) _ acc.length (acc.map Value.string) rfl ((unhide HO2).alloc _) ⟨w3.heap.size, 0, none⟩ 1 1 [.string x.s] rfl rfl (cell_one_new _ _ _) (by simp [Value.oneCell']) (by unfold maxLen; omega) (by omega) (by simp; omega) ?_; intro v' w4 hown4 hgrow4 _)
              | go_in)
            have hB4 : Below w.heap.size w w4 := (bl_alloc hB3 _).grown hgrow4 (bl_alloc hB3 _).size (fun j hj => (World.ownsRow.lt (unhide HO2) j hj).1)
            exact ⟨⟨k + 1, by omega, by go_num, by rw [unhide HS, refs_put (by rw [hrf, hh]; rfl)]; exact str_snoc hown4, (unhide HR0).below hB4, hB4⟩, by simp [intOf]; omega⟩
          · go_wp2_with fail
            refine (contains_any _ acc x.s _ (unhide HO1).at).mono ?_
            rintro e w3 ⟨rfl, hb3⟩
            rw [hh]
            go_wp2_with fail
            exact ⟨⟨k + 1, by omega, by go_num, by rw [unhide HS, refs_skip (by rw [hrf, hh]; rfl)]; exact (unhide HO1).below hb3, (unhide HW1).below hb3, bl_trans hB2 hb3⟩, by simp [intOf]; omega⟩
      · have hke : k = xs.length := by omega
        subst hke
        rw [List.take_length] at HO
        go_wp2_with fail
        go_ret
        exact ⟨_, rfl, by rw [unhide HE]; exact unhide HO, hB⟩
end Go.Proofs.YthbbmookhcalkaaGreat.Refs
