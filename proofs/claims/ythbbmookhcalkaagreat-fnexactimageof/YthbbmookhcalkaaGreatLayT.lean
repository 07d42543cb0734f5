/- The contracts of the specification's l7Stone and l7To. -/
import Derived.Test.YthbbmookhcalkaaGreatLayS
namespace Go.Proofs.YthbbmookhcalkaaGreat.LayT
open Go.ChangeShapes Go.WideShapes Go.ChangeAt Go.RowKit Go.Joins Go.Deep
open Go.Proofs.YthbbmookhcalkaaGreat.Base Go.Proofs.YthbbmookhcalkaaGreat.InsA Go.Proofs.YthbbmookhcalkaaGreat.Funs Go.Proofs.YthbbmookhcalkaaGreat.Open Go.Proofs.YthbbmookhcalkaaGreat.FunS Go.Proofs.YthbbmookhcalkaaGreat.Keep Go.Proofs.YthbbmookhcalkaaGreat.UnitS Go.Proofs.YthbbmookhcalkaaGreat.Refs Go.Proofs.YthbbmookhcalkaaGreat.LayN Go.Proofs.YthbbmookhcalkaaGreat.LayA Go.Proofs.YthbbmookhcalkaaGreat.KeepD Go.Proofs.YthbbmookhcalkaaGreat.KeepA Go.Proofs.YthbbmookhcalkaaGreat.LayD Go.Proofs.YthbbmookhcalkaaGreat.LayS
set_option linter.unusedVariables false
set_option maxRecDepth 100000

/-- All stands where it should, and is not too long. -/
def Lying (fs : List FunD) (ns : List Int) (st : List (List ByteArray)) : Prop := fs.length ≤ 40 ∧ (∀ f ∈ fs, f.body.length ≤ 10) ∧ st.length = fs.length ∧ ns = places fs st ∧ FewT st
theorem lying_of {fs : List FunD} {ns : List Int} {st : List (List ByteArray)} (h : formB fs ns st = true) (hf : FewT st) : Lying fs ns st := by
  obtain ⟨h1, h2, _, h4⟩ := form_parts h
  exact ⟨(keep_parts h1).2.1, keep_bodies h1, h2, h4, hf⟩
theorem Lying.small {fs : List FunD} {ns : List Int} {st : List (List ByteArray)} (h : Lying fs ns st) : ∀ n, n ≤ fs.length → place fs st n ≤ 42000000 := place_small h.1 h.2.1 h.2.2.1 h.2.2.2.2
theorem Lying.len {fs : List FunD} {ns : List Int} {st : List (List ByteArray)} (h : Lying fs ns st) : ns.length = fs.length := by rw [h.2.2.2.1, places_len]
theorem Lying.at {fs : List FunD} {ns : List Int} {st : List (List ByteArray)} (h : Lying fs ns st) {k : Nat} (hk : k < ns.length) : ns[k] = (place fs st k : Int) := by
  have e := h.2.2.2.1
  subst e
  exact placesTo_at hk
set_option maxHeartbeats 4000000 in
theorem l7Stone_any (a na sa : Option Addr) (cap nc sc : Nat) (fs : List FunD) (ns : List Int) (st : List (List ByteArray)) (k j : Nat) (w : World) (hL : Lying fs ns st) (hk : k < fs.length) (hj : j ≤ 1048576) (hcap : fs.length ≤ cap) (hcm : cap ≤ maxLen) (h1 : ns.length ≤ nc) (h2 : nc ≤ maxLen) (h3 : st.length ≤ sc) (h4 : sc ≤ maxLen) (hR : FunRow w a fs) (hs : NumRow w na ns) :
    Calls Tryz.prog 67 #[.slice a fs.length cap, .agg #[.slice na ns.length nc, .slice sa st.length sc], .int .i64 (k : Nat), .int .i64 (j : Nat)] w fun e w' => e = .returned (.int .i64 ((place fs st k + lenAt fs k + j : Nat) : Int)) ∧ Below w.heap.size w w' := by
  have hkn : k < ns.length := by rw [hL.len]; exact hk
  have hB0 := below_alloc1 w (.cells #[.slice na ns.length nc, .slice sa st.length sc] 33)
  have hX := box2 (new_block w (.cells #[.slice na ns.length nc, .slice sa st.length sc] 33))
  obtain ⟨b, off, rfl⟩ := hR.get (by omega)
  obtain ⟨nb, no, rfl⟩ := hs.get (by omega)
  obtain ⟨fi, fc, f0, f1, f2, _, f4, f5, _⟩ := (hR.below hB0).at hk
  have n0 := (hs.below hB0).cells hkn
  rw [hL.at hkn] at n0
  have hpb := hL.small k (by omega)
  have hfl : fs[k].body.length ≤ 10 := hL.2.1 _ (List.getElem_mem _)
  have hkf' : (k : Int) < (fs.length : Int) := by omega
  have hkn' : (k : Int) < (ns.length : Int) := by omega
  have hk0 : (0 : Int) ≤ (k : Int) := by omega
  rw [lenAt_is hk]
  have hlf : (fs.length : Int) ≤ 9223372036854775807 := by unfold maxLen at hcm; omega
  have hln : (ns.length : Int) ≤ 9223372036854775807 := by unfold maxLen at h2; omega
  clear hL hR hs
  generalize fs[k] = f at *
  generalize place fs st k = pl at *
  go_enter Tryz.func67, Tryz.ntmps67
  go_wp2_with fail
  go_quiet (fail)
  go_wp2_with fail
  go_ret
  exact ⟨ret_int (by go_num), by first | exact hB0 | exact bl_drewN hB0 _ | exact hB0.drew⟩
theorem near_bd (reach p : Int) (s : ByteArray) : ∀ l : List (ByteArray × Nat), (∀ x ∈ l, x.2 ≤ 100000000) → -1 ≤ nearI reach p s l ∧ nearI reach p s l ≤ 100000000 := by
  intro l
  unfold nearI
  suffices ∀ (l : List (ByteArray × Nat)) (b : Int), -1 ≤ b ∧ b ≤ 100000000 → (∀ x ∈ l, x.2 ≤ 100000000) → -1 ≤ l.foldl (nearS reach p s) b ∧ l.foldl (nearS reach p s) b ≤ 100000000 from this l (-1) (by omega)
  intro l
  induction l with
  | nil => intro b hb _; exact hb
  | cons x r ih =>
    intro b hb h
    refine ih _ ?_ (fun y hy => h y (List.mem_cons_of_mem _ hy))
    have := h x (List.mem_cons_self ..)
    unfold nearS
    split <;> omega
theorem near_skip {reach p b : Int} {s : ByteArray} {x : ByteArray × Nat} (h : x.1.toList ≠ s.toList) : nearS reach p s b x = b := by unfold nearS; rw [if_neg (fun e => h e.1)]
theorem near_far {reach p b : Int} {s : ByteArray} {x : ByteArray × Nat} (h : ¬ farI x.2 p ≤ reach) : nearS reach p s b x = b := by unfold nearS; rw [if_neg (fun e => h e.2.1)]
theorem near_first {reach p b : Int} {s : ByteArray} {x : ByteArray × Nat} (h : x.1.toList = s.toList) (h1 : farI x.2 p ≤ reach) (h2 : b < 0) : nearS reach p s b x = x.2 := by unfold nearS; rw [if_pos ⟨h, h1, .inl h2⟩]
theorem near_more {reach p b : Int} {s : ByteArray} {x : ByteArray × Nat} (h : x.1.toList = s.toList) (h1 : farI x.2 p ≤ reach) (h2 : farI x.2 p < farI b p) : nearS reach p s b x = x.2 := by unfold nearS; rw [if_pos ⟨h, h1, .inr h2⟩]
theorem near_less {reach p b : Int} {s : ByteArray} {x : ByteArray × Nat} (h1 : ¬ b < 0) (h2 : ¬ farI x.2 p < farI b p) : nearS reach p s b x = b := by unfold nearS; rw [if_neg (fun e => e.2.2.elim h1 h2)]
theorem stones_bd {fs : List FunD} {ns : List Int} {st : List (List ByteArray)} (h : Lying fs ns st) : ∀ k, k ≤ fs.length → ∀ x ∈ stonesTo fs st k, x.2 ≤ 100000000
  | 0, _ => fun x hx => by cases hx
  | k + 1, hk => fun x hx => by
    rw [stonesTo] at hx
    rcases List.mem_append.1 hx with hx | hx
    · exact stones_bd h k (by omega) x hx
    · unfold rowSt at hx
      obtain ⟨j, hj, rfl⟩ := List.mem_map.1 hx
      have := h.small (k + 1) hk
      rw [place] at this
      have := List.mem_range.1 hj
      show place fs st k + lenAt fs k + j ≤ _
      omega
theorem row_bd {fs : List FunD} {ns : List Int} {st : List (List ByteArray)} (h : Lying fs ns st) {k : Nat} (hk : k < fs.length) {m : Nat} (hm : m ≤ (stAt st k).length) : ∀ x ∈ stonesTo fs st k ++ rowSt (place fs st k + lenAt fs k) (stAt st k) m, x.2 ≤ 100000000 := fun x hx => by
  rcases List.mem_append.1 hx with hx | hx
  · exact stones_bd h k (by omega) x hx
  · unfold rowSt at hx
    obtain ⟨j, hj, rfl⟩ := List.mem_map.1 hx
    have := h.small (k + 1) hk
    rw [place] at this
    have := List.mem_range.1 hj
    show place fs st k + lenAt fs k + j ≤ _
    omega
set_option maxHeartbeats 8000000 in
theorem l7To_any (a na sa : Option Addr) (cap nc sc : Nat) (fs : List FunD) (ns : List Int) (st : List (List ByteArray)) (r p : Int) (s : ByteArray) (w : World) (hL : Lying fs ns st) (hp0 : 0 ≤ p) (hp1 : p ≤ 100000000) (hsz : s.size ≤ maxLen) (hcap : fs.length ≤ cap) (hcm : cap ≤ maxLen) (h1 : ns.length ≤ nc) (h2 : nc ≤ maxLen) (h3 : st.length ≤ sc) (h4 : sc ≤ maxLen) (hR : FunRow w a fs) (hs : NumRow w na ns) (ho : TextsRow w sa st) :
    Calls Tryz.prog 55 #[.slice a fs.length cap, .agg #[.slice na ns.length nc, .slice sa st.length sc], .int .i64 r, .int .i64 p, .string s] w fun e w' => e = .returned (.int .i64 (toI fs st r p s)) ∧ Below w.heap.size w w' := by
  have HR := hide hR
  have HS := hide hs
  have HO := hide ho
  have hB0 := below_alloc1 w (.cells #[.slice na ns.length nc, .slice sa st.length sc] 33)
  have HX := hide (new_block w (.cells #[.slice na ns.length nc, .slice sa st.length sc] 33))
  have HL := hide hL
  clear hR hs ho hL
  have hlf : (fs.length : Int) ≤ 9223372036854775807 := by unfold maxLen at hcm; omega
  have hln : (ns.length : Int) ≤ 9223372036854775807 := by unfold maxLen at h2; omega
  have hls : (st.length : Int) ≤ 9223372036854775807 := by unfold maxLen at h4; omega
  by_cases hf : findI fs s < 0
  · have HE : Hid (toI fs st r p s = -1) := by show _ = _; unfold toI; rw [if_pos hf]
    go_enter Tryz.func55, Tryz.ntmps55
    go_wp2_with fail
    refine (specFind_any a cap fs s _ hsz hcap hcm ((unhide HR).below hB0)).mono ?_
    rintro e w1 ⟨rfl, hb1⟩
    go_wp2_with fail
    go_ret
    exact ⟨ret_int (unhide HE).symm, bl_trans hB0 hb1⟩
  obtain ⟨t, ht⟩ : ∃ t : Nat, findI fs s = (t : Int) := ⟨(findI fs s).toNat, by omega⟩
  have htl : t < fs.length := by
    unfold findI at ht
    by_cases h : fs.findIdx (isNm s) < fs.length
    · rw [if_pos h] at ht; omega
    · rw [if_neg h] at ht; omega
  have htn : t < ns.length := by rw [(unhide HL).len]; exact htl
  have htn' : (t : Int) < (ns.length : Int) := by omega
  have htb := (unhide HL).small t (by omega)
  have HT := hide ht
  have HV : Hid (∀ w', NumRow w' na ns → ∃ nb no, na = some ⟨nb, no, none⟩ ∧ w'.cell? ⟨nb, no + t, none⟩ = some (.int .i64 (place fs st t : Nat))) := fun w' h => by
    obtain ⟨nb, no, rfl⟩ := h.get (by omega)
    have := h.cells htn
    rw [(unhide HL).at htn] at this
    exact ⟨nb, no, rfl, this⟩
  have HTO : Hid (toI fs st r p s = if farI (place fs st t) p ≤ r then (place fs st t : Int) else nearI r p s (stonesTo fs st fs.length)) := by
    show _ = _
    unfold toI
    rw [if_neg hf, ht]
    rfl
  clear hf ht htn htl
  go_enter Tryz.func55, Tryz.ntmps55
  go_wp2_with fail
  refine (specFind_any a cap fs s _ hsz hcap hcm ((unhide HR).below hB0)).mono ?_
  rw [unhide HT]
  rintro e w1 ⟨rfl, hb1⟩
  replace HX := hide (box_below (unhide HX) hb1)
  replace hB0 := bl_trans hB0 hb1
  have hX := box2 (unhide HX)
  obtain ⟨nb, no, rfl, n0⟩ := unhide HV _ ((unhide HS).below hB0)
  clear hb1
  by_cases hq : farI (place fs st t) p ≤ r
  · rw [if_pos hq] at HTO
    generalize place fs st t = pl at *
    go_wp2_with fail
    refine (far_any _ _ _ (by omega) (by omega)).mono ?_
    rintro e w2 ⟨rfl, rfl⟩
    go_wp2_with fail
    go_ret
    exact ⟨ret_int (unhide HTO).symm, hB0⟩
  rw [if_neg hq] at HTO
  generalize place fs st t = pl at *
  go_wp2_with fail
  refine (far_any _ _ _ (by omega) (by omega)).mono ?_
  rintro e w2 ⟨rfl, rfl⟩
  clear HV
  go_wp2_with fail
  clear hX n0 hq htn' htb
  go_loopw [12, 13] (fun bst i w' => ∃ (k : Nat) (bb : Int), k ≤ fs.length ∧ i = .int .i64 k ∧ bst = .int .i64 bb ∧ -1 ≤ bb ∧ bb ≤ 100000000 ∧ Hid (bb = nearI r p s (stonesTo fs st k)) ∧ w'.heap[w.heap.size]? = some (.cells #[.slice (some ⟨nb, no, none⟩) ns.length nc, .slice sa st.length sc] 33) ∧ Below w.heap.size w w') (fun _ i _ => fs.length - (intOf i).toNat)
  case atStart => exact ⟨0, -1, Nat.zero_le _, rfl, rfl, by omega, by omega, rfl, unhide HX, hB0⟩
  case round =>
    obtain ⟨k, bb, hk, rfl, rfl, hb0, hb1, HBB, hX, hB⟩ := hrel
    clear HX hB0
    have HX := hide hX
    clear hX
    by_cases hkl : k < fs.length
    · have hkl' : (k : Int) < (fs.length : Int) := by omega
      have hks : k < st.length := by rw [(unhide HL).2.2.1]; exact hkl
      have hks' : (k : Int) < (st.length : Int) := by omega
      obtain ⟨sb, so, rfl⟩ := (unhide HO).get (by omega)
      have HTR := hide ((unhide HO).at hks)
      have hsl := (unhide HL).2.2.2.2.2 st[k] (List.getElem_mem _)
      have HRB : Hid (∀ m, m ≤ st[k].length → ∀ x ∈ stonesTo fs st k ++ rowSt (place fs st k + lenAt fs k) st[k] m, x.2 ≤ 100000000) := fun m hm => by
        have := row_bd (unhide HL) hkl (m := m) (by rw [stAt_is hks]; exact hm)
        rw [stAt_is hks] at this
        exact this
      have HNX : Hid (stonesTo fs st (k + 1) = stonesTo fs st k ++ rowSt (place fs st k + lenAt fs k) st[k] st[k].length) := by show _ = _; rw [stonesTo, stAt_is hks]
      have HSTN : Hid (∀ (j : Nat) w', j ≤ 1048576 → FunRow w' a fs → NumRow w' (some ⟨nb, no, none⟩) ns → Calls Tryz.prog 67 #[.slice a fs.length cap, .agg #[.slice (some ⟨nb, no, none⟩) ns.length nc, .slice (some ⟨sb, so, none⟩) st.length sc], .int .i64 (k : Nat), .int .i64 (j : Nat)] w' fun e w'' => e = .returned (.int .i64 ((place fs st k + lenAt fs k + j : Nat) : Int)) ∧ Below w'.heap.size w' w'') := fun j w' hj hr hn => l7Stone_any _ _ _ _ _ _ fs ns st k j w' (unhide HL) hkl hj hcap hcm h1 h2 h3 h4 hr hn
      have HRS : Hid (∀ j (h : j < st[k].length), rowSt (place fs st k + lenAt fs k) st[k] (j + 1) = rowSt (place fs st k + lenAt fs k) st[k] j ++ [(st[k][j], place fs st k + lenAt fs k + j)]) := fun j h => rowSt_succ h
      have hX := box2 (unhide HX)
      generalize st[k] = ss at *
      generalize place fs st k + lenAt fs k = p0 at *
      generalize stonesTo fs st k = L0 at *
      go_wp2_with fail
      clear hX
      go_loopw [12, 14] (fun bst i w' => ∃ (j : Nat) (bb : Int), j ≤ ss.length ∧ i = .int .i64 j ∧ bst = .int .i64 bb ∧ -1 ≤ bb ∧ bb ≤ 100000000 ∧ Hid (bb = nearI r p s (L0 ++ rowSt p0 ss j)) ∧ w'.heap[w.heap.size]? = some (.cells #[.slice (some ⟨nb, no, none⟩) ns.length nc, .slice (some ⟨sb, so, none⟩) st.length sc] 33) ∧ Below w.heap.size w w') (fun _ i _ => ss.length - (intOf i).toNat)
      case atStart => exact ⟨0, bb, Nat.zero_le _, rfl, rfl, hb0, hb1, by show _ = _; rw [rowSt_zero, List.append_nil]; exact unhide HBB, unhide HX, hB⟩
      case round =>
        obtain ⟨j, bb', hj, rfl, rfl, hb0', hb1', HBB', hX, hB'⟩ := hrel
        clear HX hB HBB hb0 hb1
        have HX := hide hX
        clear hX
        have hX := box2 (unhide HX)
        obtain ⟨ai, ci, t0, h5, h6, h7⟩ := (unhide HTR).below hB'
        have HT7 := hide h7
        clear h7
        by_cases hjl : j < ss.length
        · have hjl' : (j : Int) < (ss.length : Int) := by omega
          obtain ⟨tb, to', rfl⟩ := (unhide HT7).get (by omega)
          have HSN : Hid (nearI r p s (L0 ++ rowSt p0 ss (j + 1)) = nearS r p s bb' (ss[j], p0 + j)) := by
            show _ = _
            rw [unhide HRS j hjl, ← List.append_assoc, nearI_snoc, ← unhide HBB']
          have HNB := hide (near_bd r p s _ (unhide HRB (j + 1) (by omega)))
          have hpb : p0 + j ≤ 100000000 := unhide HRB (j + 1) (by omega) (ss[j], p0 + j) (by rw [unhide HRS j hjl]; simp)
          have HUJ := hide (fun w' (h : TextRow w' (some ⟨tb, to', none⟩) ss) => (h.cells hjl).1)
          generalize ss[j] = s' at *
          go_wp2_with fail
          refine (unhide HSTN j _ (by omega) ((unhide HR).below hB') ((unhide HS).below hB')).mono ?_
          rintro e w3 ⟨rfl, hb3⟩
          replace HX := hide (box_below (unhide HX) hb3)
          replace hB' := bl_trans hB' hb3
          have u0 := unhide HUJ _ ((unhide HT7).below hb3)
          replace t0 := cell_below hb3 t0
          clear hX hb3 HUJ
          have hX := box2 (unhide HX)
          have hpb' : ((p0 + j : Nat) : Int) ≤ 1000000000 := by omega
          have hpb0 : -1 ≤ ((p0 + j : Nat) : Int) := by omega
          have HNS := hide (fun (h : s'.toList ≠ s.toList) => near_skip (reach := r) (p := p) (b := bb') (x := (s', p0 + j)) h)
          have HNF := hide (fun (h : ¬ farI ((p0 + j : Nat) : Int) p ≤ r) => near_far (b := bb') (s := s) (x := (s', p0 + j)) h)
          have HN1 := hide (fun (h : s'.toList = s.toList) (h1 : farI ((p0 + j : Nat) : Int) p ≤ r) (h2 : bb' < 0) => near_first (x := (s', p0 + j)) h h1 h2)
          have HN2 := hide (fun (h : s'.toList = s.toList) (h1 : farI ((p0 + j : Nat) : Int) p ≤ r) (h2 : farI ((p0 + j : Nat) : Int) p < farI bb' p) => near_more (b := bb') (x := (s', p0 + j)) h h1 h2)
          have HN3 := hide (fun (h1 : ¬ bb' < 0) (h2 : ¬ farI ((p0 + j : Nat) : Int) p < farI bb' p) => near_less (reach := r) (s := s) (x := (s', p0 + j)) h1 h2)
          rw [unhide HSN] at HNB
          generalize hpq : ((p0 + j : Nat) : Int) = pq at *
          clear hpq
          cases hq : (s'.toList == s.toList)
          · have HZ := hide (unhide HNS (fun e => by rw [e] at hq; simp at hq))
            go_wp2_with fail
            exact ⟨⟨j + 1, bb', by omega, by go_num, rfl, hb0', hb1', by show _ = _; rw [unhide HSN, unhide HZ], unhide HX, hB'⟩, by simp [intOf]; omega⟩
          · have hq' : s'.toList = s.toList := by simpa using hq
            have HQ := hide hq'
            clear hq'
            by_cases hq2 : farI pq p ≤ r
            · by_cases hq3 : bb' < 0
              · have HZ := hide (unhide HN1 (unhide HQ) hq2 hq3)
                go_wp2_with fail
                refine (far_any _ _ _ (by omega) (by omega)).mono ?_
                rintro e w4 ⟨rfl, rfl⟩
                go_wp2_with fail
                exact ⟨⟨j + 1, pq, by omega, by go_num, rfl, by omega, by have := unhide HNB; rw [unhide HZ] at this; exact this.2, by show _ = _; rw [unhide HSN, unhide HZ], unhide HX, hB'⟩, by simp [intOf]; omega⟩
              · by_cases hq4 : farI pq p < farI bb' p
                · have HZ := hide (unhide HN2 (unhide HQ) hq2 hq4)
                  go_wp2_with fail
                  refine (far_any _ _ _ (by omega) (by omega)).mono ?_
                  rintro e w4 ⟨rfl, rfl⟩
                  go_wp2_with fail
                  refine (far_any _ _ _ (by omega) (by omega)).mono ?_
                  rintro e w5 ⟨rfl, rfl⟩
                  go_wp2_with fail
                  refine (far_any _ _ _ (by omega) (by omega)).mono ?_
                  rintro e w6 ⟨rfl, rfl⟩
                  go_wp2_with fail
                  exact ⟨⟨j + 1, pq, by omega, by go_num, rfl, by omega, by have := unhide HNB; rw [unhide HZ] at this; exact this.2, by show _ = _; rw [unhide HSN, unhide HZ], unhide HX, hB'⟩, by simp [intOf]; omega⟩
                · have HZ := hide (unhide HN3 hq3 hq4)
                  go_wp2_with fail
                  refine (far_any _ _ _ (by omega) (by omega)).mono ?_
                  rintro e w4 ⟨rfl, rfl⟩
                  go_wp2_with fail
                  refine (far_any _ _ _ (by omega) (by omega)).mono ?_
                  rintro e w5 ⟨rfl, rfl⟩
                  go_wp2_with fail
                  refine (far_any _ _ _ (by omega) (by omega)).mono ?_
                  rintro e w6 ⟨rfl, rfl⟩
                  go_wp2_with fail
                  exact ⟨⟨j + 1, bb', by omega, by go_num, rfl, hb0', hb1', by show _ = _; rw [unhide HSN, unhide HZ], unhide HX, hB'⟩, by simp [intOf]; omega⟩
            · have HZ := hide (unhide HNF hq2)
              go_wp2_with fail
              refine (far_any _ _ _ (by omega) (by omega)).mono ?_
              rintro e w4 ⟨rfl, rfl⟩
              go_wp2_with fail
              exact ⟨⟨j + 1, bb', by omega, by go_num, rfl, hb0', hb1', by show _ = _; rw [unhide HSN, unhide HZ], unhide HX, hB'⟩, by simp [intOf]; omega⟩
        · have hjl' : ¬ (j : Int) < (ss.length : Int) := by omega
          have HBX : Hid (bb' = nearI r p s (stonesTo fs st (k + 1))) := by show _ = _; rw [unhide HNX, unhide HBB', show j = ss.length by omega]
          go_wp2_with fail
          exact ⟨⟨k + 1, bb', by omega, by go_num, rfl, hb0', hb1', unhide HBX, unhide HX, hB'⟩, by simp [intOf]; omega⟩
    · have hkl' : ¬ (k : Int) < (fs.length : Int) := by omega
      have HE : Hid (bb = toI fs st r p s) := by show _ = _; rw [unhide HTO, unhide HBB, show k = fs.length by omega]
      go_wp2_with fail
      go_ret
      exact ⟨ret_int (unhide HE), hB⟩
end Go.Proofs.YthbbmookhcalkaaGreat.LayT
