/- The contracts of the specification's l7Form, l7Far, l7Stone, l7To. -/
import Derived.Test.YthbbmookhcalkaaGreatLayA
import Derived.Test.YthbbmookhcalkaaGreatLayD
namespace Go.Proofs.YthbbmookhcalkaaGreat.LayS
open Go.ChangeShapes Go.WideShapes Go.ChangeAt Go.RowKit Go.Joins Go.Deep
open Go.Proofs.YthbbmookhcalkaaGreat.Base Go.Proofs.YthbbmookhcalkaaGreat.InsA Go.Proofs.YthbbmookhcalkaaGreat.Funs Go.Proofs.YthbbmookhcalkaaGreat.Open Go.Proofs.YthbbmookhcalkaaGreat.FunS Go.Proofs.YthbbmookhcalkaaGreat.Keep Go.Proofs.YthbbmookhcalkaaGreat.UnitS Go.Proofs.YthbbmookhcalkaaGreat.Refs Go.Proofs.YthbbmookhcalkaaGreat.LayN Go.Proofs.YthbbmookhcalkaaGreat.LayA Go.Proofs.YthbbmookhcalkaaGreat.KeepD Go.Proofs.YthbbmookhcalkaaGreat.KeepA Go.Proofs.YthbbmookhcalkaaGreat.LayD
set_option linter.unusedVariables false
set_option maxRecDepth 100000

theorem l1Max_any (a b : Int) (w : World) : Calls Tryz.prog 75 #[.int .i64 a, .int .i64 b] w fun e w' => e = .returned (.int .i64 (if b < a then a else b)) ∧ w' = w := by
  by_cases h : b < a
  · rw [if_pos h]
    go_enter Tryz.func75, Tryz.ntmps75
    go_wp2_with fail
    go_ret
    exact ⟨rfl, rfl⟩
  · rw [if_neg h]
    go_enter Tryz.func75, Tryz.ntmps75
    go_wp2_with fail
    go_ret
    exact ⟨rfl, rfl⟩
theorem far_max (a b : Int) : (if b - a < a - b then a - b else b - a) = farI a b := by unfold farI; split <;> split <;> omega
theorem far_any (a b : Int) (w : World) (ha : -1 ≤ a ∧ a ≤ 1000000000) (hb : -1 ≤ b ∧ b ≤ 1000000000) : Calls Tryz.prog 66 #[.int .i64 a, .int .i64 b] w fun e w' => e = .returned (.int .i64 (farI a b)) ∧ w' = w := by
  obtain ⟨ha0, ha1⟩ := ha
  obtain ⟨hb0, hb1⟩ := hb
  have HF := hide (far_max a b)
  go_enter Tryz.func66, Tryz.ntmps66
  go_wp2_with fail
  refine (l1Max_any _ _ _).mono ?_
  rw [unhide HF]
  rintro e w1 ⟨rfl, rfl⟩
  go_wp2_with fail
  go_ret
  exact ⟨rfl, rfl⟩
theorem place_small {fs : List FunD} {st : List (List ByteArray)} (h40 : fs.length ≤ 40) (h10 : ∀ f ∈ fs, f.body.length ≤ 10) (hl : st.length = fs.length) (hf : FewT st) : ∀ n, n ≤ fs.length → place fs st n ≤ 42000000 := fun n hn => by
  have := place_bd (fs := fs) (st := st) (m := 10) (q := 1048576) (fun i hi => by rw [lenAt_is hi]; exact h10 _ (List.getElem_mem _)) (fun i hi => by rw [stAt_is (by omega)]; exact hf.2 _ (List.getElem_mem _)) n hn
  have : n * (10 + 1048576) ≤ 40 * (10 + 1048576) := Nat.mul_le_mul_right _ (by omega)
  omega
theorem keep_bodies {fs : List FunD} (h : keepOkB fs = true) : ∀ f ∈ fs, f.body.length ≤ 10 := fun f hf => fun_le ((keep_parts h).2.2.1 f hf)

set_option maxHeartbeats 8000000 in
theorem l7Form_any (a na sa : Option Addr) (cap nc sc : Nat) (fs : List FunD) (ns : List Int) (st : List (List ByteArray)) (w : World) (hcap : fs.length ≤ cap) (hcm : cap ≤ maxLen) (h1 : ns.length ≤ nc) (h2 : nc ≤ maxLen) (h3 : st.length ≤ sc) (h4 : sc ≤ maxLen) (hft : FewT st) (hR : FunRow w a fs) (hs : NumRow w na ns) (ho : TextsRow w sa st) :
    Calls Tryz.prog 38 #[.slice a fs.length cap, .agg #[.slice na ns.length nc, .slice sa st.length sc]] w fun e w' => e = .returned (.bool (formB fs ns st)) ∧ Below w.heap.size w w' := by
  have HR := hide hR
  have HS := hide hs
  have HO := hide ho
  have HSZ := hide ho.sizes
  have hB0 := below_alloc1 w (.cells #[.slice na ns.length nc, .slice sa st.length sc] 33)
  have HX := hide (new_block w (.cells #[.slice na ns.length nc, .slice sa st.length sc] 33))
  clear hR hs ho
  have hlf : (fs.length : Int) ≤ 9223372036854775807 := by unfold maxLen at hcm; omega
  have hln : (ns.length : Int) ≤ 9223372036854775807 := by unfold maxLen at h2; omega
  have hls : (st.length : Int) ≤ 9223372036854775807 := by unfold maxLen at h4; omega
  cases hk : keepOkB fs
  · have HE : Hid (false = formB fs ns st) := (form_keep hk).symm
    go_enter Tryz.func38, Tryz.ntmps38
    go_wp2_with fail
    refine (specKeepOk_any a cap fs _ hcap hcm ((unhide HR).below hB0)).mono ?_
    rw [hk]
    rintro e w1 ⟨rfl, hb1⟩
    go_wp2_with fail
    go_ret
    exact ⟨ret_bool (unhide HE), bl_trans hB0 hb1⟩
  by_cases hn : ns.length = fs.length
  rotate_left
  · have HE : Hid (false = formB fs ns st) := (form_atlen hn).symm
    have hn' : ¬ (ns.length : Int) = (fs.length : Int) := by omega
    go_enter Tryz.func38, Tryz.ntmps38
    go_wp2_with fail
    refine (specKeepOk_any a cap fs _ hcap hcm ((unhide HR).below hB0)).mono ?_
    rw [hk]
    rintro e w1 ⟨rfl, hb1⟩
    have hX := box2 (box_below (unhide HX) hb1)
    go_wp2_with fail
    go_ret
    exact ⟨ret_bool (unhide HE), bl_trans hB0 hb1⟩
  by_cases hm : st.length = fs.length
  rotate_left
  · have HE : Hid (false = formB fs ns st) := (form_len hm).symm
    have hm' : ¬ (st.length : Int) = (fs.length : Int) := by omega
    have HKO : Hid (∀ w', FunRow w' a fs → Calls Tryz.prog 53 #[.slice a fs.length cap] w' fun e w'' => e = .returned (.bool (keepOkB fs)) ∧ Below w'.heap.size w' w'') := fun w' h => specKeepOk_any a cap fs w' hcap hcm h
    rw [hn] at HX hB0 h1 ⊢
    clear hn
    go_enter Tryz.func38, Tryz.ntmps38
    go_wp2_with fail
    refine (unhide HKO _ ((unhide HR).below hB0)).mono ?_
    rw [hk]
    rintro e w1 ⟨rfl, hb1⟩
    have hX := box2 (box_below (unhide HX) hb1)
    go_wp2_with fail
    go_ret
    exact ⟨ret_bool (unhide HE), bl_trans hB0 hb1⟩
  have h40 := (keep_parts hk).2.1
  have HPB := hide (place_small h40 (keep_bodies hk) hm hft)
  have HKO : Hid (∀ w', FunRow w' a fs → Calls Tryz.prog 53 #[.slice a fs.length cap] w' fun e w'' => e = .returned (.bool (keepOkB fs)) ∧ Below w'.heap.size w' w'') := fun w' h => specKeepOk_any a cap fs w' hcap hcm h
  have HFI : Hid (∀ s w', s.size ≤ maxLen → FunRow w' a fs → Calls Tryz.prog 41 #[.slice a fs.length cap, .string s] w' fun e w'' => e = .returned (.int .i64 (findI fs s)) ∧ Below w'.heap.size w' w'') := fun s w' hsz h => specFind_any a cap fs s w' hsz hcap hcm h
  have HEND : Hid ((∀ i (h : i < st.length), stonesB fs st[i] = true) → (∀ i (h : i < ns.length), ns[i] = (place fs st i : Int)) → true = formB fs ns st) := fun e1 e2 => (form_end hk hm e1 (List.ext_getElem (by rw [places_len]; exact hn) fun i q1 q2 => by rw [e2 i q1]; exact (placesTo_at q2).symm)).symm
  have HAT : Hid (∀ k (h : k < ns.length), ns[k] ≠ (place fs st k : Int) → false = formB fs ns st) := fun k h e => (form_atk h e).symm
  have HST : Hid (∀ k (h : k < st.length), stonesB fs st[k] = false → false = formB fs ns st) := fun k h e => (form_stones h e).symm
  obtain ⟨n, hfn⟩ : ∃ n, fs.length = n := ⟨_, rfl⟩
  have HLF := hide hfn
  have HLN := hide (hn.trans hfn)
  have HLS := hide (hm.trans hfn)
  rw [hn, hfn] at HX hB0 h1
  rw [hm, hfn] at HX hB0 h3
  rw [hfn] at hcap h40 hlf HKO HFI
  rw [hn, hm, hfn]
  have HFT := hide hft.2
  clear hn hm hfn hft hln hls
  have HKE := hide hk
  go_enter Tryz.func38, Tryz.ntmps38
  go_wp2_with fail
  refine (unhide HKO _ ((unhide HR).below hB0)).mono ?_
  rw [hk]
  rintro e w1 ⟨rfl, hb1⟩
  replace HX := hide (box_below (unhide HX) hb1)
  have hB1 := bl_trans hB0 hb1
  have hX := box2 (unhide HX)
  clear hB0 hb1 hk
  go_wp2_with fail
  clear hX
  go_loopw [5, 6] (fun at' i w' => ∃ k : Nat, k ≤ n ∧ i = .int .i64 k ∧ at' = .int .i64 (place fs st k : Nat) ∧ Hid (∀ j (h : j < ns.length), j < k → ns[j] = (place fs st j : Int)) ∧ Hid (∀ j (h : j < st.length), j < k → stonesB fs st[j] = true) ∧ w'.heap[w.heap.size]? = some (.cells #[.slice na n nc, .slice sa n sc] 33) ∧ Below w.heap.size w w') (fun _ i _ => n - (intOf i).toNat)
  case atStart => exact ⟨0, Nat.zero_le _, rfl, rfl, fun j _ h => by omega, fun j _ h => by omega, unhide HX, hB1⟩
  case round =>
    obtain ⟨k, hk, rfl, rfl, HJN, HJS, hX, hB⟩ := hrel
    clear HX hB1
    have HX := hide hX
    clear hX
    have hX := box2 (unhide HX)
    by_cases hkl : k < n
    · have hkl' : (k : Int) < (n : Int) := by omega
      have hkf : k < fs.length := by have := unhide HLF; omega
      have hkn : k < ns.length := by have := unhide HLN; omega
      have hks : k < st.length := by have := unhide HLS; omega
      obtain ⟨b, off, rfl⟩ := (unhide HR).get (by omega)
      obtain ⟨nb, no, rfl⟩ := (unhide HS).get (by omega)
      obtain ⟨sb, so, rfl⟩ := (unhide HO).get (by omega)
      have n0 := ((unhide HS).below hB).cells hkn
      have HA0 := hide (unhide HAT k hkn)
      have HT0 := hide (unhide HST k hks)
      have HPS : Hid (place fs st (k + 1) = place fs st k + fs[k].body.length + st[k].length) := by show place fs st (k + 1) = _; rw [place, lenAt_is hkf, stAt_is hks]
      have hpb := unhide HPB k (by omega)
      by_cases hpk : ns[k] = (place fs st k : Int)
      · have HNX : Hid (∀ j (h : j < ns.length), j < k + 1 → ns[j] = (place fs st j : Int)) := fun j h hj => by
          by_cases e : j = k
          · subst e; exact hpk
          · exact unhide HJN j h (by omega)
        have HSX : Hid (stonesB fs st[k] = true → ∀ j (h : j < st.length), j < k + 1 → stonesB fs st[j] = true) := fun hq j h hj => by
          by_cases e : j = k
          · subst e; exact hq
          · exact unhide HJS j h (by omega)
        have HFR := hide ((unhide HR).at hkf)
        have HTR := hide ((unhide HO).at hks)
        have hsl := unhide HFT st[k] (List.getElem_mem _)
        have hfl : fs[k].body.length ≤ 10 := keep_bodies (unhide HKE) _ (List.getElem_mem _)
        have HTZ := hide (unhide HSZ st[k] (List.getElem_mem _)).2
        have HSE := hide (stones_end (fs := fs) (ss := st[k]))
        have HSN := hide (fun j (hj : j < st[k].length) => stones_none (fs := fs) hj)
        have HSW := hide (fun j i (hj : j < st[k].length) (hi : i < j) => stones_twice (fs := fs) hj hi)
        rw [hpk] at n0
        clear hpk HAT HST HEND HA0
        generalize fs[k] = f at *
        generalize st[k] = ss at *
        generalize hpe : place fs st k = pl at *
        clear hpe
        go_wp2_with fail
        clear hX n0
        go_loopw [7] (fun q w' => ∃ j : Nat, j ≤ ss.length ∧ q = .int .i64 j ∧ Hid (∀ i (h : i < ss.length), i < j → 0 ≤ findI fs ss[i]) ∧ Hid (∀ i j' (h : j' < ss.length) (hi : i < j'), j' < j → ss[j'].toList ≠ (ss[i]'(by omega)).toList) ∧ w'.heap[w.heap.size]? = some (.cells #[.slice (some ⟨nb, no, none⟩) n nc, .slice (some ⟨sb, so, none⟩) n sc] 33) ∧ Below w.heap.size w w') (fun q _ => ss.length - (intOf q).toNat)
        case atStart => exact ⟨0, Nat.zero_le _, rfl, fun i _ h => by omega, fun i j' _ _ h => by omega, unhide HX, hB⟩
        case round =>
          obtain ⟨j, hj, rfl, HJ1, HJ2, hX, hB'⟩ := hrel
          clear HX hB
          have HX := hide hX
          clear hX
          have hX := box2 (unhide HX)
          obtain ⟨ai, ci, t0, h5, h6, h7⟩ := (unhide HTR).below hB'
          have HT7 := hide h7
          clear h7
          by_cases hjl : j < ss.length
          · have hjl' : (j : Int) < (ss.length : Int) := by omega
            obtain ⟨tb, to', rfl⟩ := (unhide HT7).get (by omega)
            obtain ⟨u0, _⟩ := (unhide HT7).cells hjl
            have hsz := unhide HTZ ss[j] (List.getElem_mem _)
            have HN1 : Hid (findI fs ss[j] < 0 → false = formB fs ns st) := fun h => unhide HT0 (unhide HSN j hjl h)
            have HN2 : Hid (∀ i (hi : i < j), ss[j].toList = (ss[i]'(by omega)).toList → false = formB fs ns st) := fun i hi h => unhide HT0 (unhide HSW j i hjl hi h)
            have HY1 : Hid (0 ≤ findI fs ss[j] → ∀ i (h : i < ss.length), i < j + 1 → 0 ≤ findI fs ss[i]) := fun hq i h hi => by
              by_cases e : i = j
              · subst e; exact hq
              · exact unhide HJ1 i h (by omega)
            have HY2 : Hid ((∀ i (hi : i < j), ss[j].toList ≠ (ss[i]'(by omega)).toList) → ∀ i j' (h : j' < ss.length) (hi : i < j'), j' < j + 1 → ss[j'].toList ≠ (ss[i]'(by omega)).toList) := fun hq i j' h hi hj' => by
              by_cases e : j' = j
              · subst e; exact hq i hi
              · exact unhide HJ2 i j' h hi (by omega)
            generalize hsj : ss[j] = s at *
            have HSJ := hide hsj
            clear hsj
            by_cases hf : findI fs s < 0
            · go_wp2_with fail
              refine (unhide HFI s _ hsz ((unhide HR).below hB')).mono ?_
              rintro e w2 ⟨rfl, hb2⟩
              go_wp2_with fail
              go_ret
              exact ⟨ret_bool (unhide HN1 hf), bl_trans hB' hb2⟩
            · have HY1' := hide (unhide HY1 (by omega))
              go_wp2_with fail
              refine (unhide HFI s _ hsz ((unhide HR).below hB')).mono ?_
              rintro e w2 ⟨rfl, hb2⟩
              replace HX := hide (box_below (unhide HX) hb2)
              replace hB' := bl_trans hB' hb2
              clear hX t0 u0 hb2
              go_wp2_with fail
              go_loopw [8] (fun r w' => ∃ i : Nat, i ≤ j ∧ r = .int .i64 i ∧ Hid (∀ i' (hi : i' < j), i' < i → s.toList ≠ (ss[i']'(by omega)).toList) ∧ w'.heap[w.heap.size]? = some (.cells #[.slice (some ⟨nb, no, none⟩) n nc, .slice (some ⟨sb, so, none⟩) n sc] 33) ∧ Below w.heap.size w w') (fun r _ => j - (intOf r).toNat)
              case atStart => exact ⟨0, Nat.zero_le _, rfl, fun i' _ h => by omega, unhide HX, hB'⟩
              case round =>
                obtain ⟨i, hi, rfl, HI, hX, hB2⟩ := hrel
                clear HX hB'
                have HX := hide hX
                clear hX
                have hX := box2 (unhide HX)
                by_cases hil : i < j
                · have hil' : (i : Int) < (j : Int) := by omega
                  obtain ⟨ai', ci', t0, h5', h6', h7'⟩ := (unhide HTR).below hB2
                  obtain ⟨tb', to2, rfl⟩ := h7'.get (by omega)
                  obtain ⟨u0, _⟩ := h7'.cells hjl
                  obtain ⟨v0, _⟩ := h7'.cells (show i < ss.length by omega)
                  rw [unhide HSJ] at u0
                  have HNI := hide (unhide HN2 i hil)
                  have HXI : Hid (s.toList ≠ (ss[i]'(by omega)).toList → ∀ i' (hi : i' < j), i' < i + 1 → s.toList ≠ (ss[i']'(by omega)).toList) := fun hq i' hi' h => by
                    by_cases e : i' = i
                    · subst e; exact hq
                    · exact unhide HI i' hi' (by omega)
                  clear h7'
                  have hil2 : (i : Int) < (ss.length : Int) := by omega
                  generalize ss[i] = s' at *
                  cases hq : (s'.toList == s.toList)
                  · go_wp2_with fail
                    go_quiet (fail)
                    go_wp2_with fail
                    exact ⟨⟨i + 1, by omega, by go_num, unhide HXI (fun e => by rw [e] at hq; simp at hq), unhide HX, by first | exact hB2 | exact bl_drewN hB2 _ | exact hB2.drew⟩, by simp [intOf]; omega⟩
                  · go_wp2_with fail
                    go_quiet (fail)
                    go_wp2_with fail
                    go_ret
                    exact ⟨ret_bool (unhide HNI (by simpa using (beq_iff_eq.1 hq).symm)), by first | exact hB2 | exact bl_drewN hB2 _ | exact hB2.drew⟩
                · have hil' : ¬ (i : Int) < (j : Int) := by omega
                  have HYZ := hide (unhide HY2 (fun i' hi' => unhide HI i' hi' (by omega)))
                  go_wp2_with fail
                  exact ⟨⟨j + 1, by omega, by go_num, unhide HY1', unhide HYZ, unhide HX, hB2⟩, by simp [intOf]; omega⟩
          · have hjl' : ¬ (j : Int) < (ss.length : Int) := by omega
            have HSY := hide (unhide HSX (unhide HSE (fun i h => unhide HJ1 i h (by omega)) (fun i j' h hi => unhide HJ2 i j' h hi (by omega))))
            obtain ⟨fi, fc, f0, f1, f2, _, f4, f5, _⟩ := (unhide HFR).below hB'
            go_wp2_with fail
            go_quiet (fail)
            go_wp2_with fail
            exact ⟨⟨k + 1, by omega, by go_num, by rw [unhide HPS]; go_num, unhide HNX, unhide HSY, unhide HX, by first | exact hB' | exact bl_drewN hB' _ | exact hB'.drew⟩, by simp [intOf]; omega⟩
      · have HE := hide (unhide HA0 hpk)
        generalize ns[k] = x at *
        generalize hpe : place fs st k = pl at *
        have hpk' : ¬ x = (pl : Int) := hpk
        go_wp2_with fail
        go_ret
        exact ⟨ret_bool (unhide HE), hB⟩
    · have hkl' : ¬ (k : Int) < (n : Int) := by omega
      have HE : Hid (true = formB fs ns st) := unhide HEND (fun i h => unhide HJS i h (by have := unhide HLS; omega)) (fun i h => unhide HJN i h (by have := unhide HLN; omega))
      go_wp2_with fail
      go_ret
      exact ⟨ret_bool (unhide HE), hB⟩
end Go.Proofs.YthbbmookhcalkaaGreat.LayS
