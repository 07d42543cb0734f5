/- The contracts of the program's reachOk, apart, ground.to, LayTo. -/
import Derived.Test.YthbbmookhcalkaaGreatLayO
namespace Go.Proofs.YthbbmookhcalkaaGreat.LayP
open Go.ChangeShapes Go.WideShapes Go.ChangeAt Go.RowKit Go.Joins Go.WideMaps Go.Maps Go.Deep
open Go.Proofs.YthbbmookhcalkaaGreat.Base Go.Proofs.YthbbmookhcalkaaGreat.InsA Go.Proofs.YthbbmookhcalkaaGreat.Funs Go.Proofs.YthbbmookhcalkaaGreat.Open Go.Proofs.YthbbmookhcalkaaGreat.Keep Go.Proofs.YthbbmookhcalkaaGreat.UnitS Go.Proofs.YthbbmookhcalkaaGreat.UnitM Go.Proofs.YthbbmookhcalkaaGreat.Refs Go.Proofs.YthbbmookhcalkaaGreat.LayN Go.Proofs.YthbbmookhcalkaaGreat.LayA Go.Proofs.YthbbmookhcalkaaGreat.KeepD Go.Proofs.YthbbmookhcalkaaGreat.KeepA Go.Proofs.YthbbmookhcalkaaGreat.LayD Go.Proofs.YthbbmookhcalkaaGreat.LayS Go.Proofs.YthbbmookhcalkaaGreat.LayT Go.Proofs.YthbbmookhcalkaaGreat.LayG Go.Proofs.YthbbmookhcalkaaGreat.LayH Go.Proofs.YthbbmookhcalkaaGreat.LayJ Go.Proofs.YthbbmookhcalkaaGreat.LayK Go.Proofs.YthbbmookhcalkaaGreat.LayV Go.Proofs.YthbbmookhcalkaaGreat.LayM Go.Proofs.YthbbmookhcalkaaGreat.LayO
set_option linter.unusedVariables false
set_option maxRecDepth 100000

theorem reachOk_any (r : Int) (w : World) : Calls Tryz.prog 45 #[.int .i64 r] w fun e w' => e = .returned (.bool (reachB r)) ∧ w' = w := by
  by_cases h0 : 1 ≤ r
  · by_cases h1 : r ≤ 100
    · have HE : Hid (true = reachB r) := by show _ = _; unfold reachB; simp; omega
      go_enter Tryz.func45, Tryz.ntmps45
      go_wp2_with fail
      go_ret
      exact ⟨ret_bool (unhide HE), rfl⟩
    · have HE : Hid (false = reachB r) := by show _ = _; unfold reachB; simp; omega
      go_enter Tryz.func45, Tryz.ntmps45
      go_wp2_with fail
      go_ret
      exact ⟨ret_bool (unhide HE), rfl⟩
  · have HE : Hid (false = reachB r) := by show _ = _; unfold reachB; simp; omega
    go_enter Tryz.func45, Tryz.ntmps45
    go_wp2_with fail
    go_ret
    exact ⟨ret_bool (unhide HE), rfl⟩
theorem apart_any (a b : Int) (w : World) (ha : -1 ≤ a ∧ a ≤ 1000000000) (hb : -1 ≤ b ∧ b ≤ 1000000000) : Calls Tryz.prog 62 #[.int .i64 a, .int .i64 b] w fun e w' => e = .returned (.int .i64 (farI a b)) ∧ w' = w := by
  obtain ⟨ha0, ha1⟩ := ha
  obtain ⟨hb0, hb1⟩ := hb
  have HF : Hid (max (a - b) (b - a) = farI a b) := by show _ = _; unfold farI; split <;> omega
  go_enter Tryz.func62, Tryz.ntmps62
  go_wp2_with fail
  go_ret
  exact ⟨ret_int (unhide HF), rfl⟩
theorem nums_of {w : World} {B n c : Nat} {a : Option Addr} {zs : List Int} (h : w.ownsRow B 3 1 (.slice a n c) n (zs.map (Value.int .i64))) : NumRow w a zs := by
  obtain ⟨q1, ⟨q2, q0⟩ | ⟨g, cap, cur, q2, hB, hgg, hn, hm, hs, ht⟩⟩ := h
  · simp at q1
    exact .inl (List.length_eq_zero_iff.1 (by omega))
  · simp only [Value.slice.injEq] at q2
    obtain ⟨rfl, _, rfl⟩ := q2
    refine .inr ⟨g, 0, rfl, fun i hi => ?_⟩
    rw [cell_of_block hgg]
    have hl : zs.length = n := by simpa using q1
    have e : (cur.toList.take (n * 1))[i]? = some (.int .i64 zs[i]) := by rw [ht]; simp [hi]
    rw [List.getElem?_take_of_lt (by omega)] at e
    simpa using e
theorem near_of_ints {w : World} {base : Nat} {D : DataW Unit} {l : List (ByteArray × Nat)} {s : ByteArray} {v : Value} {zs : List Int} (hat : D.atKey (keyS s) .nil = rowDatum .i64 v zs) (hoi : w.ownsInts base 3 .i64 v zs) (hG : GR D l) : zs = ofNm l s := by
  refine Reads.one (d := D.atKey (keyS s) .nil) ?_ (hG s)
  rw [hat]
  exact hoi.datum
def nearZ1 (r p best z : Int) : Int := if farI z p ≤ r ∧ (best < 0 ∨ farI z p < farI best p) then z else best
def nearZ (r p : Int) (zs : List Int) : Int := zs.foldl (nearZ1 r p) (-1)
theorem nearZ_snoc (r p : Int) (zs : List Int) (z : Int) : nearZ r p (zs ++ [z]) = nearZ1 r p (nearZ r p zs) z := by simp [nearZ]
theorem nearZ_far {r p b z : Int} (h : ¬ farI z p ≤ r) : nearZ1 r p b z = b := by unfold nearZ1; rw [if_neg (fun e => h e.1)]
theorem nearZ_first {r p b z : Int} (h1 : farI z p ≤ r) (h2 : b < 0) : nearZ1 r p b z = z := by unfold nearZ1; rw [if_pos ⟨h1, .inl h2⟩]
theorem nearZ_more {r p b z : Int} (h1 : farI z p ≤ r) (h2 : farI z p < farI b p) : nearZ1 r p b z = z := by unfold nearZ1; rw [if_pos ⟨h1, .inr h2⟩]
theorem nearZ_less {r p b z : Int} (h1 : ¬ b < 0) (h2 : ¬ farI z p < farI b p) : nearZ1 r p b z = b := by unfold nearZ1; rw [if_neg (fun e => e.2.elim h1 h2)]
theorem nearI_is (r p : Int) (s : ByteArray) (l : List (ByteArray × Nat)) : nearI r p s l = nearZ r p (ofNm l s) := by
  unfold nearI nearZ
  suffices ∀ b, l.foldl (nearS r p s) b = (ofNm l s).foldl (nearZ1 r p) b from this (-1)
  induction l with
  | nil => intro b; rfl
  | cons x l ih =>
    intro b
    rw [List.foldl_cons, ih]
    by_cases h : x.1.toList = s.toList
    · have e : ofNm (x :: l) s = (x.2 : Int) :: ofNm l s := by unfold ofNm; simp [h]
      rw [e, List.foldl_cons]
      congr 1
      unfold nearS nearZ1
      simp [h]
    · have e : ofNm (x :: l) s = ofNm l s := by unfold ofNm; simp [h]
      rw [e]
      congr 1
      unfold nearS
      rw [if_neg (fun e => h e.1)]
theorem ofNm_bd {l : List (ByteArray × Nat)} {s : ByteArray} (h : ∀ x ∈ l, x.2 ≤ 100000000) : ∀ z ∈ ofNm l s, (0 : Int) ≤ z ∧ z ≤ 100000000 := by
  intro z hz
  unfold ofNm at hz
  obtain ⟨x, hx, rfl⟩ := List.mem_map.1 hz
  have := h x (List.mem_filter.1 hx).1
  omega
theorem stones_names {fs : List FunD} {st : List (List ByteArray)} (h : ∀ ss ∈ st, ∀ x ∈ ss, 0 ≤ findI fs x) : ∀ k, k ≤ st.length → ∀ x ∈ stonesTo fs st k, 0 ≤ findI fs x.1
  | 0, _ => fun x hx => by cases hx
  | k + 1, hk => fun x hx => by
    rw [stonesTo] at hx
    rcases List.mem_append.1 hx with hx | hx
    · exact stones_names h k (by omega) x hx
    · unfold rowSt at hx
      obtain ⟨j, hj, rfl⟩ := List.mem_map.1 hx
      rw [stAt_is (by omega)] at hj ⊢
      have hj' := List.mem_range.1 hj
      simp only [List.getD, List.getElem?_eq_getElem hj', Option.getD_some]
      exact h _ (List.getElem_mem _) _ (List.getElem_mem _)
theorem ofNm_none {fs : List FunD} {l : List (ByteArray × Nat)} {s : ByteArray} (h : ∀ x ∈ l, 0 ≤ findI fs x.1) (hs : findI fs s < 0) : ofNm l s = [] := by
  unfold ofNm
  rw [List.map_eq_nil_iff, List.filter_eq_nil_iff]
  intro x hx e
  have e' : x.1.toList = s.toList := by simpa using e
  have := h x hx
  have e2 : findI fs x.1 = findI fs s := by
    unfold findI
    have : isNm x.1 = isNm s := by funext f; simp [isNm, e']
    rw [this]
  omega
/-- Where all stands, readable. -/
def GA (w : World) (na : Option Addr) (nc B1 B2 : Nat) (fs : List FunD) (st : List (List ByteArray)) : Prop :=
  w.ownsMap Tryz.prog 9 (plainElem Tryz.prog 3) B1 fs.length (BD fs st fs.length) ∧ (∃ base n D, n ≤ 100000000 ∧ Grp w base B2 n D ∧ GR D (stonesTo fs st fs.length)) ∧ fs.length ≤ nc ∧ nc ≤ maxLen ∧ NumRow w na (placesTo fs st fs.length)
theorem GA.below {w w' : World} {na : Option Addr} {nc B1 B2 : Nat} {fs : List FunD} {st : List (List ByteArray)} (h : GA w na nc B1 B2 fs st) (hb : Below w.heap.size w w') : GA w' na nc B1 B2 fs st := by
  obtain ⟨h1, ⟨base, n, D, h2, h3, h4⟩, h5, h6, h7⟩ := h
  exact ⟨map_kept h1 (hb.block _ (map_lt h1)), ⟨base, n, D, h2, h3.kept (row := none) (grown_below hb _) (by simp) (fun _ _ _ x _ => by cases x.val.ownBlock <;> simp), h4⟩, h5, h6, h7.below hb⟩
theorem Stable.ga (na : Option Addr) (nc B1 B2 : Nat) (fs : List FunD) (st : List (List ByteArray)) : Stable (fun w => GA w na nc B1 B2 fs st) := ⟨fun w w' hb hs => hs.below hb, fun w hs => by
  have hb : Below w.heap.size w w.drew := (Below.refl _ _).drew
  exact hs.below hb⟩
theorem stones_len {fs : List FunD} {ns : List Int} {st : List (List ByteArray)} (h : Lying fs ns st) : ∀ k, k ≤ fs.length → (stonesTo fs st k).length ≤ k * 1048576
  | 0, _ => by simp [stonesTo]
  | k + 1, hk => by
    have := stones_len h k (by omega)
    have hks : k < st.length := by rw [h.2.2.1]; omega
    have := h.2.2.2.2.2 st[k] (List.getElem_mem _)
    rw [stonesTo, List.length_append, stAt_is hks, Nat.succ_mul]
    simp [rowSt]
    omega
theorem GA.of {W w : World} {G B1 B2 : Nat} {na : Option Addr} {nc sz : Nat} {fs : List FunD} {ns : List Int} {st : List (List ByteArray)} (hL : Lying fs ns st) (h : GS W w G B1 B2 fs.length fs.length (stonesTo fs st fs.length) sz na nc fs st) : GA w na nc B1 B2 fs st := by
  obtain ⟨D, h2, h3⟩ := h.grp
  obtain ⟨k1, k2, k3⟩ := GS.nums h
  have := stones_len hL fs.length (Nat.le_refl _)
  have : fs.length * 1048576 ≤ 40 * 1048576 := Nat.mul_le_mul_right _ hL.1
  exact ⟨h.beg, ⟨G, _, D, by omega, h2, h3⟩, k1, k2, k3⟩
def WB (w : World) (na : Option Addr) (n nc B1 B2 sz : Nat) : World := w.alloc (.cells #[.slice na n nc, .map (some B1), .map (some B2), .int .i64 (sz : Int)] 58)
set_option maxHeartbeats 8000000 in
theorem to_any (na : Option Addr) (nc B1 B2 sz : Nat) (fs : List FunD) (ns : List Int) (st : List (List ByteArray)) (r p : Int) (s : ByteArray) (w : World) (hL : Lying fs ns st) (hst : ∀ ss ∈ st, ∀ x ∈ ss, 0 ≤ findI fs x) (hap : apartF fs = true) (hp0 : 0 ≤ p) (hp1 : p ≤ 100000000) (hsz : s.size ≤ maxLen) (hG : GA w na nc B1 B2 fs st) :
    Calls Tryz.prog 48 #[.agg #[.slice na fs.length nc, .map (some B1), .map (some B2), .int .i64 (sz : Int)], .int .i64 r, .int .i64 p, .string s] w fun e w' => e = .returned (.int .i64 (toI fs st r p s)) ∧ Below w.heap.size w w' := by
  have hB1 : Below w.heap.size w (WB w na fs.length nc B1 B2 sz) := below_alloc1 _ _
  have hX := box4 (new_block w (.cells #[.slice na fs.length nc, .map (some B1), .map (some B2), .int .i64 (sz : Int)] 58))
  obtain ⟨hbeg, ⟨base, gn, D, hgn, hgrp, hgr⟩, _⟩ := hG.below hB1
  have hkey : keyOf Tryz.prog 9 (.string s) = some (keyS s) := keyOf_string_mk Tryz.underlying9 hsz
  have HOB := hide (ofNm_bd (s := s) (stones_bd hL fs.length (Nat.le_refl _)))
  clear hG
  by_cases hf : findI fs s < 0
  · have hno : has (BD fs st fs.length) (keyS s) = false := BD_no fs.length (Nat.le_refl _) (fun t ht => find_no hf t ht)
    have HTO : Hid (toI fs st r p s = nearZ r p (ofNm (stonesTo fs st fs.length) s)) := by
      show _ = _
      rw [ofNm_none (stones_names hst fs.length (by rw [hL.2.2.1]; exact Nat.le_refl _)) hf]
      unfold toI
      rw [if_pos hf]
      rfl
    clear hL hf hst
    go_enter Tryz.func48, Tryz.ntmps48
    generalize hbd : has (BD fs st fs.length) (keyS s) = hv at *
    subst hno
    skip
    · skip
      go_wp2_with (first
        | (at_lookup; refine wpList_lookup_own_ok_int _ rfl _ _ 55 rfl 9 3 .i64 lawS Tryz.underlying55 Tryz.underlying3 (zeroI _) B1 fs.length _ rfl hbeg _ _ rfl hkey ?_; intro c hat hwc; rw [hbd])
        | (at_lookup; refine wpList_lookup_groups _ rfl _ _ 56 rfl 9 23 3 .i64 lawS Tryz.underlying56 (zeroN _) base B2 gn D rfl hgrp (by unfold maxLen; omega) _ _ rfl hkey ?_; intro v zs hat2 hoi hzl hback; have HZS := hide (near_of_ints hat2 hoi hgr); obtain ⟨va, vc, rfl, hv1, hv2⟩ := row_form hoi.1; have HV := hide (nums_of hoi.1); clear hback hoi hat2)
        | fail)
      have HZB : Hid (∀ z ∈ zs, 0 ≤ z ∧ z ≤ 100000000) := by
        intro z hz
        rw [unhide HZS] at hz
        exact unhide HOB z hz
      clear hX
      have hzl0 : (zs.length : Int) ≤ 9223372036854775807 := by omega
      go_loopw [11, 35] (fun best i w' => ∃ (j : Nat) (bb : Int), j ≤ zs.length ∧ i = .int .i64 j ∧ best = .int .i64 bb ∧ -1 ≤ bb ∧ bb ≤ 100000000 ∧ Hid (bb = nearZ r p (zs.take j)) ∧ Below w.heap.size w w' ∧ Below (WB w na fs.length nc B1 B2 sz).heap.size (WB w na fs.length nc B1 B2 sz) w') (fun _ i _ => zs.length - (intOf i).toNat)
      case atStart => exact ⟨0, -1, Nat.zero_le _, rfl, rfl, by omega, by omega, rfl, hB1, Below.refl _ _⟩
      case round =>
        obtain ⟨j, bb, hj, rfl, rfl, hb0, hb1, HBB, hB, hBB⟩ := hrel
        by_cases hjl : j < zs.length
        · have hjl' : (j : Int) < (zs.length : Int) := by omega
          obtain ⟨vb, vo, rfl⟩ := (unhide HV).get (by omega)
          have c0 := ((unhide HV).below hBB).cells hjl
          obtain ⟨hz0, hz1⟩ := unhide HZB zs[j] (List.getElem_mem _)
          have HNX : Hid (nearZ r p (zs.take (j + 1)) = nearZ1 r p bb zs[j]) := by show _ = _; rw [List.take_succ_eq_append_getElem hjl, nearZ_snoc, ← unhide HBB]
          generalize zs[j] = z at *
          have HN0 := hide (fun (h : ¬ farI z p ≤ r) => nearZ_far (b := bb) h)
          have HN1 := hide (fun (h1 : farI z p ≤ r) (h2 : bb < 0) => nearZ_first h1 h2)
          have HN2 := hide (fun (h1 : farI z p ≤ r) (h2 : farI z p < farI bb p) => nearZ_more h1 h2)
          have HN3 := hide (fun (h1 : ¬ bb < 0) (h2 : ¬ farI z p < farI bb p) => nearZ_less (r := r) h1 h2)
          by_cases hq2 : farI z p ≤ r
          · by_cases hq3 : bb < 0
            · have HZ := hide (unhide HN1 hq2 hq3)
              go_wp2_with fail
              refine (apart_any _ _ _ (by omega) (by omega)).mono ?_
              rintro e w4 ⟨rfl, rfl⟩
              go_wp2_with fail
              exact ⟨⟨j + 1, z, by omega, by go_num, rfl, by omega, by omega, by show _ = _; rw [unhide HNX, unhide HZ], hB, hBB⟩, by simp [intOf]; omega⟩
            · by_cases hq4 : farI z p < farI bb p
              · have HZ := hide (unhide HN2 hq2 hq4)
                go_wp2_with fail
                refine (apart_any _ _ _ (by omega) (by omega)).mono ?_
                rintro e w4 ⟨rfl, rfl⟩
                go_wp2_with fail
                refine (apart_any _ _ _ (by omega) (by omega)).mono ?_
                rintro e w5 ⟨rfl, rfl⟩
                go_wp2_with fail
                refine (apart_any _ _ _ (by omega) (by omega)).mono ?_
                rintro e w6 ⟨rfl, rfl⟩
                go_wp2_with fail
                exact ⟨⟨j + 1, z, by omega, by go_num, rfl, by omega, by omega, by show _ = _; rw [unhide HNX, unhide HZ], hB, hBB⟩, by simp [intOf]; omega⟩
              · have HZ := hide (unhide HN3 hq3 hq4)
                go_wp2_with fail
                refine (apart_any _ _ _ (by omega) (by omega)).mono ?_
                rintro e w4 ⟨rfl, rfl⟩
                go_wp2_with fail
                refine (apart_any _ _ _ (by omega) (by omega)).mono ?_
                rintro e w5 ⟨rfl, rfl⟩
                go_wp2_with fail
                refine (apart_any _ _ _ (by omega) (by omega)).mono ?_
                rintro e w6 ⟨rfl, rfl⟩
                go_wp2_with fail
                exact ⟨⟨j + 1, bb, by omega, by go_num, rfl, hb0, hb1, by show _ = _; rw [unhide HNX, unhide HZ], hB, hBB⟩, by simp [intOf]; omega⟩
          · have HZ := hide (unhide HN0 hq2)
            go_wp2_with fail
            refine (apart_any _ _ _ (by omega) (by omega)).mono ?_
            rintro e w4 ⟨rfl, rfl⟩
            go_wp2_with fail
            exact ⟨⟨j + 1, bb, by omega, by go_num, rfl, hb0, hb1, by show _ = _; rw [unhide HNX, unhide HZ], hB, hBB⟩, by simp [intOf]; omega⟩
        · have hjl' : ¬ (j : Int) < (zs.length : Int) := by omega
          have HE : Hid (bb = toI fs st r p s) := by show _ = _; rw [unhide HTO, unhide HBB, List.take_of_length_le (by omega), unhide HZS]
          go_wp2_with fail
          go_ret
          exact ⟨ret_int (unhide HE), hB⟩
  · obtain ⟨t, ht⟩ : ∃ t : Nat, findI fs s = (t : Int) := ⟨(findI fs s).toNat, by omega⟩
    obtain ⟨htl, hte⟩ := find_at ht
    obtain ⟨hbat, hbh⟩ := BD_at (st := st) hap (.lit (.int .i64 0)) fs.length (Nat.le_refl _) htl hte
    have hpb := hL.small t (by omega)
    have HTO : Hid (toI fs st r p s = if farI (place fs st t) p ≤ r then (place fs st t : Int) else nearZ r p (ofNm (stonesTo fs st fs.length) s)) := by
      show _ = _
      unfold toI
      rw [if_neg hf, ht, ← nearI_is]
      rfl
    have HC : Hid (∀ c : Int, (BD fs st fs.length).atKey (keyS s) (.lit (.int .i64 0)) = .lit (.int .i64 c) → c = (place fs st t : Int)) := fun c h => by
      rw [hbat] at h
      simpa using h.symm
    clear hL hf ht hte hbat hst
    generalize place fs st t = pt at *
    generalize hbd : has (BD fs st fs.length) (keyS s) = hv at *
    subst hbh
    by_cases hq : farI (pt : Int) p ≤ r
    · rw [if_pos hq] at HTO
      go_enter Tryz.func48, Tryz.ntmps48
      go_wp2_with (first
        | (at_lookup; refine wpList_lookup_own_ok_int _ rfl _ _ 55 rfl 9 3 .i64 lawS Tryz.underlying55 Tryz.underlying3 (zeroI _) B1 fs.length _ rfl hbeg _ _ rfl hkey ?_; intro c hat hwc; obtain rfl := unhide HC c hat; rw [hbd])
        | fail)
      refine (apart_any _ _ _ (by omega) (by omega)).mono ?_
      rintro e w2 ⟨rfl, rfl⟩
      go_wp2_with fail
      go_ret
      exact ⟨ret_int (unhide HTO).symm, hB1⟩
    · rw [if_neg hq] at HTO
      go_enter Tryz.func48, Tryz.ntmps48
      go_wp2_with (first
        | (at_lookup; refine wpList_lookup_own_ok_int _ rfl _ _ 55 rfl 9 3 .i64 lawS Tryz.underlying55 Tryz.underlying3 (zeroI _) B1 fs.length _ rfl hbeg _ _ rfl hkey ?_; intro c hat hwc; obtain rfl := unhide HC c hat; rw [hbd])
        | fail)
      refine (apart_any _ _ _ (by omega) (by omega)).mono ?_
      rintro e w2 ⟨rfl, rfl⟩
      go_wp2_with (first
        | (at_lookup; refine wpList_lookup_groups _ rfl _ _ 56 rfl 9 23 3 .i64 lawS Tryz.underlying56 (zeroN _) base B2 gn D rfl hgrp (by unfold maxLen; omega) _ _ rfl hkey ?_; intro v zs hat2 hoi hzl hback; have HZS := hide (near_of_ints hat2 hoi hgr); obtain ⟨va, vc, rfl, hv1, hv2⟩ := row_form hoi.1; have HV := hide (nums_of hoi.1); clear hback hoi hat2)
        | fail)
      have HZB : Hid (∀ z ∈ zs, 0 ≤ z ∧ z ≤ 100000000) := by
        intro z hz
        rw [unhide HZS] at hz
        exact unhide HOB z hz
      clear hX
      have hzl0 : (zs.length : Int) ≤ 9223372036854775807 := by omega
      go_loopw [11, 35] (fun best i w' => ∃ (j : Nat) (bb : Int), j ≤ zs.length ∧ i = .int .i64 j ∧ best = .int .i64 bb ∧ -1 ≤ bb ∧ bb ≤ 100000000 ∧ Hid (bb = nearZ r p (zs.take j)) ∧ Below w.heap.size w w' ∧ Below (WB w na fs.length nc B1 B2 sz).heap.size (WB w na fs.length nc B1 B2 sz) w') (fun _ i _ => zs.length - (intOf i).toNat)
      case atStart => exact ⟨0, -1, Nat.zero_le _, rfl, rfl, by omega, by omega, rfl, hB1, Below.refl _ _⟩
      case round =>
        obtain ⟨j, bb, hj, rfl, rfl, hb0, hb1, HBB, hB, hBB⟩ := hrel
        by_cases hjl : j < zs.length
        · have hjl' : (j : Int) < (zs.length : Int) := by omega
          obtain ⟨vb, vo, rfl⟩ := (unhide HV).get (by omega)
          have c0 := ((unhide HV).below hBB).cells hjl
          obtain ⟨hz0, hz1⟩ := unhide HZB zs[j] (List.getElem_mem _)
          have HNX : Hid (nearZ r p (zs.take (j + 1)) = nearZ1 r p bb zs[j]) := by show _ = _; rw [List.take_succ_eq_append_getElem hjl, nearZ_snoc, ← unhide HBB]
          generalize zs[j] = z at *
          have HN0 := hide (fun (h : ¬ farI z p ≤ r) => nearZ_far (b := bb) h)
          have HN1 := hide (fun (h1 : farI z p ≤ r) (h2 : bb < 0) => nearZ_first h1 h2)
          have HN2 := hide (fun (h1 : farI z p ≤ r) (h2 : farI z p < farI bb p) => nearZ_more h1 h2)
          have HN3 := hide (fun (h1 : ¬ bb < 0) (h2 : ¬ farI z p < farI bb p) => nearZ_less (r := r) h1 h2)
          by_cases hq2 : farI z p ≤ r
          · by_cases hq3 : bb < 0
            · have HZ := hide (unhide HN1 hq2 hq3)
              go_wp2_with fail
              refine (apart_any _ _ _ (by omega) (by omega)).mono ?_
              rintro e w4 ⟨rfl, rfl⟩
              go_wp2_with fail
              exact ⟨⟨j + 1, z, by omega, by go_num, rfl, by omega, by omega, by show _ = _; rw [unhide HNX, unhide HZ], hB, hBB⟩, by simp [intOf]; omega⟩
            · by_cases hq4 : farI z p < farI bb p
              · have HZ := hide (unhide HN2 hq2 hq4)
                go_wp2_with fail
                refine (apart_any _ _ _ (by omega) (by omega)).mono ?_
                rintro e w4 ⟨rfl, rfl⟩
                go_wp2_with fail
                refine (apart_any _ _ _ (by omega) (by omega)).mono ?_
                rintro e w5 ⟨rfl, rfl⟩
                go_wp2_with fail
                refine (apart_any _ _ _ (by omega) (by omega)).mono ?_
                rintro e w6 ⟨rfl, rfl⟩
                go_wp2_with fail
                exact ⟨⟨j + 1, z, by omega, by go_num, rfl, by omega, by omega, by show _ = _; rw [unhide HNX, unhide HZ], hB, hBB⟩, by simp [intOf]; omega⟩
              · have HZ := hide (unhide HN3 hq3 hq4)
                go_wp2_with fail
                refine (apart_any _ _ _ (by omega) (by omega)).mono ?_
                rintro e w4 ⟨rfl, rfl⟩
                go_wp2_with fail
                refine (apart_any _ _ _ (by omega) (by omega)).mono ?_
                rintro e w5 ⟨rfl, rfl⟩
                go_wp2_with fail
                refine (apart_any _ _ _ (by omega) (by omega)).mono ?_
                rintro e w6 ⟨rfl, rfl⟩
                go_wp2_with fail
                exact ⟨⟨j + 1, bb, by omega, by go_num, rfl, hb0, hb1, by show _ = _; rw [unhide HNX, unhide HZ], hB, hBB⟩, by simp [intOf]; omega⟩
          · have HZ := hide (unhide HN0 hq2)
            go_wp2_with fail
            refine (apart_any _ _ _ (by omega) (by omega)).mono ?_
            rintro e w4 ⟨rfl, rfl⟩
            go_wp2_with fail
            exact ⟨⟨j + 1, bb, by omega, by go_num, rfl, hb0, hb1, by show _ = _; rw [unhide HNX, unhide HZ], hB, hBB⟩, by simp [intOf]; omega⟩
        · have hjl' : ¬ (j : Int) < (zs.length : Int) := by omega
          have HE : Hid (bb = toI fs st r p s) := by show _ = _; rw [unhide HTO, unhide HBB, List.take_of_length_le (by omega), unhide HZS]
          go_wp2_with fail
          go_ret
          exact ⟨ret_int (unhide HE), hB⟩
end Go.Proofs.YthbbmookhcalkaaGreat.LayP
