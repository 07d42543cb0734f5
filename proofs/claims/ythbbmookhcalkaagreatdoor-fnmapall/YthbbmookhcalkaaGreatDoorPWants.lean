/- The contracts of the specification's l3Wants and PickWants. -/
import Derived.Test.YthbbmookhcalkaaGreatDoorPk280c01b0
import Derived.Test.YthbbmookhcalkaaGreatDoorPkb32a49b0
namespace Go.Proofs.YthbbmookhcalkaaGreatDoor.PWants
open Go.ChangeShapes Go.WideShapes Go.ChangeAt Go.RowKit Go.Joins
open Go.Proofs.YthbbmookhcalkaaGreatDoor.Base Go.Proofs.YthbbmookhcalkaaGreatDoor.InsA Go.Proofs.YthbbmookhcalkaaGreatDoor.InsB Go.Proofs.YthbbmookhcalkaaGreatDoor.Funs Go.Proofs.YthbbmookhcalkaaGreatDoor.Open Go.Proofs.YthbbmookhcalkaaGreatDoor.FunS Go.Proofs.YthbbmookhcalkaaGreatDoor.Keep Go.Proofs.YthbbmookhcalkaaGreatDoor.UnitS Go.Proofs.YthbbmookhcalkaaGreatDoor.Refs Go.Proofs.YthbbmookhcalkaaGreatDoor.Mark Go.Proofs.YthbbmookhcalkaaGreatDoor.WantsS Go.Proofs.YthbbmookhcalkaaGreatDoor.WantsL Go.Proofs.YthbbmookhcalkaaGreatDoor.UU Go.Proofs.YthbbmookhcalkaaGreatDoor.PickD Go.Proofs.YthbbmookhcalkaaGreatDoor.PickS
set_option linter.unusedVariables false
set_option maxRecDepth 100000

/-- What is named at all: the entry, if there is one, and what the first k units name. -/
def entN (s : ByteArray) : List ByteArray := if s.toList.isEmpty then [] else [s]
def unitRefs (us : List (List FunD)) (k : Nat) : List ByteArray := (us.take k).flatMap fun u => bodyRefs u u.length
theorem unitRefs_succ {us : List (List FunD)} {k : Nat} (hk : k < us.length) : unitRefs us (k + 1) = unitRefs us k ++ bodyRefs us[k] us[k].length := by
  unfold unitRefs
  rw [List.take_succ_eq_append_getElem hk, List.flatMap_append]
  simp
/-- In order, each once, of these names those that no unit has. -/
def lackB (us : List (List FunD)) (t : ByteArray) : Bool := !(pickAt us t).2.2
def LWants (us : List (List FunD)) (names : List ByteArray) (out : List ByteArray) : Prop := srt (bl out) ∧ ∀ x, x ∈ bl out ↔ ∃ t ∈ names, t.toList = x ∧ lackB us t = true
theorem lwants_one {us : List (List FunD)} {names out out' : List ByteArray} (h : LWants us names out) (h' : LWants us names out') : out = out' := bl_inj (srt_ext h.1 h'.1 (fun x => (h.2 x).trans (h'.2 x).symm))
theorem find_nil (t : ByteArray) : findI [] t < 0 := by unfold findI; simp
theorem hits_same {us : List (List FunD)} {s t : ByteArray} (h : s.toList = t.toList) : pickAt us s = pickAt us t := by
  have e : ∀ u, findI u s = findI u t := fun u => by
    have : isNm s = isNm t := by funext f; simp [isNm, h]
    unfold findI; rw [this]
  have e2 : ∀ n, hitsTo us s n = hitsTo us t n := fun n => by
    induction n with
    | zero => rfl
    | succ n ih => rw [hitsTo, hitsTo, ih]; unfold hitU; rw [e]
  unfold pickAt hits
  rw [e2]
theorem lwants_filter {us : List (List FunD)} {names out : List ByteArray} (h : Wants [] names out) : LWants us names (out.filter (lackB us)) := by
  refine ⟨?_, fun x => ?_⟩
  · have e : (bl (out.filter (lackB us))).Sublist (bl out) := List.Sublist.map _ (List.filter_sublist)
    exact h.1.sublist e
  · have h2 := h.2 x
    constructor
    · intro hx
      obtain ⟨t, ht, rfl⟩ := List.mem_map.1 hx
      obtain ⟨ht1, ht2⟩ := List.mem_filter.1 ht
      obtain ⟨t', k1, k2, _⟩ := h2.1 (List.mem_map.2 ⟨t, ht1, rfl⟩)
      exact ⟨t', k1, k2, by unfold lackB at ht2 ⊢; rw [hits_same k2]; exact ht2⟩
    · rintro ⟨t, ht, rfl, hl⟩
      obtain ⟨t', k1, k2⟩ := List.mem_map.1 (h2.2 ⟨t, ht, rfl, find_nil _⟩)
      exact List.mem_map.2 ⟨t', List.mem_filter.2 ⟨k1, by unfold lackB at hl ⊢; rw [hits_same k2]; exact hl⟩, k2⟩
theorem put_mem {ss out : List ByteArray} {s : ByteArray} (h : Put ss s out) : ∀ t ∈ out, t ∈ ss ∨ t = s := by
  obtain ⟨k, hk, _, ⟨_, _, rfl⟩ | ⟨_, rfl⟩⟩ := h
  · exact fun t ht => .inl ht
  · intro t ht
    unfold putAt at ht
    simp only [List.mem_append, List.mem_singleton] at ht
    rcases ht with (ht | ht) | ht
    · exact .inl (List.mem_of_mem_take ht)
    · exact .inr ht
    · exact .inl (List.mem_of_mem_drop ht)
def sized (l : List ByteArray) : Prop := ∀ t ∈ l, t.size ≤ maxLen
theorem sized_put {ss out : List ByteArray} {s : ByteArray} (h : sized ss) (hs : s.size ≤ maxLen) (hp : Put ss s out) : sized out := fun t ht => by
  rcases put_mem hp t ht with h1 | rfl
  · exact h t h1
  · exact hs
/-- A list of texts that the call keeps in order in block g. -/
def Kept (w w' : World) (names : List ByteArray) (n g c : Nat) (out : List ByteArray) : Prop :=
  out.length ≤ n ∧ Wants [] names out ∧ sized out ∧ StrOwn w' w.heap.size (.slice (some ⟨g, 0, none⟩) out.length c) out ∧ Below w.heap.size w w'
theorem Kept.below {w w1 w2 : World} {names : List ByteArray} {n g c : Nat} {out : List ByteArray} (h : Kept w w1 names n g c out) (hb : Below w1.heap.size w1 w2) : Kept w w2 names n g c out :=
  ⟨h.1, h.2.1, h.2.2.1, h.2.2.2.1.below hb, bl_trans h.2.2.2.2 hb⟩

theorem Kept.put {w w2 w3 : World} {names : List ByteArray} {n g c g3 c3 : Nat} {out out3 : List ByteArray} {s : ByteArray} (h : Kept w w2 names n g c out) (hs : s.size ≤ maxLen) (hP : Put out s out3) (hO : StrOwn w3 w.heap.size (.slice (some ⟨g3, 0, none⟩) out3.length c3) out3) (hbut : But g w2 w3) : Kept w w3 (names ++ [s]) (n + 1) g3 c3 out3 :=
  ⟨Nat.le_trans (put_len hP) (Nat.add_le_add_right h.1 1), wants_put h.2.1 (find_nil s) hP, sized_put h.2.2.1 hs hP, hO, But.down h.2.2.2.2 hbut (World.ownsRow.lt h.2.2.2.1 g rfl).1⟩
theorem Kept.same {w w1 : World} {names names' : List ByteArray} {n n' g c : Nat} {out : List ByteArray} (h : Kept w w1 names n g c out) (e : names = names') (hn : n ≤ n') : Kept w w1 names' n' g c out := by
  subst e
  exact ⟨Nat.le_trans h.1 hn, h.2⟩
theorem filter_succ {out : List ByteArray} {k : Nat} (p : ByteArray → Bool) (hk : k < out.length) : (out.take (k + 1)).filter p = (out.take k).filter p ++ if p out[k] then [out[k]] else [] := by
  rw [List.take_succ_eq_append_getElem hk, List.filter_append]
  congr 1
  cases h : p out[k] <;> simp [h]

set_option maxHeartbeats 8000000 in
theorem specLWants_any (a : Option Addr) (cap : Nat) (us : List (List FunD)) (entry : ByteArray) (w : World) (hes : entry.size ≤ maxLen) (hcap : us.length ≤ cap) (hcm : cap ≤ maxLen) (h8 : us.length ≤ 16) (hu5 : ∀ u ∈ us, u.length ≤ 5) (hb10 : ∀ u ∈ us, ∀ f ∈ u, f.body.length ≤ 10) (hR : UnitRow w a us) :
    Calls Tryz.prog 118 #[.slice a us.length cap, .string entry] w fun e w' => ∃ v out, e = .returned v ∧ LWants us (entN entry ++ unitRefs us us.length) out ∧ out.length ≤ 801 ∧ sized out ∧ StrOwn w' w.heap.size v out ∧ Below w.heap.size w w' := by
  have HR := hide hR
  have H5 := hide hu5
  have H10 := hide hb10
  clear hR hu5 hb10
  obtain ⟨i0, hi, hz0, hz1, hz2⟩ := info_parts infoStr
  cases he : entry.toList.isEmpty
  · have HE : Hid (entN entry = [entry]) := by show _ = _; simp only [entN, he]; rfl
    go_enter Tryz.func118, Tryz.ntmps118
    go_wp2_with fail
    refine (specPut_any w.heap.size w.heap.size 0 [] entry _ (by simp) (by simp) (str_made w)).mono ?_
    rintro e w1 ⟨g1, c1, out1, hP, hg1, rfl, hO1, hbut⟩
    have HK0 : Hid (Kept w w1 (entN entry ++ unitRefs us 0) 1 g1 c1 out1) := by
      have hk0 : Kept w (w.alloc (.cells #[] 9)) [] 0 w.heap.size 0 [] := ⟨Nat.le_refl _, ⟨List.Pairwise.nil, fun x => by simp [bl]⟩, (fun t ht => by cases ht), str_made w, below_alloc1 _ _⟩
      exact (hk0.put hes hP hO1 hbut).same (by rw [unhide HE]; simp [unitRefs]) (by omega)
    clear hP hg1 hO1 hbut
    go_wp2_with fail
    go_loopw [5, 6] (fun v i w' => ∃ (k g c : Nat) (out : List ByteArray), k ≤ us.length ∧ i = .int .i64 k ∧ v = .slice (some ⟨g, 0, none⟩) out.length c ∧ Kept w w' (entN entry ++ unitRefs us k) (1 + k * 50) g c out) (fun _ i _ => us.length - (intOf i).toNat)
    case atStart => exact ⟨0, g1, c1, out1, Nat.zero_le _, rfl, rfl, unhide HK0⟩
    case round =>
      obtain ⟨k, g, c, out, hk, rfl, rfl, hK⟩ := hrel
      have HK := hide hK
      have hol := hK.1
      have hB := hK.2.2.2.2
      clear hK
      by_cases hkl : k < us.length
      · have hkl' : (k : Int) < (us.length : Int) := by omega
        have hk0 : (0 : Int) ≤ (k : Int) := by omega
        obtain ⟨b, off, rfl⟩ := (unhide HR).get (by omega)
        have HU1 := hide (unitRefs_succ hkl)
        have hl5 := unhide H5 us[k] (List.getElem_mem _)
        have HT := hide (unhide H10 us[k] (List.getElem_mem _))
        go_wp2_with fail
        go_loopw [5, 7] (fun v j w' => ∃ (q g c : Nat) (out : List ByteArray), q ≤ us[k].length ∧ j = .int .i64 q ∧ v = .slice (some ⟨g, 0, none⟩) out.length c ∧ Kept w w' (entN entry ++ unitRefs us k ++ bodyRefs us[k] q) (1 + k * 50 + q * 10) g c out) (fun _ j _ => us[k].length - (intOf j).toNat)
        case atStart => exact ⟨0, g, c, out, Nat.zero_le _, rfl, rfl, (unhide HK).same (by simp [bodyRefs]) (by omega)⟩
        case round =>
          obtain ⟨q, g', c', out', hq, rfl, rfl, hK'⟩ := hrel
          have HK' := hide hK'
          have hol' := hK'.1
          have hB' := hK'.2.2.2.2
          clear hK' HK
          obtain ⟨ai, ci, c0, h4, h5, h6⟩ := ((unhide HR).below hB').at hkl
          have hcc : (us[k].length : Int) ≤ 9223372036854775807 := by omega
          by_cases hql : q < us[k].length
          · obtain ⟨b', off', rfl⟩ := h6.get (by omega)
            obtain ⟨ai', ci', d0, d1, d2, hn, e4, e5, e6⟩ := h6.at hql
            have hql' : (q : Int) < (us[k].length : Int) := by omega
            have hq0 : (0 : Int) ≤ (q : Int) := by omega
            have HE6 := hide e6
            have h10 := unhide HT us[k][q] (List.getElem_mem _)
            have HZ : Hid (sized (refsOf us[k][q].body)) := refsOf_size e6.sizes
            have HS1 := hide (bodyRefs_succ hql)
            have hrl := refs_len us[k][q].body
            clear h6 d0 d1 e6
            generalize us[k][q] = f at *
            go_wp2_with fail
            refine (specRefsOf_any ai' ci' f.body _ (by omega) e4 e5 (unhide HE6)).mono ?_
            rintro e w1 ⟨rv, rfl, hV, hb1⟩
            have HK1 := hide ((unhide HK').below hb1)
            have HV := hide hV
            have hgw := (World.ownsRow.lt (unhide HK').2.2.2.1 g' rfl).2
            obtain ⟨ra, rcap, rfl, hr1, hr2, _⟩ := hV.at
            have hne : (Value.slice ra (refsOf f.body).length rcap).ownBlock ≠ some g' := fun e => by have := (World.ownsRow.lt (unhide HV) g' e).1; omega
            clear hV hb1 c0 d2 HK' HE6 hB'
            generalize hrs : refsOf f.body = rs at *
            clear hrs
            go_wp2_with fail
            go_loopw [5, 9] (fun v j w' => ∃ (p g c : Nat) (out : List ByteArray), p ≤ rs.length ∧ j = .int .i64 p ∧ v = .slice (some ⟨g, 0, none⟩) out.length c ∧ Kept w w' (entN entry ++ unitRefs us k ++ bodyRefs us[k] q ++ rs.take p) (1 + k * 50 + q * 10 + p) g c out ∧ StrOwn w' wr.heap.size (.slice ra rs.length rcap) rs ∧ (Value.slice ra rs.length rcap).ownBlock ≠ some g) (fun _ j _ => rs.length - (intOf j).toNat)
            case atStart => exact ⟨0, g', c', out', Nat.zero_le _, rfl, rfl, (unhide HK1).same (by simp) (by omega), unhide HV, hne⟩
            case round =>
              obtain ⟨p, g2, c2, out2, hp, rfl, rfl, hK2, hV2, hne2⟩ := hrel
              have HK2 := hide hK2
              have HV2 := hide hV2
              have hol2 := hK2.1
              have hB2 := hK2.2.2.2.2
              clear hK2 hV2 HK1 HV
              by_cases hpl : p < rs.length
              · obtain ⟨ra', rcap', e1, _, _, hcc⟩ := (unhide HV2).at
                obtain ⟨rfl, rfl⟩ : ra = ra' ∧ rcap = rcap' := by simpa using e1
                obtain h0 | ⟨gr, orr, rfl, hg1⟩ := hcc
                · rw [h0] at hpl; simp at hpl
                have r0 := hg1 p hpl
                have hpl' : (p : Int) < (rs.length : Int) := by omega
                have hsz := unhide HZ _ (List.getElem_mem hpl)
                have HTK : Hid (entN entry ++ unitRefs us k ++ bodyRefs us[k] q ++ rs.take p ++ [rs[p]] = entN entry ++ unitRefs us k ++ bodyRefs us[k] q ++ rs.take (p + 1)) := by
                  show _ = _
                  rw [List.take_succ_eq_append_getElem hpl, ← List.append_assoc]
                have hs2 := hB2.size
                clear hg1 e1
                generalize rs[p] = s at *
                go_wp2_with fail
                refine (specPut_any w.heap.size g2 c2 out2 s _ (by omega) hs2 (unhide HK2).2.2.2.1).mono ?_
                rintro e w3 ⟨g3, c3, out3, hP, hg3, rfl, hO3, hbut⟩
                have HK3 := hide (((unhide HK2).put hsz hP hO3 hbut).same (unhide HTK) (Nat.le_refl _))
                have HV3 := hide (hbut.strOwn (unhide HV2) hne2)
                have hne3 : (Value.slice (some ⟨gr, orr, none⟩) rs.length rcap).ownBlock ≠ some g3 := fun e => by
                  rcases hg3 with h | h
                  · rw [h] at e; exact hne2 e
                  · have := (World.ownsRow.lt (unhide HV2) g3 e).2; omega
                clear hP hO3 hbut HK2 HV2 r0
                go_wp2_with fail
                exact ⟨⟨p + 1, g3, c3, out3, by omega, by go_num, rfl, unhide HK3, unhide HV3, hne3⟩, by simp [intOf]; omega⟩
              · have hpe : p = rs.length := by omega
                subst hpe
                have HK3 : Hid (Kept w wr (entN entry ++ unitRefs us k ++ bodyRefs us[k] (q + 1)) (1 + k * 50 + (q + 1) * 10) g2 c2 out2) := (unhide HK2).same (by rw [unhide HS1, List.take_length]; simp) (by omega)
                clear HK2
                go_wp2_with fail
                exact ⟨⟨q + 1, g2, c2, out2, by omega, by go_num, rfl, unhide HK3⟩, by simp [intOf]; omega⟩
          · have hqe : q = us[k].length := by omega
            subst hqe
            have HK3 : Hid (Kept w wr (entN entry ++ unitRefs us (k + 1)) (1 + (k + 1) * 50) g' c' out') := (unhide HK').same (by rw [unhide HU1]; simp) (by omega)
            clear HK' h6
            go_wp2_with fail
            exact ⟨⟨k + 1, g', c', out', by omega, by go_num, rfl, unhide HK3⟩, by simp [intOf]; omega⟩
      · have hke : k = us.length := by omega
        subst hke
        have hs4 := hB.size
        have hgw := (World.ownsRow.lt (unhide HK).2.2.2.1 g rfl).2
        have HKA := hide ((unhide HK).below (below_alloc1 _ (.cells #[] 9)))
        obtain ⟨NB, hNB⟩ : ∃ n, n = wr.heap.size := ⟨_, rfl⟩
        have HM0 : Hid (StrOwn (wr.alloc (.cells #[] 9)) NB (.slice (some ⟨wr.heap.size, 0, none⟩) 0 0) []) := by rw [hNB]; exact str_made wr
        have hgn : g < NB := by omega
        have hs5 : w.heap.size ≤ NB := by omega
        have hs6 : NB ≤ wr.heap.size + 1 := by omega
        clear hNB hgw
        go_wp2_with fail
        go_loopw [10, 11] (fun v j w' => ∃ (p : Nat), p ≤ out.length ∧ j = .int .i64 p ∧ StrOwn w' NB v ((out.take p).filter (lackB us)) ∧ Kept w w' (entN entry ++ unitRefs us us.length) (1 + us.length * 50) g c out ∧ NB ≤ w'.heap.size) (fun _ j _ => out.length - (intOf j).toNat)
        case atStart => exact ⟨0, Nat.zero_le _, rfl, unhide HM0, unhide HKA, by simpa using hs6⟩
        case round =>
          obtain ⟨p, hp, rfl, hO, hK, hsz⟩ := hrel
          have HO := hide hO
          have HK1 := hide hK
          have hB1 := hK.2.2.2.2
          clear hO hK HKA HK
          by_cases hpl : p < out.length
          · obtain ⟨ra', rcap', e1, _, _, hcc⟩ := (unhide HK1).2.2.2.1.at
            obtain ⟨rfl, rfl⟩ : some (⟨g, 0, none⟩ : Addr) = ra' ∧ c = rcap' := by simpa using e1
            obtain h0 | ⟨gr, orr, e2, hg1⟩ := hcc
            · rw [h0] at hpl; simp at hpl
            simp only [Option.some.injEq, Addr.mk.injEq, and_true] at e2
            obtain ⟨rfl, rfl⟩ := e2
            have r0 := hg1 p hpl
            simp only [Nat.zero_add] at r0
            have hpl' : (p : Int) < (out.length : Int) := by omega
            have hsp := (unhide HK1).2.2.1 out[p] (List.getElem_mem _)
            have HFS := hide (filter_succ (lackB us) hpl)
            have HLB : Hid (lackB us out[p] = !(pickAt us out[p]).2.2) := rfl
            have hal : ((out.take p).filter (lackB us)).length ≤ p := Nat.le_trans (List.length_filter_le _ _) (by simp; omega)
            clear hg1 e1
            generalize out[p] = s at *
            generalize (out.take p).filter (lackB us) = acc at *
            go_wp2_with fail
            refine (specAt_any a cap us s _ hsp hcap hcm ((unhide HR).below hB1)).mono ?_
            rintro e w2 ⟨rfl, hb2⟩
            have HO2 := hide ((unhide HO).below hb2)
            have HK2 := hide ((unhide HK1).below hb2)
            have hB2 := bl_trans hB1 hb2
            have hsz2 := Nat.le_trans hsz hb2.size
            replace r0 := (Stable.cell ⟨g, p, none⟩ (.string s)).1 _ _ hb2 r0
            clear HO HK1 hb2 hB1
            generalize pickAt us s = tt at *
            obtain ⟨t0, t1, t2⟩ := tt
            unfold tup3
            cases t2
            · go_wp2_with (first
                | (at_builtin; refine wpList_append_own _ rfl _ _ 60 rfl NB 9 i0 (.string ⟨#[]⟩) 1 16 Tryz.underlying60 hi hz0 hz1 hz2 rfl (by decide) _ acc.length (acc.map Value.string) rfl ((unhide HO2).alloc _) ⟨w2.heap.size, 0, none⟩ 1 1 [.string s] rfl rfl (cell_one_new _ _ _) (by simp [Value.oneCell']) (by unfold maxLen; omega) (by omega) (by simp; omega) ?_; intro v' w3 hown3 hgrow3 _)
                | go_in)
              have hB3 : Below w.heap.size w w3 := (bl_alloc hB2 _).grown hgrow3 (bl_alloc hB2 _).size (fun j hj => Nat.le_trans hs5 (World.ownsRow.lt (unhide HO2) j hj).1)
              have HK3 : Hid (Kept w w3 (entN entry ++ unitRefs us us.length) (1 + us.length * 50) g c out) := ⟨(unhide HK2).1, (unhide HK2).2.1, (unhide HK2).2.2.1, World.ownsRow.kept (World.ownsRow.alloc (unhide HK2).2.2.2.1 _) hgrow3 (.inr (fun e => by have := (World.ownsRow.lt (unhide HO2) g e.symm).1; omega)), hB3⟩
              exact ⟨⟨p + 1, by omega, by go_num, by rw [unhide HFS, unhide HLB]; exact str_snoc hown3, unhide HK3, Nat.le_trans (Nat.le_trans hsz2 (by simp)) hgrow3.size⟩, by simp [intOf]; omega⟩
            · go_wp2_with fail
              exact ⟨⟨p + 1, by omega, by go_num, by rw [unhide HFS, unhide HLB]; simpa using unhide HO2, unhide HK2, hsz2⟩, by simp [intOf]; omega⟩
          · have hpe : p = out.length := by omega
            subst hpe
            rw [List.take_length] at HO
            go_wp2_with fail
            go_ret
            exact ⟨_, _, rfl, lwants_filter (unhide HK1).2.1, Nat.le_trans (List.length_filter_le _ _) (by have := (unhide HK1).1; omega), (fun t ht => (unhide HK1).2.2.1 t (List.mem_filter.1 ht).1), (unhide HO).base hs5, hB1⟩
  · have HE : Hid (entN entry = []) := by show _ = _; simp only [entN, he]; rfl
    go_enter Tryz.func118, Tryz.ntmps118
    go_wp2_with fail
    go_loopw [5, 6] (fun v i w' => ∃ (k g c : Nat) (out : List ByteArray), k ≤ us.length ∧ i = .int .i64 k ∧ v = .slice (some ⟨g, 0, none⟩) out.length c ∧ Kept w w' (entN entry ++ unitRefs us k) (1 + k * 50) g c out) (fun _ i _ => us.length - (intOf i).toNat)
    case atStart => exact ⟨0, w.heap.size, 0, [], Nat.zero_le _, rfl, rfl, Nat.zero_le _, ⟨List.Pairwise.nil, fun x => by rw [unhide HE]; simp [bl, unitRefs]⟩, (fun t ht => by cases ht), str_made w, below_alloc1 _ _⟩
    case round =>
      obtain ⟨k, g, c, out, hk, rfl, rfl, hK⟩ := hrel
      have HK := hide hK
      have hol := hK.1
      have hB := hK.2.2.2.2
      clear hK
      by_cases hkl : k < us.length
      · have hkl' : (k : Int) < (us.length : Int) := by omega
        have hk0 : (0 : Int) ≤ (k : Int) := by omega
        obtain ⟨b, off, rfl⟩ := (unhide HR).get (by omega)
        have HU1 := hide (unitRefs_succ hkl)
        have hl5 := unhide H5 us[k] (List.getElem_mem _)
        have HT := hide (unhide H10 us[k] (List.getElem_mem _))
        go_wp2_with fail
        go_loopw [5, 7] (fun v j w' => ∃ (q g c : Nat) (out : List ByteArray), q ≤ us[k].length ∧ j = .int .i64 q ∧ v = .slice (some ⟨g, 0, none⟩) out.length c ∧ Kept w w' (entN entry ++ unitRefs us k ++ bodyRefs us[k] q) (1 + k * 50 + q * 10) g c out) (fun _ j _ => us[k].length - (intOf j).toNat)
        case atStart => exact ⟨0, g, c, out, Nat.zero_le _, rfl, rfl, (unhide HK).same (by simp [bodyRefs]) (by omega)⟩
        case round =>
          obtain ⟨q, g', c', out', hq, rfl, rfl, hK'⟩ := hrel
          have HK' := hide hK'
          have hol' := hK'.1
          have hB' := hK'.2.2.2.2
          clear hK' HK
          obtain ⟨ai, ci, c0, h4, h5, h6⟩ := ((unhide HR).below hB').at hkl
          have hcc : (us[k].length : Int) ≤ 9223372036854775807 := by omega
          by_cases hql : q < us[k].length
          · obtain ⟨b', off', rfl⟩ := h6.get (by omega)
            obtain ⟨ai', ci', d0, d1, d2, hn, e4, e5, e6⟩ := h6.at hql
            have hql' : (q : Int) < (us[k].length : Int) := by omega
            have hq0 : (0 : Int) ≤ (q : Int) := by omega
            have HE6 := hide e6
            have h10 := unhide HT us[k][q] (List.getElem_mem _)
            have HZ : Hid (sized (refsOf us[k][q].body)) := refsOf_size e6.sizes
            have HS1 := hide (bodyRefs_succ hql)
            have hrl := refs_len us[k][q].body
            clear h6 d0 d1 e6
            generalize us[k][q] = f at *
            go_wp2_with fail
            refine (specRefsOf_any ai' ci' f.body _ (by omega) e4 e5 (unhide HE6)).mono ?_
            rintro e w1 ⟨rv, rfl, hV, hb1⟩
            have HK1 := hide ((unhide HK').below hb1)
            have HV := hide hV
            have hgw := (World.ownsRow.lt (unhide HK').2.2.2.1 g' rfl).2
            obtain ⟨ra, rcap, rfl, hr1, hr2, _⟩ := hV.at
            have hne : (Value.slice ra (refsOf f.body).length rcap).ownBlock ≠ some g' := fun e => by have := (World.ownsRow.lt (unhide HV) g' e).1; omega
            clear hV hb1 c0 d2 HK' HE6 hB'
            generalize hrs : refsOf f.body = rs at *
            clear hrs
            go_wp2_with fail
            go_loopw [5, 9] (fun v j w' => ∃ (p g c : Nat) (out : List ByteArray), p ≤ rs.length ∧ j = .int .i64 p ∧ v = .slice (some ⟨g, 0, none⟩) out.length c ∧ Kept w w' (entN entry ++ unitRefs us k ++ bodyRefs us[k] q ++ rs.take p) (1 + k * 50 + q * 10 + p) g c out ∧ StrOwn w' wr.heap.size (.slice ra rs.length rcap) rs ∧ (Value.slice ra rs.length rcap).ownBlock ≠ some g) (fun _ j _ => rs.length - (intOf j).toNat)
            case atStart => exact ⟨0, g', c', out', Nat.zero_le _, rfl, rfl, (unhide HK1).same (by simp) (by omega), unhide HV, hne⟩
            case round =>
              obtain ⟨p, g2, c2, out2, hp, rfl, rfl, hK2, hV2, hne2⟩ := hrel
              have HK2 := hide hK2
              have HV2 := hide hV2
              have hol2 := hK2.1
              have hB2 := hK2.2.2.2.2
              clear hK2 hV2 HK1 HV
              by_cases hpl : p < rs.length
              · obtain ⟨ra', rcap', e1, _, _, hcc⟩ := (unhide HV2).at
                obtain ⟨rfl, rfl⟩ : ra = ra' ∧ rcap = rcap' := by simpa using e1
                obtain h0 | ⟨gr, orr, rfl, hg1⟩ := hcc
                · rw [h0] at hpl; simp at hpl
                have r0 := hg1 p hpl
                have hpl' : (p : Int) < (rs.length : Int) := by omega
                have hsz := unhide HZ _ (List.getElem_mem hpl)
                have HTK : Hid (entN entry ++ unitRefs us k ++ bodyRefs us[k] q ++ rs.take p ++ [rs[p]] = entN entry ++ unitRefs us k ++ bodyRefs us[k] q ++ rs.take (p + 1)) := by
                  show _ = _
                  rw [List.take_succ_eq_append_getElem hpl, ← List.append_assoc]
                have hs2 := hB2.size
                clear hg1 e1
                generalize rs[p] = s at *
                go_wp2_with fail
                refine (specPut_any w.heap.size g2 c2 out2 s _ (by omega) hs2 (unhide HK2).2.2.2.1).mono ?_
                rintro e w3 ⟨g3, c3, out3, hP, hg3, rfl, hO3, hbut⟩
                have HK3 := hide (((unhide HK2).put hsz hP hO3 hbut).same (unhide HTK) (Nat.le_refl _))
                have HV3 := hide (hbut.strOwn (unhide HV2) hne2)
                have hne3 : (Value.slice (some ⟨gr, orr, none⟩) rs.length rcap).ownBlock ≠ some g3 := fun e => by
                  rcases hg3 with h | h
                  · rw [h] at e; exact hne2 e
                  · have := (World.ownsRow.lt (unhide HV2) g3 e).2; omega
                clear hP hO3 hbut HK2 HV2 r0
                go_wp2_with fail
                exact ⟨⟨p + 1, g3, c3, out3, by omega, by go_num, rfl, unhide HK3, unhide HV3, hne3⟩, by simp [intOf]; omega⟩
              · have hpe : p = rs.length := by omega
                subst hpe
                have HK3 : Hid (Kept w wr (entN entry ++ unitRefs us k ++ bodyRefs us[k] (q + 1)) (1 + k * 50 + (q + 1) * 10) g2 c2 out2) := (unhide HK2).same (by rw [unhide HS1, List.take_length]; simp) (by omega)
                clear HK2
                go_wp2_with fail
                exact ⟨⟨q + 1, g2, c2, out2, by omega, by go_num, rfl, unhide HK3⟩, by simp [intOf]; omega⟩
          · have hqe : q = us[k].length := by omega
            subst hqe
            have HK3 : Hid (Kept w wr (entN entry ++ unitRefs us (k + 1)) (1 + (k + 1) * 50) g' c' out') := (unhide HK').same (by rw [unhide HU1]; simp) (by omega)
            clear HK' h6
            go_wp2_with fail
            exact ⟨⟨k + 1, g', c', out', by omega, by go_num, rfl, unhide HK3⟩, by simp [intOf]; omega⟩
      · have hke : k = us.length := by omega
        subst hke
        have hs4 := hB.size
        have hgw := (World.ownsRow.lt (unhide HK).2.2.2.1 g rfl).2
        have HKA := hide ((unhide HK).below (below_alloc1 _ (.cells #[] 9)))
        obtain ⟨NB, hNB⟩ : ∃ n, n = wr.heap.size := ⟨_, rfl⟩
        have HM0 : Hid (StrOwn (wr.alloc (.cells #[] 9)) NB (.slice (some ⟨wr.heap.size, 0, none⟩) 0 0) []) := by rw [hNB]; exact str_made wr
        have hgn : g < NB := by omega
        have hs5 : w.heap.size ≤ NB := by omega
        have hs6 : NB ≤ wr.heap.size + 1 := by omega
        clear hNB hgw
        go_wp2_with fail
        go_loopw [10, 11] (fun v j w' => ∃ (p : Nat), p ≤ out.length ∧ j = .int .i64 p ∧ StrOwn w' NB v ((out.take p).filter (lackB us)) ∧ Kept w w' (entN entry ++ unitRefs us us.length) (1 + us.length * 50) g c out ∧ NB ≤ w'.heap.size) (fun _ j _ => out.length - (intOf j).toNat)
        case atStart => exact ⟨0, Nat.zero_le _, rfl, unhide HM0, unhide HKA, by simpa using hs6⟩
        case round =>
          obtain ⟨p, hp, rfl, hO, hK, hsz⟩ := hrel
          have HO := hide hO
          have HK1 := hide hK
          have hB1 := hK.2.2.2.2
          clear hO hK HKA HK
          by_cases hpl : p < out.length
          · obtain ⟨ra', rcap', e1, _, _, hcc⟩ := (unhide HK1).2.2.2.1.at
            obtain ⟨rfl, rfl⟩ : some (⟨g, 0, none⟩ : Addr) = ra' ∧ c = rcap' := by simpa using e1
            obtain h0 | ⟨gr, orr, e2, hg1⟩ := hcc
            · rw [h0] at hpl; simp at hpl
            simp only [Option.some.injEq, Addr.mk.injEq, and_true] at e2
            obtain ⟨rfl, rfl⟩ := e2
            have r0 := hg1 p hpl
            simp only [Nat.zero_add] at r0
            have hpl' : (p : Int) < (out.length : Int) := by omega
            have hsp := (unhide HK1).2.2.1 out[p] (List.getElem_mem _)
            have HFS := hide (filter_succ (lackB us) hpl)
            have HLB : Hid (lackB us out[p] = !(pickAt us out[p]).2.2) := rfl
            have hal : ((out.take p).filter (lackB us)).length ≤ p := Nat.le_trans (List.length_filter_le _ _) (by simp; omega)
            clear hg1 e1
            generalize out[p] = s at *
            generalize (out.take p).filter (lackB us) = acc at *
            go_wp2_with fail
            refine (specAt_any a cap us s _ hsp hcap hcm ((unhide HR).below hB1)).mono ?_
            rintro e w2 ⟨rfl, hb2⟩
            have HO2 := hide ((unhide HO).below hb2)
            have HK2 := hide ((unhide HK1).below hb2)
            have hB2 := bl_trans hB1 hb2
            have hsz2 := Nat.le_trans hsz hb2.size
            replace r0 := (Stable.cell ⟨g, p, none⟩ (.string s)).1 _ _ hb2 r0
            clear HO HK1 hb2 hB1
            generalize pickAt us s = tt at *
            obtain ⟨t0, t1, t2⟩ := tt
            unfold tup3
            cases t2
            · go_wp2_with (first
                | (at_builtin; refine wpList_append_own _ rfl _ _ 60 rfl NB 9 i0 (.string ⟨#[]⟩) 1 16 Tryz.underlying60 hi hz0 hz1 hz2 rfl (by decide) _ acc.length (acc.map Value.string) rfl ((unhide HO2).alloc _) ⟨w2.heap.size, 0, none⟩ 1 1 [.string s] rfl rfl (cell_one_new _ _ _) (by simp [Value.oneCell']) (by unfold maxLen; omega) (by omega) (by simp; omega) ?_; intro v' w3 hown3 hgrow3 _)
                | go_in)
              have hB3 : Below w.heap.size w w3 := (bl_alloc hB2 _).grown hgrow3 (bl_alloc hB2 _).size (fun j hj => Nat.le_trans hs5 (World.ownsRow.lt (unhide HO2) j hj).1)
              have HK3 : Hid (Kept w w3 (entN entry ++ unitRefs us us.length) (1 + us.length * 50) g c out) := ⟨(unhide HK2).1, (unhide HK2).2.1, (unhide HK2).2.2.1, World.ownsRow.kept (World.ownsRow.alloc (unhide HK2).2.2.2.1 _) hgrow3 (.inr (fun e => by have := (World.ownsRow.lt (unhide HO2) g e.symm).1; omega)), hB3⟩
              exact ⟨⟨p + 1, by omega, by go_num, by rw [unhide HFS, unhide HLB]; exact str_snoc hown3, unhide HK3, Nat.le_trans (Nat.le_trans hsz2 (by simp)) hgrow3.size⟩, by simp [intOf]; omega⟩
            · go_wp2_with fail
              exact ⟨⟨p + 1, by omega, by go_num, by rw [unhide HFS, unhide HLB]; simpa using unhide HO2, unhide HK2, hsz2⟩, by simp [intOf]; omega⟩
          · have hpe : p = out.length := by omega
            subst hpe
            rw [List.take_length] at HO
            go_wp2_with fail
            go_ret
            exact ⟨_, _, rfl, lwants_filter (unhide HK1).2.1, Nat.le_trans (List.length_filter_le _ _) (by have := (unhide HK1).1; omega), (fun t ht => (unhide HK1).2.2.1 t (List.mem_filter.1 ht).1), (unhide HO).base hs5, hB1⟩
end Go.Proofs.YthbbmookhcalkaaGreatDoor.PWants
