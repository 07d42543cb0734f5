/- The contract of the program's UnitWants: the set of names told in order by slices.Sorted and maps.Keys. -/
import Derived.Test.YtjbhbkkkjdpamaaPk280c01b0
import Derived.Test.YtjbhbkkkjdpamaaIter
import Derived.Test.YtjbhbkkkjdpamaaPkfad6cd44
namespace Go.Proofs.Ytjbhbkkkjdpamaa.WantsK
open Go.ChangeShapes Go.WideShapes Go.ChangeAt Go.RowKit Go.Joins Go.Maps Go.Sort Go.Shelf
open Go.Proofs.Ytjbhbkkkjdpamaa.Base Go.Proofs.Ytjbhbkkkjdpamaa.InsA Go.Proofs.Ytjbhbkkkjdpamaa.InsB Go.Proofs.Ytjbhbkkkjdpamaa.Funs Go.Proofs.Ytjbhbkkkjdpamaa.Open Go.Proofs.Ytjbhbkkkjdpamaa.FunS Go.Proofs.Ytjbhbkkkjdpamaa.Keep Go.Proofs.Ytjbhbkkkjdpamaa.UnitS Go.Proofs.Ytjbhbkkkjdpamaa.UnitM Go.Proofs.Ytjbhbkkkjdpamaa.Refs Go.Proofs.Ytjbhbkkkjdpamaa.Mark Go.Proofs.Ytjbhbkkkjdpamaa.WantsS Go.Proofs.Ytjbhbkkkjdpamaa.WantsI Go.Proofs.Ytjbhbkkkjdpamaa.WantsL
set_option linter.unusedVariables false
set_option maxRecDepth 100000

set_option maxHeartbeats 2000000 in
theorem inOrder_any (b nn : Nat) (D0 : DataW Unit) (w : World) (hown : w.ownsMap Try.prog 9 (unitElem (H := Unit)) b nn D0) (hmax : Maps.size D0 ≤ 1000000) :
    Calls Try.prog 158 #[.map (some b)] w fun e w' => ∃ (v : Value) (ss : List (List UInt8)), e = .returned v ∧ ss.Perm (strKeys D0) ∧
      w'.ownsRow w.heap.size 9 1 v ss.length ((ss.mergeSort (fun x y => decide (x ≤ y))).map encStr) ∧ Below w.heap.size w w' := by
  refine (callsIn_wide (n := 6)).1 ?_
  have hfK : Fence.wide.fn 168 := trivial
  have hfS : Fence.wide.fn 167 := trivial
  have hm1 : Maps.size D0 ≤ maxLen := by unfold maxLen; omega
  have hm2 : Maps.size D0 * 16 ≤ 140737488355328 := by omega
  refine callsIn_of_wp Try.func158 rfl trivial ?_ rfl
  simp only [Try.ntmps158, List.size_toArray, List.length_cons, List.length_nil, Nat.reduceAdd, Nat.reduceSub, Array.replicate_succ, Array.replicate_zero, List.push_toArray, List.append_toArray, List.nil_append, List.cons_append]
  gi_wp2_with (first
    | (gi_at_call 168; refine (Try.maps_Keys_168 _ _).mono ?_; rintro e w' ⟨rfl, rfl⟩)
    | (gi_at_call 167; refine (Try.slices_Sorted_keys_167_168 b nn D0 _ w hown hm1 hm2).mono ?_; rintro e w' ⟨v, ss, rfl, hS, hrow, hnil, hb⟩))
  go_ret
  exact ⟨v, ss, rfl, hS, ownsRow_base_a hrow (by simp), ((Below.refl _ w).alloc (Nat.le_refl _) _).trans (hb.mono (by simp))⟩
end Go.Proofs.Ytjbhbkkkjdpamaa.WantsK
/- The contract of the program's UnitWants: its keys in order are what the unit wants. -/
namespace Go.Proofs.Ytjbhbkkkjdpamaa.WantsM
open Go.ChangeShapes Go.WideShapes Go.ChangeAt Go.RowKit Go.Joins Go.WideMaps Go.Maps Go.Sort Go.Shelf
open Go.Proofs.Ytjbhbkkkjdpamaa.Base Go.Proofs.Ytjbhbkkkjdpamaa.InsA Go.Proofs.Ytjbhbkkkjdpamaa.InsB Go.Proofs.Ytjbhbkkkjdpamaa.Funs Go.Proofs.Ytjbhbkkkjdpamaa.Open Go.Proofs.Ytjbhbkkkjdpamaa.FunS Go.Proofs.Ytjbhbkkkjdpamaa.Keep Go.Proofs.Ytjbhbkkkjdpamaa.UnitS Go.Proofs.Ytjbhbkkkjdpamaa.UnitM Go.Proofs.Ytjbhbkkkjdpamaa.Refs Go.Proofs.Ytjbhbkkkjdpamaa.Mark Go.Proofs.Ytjbhbkkkjdpamaa.WantsS Go.Proofs.Ytjbhbkkkjdpamaa.WantsI Go.Proofs.Ytjbhbkkkjdpamaa.WantsL Go.Proofs.Ytjbhbkkkjdpamaa.WantsK
set_option linter.unusedVariables false
set_option maxRecDepth 100000

theorem find_neg {fs : List FunD} {s : ByteArray} : findI fs s < 0 ↔ ∀ f ∈ fs, f.nm.toList ≠ s.toList := by
  unfold findI
  constructor
  · intro h f hf e
    have hlt : fs.findIdx (isNm s) < fs.length := List.findIdx_lt_length_of_exists ⟨f, hf, isNm_iff.2 e⟩
    rw [if_pos hlt] at h
    omega
  · intro h
    have hlt : ¬ fs.findIdx (isNm s) < fs.length := fun hlt => h _ (List.getElem_mem hlt) (isNm_iff.1 (List.findIdx_getElem (w := hlt)))
    rw [if_neg hlt]
    decide
theorem has_delTo (D : DataW Unit) (fs : List FunD) (x : Lit) : ∀ k, k ≤ fs.length → (has (delTo D fs k) x = true ↔ has D x = true ∧ ∀ f ∈ fs.take k, keyS f.nm ≠ x)
  | 0, _ => by simp [delTo]
  | k + 1, hk => by
    have ih := has_delTo D fs x k (by omega)
    have e : fs.getD k default = fs[k] := by simp [List.getD, List.getElem?_eq_getElem (show k < fs.length by omega)]
    rw [delTo, e, List.take_succ_eq_append_getElem (by omega)]
    by_cases hx : x = keyS fs[k].nm
    · subst hx
      rw [has_del_same]
      refine ⟨fun h => (by cases h), fun h => absurd rfl (h.2 fs[k] (List.mem_append_right _ (List.mem_singleton.2 rfl)))⟩
    · rw [has_del_other hx, ih]
      simp only [List.mem_append, List.mem_singleton]
      constructor
      · rintro ⟨h1, h2⟩
        refine ⟨h1, fun f hf => ?_⟩
        rcases hf with hf | rfl
        · exact h2 f hf
        · exact fun e => hx e.symm
      · rintro ⟨h1, h2⟩
        exact ⟨h1, fun f hf => h2 f (.inl hf)⟩
theorem keys_mem {w : World} {R : Value → Option (DataW Unit × List MemPlace)} {b n : Nat} {D : DataW Unit} (hown : w.ownsMap Try.prog 9 R b n D) : (strKeys D).Nodup ∧ ∀ x, x ∈ strKeys D ↔ has D (.string x) = true := by
  obtain ⟨es, hD, hpw, _⟩ := hown.entries lawS
  obtain ⟨es', hD', hko⟩ := hown.keysOf
  obtain rfl : es = es' := by rw [hD] at hD'; simpa using hD'
  subst hD
  have hk : ∀ p ∈ es, ∃ x, p.1 = .string x := fun p hp => by
    obtain ⟨v, hv⟩ := hko p hp
    obtain ⟨x, _, hx, _⟩ := Maps.keyOf_str Try.underlying9 hv
    exact ⟨x, hx⟩
  refine ⟨?_, fun x => ?_⟩
  · show (es.map fun p => strOf p.1).Nodup
    refine List.pairwise_map.2 (hpw.imp_of_mem fun {p q} hp hq hne e => hne ?_)
    obtain ⟨a, ha⟩ := hk p hp
    obtain ⟨b, hb⟩ := hk q hq
    rw [ha, hb] at e ⊢
    exact congrArg _ e
  · rw [has_eq, List.any_eq_true]
    show x ∈ es.map (fun p => strOf p.1) ↔ _
    rw [List.mem_map]
    constructor
    · rintro ⟨p, hp, rfl⟩
      obtain ⟨a, ha⟩ := hk p hp
      exact ⟨p, hp, by rw [ha]; simp [Lit.sameKey, strOf]⟩
    · rintro ⟨p, hp, hs⟩
      obtain ⟨a, ha⟩ := hk p hp
      rw [ha] at hs
      exact ⟨p, hp, by rw [ha]; simpa [Lit.sameKey, strOf] using hs⟩
theorem key_same {a : ByteArray} {x : List UInt8} : (keyS a).sameKey (.string x) = true ↔ a.toList = x := by
  rw [ByteArray.toList_eq]
  simp [keyS, Lit.sameKey]
theorem key_eq {a : ByteArray} {x : List UInt8} : keyS a = .string x ↔ a.toList = x := by
  rw [ByteArray.toList_eq]
  simp [keyS]
def mkB (x : List UInt8) : ByteArray := ⟨x.toArray⟩
theorem mkB_list (x : List UInt8) : (mkB x).toList = x := by rw [ByteArray.toList_eq]; rfl
theorem bl_mk (l : List (List UInt8)) : bl (l.map mkB) = l := by
  unfold bl
  rw [List.map_map]
  exact (List.map_congr_left (fun x _ => mkB_list x)).trans (List.map_id l)
theorem enc_mk (l : List (List UInt8)) : l.map encStr = (l.map mkB).map Value.string := by
  rw [List.map_map]
  rfl
theorem refs_all {fs : List FunD} (hok : ∀ f ∈ fs, funOkB f.nm f.body = true) : refsTo fs fs.length = bodyRefs fs fs.length := by
  unfold refsTo bodyRefs
  rw [List.take_length]
  have : ∀ l : List FunD, (∀ f ∈ l, funOkB f.nm f.body = true) → (l.flatMap fun f => funRefs f.nm f.body) = l.flatMap fun f => refsOf f.body := by
    intro l
    induction l with
    | nil => intro _; rfl
    | cons f r ih =>
      intro hl
      rw [List.flatMap_cons, List.flatMap_cons, ih (fun g hg => hl g (List.mem_cons_of_mem _ hg))]
      have := hl f (List.mem_cons_self ..)
      simp [funRefs, this]
  exact this fs hok
/-- The keys that are left, in order, are what the unit wants. -/
theorem keys_wants {w : World} {R : Value → Option (DataW Unit × List MemPlace)} {b n : Nat} {fs : List FunD} {ss : List (List UInt8)} (hok : ∀ f ∈ fs, funOkB f.nm f.body = true) (hown : w.ownsMap Try.prog 9 R b n (delTo (setOf (.agg []) ((refsTo fs fs.length).map keyS)) fs fs.length)) (hs : ss.Perm (strKeys (delTo (setOf (.agg []) ((refsTo fs fs.length).map keyS)) fs fs.length))) :
    Wants fs (bodyRefs fs fs.length) ((ss.mergeSort leB).map mkB) := by
  obtain ⟨hnd, hmem⟩ := keys_mem hown
  have hp : (ss.mergeSort leB).Perm (strKeys (delTo (setOf (.agg []) ((refsTo fs fs.length).map keyS)) fs fs.length)) := (List.mergeSort_perm ss leB).trans hs
  have tr : ∀ a b c : List UInt8, leB a b = true → leB b c = true → leB a c = true := fun a b c h1 h2 => by simp only [leB, decide_eq_true_eq] at *; exact List.le_trans h1 h2
  have to : ∀ a b : List UInt8, (leB a b || leB b a) = true := fun a b => by simp only [leB, Bool.or_eq_true, decide_eq_true_eq]; exact List.le_total a b
  have hpw := List.pairwise_mergeSort tr to ss
  have hnd' : (ss.mergeSort leB).Nodup := hp.nodup_iff.2 hnd
  refine ⟨?_, fun x => ?_⟩
  · rw [bl_mk]
    unfold srt
    refine (List.pairwise_and_iff.2 ⟨hpw, hnd'⟩).imp fun {a b} h => ?_
    obtain ⟨h1, h2⟩ := h
    have h1' : a ≤ b := by simpa [leB] using h1
    exact lt_of (fun hc => absurd hc (List.not_lt.2 h1')) (fun e => h2 e.symm)
  · rw [bl_mk, hp.mem_iff, hmem, has_delTo _ _ _ _ (Nat.le_refl _), List.take_length, has_setOf _ _ _ (fun y hy => by obtain ⟨s, _, rfl⟩ := List.mem_map.1 hy; exact keyS_is s), refs_all hok, List.any_eq_true]
    constructor
    · rintro ⟨⟨y, hy, hsame⟩, hall⟩
      obtain ⟨t, ht, rfl⟩ := List.mem_map.1 hy
      have ht' := key_same.1 hsame
      exact ⟨t, ht, ht', find_neg.2 fun f hf e => hall f hf (key_eq.2 (e.trans ht'))⟩
    · rintro ⟨t, ht, rfl, hf⟩
      exact ⟨⟨keyS t, List.mem_map.2 ⟨t, ht, rfl⟩, key_same.2 rfl⟩, fun f hf' e => find_neg.1 hf f hf' (key_eq.1 e)⟩
theorem map_size {w : World} {R : Value → Option (DataW Unit × List MemPlace)} {b n : Nat} {D : DataW Unit} (hown : w.ownsMap Try.prog 9 R b n D) : Maps.size D ≤ n := hown.size_le

end Go.Proofs.Ytjbhbkkkjdpamaa.WantsM
/- The contracts of KeepOk of both sides: whether functions are a program. -/
namespace Go.Proofs.Ytjbhbkkkjdpamaa.KeepA
open Go.ChangeShapes Go.WideShapes Go.ChangeAt Go.RowKit Go.Joins Go.WideMaps Go.Maps Go.Sort Go.Shelf
open Go.Proofs.Ytjbhbkkkjdpamaa.Base Go.Proofs.Ytjbhbkkkjdpamaa.InsA Go.Proofs.Ytjbhbkkkjdpamaa.InsB Go.Proofs.Ytjbhbkkkjdpamaa.Funs Go.Proofs.Ytjbhbkkkjdpamaa.Open Go.Proofs.Ytjbhbkkkjdpamaa.FunS Go.Proofs.Ytjbhbkkkjdpamaa.Keep Go.Proofs.Ytjbhbkkkjdpamaa.UnitS Go.Proofs.Ytjbhbkkkjdpamaa.UnitM Go.Proofs.Ytjbhbkkkjdpamaa.Refs Go.Proofs.Ytjbhbkkkjdpamaa.Mark Go.Proofs.Ytjbhbkkkjdpamaa.WantsS Go.Proofs.Ytjbhbkkkjdpamaa.WantsI Go.Proofs.Ytjbhbkkkjdpamaa.WantsL Go.Proofs.Ytjbhbkkkjdpamaa.WantsK Go.Proofs.Ytjbhbkkkjdpamaa.WantsM Go.Proofs.Ytjbhbkkkjdpamaa.KeepD
set_option linter.unusedVariables false
set_option maxRecDepth 100000

def refsIn (fs : List FunD) (f : FunD) : Bool := (refsOf f.body).all fun r => decide (0 ≤ findI fs r)
theorem keep_is (fs : List FunD) : keepOkB fs = ((decide (1 ≤ fs.length) && decide (fs.length ≤ 40)) && fs.all okD && apartF fs && fs.all (refsIn fs)) := rfl
theorem keep_len {fs : List FunD} (h : ¬ (1 ≤ fs.length ∧ fs.length ≤ 40)) : false = keepOkB fs := by
  have : (decide (1 ≤ fs.length) && decide (fs.length ≤ 40)) = false := by rw [Bool.and_eq_false_iff, decide_eq_false_iff_not, decide_eq_false_iff_not]; omega
  rw [keep_is, this]; rfl
theorem keep_bad {fs : List FunD} {k : Nat} (hk : k < fs.length) (h : okD fs[k] = false) : false = keepOkB fs := by
  have : fs.all okD = false := by rw [List.all_eq_false]; exact ⟨fs[k], List.getElem_mem _, by simp [h]⟩
  rw [keep_is, this]; simp
theorem keep_twice {fs : List FunD} {k : Nat} (hk : k < fs.length) (h : findI fs fs[k].nm ≠ (k : Int)) : false = keepOkB fs := by
  rw [keep_is, apartF_bad hk h]; simp
theorem keep_ref {fs : List FunD} {k j : Nat} (hk : k < fs.length) (hj : j < (refsOf fs[k].body).length) (h : findI fs (refsOf fs[k].body)[j] < 0) : false = keepOkB fs := by
  have h1 : refsIn fs fs[k] = false := by
    unfold refsIn
    rw [List.all_eq_false]
    exact ⟨_, List.getElem_mem hj, by simp; omega⟩
  have : fs.all (refsIn fs) = false := by rw [List.all_eq_false]; exact ⟨fs[k], List.getElem_mem _, by simp [h1]⟩
  rw [keep_is, this]; simp
theorem refs_in {fs : List FunD} {f : FunD} (h : ∀ j (hj : j < (refsOf f.body).length), 0 ≤ findI fs (refsOf f.body)[j]) : refsIn fs f = true := by
  unfold refsIn
  rw [List.all_eq_true]
  intro r hr
  obtain ⟨j, hj, rfl⟩ := List.getElem_of_mem hr
  have := h j hj
  simp
  omega
theorem keep_end {fs : List FunD} (h0 : 1 ≤ fs.length ∧ fs.length ≤ 40) (h : ∀ i (hi : i < fs.length), okD fs[i] = true ∧ findI fs fs[i].nm = (i : Int)) (hr : ∀ i (hi : i < fs.length), refsIn fs fs[i] = true) : true = keepOkB fs := by
  have h1 : fs.all okD = true := by rw [List.all_eq_true]; intro f hf; obtain ⟨i, hi, rfl⟩ := List.getElem_of_mem hf; exact (h i hi).1
  have h2 : fs.all (refsIn fs) = true := by rw [List.all_eq_true]; intro f hf; obtain ⟨i, hi, rfl⟩ := List.getElem_of_mem hf; exact hr i hi
  rw [keep_is, h1, h2, apartF_all (fun i hi => (h i hi).2), decide_eq_true h0.1, decide_eq_true h0.2]; rfl
theorem keep_parts {fs : List FunD} (h : keepOkB fs = true) : 1 ≤ fs.length ∧ fs.length ≤ 40 ∧ (∀ f ∈ fs, funOkB f.nm f.body = true) ∧ apartF fs = true ∧ ∀ f ∈ fs, ∀ r ∈ refsOf f.body, 0 ≤ findI fs r := by
  rw [keep_is] at h
  simp only [Bool.and_eq_true, decide_eq_true_iff, List.all_eq_true] at h
  obtain ⟨⟨⟨⟨h1, h2⟩, h3⟩, h4⟩, h5⟩ := h
  refine ⟨h1, h2, h3, h4, fun f hf r hr => ?_⟩
  have := h5 f hf
  unfold refsIn at this
  rw [List.all_eq_true] at this
  simpa using this r hr

set_option maxHeartbeats 2000000 in
theorem specKeepOk_any (a : Option Addr) (cap : Nat) (fs : List FunD) (w : World) (hcap : fs.length ≤ cap) (hcm : cap ≤ maxLen) (hR : FunRow w a fs) :
    Calls Try.prog 95 #[.slice a fs.length cap] w fun e w' => e = .returned (.bool (keepOkB fs)) ∧ Below w.heap.size w w' := by
  have HR := hide hR
  have HZ := hide hR.sizes
  clear hR
  have hcm' := hcm
  unfold maxLen at hcm
  have hlen : (fs.length : Int) ≤ 9223372036854775807 := by omega
  by_cases hl1 : fs.length < 1
  · have hl1' : (fs.length : Int) < 1 := by omega
    have HE := hide (keep_len (fs := fs) (by omega))
    go_enter Try.func95, Try.ntmps95
    go_wp2_with fail
    go_ret
    exact ⟨ret_bool (unhide HE), Below.refl _ _⟩
  have hl1' : ¬ (fs.length : Int) < 1 := by omega
  by_cases hl40 : 40 < fs.length
  · have hl40' : (40 : Int) < (fs.length : Int) := by omega
    have HE := hide (keep_len (fs := fs) (by omega))
    go_enter Try.func95, Try.ntmps95
    go_wp2_with fail
    go_ret
    exact ⟨ret_bool (unhide HE), Below.refl _ _⟩
  have hl40' : ¬ (40 : Int) < (fs.length : Int) := by omega
  have HKE := hide (keep_end (fs := fs) ⟨by omega, by omega⟩)
  go_enter Try.func95, Try.ntmps95
  go_wp2_with fail
  go_loopw [3] (fun i w' => ∃ k : Nat, k ≤ fs.length ∧ i = .int .i64 k ∧ Hid (∀ i (h : i < fs.length), i < k → okD fs[i] = true ∧ findI fs fs[i].nm = (i : Int)) ∧ Below w.heap.size w w') (fun i _ => fs.length - (intOf i).toNat)
  case atStart => exact ⟨0, Nat.zero_le _, rfl, fun i h h0 => by omega, Below.refl _ _⟩
  case round =>
    obtain ⟨k, hk, rfl, HN, hB⟩ := hrel
    by_cases hkl : k < fs.length
    · obtain ⟨b, off, rfl⟩ := (unhide HR).get (by omega)
      have HW := hide ((unhide HR).below hB)
      obtain ⟨ai, ci, c0, c1, c2, hn, h4, h5, h6⟩ := (unhide HW).at hkl
      have H6 := hide h6
      clear h6
      have hkl' : (k : Int) < (fs.length : Int) := by omega
      have HB1 := hide (keep_bad hkl)
      have HB2 := hide (keep_twice hkl)
      have HD : Hid (okD fs[k] = funOkB fs[k].nm fs[k].body) := rfl
      have HX : Hid (okD fs[k] = true → findI fs fs[k].nm = (k : Int) → ∀ i (h : i < fs.length), i < k + 1 → okD fs[i] = true ∧ findI fs fs[i].nm = (i : Int)) := fun h1 h2 i hi hlt => by
        by_cases e : i = k
        · subst e; exact ⟨h1, h2⟩
        · exact unhide HN i hi (by omega)
      clear HKE
      generalize fs[k] = f at *
      cases hok : funOkB f.nm f.body
      · go_wp2_with fail
        refine (specFunOk_any f.nm f.wk ai ci f.body _ hn h4 h5 (unhide H6)).mono ?_
        rintro e w1 ⟨rfl, hb1⟩
        rw [hok]
        go_wp2_with fail
        go_ret
        exact ⟨ret_bool (unhide HB1 ((unhide HD).trans hok)), bl_trans hB hb1⟩
      · go_wp2_with fail
        refine (specFunOk_any f.nm f.wk ai ci f.body _ hn h4 h5 (unhide H6)).mono ?_
        rintro e w1 ⟨rfl, hb1⟩
        rw [hok]
        have HW1 := hide ((unhide HW).below hb1)
        replace c0 := ((Stable.cell ⟨b, off + k * 3, none⟩ (.string f.nm)).1 _ _ hb1 c0)
        have hB1 := bl_trans hB hb1
        clear c1 c2 hb1 hB
        by_cases hfi : findI fs f.nm = (k : Int)
        · go_wp2_with fail
          refine (specFind_any _ _ fs f.nm _ hn hcap hcm' (unhide HW1)).mono ?_
          rintro e w2 ⟨rfl, hb2⟩
          rw [hfi]
          go_wp2_with fail
          exact ⟨⟨k + 1, by omega, by go_num, unhide HX ((unhide HD).trans hok) hfi, bl_trans hB1 hb2⟩, by simp [intOf]; omega⟩
        · go_wp2_with fail
          refine (specFind_any _ _ fs f.nm _ hn hcap hcm' (unhide HW1)).mono ?_
          rintro e w2 ⟨rfl, hb2⟩
          go_wp2_with fail
          go_ret
          exact ⟨ret_bool (unhide HB2 hfi), bl_trans hB1 hb2⟩
    · have HALL : Hid (∀ i (h : i < fs.length), okD fs[i] = true ∧ findI fs fs[i].nm = (i : Int)) := fun i h => unhide HN i h (by omega)
      have hk' : ¬ (k : Int) < (fs.length : Int) := by omega
      clear HN
      go_wp2_with fail
      go_loopw [4] (fun i w' => ∃ k : Nat, k ≤ fs.length ∧ i = .int .i64 k ∧ Hid (∀ i (h : i < fs.length), i < k → refsIn fs fs[i] = true) ∧ Below w.heap.size w w') (fun i _ => fs.length - (intOf i).toNat)
      case atStart => exact ⟨0, Nat.zero_le _, rfl, fun i h h0 => by omega, hB⟩
      case round =>
        obtain ⟨k, hk, rfl, HN, hB⟩ := hrel
        by_cases hkl : k < fs.length
        · obtain ⟨b, off, rfl⟩ := (unhide HR).get (by omega)
          have HW := hide ((unhide HR).below hB)
          obtain ⟨ai, ci, c0, c1, c2, hn, h4, h5, h6⟩ := (unhide HW).at hkl
          have H6 := hide h6
          have hkl' : (k : Int) < (fs.length : Int) := by omega
          have h10 : fs[k].body.length ≤ 10 := fun_le (unhide HALL k hkl).1
          have HS := hide (refs_sized (xs := fs[k].body) (m := maxLen) h6.sizes)
          have hrl := refs_len fs[k].body
          have HRF := hide (fun j (hj : j < (refsOf fs[k].body).length) => keep_ref hkl hj)
          have HRI := hide (refs_in (fs := fs) (f := fs[k]))
          have HX : Hid (refsIn fs fs[k] = true → ∀ i (h : i < fs.length), i < k + 1 → refsIn fs fs[i] = true) := fun h1 i hi hlt => by
            by_cases e : i = k
            · subst e; exact h1
            · exact unhide HN i hi (by omega)
          clear h6 HKE HALL
          generalize fs[k] = f at *
          go_wp2_with fail
          refine (specRefsOf_any ai ci f.body _ (by omega) h4 h5 (unhide H6)).mono ?_
          rintro e w1 ⟨v, rfl, hV, hb1⟩
          have hB1 := bl_trans hB hb1
          have HV := hide hV.at
          clear hV hb1 hB c0 c1 c2 HW
          generalize refsOf f.body = rs at *
          obtain ⟨av, cv, rfl, hvc, hvm, hvr⟩ := unhide HV
          have HVR := hide hvr
          clear hvr
          go_wp2_with fail
          go_loopw [6] (fun i w' => ∃ j : Nat, j ≤ rs.length ∧ i = .int .i64 j ∧ Hid (∀ i (h : i < rs.length), i < j → 0 ≤ findI fs rs[i]) ∧ Below w1.heap.size w1 w') (fun i _ => rs.length - (intOf i).toNat)
          case atStart => exact ⟨0, Nat.zero_le _, rfl, fun i h h0 => by omega, Below.refl _ _⟩
          case round =>
            obtain ⟨j, hj, rfl, HJ, hBj⟩ := hrel
            by_cases hjl : j < rs.length
            · have hjl' : (j : Int) < (rs.length : Int) := by omega
              obtain h0 | ⟨b1, o1, rfl, hc⟩ := unhide HVR
              · rw [h0] at hjl; simp at hjl
              have r0 := (Stable.cell ⟨b1, o1 + j, none⟩ (.string rs[j])).1 _ _ hBj (hc j hjl)
              have hrs := unhide HS rs[j] (List.getElem_mem _)
              have HRJ := hide (unhide HRF j hjl)
              have HX2 : Hid (0 ≤ findI fs rs[j] → ∀ i (h : i < rs.length), i < j + 1 → 0 ≤ findI fs rs[i]) := fun h1 i hi hlt => by
                by_cases e : i = j
                · subst e; exact h1
                · exact unhide HJ i hi (by omega)
              clear hc
              generalize rs[j] = r at *
              by_cases hf : findI fs r < 0
              · go_wp2_with fail
                refine (specFind_any _ _ fs r _ hrs hcap hcm' ((unhide HR).below (bl_trans hB1 hBj))).mono ?_
                rintro e w2 ⟨rfl, hb2⟩
                go_wp2_with fail
                go_ret
                exact ⟨ret_bool (unhide HRJ hf), bl_trans hB1 (bl_trans hBj hb2)⟩
              · have HF0 := hide (unhide HX2 (by omega))
                go_wp2_with fail
                refine (specFind_any _ _ fs r _ hrs hcap hcm' ((unhide HR).below (bl_trans hB1 hBj))).mono ?_
                rintro e w2 ⟨rfl, hb2⟩
                go_wp2_with fail
                exact ⟨⟨j + 1, by omega, by go_num, unhide HF0, bl_trans hBj hb2⟩, by simp [intOf]; omega⟩
            · have hjl' : ¬ (j : Int) < (rs.length : Int) := by omega
              have HRK := hide (unhide HX (unhide HRI (fun i hi => unhide HJ i hi (by omega))))
              go_wp2_with fail
              exact ⟨⟨k + 1, by omega, by go_num, unhide HRK, bl_trans hB1 hBj⟩, by simp [intOf]; omega⟩
        · have hk' : ¬ (k : Int) < (fs.length : Int) := by omega
          have HE := hide (unhide HKE (unhide HALL) (fun i h => unhide HN i h (by omega)))
          go_wp2_with fail
          go_ret
          exact ⟨ret_bool (unhide HE), hB⟩

/-- What the program's way tells: as many names as functions, and nothing that is wanted. -/
theorem keep_wants {fs : List FunD} {out : List ByteArray} (h0 : 1 ≤ fs.length ∧ fs.length ≤ 40) (hok : ∀ i (hi : i < fs.length), okD fs[i] = true) (hap : apartF fs = true) (hw : Wants fs (bodyRefs fs fs.length) out) : (out.length == 0) = keepOkB fs := by
  have h1 : fs.all okD = true := by rw [List.all_eq_true]; intro f hf; obtain ⟨i, hi, rfl⟩ := List.getElem_of_mem hf; exact hok i hi
  have e : keepOkB fs = fs.all (refsIn fs) := by rw [keep_is, h1, hap, decide_eq_true h0.1, decide_eq_true h0.2]; simp
  rw [e, Bool.eq_iff_iff, beq_iff_eq, List.length_eq_zero_iff, List.all_eq_true]
  have hm : ∀ r, r ∈ bodyRefs fs fs.length ↔ ∃ f ∈ fs, r ∈ refsOf f.body := fun r => by
    unfold bodyRefs
    rw [List.take_length, List.mem_flatMap]
  constructor
  · intro h f hf
    unfold refsIn
    rw [List.all_eq_true]
    intro r hr
    rw [decide_eq_true_iff]
    refine Int.not_lt.1 fun hlt => ?_
    have := (hw.2 r.toList).2 ⟨r, (hm r).2 ⟨f, hf, hr⟩, rfl, hlt⟩
    rw [h] at this
    cases this
  · intro h
    cases ho : out with
    | nil => rfl
    | cons x t =>
      exfalso
      have hx : x.toList ∈ bl out := by rw [ho]; exact List.mem_cons_self ..
      obtain ⟨r, hr, _, hlt⟩ := (hw.2 x.toList).1 hx
      obtain ⟨f, hf, hr⟩ := (hm r).1 hr
      have h1 := h f hf
      unfold refsIn at h1
      rw [List.all_eq_true] at h1
      have := h1 r hr
      rw [decide_eq_true_iff] at this
      omega
theorem places_few {fs : List FunD} (h : Maps.size (PD fs fs.length) ≠ fs.length) : apartF fs = false := by
  have h2 := (PD_size fs (Nat.le_refl _)).2
  rw [List.take_length] at h2
  rw [← Bool.not_eq_true, ← h2]
  exact h
theorem places_all {fs : List FunD} (h : Maps.size (PD fs fs.length) = fs.length) : apartF fs = true := by
  have h2 := (PD_size fs (Nat.le_refl _)).2
  rw [List.take_length] at h2
  exact h2.1 h
theorem keep_apart {fs : List FunD} (h : apartF fs = false) : false = keepOkB fs := by rw [keep_is, h]; simp

set_option maxHeartbeats 2000000 in
theorem implKeepOk_any (a : Option Addr) (cap : Nat) (fs : List FunD) (w : World) (hcap : fs.length ≤ cap) (hcm : cap ≤ maxLen) (hR : FunRow w a fs) :
    Calls Try.prog 99 #[.slice a fs.length cap] w fun e w' => e = .returned (.bool (keepOkB fs)) ∧ Below w.heap.size w w' := by
  have HR := hide hR
  clear hR
  have hcm' := hcm
  unfold maxLen at hcm
  have hlen : (fs.length : Int) ≤ 9223372036854775807 := by omega
  by_cases hl1 : fs.length < 1
  · have hl1' : (fs.length : Int) < 1 := by omega
    have HE := hide (keep_len (fs := fs) (by omega))
    go_enter Try.func99, Try.ntmps99
    go_wp2_with fail
    go_ret
    exact ⟨ret_bool (unhide HE), Below.refl _ _⟩
  have hl1' : ¬ (fs.length : Int) < 1 := by omega
  by_cases hl40 : 40 < fs.length
  · have hl40' : (40 : Int) < (fs.length : Int) := by omega
    have HE := hide (keep_len (fs := fs) (by omega))
    go_enter Try.func99, Try.ntmps99
    go_wp2_with fail
    go_ret
    exact ⟨ret_bool (unhide HE), Below.refl _ _⟩
  have hl40' : ¬ (40 : Int) < (fs.length : Int) := by omega
  go_enter Try.func99, Try.ntmps99
  go_wp2_with fail
  go_loopw [15] (fun i w' => ∃ k : Nat, k ≤ fs.length ∧ i = .int .i64 k ∧ Hid (∀ i (h : i < fs.length), i < k → okD fs[i] = true) ∧ Below w.heap.size w w') (fun i _ => fs.length - (intOf i).toNat)
  case atStart => exact ⟨0, Nat.zero_le _, rfl, fun i h h0 => by omega, Below.refl _ _⟩
  case round =>
    obtain ⟨k, hk, rfl, HN, hB⟩ := hrel
    by_cases hkl : k < fs.length
    · obtain ⟨b, off, rfl⟩ := (unhide HR).get (by omega)
      obtain ⟨ai, ci, c0, c1, c2, hn, h4, h5, h6⟩ := ((unhide HR).below hB).at hkl
      have H6 := hide h6
      clear h6
      have hkl' : (k : Int) < (fs.length : Int) := by omega
      have HB1 := hide (keep_bad hkl)
      have HD : Hid (okD fs[k] = funOkB fs[k].nm fs[k].body) := rfl
      have HX : Hid (okD fs[k] = true → ∀ i (h : i < fs.length), i < k + 1 → okD fs[i] = true) := fun h1 i hi hlt => by
        by_cases e : i = k
        · subst e; exact h1
        · exact unhide HN i hi (by omega)
      generalize fs[k] = f at *
      cases hok : funOkB f.nm f.body
      · go_wp2_with fail
        refine (implFunOk_any f.nm f.wk ai ci f.body _ hn h4 h5 ((unhide H6).below (below_alloc1 _ _))).mono ?_
        rintro e w1 ⟨rfl, hb1⟩
        rw [hok]
        go_wp2_with fail
        go_ret
        exact ⟨ret_bool (unhide HB1 ((unhide HD).trans hok)), bl_trans (bl_alloc hB _) hb1⟩
      · go_wp2_with fail
        refine (implFunOk_any f.nm f.wk ai ci f.body _ hn h4 h5 ((unhide H6).below (below_alloc1 _ _))).mono ?_
        rintro e w1 ⟨rfl, hb1⟩
        rw [hok]
        go_wp2_with fail
        exact ⟨⟨k + 1, by omega, by go_num, unhide HX ((unhide HD).trans hok), bl_trans (bl_alloc hB _) hb1⟩, by simp [intOf]; omega⟩
    · have HALL : Hid (∀ i (h : i < fs.length), okD fs[i] = true) := fun i h => unhide HN i h (by omega)
      have HOK : Hid (∀ f ∈ fs, funOkB f.nm f.body = true) := fun f hf => by obtain ⟨i, hi, rfl⟩ := List.getElem_of_mem hf; exact unhide HALL i hi
      have hk' : ¬ (k : Int) < (fs.length : Int) := by omega
      clear HN
      go_wp2_with fail
      refine (places_any a cap fs _ hcap hcm' (by omega) ((unhide HR).below hB)).mono ?_
      rintro e w1 ⟨rfl, hown, hb1⟩
      have hB1 := bl_trans hB hb1
      have hsz := hown.size_le
      by_cases hpl : Maps.size (PD fs fs.length) = fs.length
      · have HAP := hide (places_all hpl)
        have HKW := hide (fun out => keep_wants (fs := fs) (out := out) ⟨by omega, by omega⟩ (unhide HALL) (unhide HAP))
        have hpl' : ((Maps.size (PD fs fs.length) : Nat) : Int) = (fs.length : Int) := by omega
        go_wp2_with (first | (at_len; refine wpList_len_own _ rfl _ 97 rfl 9 3 Try.underlying97 _ wr.heap.size fs.length _ rfl hown ?_))
        refine (wantsOf_any (fun v w' => ∃ out, Wants fs (bodyRefs fs fs.length) out ∧ StrOwn w' w1.heap.size v out ∧ Below w1.heap.size w1 w') a cap fs _ hcap hcm' (by omega) ((unhide HR).below hB1) (fun w2 hown hb2 => (inOrder_any _ _ _ _ hown (Nat.le_trans (map_size hown) (by omega))).mono ?_)).mono ?_
        · rintro e w3 ⟨v, ss, rfl, hS, hrow, hb3⟩
          refine ⟨v, rfl, _, keys_wants (unhide HOK) hown hS, ?_, bl_trans hb2 hb3⟩
          unfold StrOwn
          rw [← enc_mk, List.length_map, (List.mergeSort_perm ss leB).length_eq]
          exact ownsRow_base_a hrow hb2.size
        · rintro e w2 ⟨v, rfl, out, hW, hO, hb2⟩
          have HW := hide (unhide HKW out hW)
          obtain ⟨av, cv, rfl, _, _, _⟩ := hO.at
          have hB2 := bl_trans hB1 hb2
          clear hW hO hb2
          go_wp2_with fail
          go_ret
          exact ⟨ret_bool (by rw [← unhide HW, Bool.eq_iff_iff, beq_iff_eq, beq_iff_eq]; omega), hB2⟩
      · have HE := hide (keep_apart (places_few hpl))
        have hpl' : ¬ ((Maps.size (PD fs fs.length) : Nat) : Int) = (fs.length : Int) := by omega
        go_wp2_with (first | (at_len; refine wpList_len_own _ rfl _ 97 rfl 9 3 Try.underlying97 _ wr.heap.size fs.length _ rfl hown ?_) | go_in)
        go_ret
        exact ⟨ret_bool (unhide HE), hB1⟩
end Go.Proofs.Ytjbhbkkkjdpamaa.KeepA
