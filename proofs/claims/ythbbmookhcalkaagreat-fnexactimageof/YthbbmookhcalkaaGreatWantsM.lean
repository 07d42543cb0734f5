/- The contract of the program's UnitWants: its keys in order are what the unit wants. -/
import Derived.Test.YthbbmookhcalkaaGreatWantsK
namespace Go.Proofs.YthbbmookhcalkaaGreat.WantsM
open Go.ChangeShapes Go.WideShapes Go.ChangeAt Go.RowKit Go.Joins Go.WideMaps Go.Maps Go.Sort Go.Shelf
open Go.Proofs.YthbbmookhcalkaaGreat.Base Go.Proofs.YthbbmookhcalkaaGreat.InsA Go.Proofs.YthbbmookhcalkaaGreat.InsB Go.Proofs.YthbbmookhcalkaaGreat.Funs Go.Proofs.YthbbmookhcalkaaGreat.Open Go.Proofs.YthbbmookhcalkaaGreat.FunS Go.Proofs.YthbbmookhcalkaaGreat.Keep Go.Proofs.YthbbmookhcalkaaGreat.UnitS Go.Proofs.YthbbmookhcalkaaGreat.UnitM Go.Proofs.YthbbmookhcalkaaGreat.Refs Go.Proofs.YthbbmookhcalkaaGreat.Mark Go.Proofs.YthbbmookhcalkaaGreat.WantsS Go.Proofs.YthbbmookhcalkaaGreat.WantsI Go.Proofs.YthbbmookhcalkaaGreat.WantsL Go.Proofs.YthbbmookhcalkaaGreat.WantsK
set_option linter.unusedVariables false
set_option maxRecDepth 100000

theorem find_neg {fs : List FunD} {s : ByteArray} : findI fs s < 0 ↔ ∀ f ∈ fs, f.nm.toList ≠ s.toList := by
  unfold findI
  constructor
  · intro h f hf e
    have hlt : fs.findIdx (isNm s) < fs.length := List.findIdx_lt_length_of_exists ⟨f, hf, isNm_iff.2 e⟩
    rw [if_pos hlt] at h
    omega
  · intro h
    have hlt : ¬ fs.findIdx (isNm s) < fs.length := fun hlt => h _ (List.getElem_mem hlt) (isNm_iff.1 (List.findIdx_getElem (w := hlt)))
    rw [if_neg hlt]
    decide
theorem has_delTo (D : DataW Unit) (fs : List FunD) (x : Lit) : ∀ k, k ≤ fs.length → (has (delTo D fs k) x = true ↔ has D x = true ∧ ∀ f ∈ fs.take k, keyS f.nm ≠ x)
  | 0, _ => by simp [delTo]
  | k + 1, hk => by
    have ih := has_delTo D fs x k (by omega)
    have e : fs.getD k default = fs[k] := by simp [List.getD, List.getElem?_eq_getElem (show k < fs.length by omega)]
    rw [delTo, e, List.take_succ_eq_append_getElem (by omega)]
    by_cases hx : x = keyS fs[k].nm
    · subst hx
      rw [has_del_same]
      refine ⟨fun h => (by cases h), fun h => absurd rfl (h.2 fs[k] (List.mem_append_right _ (List.mem_singleton.2 rfl)))⟩
    · rw [has_del_other hx, ih]
      simp only [List.mem_append, List.mem_singleton]
      constructor
      · rintro ⟨h1, h2⟩
        refine ⟨h1, fun f hf => ?_⟩
        rcases hf with hf | rfl
        · exact h2 f hf
        · exact fun e => hx e.symm
      · rintro ⟨h1, h2⟩
        exact ⟨h1, fun f hf => h2 f (.inl hf)⟩
theorem keys_mem {w : World} {R : Value → Option (DataW Unit × List MemPlace)} {b n : Nat} {D : DataW Unit} (hown : w.ownsMap Tryz.prog 9 R b n D) : (strKeys D).Nodup ∧ ∀ x, x ∈ strKeys D ↔ has D (.string x) = true := by
  obtain ⟨es, hD, hpw, _⟩ := hown.entries lawS
  obtain ⟨es', hD', hko⟩ := hown.keysOf
  obtain rfl : es = es' := by rw [hD] at hD'; simpa using hD'
  subst hD
  have hk : ∀ p ∈ es, ∃ x, p.1 = .string x := fun p hp => by
    obtain ⟨v, hv⟩ := hko p hp
    obtain ⟨x, _, hx, _⟩ := Maps.keyOf_str Tryz.underlying9 hv
    exact ⟨x, hx⟩
  refine ⟨?_, fun x => ?_⟩
  · show (es.map fun p => strOf p.1).Nodup
    refine List.pairwise_map.2 (hpw.imp_of_mem fun {p q} hp hq hne e => hne ?_)
    obtain ⟨a, ha⟩ := hk p hp
    obtain ⟨b, hb⟩ := hk q hq
    rw [ha, hb] at e ⊢
    exact congrArg _ e
  · rw [has_eq, List.any_eq_true]
    show x ∈ es.map (fun p => strOf p.1) ↔ _
    rw [List.mem_map]
    constructor
    · rintro ⟨p, hp, rfl⟩
      obtain ⟨a, ha⟩ := hk p hp
      exact ⟨p, hp, by rw [ha]; simp [Lit.sameKey, strOf]⟩
    · rintro ⟨p, hp, hs⟩
      obtain ⟨a, ha⟩ := hk p hp
      rw [ha] at hs
      exact ⟨p, hp, by rw [ha]; simpa [Lit.sameKey, strOf] using hs⟩
theorem key_same {a : ByteArray} {x : List UInt8} : (keyS a).sameKey (.string x) = true ↔ a.toList = x := by
  rw [ByteArray.toList_eq]
  simp [keyS, Lit.sameKey]
theorem key_eq {a : ByteArray} {x : List UInt8} : keyS a = .string x ↔ a.toList = x := by
  rw [ByteArray.toList_eq]
  simp [keyS]
def mkB (x : List UInt8) : ByteArray := ⟨x.toArray⟩
theorem mkB_list (x : List UInt8) : (mkB x).toList = x := by rw [ByteArray.toList_eq]; rfl
theorem bl_mk (l : List (List UInt8)) : bl (l.map mkB) = l := by
  unfold bl
  rw [List.map_map]
  exact (List.map_congr_left (fun x _ => mkB_list x)).trans (List.map_id l)
theorem enc_mk (l : List (List UInt8)) : l.map encStr = (l.map mkB).map Value.string := by
  rw [List.map_map]
  rfl
theorem refs_all {fs : List FunD} (hok : ∀ f ∈ fs, funOkB f.nm f.body = true) : refsTo fs fs.length = bodyRefs fs fs.length := by
  unfold refsTo bodyRefs
  rw [List.take_length]
  have : ∀ l : List FunD, (∀ f ∈ l, funOkB f.nm f.body = true) → (l.flatMap fun f => funRefs f.nm f.body) = l.flatMap fun f => refsOf f.body := by
    intro l
    induction l with
    | nil => intro _; rfl
    | cons f r ih =>
      intro hl
      rw [List.flatMap_cons, List.flatMap_cons, ih (fun g hg => hl g (List.mem_cons_of_mem _ hg))]
      have := hl f (List.mem_cons_self ..)
      simp [funRefs, this]
  exact this fs hok
/-- The keys that are left, in order, are what the unit wants. -/
theorem keys_wants {w : World} {R : Value → Option (DataW Unit × List MemPlace)} {b n : Nat} {fs : List FunD} {ss : List (List UInt8)} (hok : ∀ f ∈ fs, funOkB f.nm f.body = true) (hown : w.ownsMap Tryz.prog 9 R b n (delTo (setOf (.agg []) ((refsTo fs fs.length).map keyS)) fs fs.length)) (hs : ss.Perm (strKeys (delTo (setOf (.agg []) ((refsTo fs fs.length).map keyS)) fs fs.length))) :
    Wants fs (bodyRefs fs fs.length) ((ss.mergeSort leB).map mkB) := by
  obtain ⟨hnd, hmem⟩ := keys_mem hown
  have hp : (ss.mergeSort leB).Perm (strKeys (delTo (setOf (.agg []) ((refsTo fs fs.length).map keyS)) fs fs.length)) := (List.mergeSort_perm ss leB).trans hs
  have tr : ∀ a b c : List UInt8, leB a b = true → leB b c = true → leB a c = true := fun a b c h1 h2 => by simp only [leB, decide_eq_true_eq] at *; exact List.le_trans h1 h2
  have to : ∀ a b : List UInt8, (leB a b || leB b a) = true := fun a b => by simp only [leB, Bool.or_eq_true, decide_eq_true_eq]; exact List.le_total a b
  have hpw := List.pairwise_mergeSort tr to ss
  have hnd' : (ss.mergeSort leB).Nodup := hp.nodup_iff.2 hnd
  refine ⟨?_, fun x => ?_⟩
  · rw [bl_mk]
    unfold srt
    refine (List.pairwise_and_iff.2 ⟨hpw, hnd'⟩).imp fun {a b} h => ?_
    obtain ⟨h1, h2⟩ := h
    have h1' : a ≤ b := by simpa [leB] using h1
    exact lt_of (fun hc => absurd hc (List.not_lt.2 h1')) (fun e => h2 e.symm)
  · rw [bl_mk, hp.mem_iff, hmem, has_delTo _ _ _ _ (Nat.le_refl _), List.take_length, has_setOf _ _ _ (fun y hy => by obtain ⟨s, _, rfl⟩ := List.mem_map.1 hy; exact keyS_is s), refs_all hok, List.any_eq_true]
    constructor
    · rintro ⟨⟨y, hy, hsame⟩, hall⟩
      obtain ⟨t, ht, rfl⟩ := List.mem_map.1 hy
      have ht' := key_same.1 hsame
      exact ⟨t, ht, ht', find_neg.2 fun f hf e => hall f hf (key_eq.2 (e.trans ht'))⟩
    · rintro ⟨t, ht, rfl, hf⟩
      exact ⟨⟨keyS t, List.mem_map.2 ⟨t, ht, rfl⟩, key_same.2 rfl⟩, fun f hf' e => find_neg.1 hf f hf' (key_eq.1 e)⟩
theorem map_size {w : World} {R : Value → Option (DataW Unit × List MemPlace)} {b n : Nat} {D : DataW Unit} (hown : w.ownsMap Tryz.prog 9 R b n D) : Maps.size D ≤ n := hown.size_le

end Go.Proofs.YthbbmookhcalkaaGreat.WantsM
