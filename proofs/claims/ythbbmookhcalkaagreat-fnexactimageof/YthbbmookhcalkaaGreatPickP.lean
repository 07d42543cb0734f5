/- Plain facts on where a name is: among those that have it the first strong one, or the first. -/
import Derived.Test.YthbbmookhcalkaaGreatPickS
namespace Go.Proofs.YthbbmookhcalkaaGreat.PickP
open Go.Proofs.YthbbmookhcalkaaGreat.Funs Go.Proofs.YthbbmookhcalkaaGreat.Open Go.Proofs.YthbbmookhcalkaaGreat.FunS Go.Proofs.YthbbmookhcalkaaGreat.UnitS Go.Proofs.YthbbmookhcalkaaGreat.PickD Go.Proofs.YthbbmookhcalkaaGreat.PickS
set_option linter.unusedVariables false
set_option maxRecDepth 100000

theorem find_name {u : List FunD} {s : ByteArray} {k : Nat} (ha : apartF u = true) (hk : k < u.length) (h : isNm s u[k] = true) : findI u s = (k : Int) := by
  have hlt : u.findIdx (isNm s) < u.length := List.findIdx_lt_length_of_exists ⟨u[k], List.getElem_mem _, h⟩
  have hy := List.findIdx_getElem (w := hlt)
  have e : u.findIdx (isNm s) = k := by
    have e1 : (u[u.findIdx (isNm s)]).nm.toList = u[k].nm.toList := (isNm_iff.1 hy).trans (isNm_iff.1 h).symm
    rcases Nat.lt_trichotomy (u.findIdx (isNm s)) k with h1 | h1 | h1
    · exact absurd e1 ((apartF_iff u).1 ha _ _ hlt hk h1)
    · exact h1
    · exact absurd e1.symm ((apartF_iff u).1 ha _ _ hk hlt h1)
  unfold findI
  rw [if_pos hlt, e]
theorem find_is {u : List FunD} {s : ByteArray} {k : Nat} (h : findI u s = (k : Int)) : ∃ hk : k < u.length, isNm s u[k] = true := by
  unfold findI at h
  by_cases hlt : u.findIdx (isNm s) < u.length
  · rw [if_pos hlt] at h
    have e : u.findIdx (isNm s) = k := by omega
    subst e
    exact ⟨hlt, List.findIdx_getElem (w := hlt)⟩
  · rw [if_neg hlt] at h; omega
/-- Those of a name are just the units' own, by units. -/
theorem hits_mem {us : List (List FunD)} {s : ByteArray} {e : Ent} : ∀ n, n ≤ us.length → (e ∈ hitsTo us s n ↔ e.1 < n ∧ ∃ hn : e.1 < us.length, findI us[e.1] s = (e.2.1 : Int) ∧ ∃ hk : e.2.1 < us[e.1].length, us[e.1][e.2.1] = e.2.2)
  | 0, _ => by simp [hitsTo]
  | n + 1, hn => by
    have ih := hits_mem (us := us) (s := s) (e := e) n (by omega)
    by_cases hf : findI us[n] s < 0
    · rw [hits_miss (by omega) hf, ih]
      constructor
      · rintro ⟨h1, h2⟩; exact ⟨by omega, h2⟩
      · rintro ⟨h1, h2, h3, h4⟩
        refine ⟨?_, h2, h3, h4⟩
        rcases Nat.lt_or_ge e.1 n with h | h
        · exact h
        · have e1 : e.1 = n := by omega
          subst e1
          omega
    · obtain ⟨j, hj, hfj⟩ := find_at hf
      rw [hits_hit (by omega) hj hfj, List.mem_append, ih, List.mem_singleton]
      constructor
      · rintro (⟨h1, h2⟩ | rfl)
        · exact ⟨by omega, h2⟩
        · exact ⟨by show n < n + 1; omega, by show n < us.length; omega, hfj, hj, rfl⟩
      · rintro ⟨h1, h2, h3, h4, h5⟩
        rcases Nat.lt_or_ge e.1 n with h | h
        · exact .inl ⟨h, h2, h3, h4, h5⟩
        · refine .inr ?_
          obtain ⟨e1, e2, e3⟩ := e
          have h6 : e1 = n := by show e1 = n; simp only at h1 h; omega
          subst h6
          simp only at h3 h4 h5
          have h7 : e2 = j := by omega
          subst h7
          rw [h5]
theorem hits_lt {us : List (List FunD)} {s : ByteArray} : ∀ n, n ≤ us.length → (hitsTo us s n).Pairwise (fun a b => a.1 < b.1)
  | 0, _ => List.Pairwise.nil
  | n + 1, hn => by
    rw [hitsTo, List.pairwise_append]
    refine ⟨hits_lt n (by omega), ?_, fun a ha b hb => ?_⟩
    · unfold hitU; split
      · exact List.Pairwise.nil
      · exact List.pairwise_singleton _ _
    · have h1 := ((hits_mem n (by omega)).1 ha).1
      unfold hitU at hb
      split at hb
      · cases hb
      · rw [List.mem_singleton.1 hb]; exact h1
theorem head_least {l : List Ent} {b : Ent} (hp : l.Pairwise (fun a b => a.1 < b.1)) (h : l.head? = some b) : ∀ e ∈ l, ¬ e.1 < b.1 := by
  cases l with
  | nil => cases h
  | cons x r =>
    cases h
    intro e he
    rcases List.mem_cons.1 he with rfl | he
    · omega
    · have := (List.pairwise_cons.1 hp).1 e he; omega
/-- What stands of the one that is told. -/
theorem best_is {us : List (List FunD)} {s : ByteArray} {b : Ent} (ha : ∀ u ∈ us, apartF u = true) (h : bestOf (hits us s) = some b) :
    ∃ hi : b.1 < us.length, ∃ hk : b.2.1 < us[b.1].length, us[b.1][b.2.1] = b.2.2 ∧ isNm s b.2.2 = true ∧ findI us[b.1] s = (b.2.1 : Int) ∧ ∀ x y (hx : x < us.length) (hy : y < us[x].length), isNm s us[x][y] = true → (b.2.2.wk = true → us[x][y].wk = true ∧ ¬ x < b.1) ∧ (b.2.2.wk = false → us[x][y].wk = false → ¬ x < b.1) := by
  have hm : b ∈ hits us s := by
    unfold bestOf at h
    cases hs : (strong (hits us s)).head? with
    | some c =>
      rw [hs] at h; cases h
      have hcs : b ∈ strong (hits us s) := List.mem_of_mem_head? (by rw [hs]; rfl)
      exact (List.mem_filter.1 hcs).1
    | none =>
      rw [hs] at h
      exact List.mem_of_mem_head? (by simpa using h)
  obtain ⟨h1, hi, hf, hk, hb⟩ := (hits_mem us.length (Nat.le_refl _)).1 hm
  obtain ⟨hk', hnm⟩ := find_is hf
  refine ⟨hi, hk, hb, by rw [← hb]; exact hnm, hf, fun x y hx hy hxy => ?_⟩
  have hmem : ((x, y, us[x][y]) : Ent) ∈ hits us s := (hits_mem us.length (Nat.le_refl _)).2 ⟨hx, hx, find_name (ha _ (List.getElem_mem _)) hy hxy, hy, rfl⟩
  have hpw := hits_lt (us := us) (s := s) us.length (Nat.le_refl _)
  unfold bestOf at h
  cases hs : (strong (hits us s)).head? with
  | some c =>
    rw [hs] at h
    have hc : c = b := by simpa using h
    subst hc
    have hcs : c ∈ strong (hits us s) := List.mem_of_mem_head? (by rw [hs]; rfl)
    have hcw : c.2.2.wk = false := by have := (List.mem_filter.1 hcs).2; simpa using this
    refine ⟨fun h => (by rw [hcw] at h; cases h), fun _ hyw => ?_⟩
    exact head_least (hpw.sublist List.filter_sublist) hs _ (List.mem_filter.2 ⟨hmem, by simp [hyw]⟩)
  | none =>
    rw [hs] at h
    have hh : (hits us s).head? = some b := by simpa using h
    have hnil : strong (hits us s) = [] := List.head?_eq_none_iff.1 hs
    have hall : ∀ e ∈ hits us s, e.2.2.wk = true := fun e he => by
      cases hw : e.2.2.wk
      · have : e ∈ strong (hits us s) := List.mem_filter.2 ⟨he, by simp [hw]⟩
        rw [hnil] at this; cases this
      · rfl
    exact ⟨fun _ => ⟨hall _ hmem, head_least hpw hh _ hmem⟩, fun hw => (by rw [hall b hm] at hw; cases hw)⟩
/-- What PickAt tells. -/
theorem at_is {us : List (List FunD)} {s : ByteArray} (h : (pickAtB us s).2.2 = true) : unitsOkB us 8 = true ∧ ∃ b : Ent, pickAtB us s = ((b.1 : Int), (b.2.1 : Int), true) ∧ bestOf (hits us s) = some b := by
  cases hu : unitsOkB us 8
  · simp [pickAtB, hu] at h
  · refine ⟨rfl, ?_⟩
    simp only [pickAtB, hu, if_true] at h ⊢
    unfold pickAt at h ⊢
    cases hb : bestOf (hits us s) with
    | none => rw [hb] at h; simp [atOf] at h
    | some b => exact ⟨b, rfl, rfl⟩
theorem at_none {us : List (List FunD)} {s : ByteArray} (h : (pickAtB us s).2.2 = false) : pickAtB us s = (0, 0, false) := by
  cases hu : unitsOkB us 8
  · simp [pickAtB, hu]
  · simp only [pickAtB, hu, if_true] at h ⊢
    unfold pickAt at h ⊢
    cases hb : bestOf (hits us s) with
    | none => rfl
    | some b => rw [hb] at h; simp [atOf] at h
/-- How many strong functions of a name there are among these. -/
def cntS (l : List Ent) (s : ByteArray) : Nat := (strong (ofName s l)).length
theorem cntS_append (l r : List Ent) (s : ByteArray) : cntS (l ++ r) s = cntS l s + cntS r s := by unfold cntS; rw [ofName_append, strong_append, List.length_append]
theorem cntS_all {us : List (List FunD)} (ha : ∀ u ∈ us, apartF u = true) (s : ByteArray) : cntS (flatTo us us.length) s = strongN us s := by
  unfold cntS strongN hits
  rw [flat_hits ha s _ (Nat.le_refl _)]
theorem cntS_one (x : Ent) (s : ByteArray) : cntS [x] s = if isNm s x.2.2 && !x.2.2.wk then 1 else 0 := by
  unfold cntS ofName strong
  cases h1 : isNm s x.2.2 <;> cases h2 : x.2.2.wk <;> simp [h1, h2]
theorem cntS_le (l : List Ent) (s : ByteArray) : cntS l s ≤ l.length := Nat.le_trans (List.length_filter_le _ _) (List.length_filter_le _ _)
/-- What PickTwo tells. -/
theorem two_is {us : List (List FunD)} (h : (pickTwoB us).2 = true) : unitsOkB us 8 = true ∧ 1 < strongN us (pickTwoB us).1 := by
  cases hu : unitsOkB us 8
  · simp [pickTwoB, hu] at h
  · refine ⟨rfl, ?_⟩
    simp only [pickTwoB, hu, if_true] at h ⊢
    cases hb : twoOf us with
    | none => rw [hb] at h; simp [twoB] at h
    | some b =>
      have := List.find?_some hb
      simpa [twice, twoB] using this
end Go.Proofs.YthbbmookhcalkaaGreat.PickP
