/- Plain data: where all of a program stands, what is near, what is out of reach, and how it is laid. -/
import Derived.Test.YthbbmookhcalkaaGreatKeepA
namespace Go.Proofs.YthbbmookhcalkaaGreat.LayD
open Go.Proofs.YthbbmookhcalkaaGreat.InsA Go.Proofs.YthbbmookhcalkaaGreat.Funs Go.Proofs.YthbbmookhcalkaaGreat.Open Go.Proofs.YthbbmookhcalkaaGreat.UnitS Go.Proofs.YthbbmookhcalkaaGreat.Refs Go.Proofs.YthbbmookhcalkaaGreat.KeepD Go.Proofs.YthbbmookhcalkaaGreat.KeepA
set_option linter.unusedVariables false
set_option maxRecDepth 100000

/-- A function's length, and its stones. -/
def lenAt (fs : List FunD) (i : Nat) : Nat := (fs.getD i default).body.length
def stAt (st : List (List ByteArray)) (i : Nat) : List ByteArray := st.getD i []
theorem lenAt_is {fs : List FunD} {i : Nat} (h : i < fs.length) : lenAt fs i = fs[i].body.length := by simp [lenAt, List.getD, List.getElem?_eq_getElem h]
theorem stAt_is {st : List (List ByteArray)} {i : Nat} (h : i < st.length) : stAt st i = st[i] := by simp [stAt, List.getD, List.getElem?_eq_getElem h]
/-- Where the i'th function begins. -/
def place (fs : List FunD) (st : List (List ByteArray)) : Nat → Nat
  | 0 => 0
  | i + 1 => place fs st i + lenAt fs i + (stAt st i).length
def placesTo (fs : List FunD) (st : List (List ByteArray)) (n : Nat) : List Int := (List.range n).map fun i => (place fs st i : Int)
def places (fs : List FunD) (st : List (List ByteArray)) : List Int := placesTo fs st fs.length
theorem placesTo_len (fs : List FunD) (st : List (List ByteArray)) (n : Nat) : (placesTo fs st n).length = n := by simp [placesTo]
theorem placesTo_succ (fs : List FunD) (st : List (List ByteArray)) (n : Nat) : placesTo fs st (n + 1) = placesTo fs st n ++ [(place fs st n : Int)] := by simp [placesTo, List.range_succ]
theorem placesTo_at {fs : List FunD} {st : List (List ByteArray)} {n i : Nat} (h : i < (placesTo fs st n).length) : (placesTo fs st n)[i] = (place fs st i : Int) := by simp [placesTo]
theorem places_len (fs : List FunD) (st : List (List ByteArray)) : (places fs st).length = fs.length := placesTo_len _ _ _
theorem place_mono {fs : List FunD} {st : List (List ByteArray)} {i j : Nat} (h : i ≤ j) : place fs st i ≤ place fs st j := by
  induction j with
  | zero => rw [Nat.le_zero.1 h]; exact Nat.le_refl _
  | succ j ih =>
    rcases Nat.lt_or_ge i (j + 1) with h' | h'
    · have := ih (by omega)
      rw [place]; omega
    · rw [show i = j + 1 by omega]; exact Nat.le_refl _
theorem place_bd {fs : List FunD} {st : List (List ByteArray)} {m q : Nat} (h1 : ∀ i, i < fs.length → lenAt fs i ≤ m) (h2 : ∀ i, i < fs.length → (stAt st i).length ≤ q) : ∀ n, n ≤ fs.length → place fs st n ≤ n * (m + q)
  | 0, _ => by simp [place]
  | n + 1, hn => by
    have := place_bd h1 h2 n (by omega)
    have a := h1 n (by omega)
    have b := h2 n (by omega)
    rw [place, Nat.succ_mul]; omega
theorem place_ext {fs : List FunD} {st st' : List (List ByteArray)} : ∀ n, (∀ i, i < n → stAt st i = stAt st' i) → place fs st n = place fs st' n
  | 0, _ => rfl
  | n + 1, h => by rw [place, place, place_ext n (fun i hi => h i (by omega)), h n (by omega)]

/-- Each of these names is a function's, and none is there twice. -/
def stonesB (fs : List FunD) (ns : List ByteArray) : Bool := ns.all (fun s => decide (0 ≤ findI fs s)) && decide (tl ns).Nodup
/-- A program is laid so. -/
def formB (fs : List FunD) (ns : List Int) (st : List (List ByteArray)) : Bool := keepOkB fs && decide (st.length = fs.length) && st.all (stonesB fs) && decide (ns = places fs st)
theorem form_parts {fs : List FunD} {ns : List Int} {st : List (List ByteArray)} (h : formB fs ns st = true) : keepOkB fs = true ∧ st.length = fs.length ∧ (∀ ss ∈ st, stonesB fs ss = true) ∧ ns = places fs st := by
  unfold formB at h
  simp only [Bool.and_eq_true, decide_eq_true_iff, List.all_eq_true] at h
  exact ⟨h.1.1.1, h.1.1.2, h.1.2, h.2⟩
theorem form_keep {fs : List FunD} {ns : List Int} {st : List (List ByteArray)} (h : keepOkB fs = false) : formB fs ns st = false := by simp [formB, h]
theorem form_len {fs : List FunD} {ns : List Int} {st : List (List ByteArray)} (h : st.length ≠ fs.length) : formB fs ns st = false := by simp [formB, h]
theorem form_at {fs : List FunD} {ns : List Int} {st : List (List ByteArray)} (h : ns ≠ places fs st) : formB fs ns st = false := by simp [formB, h]
theorem form_atlen {fs : List FunD} {ns : List Int} {st : List (List ByteArray)} (h : ns.length ≠ fs.length) : formB fs ns st = false := form_at (fun e => h (by rw [e, places_len]))
theorem form_atk {fs : List FunD} {ns : List Int} {st : List (List ByteArray)} {k : Nat} (hk : k < ns.length) (h : ns[k] ≠ (place fs st k : Int)) : formB fs ns st = false := form_at (fun e => by
  subst e
  exact h (placesTo_at hk))
theorem form_stones {fs : List FunD} {ns : List Int} {st : List (List ByteArray)} {k : Nat} (hk : k < st.length) (h : stonesB fs st[k] = false) : formB fs ns st = false := by
  have : st.all (stonesB fs) = false := by rw [List.all_eq_false]; exact ⟨st[k], List.getElem_mem _, by simp [h]⟩
  simp [formB, this]
theorem form_end {fs : List FunD} {ns : List Int} {st : List (List ByteArray)} (h0 : keepOkB fs = true) (h1 : st.length = fs.length) (h2 : ∀ i (h : i < st.length), stonesB fs st[i] = true) (h3 : ns = places fs st) : formB fs ns st = true := by
  unfold formB
  simp only [Bool.and_eq_true, decide_eq_true_iff, List.all_eq_true]
  exact ⟨⟨⟨h0, h1⟩, fun ss hs => by obtain ⟨i, hi, rfl⟩ := List.getElem_of_mem hs; exact h2 i hi⟩, h3⟩
theorem stones_none {fs : List FunD} {ss : List ByteArray} {k : Nat} (hk : k < ss.length) (h : findI fs ss[k] < 0) : stonesB fs ss = false := by
  have : ss.all (fun s => decide (0 ≤ findI fs s)) = false := by rw [List.all_eq_false]; exact ⟨ss[k], List.getElem_mem _, by simp; omega⟩
  simp [stonesB, this]
theorem stones_twice {fs : List FunD} {ss : List ByteArray} {j k : Nat} (hk : k < ss.length) (hj : j < k) (h : ss[k].toList = ss[j].toList) : stonesB fs ss = false := by
  have : ¬ (tl ss).Nodup := fun hn => by
    have h1 := (List.pairwise_iff_getElem.1 hn) j k (by simp [tl]; omega) (by simp [tl]; omega) hj
    simp [tl] at h1
    exact h1 h.symm
  simp [stonesB, this]
theorem stones_end {fs : List FunD} {ss : List ByteArray} (h1 : ∀ k (hk : k < ss.length), 0 ≤ findI fs ss[k]) (h2 : ∀ j k (hk : k < ss.length) (hj : j < k), ss[k].toList ≠ (ss[j]'(by omega)).toList) : stonesB fs ss = true := by
  unfold stonesB
  simp only [Bool.and_eq_true, decide_eq_true_iff, List.all_eq_true]
  refine ⟨fun s hs => by obtain ⟨i, hi, rfl⟩ := List.getElem_of_mem hs; exact h1 i hi, List.pairwise_iff_getElem.2 fun i j hi hj hij => ?_⟩
  simp [tl]
  exact fun e => h2 i j (by simpa [tl] using hj) hij e.symm
theorem stones_parts {fs : List FunD} {ss : List ByteArray} (h : stonesB fs ss = true) : (∀ s ∈ ss, 0 ≤ findI fs s) ∧ (tl ss).Nodup := by
  unfold stonesB at h
  simp only [Bool.and_eq_true, decide_eq_true_iff, List.all_eq_true] at h
  exact h

/-- How far two places are from one another. -/
def farI (a b : Int) : Int := if b - a ≤ a - b then a - b else b - a
theorem farI_nat (a b : Int) : 0 ≤ farI a b := by unfold farI; split <;> omega
/-- The stones behind a function, each with its place. -/
def rowSt (p : Nat) (ss : List ByteArray) (j : Nat) : List (ByteArray × Nat) := (List.range j).map fun j => (ss.getD j ⟨#[]⟩, p + j)
theorem rowSt_succ {p : Nat} {ss : List ByteArray} {j : Nat} (h : j < ss.length) : rowSt p ss (j + 1) = rowSt p ss j ++ [(ss[j], p + j)] := by
  simp [rowSt, List.range_succ, List.getD, List.getElem?_eq_getElem h]
theorem rowSt_zero (p : Nat) (ss : List ByteArray) : rowSt p ss 0 = [] := rfl
def stonesTo (fs : List FunD) (st : List (List ByteArray)) : Nat → List (ByteArray × Nat)
  | 0 => []
  | i + 1 => stonesTo fs st i ++ rowSt (place fs st i + lenAt fs i) (stAt st i) (stAt st i).length
/-- One stone more is looked at: is it the nearest of that name? -/
def nearS (reach p : Int) (s : ByteArray) (best : Int) (x : ByteArray × Nat) : Int :=
  if x.1.toList = s.toList ∧ farI x.2 p ≤ reach ∧ (best < 0 ∨ farI x.2 p < farI best p) then (x.2 : Int) else best
def nearI (reach p : Int) (s : ByteArray) (l : List (ByteArray × Nat)) : Int := l.foldl (nearS reach p s) (-1)
theorem nearI_snoc (reach p : Int) (s : ByteArray) (l : List (ByteArray × Nat)) (x : ByteArray × Nat) : nearI reach p s (l ++ [x]) = nearS reach p s (nearI reach p s l) x := by simp [nearI]
/-- Where one goes from a place for a name. -/
def toI (fs : List FunD) (st : List (List ByteArray)) (reach p : Int) (s : ByteArray) : Int :=
  if findI fs s < 0 then -1 else if farI (place fs st (findI fs s).toNat) p ≤ reach then (place fs st (findI fs s).toNat : Int) else nearI reach p s (stonesTo fs st fs.length)

/-- Is the k'th instruction of the i'th function out of reach? -/
def lk (fs : List FunD) (st : List (List ByteArray)) (reach : Int) (i k : Nat) : Bool :=
  refsB ((fs.getD i default).body.getD k default).o && decide (toI fs st reach ((place fs st i : Int) + k) ((fs.getD i default).body.getD k default).s < 0)
def lackRow (fs : List FunD) (st : List (List ByteArray)) (reach : Int) (i : Nat) : Option Nat := (List.range (lenAt fs i)).find? (lk fs st reach i)
def lackI (fs : List FunD) (st : List (List ByteArray)) (reach : Int) : Option Nat := (List.range fs.length).find? fun i => (lackRow fs st reach i).isSome
/-- The first function, and what it names, from which that is not within reach. -/
def lackN (fs : List FunD) (st : List (List ByteArray)) (reach : Int) : Option (Nat × ByteArray) :=
  (lackI fs st reach).map fun i => (i, ((fs.getD i default).body.getD ((lackRow fs st reach i).getD 0) default).s)
theorem range_find {n k : Nat} {p : Nat → Bool} (hk : k < n) (h : p k = true) (hb : ∀ j, j < k → p j = false) : (List.range n).find? p = some k := by
  rw [List.find?_range_eq_some]
  exact ⟨h, by simpa using hk, fun j hj => by simp [hb j hj]⟩
theorem range_none {n : Nat} {p : Nat → Bool} (hb : ∀ j, j < n → p j = false) : (List.range n).find? p = none := by
  rw [List.find?_range_eq_none]
  exact fun j hj => by simp [hb j hj]
theorem lackRow_none {fs : List FunD} {st : List (List ByteArray)} {reach : Int} {i : Nat} (h : ∀ k, k < lenAt fs i → lk fs st reach i k = false) : lackRow fs st reach i = none := range_none h
theorem lackN_none {fs : List FunD} {st : List (List ByteArray)} {reach : Int} (h : ∀ i, i < fs.length → lackRow fs st reach i = none) : lackN fs st reach = none := by
  unfold lackN lackI
  rw [range_none (fun i hi => by rw [h i hi]; rfl)]
  rfl
theorem lackN_some {fs : List FunD} {st : List (List ByteArray)} {reach : Int} {i k : Nat} (hi : i < fs.length) (h : ∀ j, j < i → lackRow fs st reach j = none) (hk : k < fs[i].body.length) (hb : ∀ j, j < k → lk fs st reach i j = false) (hl : lk fs st reach i k = true) : lackN fs st reach = some (i, fs[i].body[k].s) := by
  have e1 : lackRow fs st reach i = some k := range_find (by rw [lenAt_is hi]; exact hk) hl hb
  unfold lackN lackI
  rw [range_find hi (by rw [e1]; rfl) (fun j hj => by rw [h j hj]; rfl)]
  simp only [Option.map_some, e1, Option.getD_some]
  simp [List.getD, List.getElem?_eq_getElem hi, List.getElem?_eq_getElem hk]
theorem lackN_facts {fs : List FunD} {st : List (List ByteArray)} {reach : Int} {i : Nat} {s : ByteArray} (h : lackN fs st reach = some (i, s)) : ∃ hi : i < fs.length, ∃ k, ∃ hk : k < fs[i].body.length, s = fs[i].body[k].s ∧ refsB fs[i].body[k].o = true ∧ toI fs st reach ((place fs st i : Int) + k) s < 0 := by
  unfold lackN at h
  obtain ⟨j, hj, e⟩ := Option.map_eq_some_iff.1 h
  simp only [Prod.mk.injEq] at e
  obtain ⟨rfl, rfl⟩ := e
  unfold lackI at hj
  rw [List.find?_range_eq_some] at hj
  obtain ⟨h1, h2, _⟩ := hj
  have hi : j < fs.length := by simpa using h2
  obtain ⟨k, hk⟩ := Option.isSome_iff_exists.1 h1
  have hk' := hk
  unfold lackRow at hk'
  rw [List.find?_range_eq_some] at hk'
  obtain ⟨h3, h4, _⟩ := hk'
  have hkl : k < fs[j].body.length := by rw [← lenAt_is hi]; simpa using h4
  rw [hk]
  unfold lk at h3
  simp only [List.getD, List.getElem?_eq_getElem hi, Option.getD_some, List.getElem?_eq_getElem hkl, Bool.and_eq_true, decide_eq_true_iff] at h3 ⊢
  exact ⟨hi, k, hkl, rfl, h3.1, h3.2⟩

/-- A reach. -/
def reachB (r : Int) : Bool := decide (1 ≤ r) && decide (r ≤ 100)
def layOkB (fs : List FunD) (r : Int) (ns : List Int) (st : List (List ByteArray)) : Bool := reachB r && formB fs ns st && (lackN fs st r).isNone
def sizeI (fs : List FunD) (ns : List Int) (st : List (List ByteArray)) : Int := if formB fs ns st then (place fs st fs.length : Int) else 0
def layToI (fs : List FunD) (ns : List Int) (st : List (List ByteArray)) (r p : Int) (s : ByteArray) : Int :=
  if formB fs ns st && reachB r && decide (0 ≤ p) && decide (p < (place fs st fs.length : Int)) then toI fs st r p s else -1
def stoneI (fs : List FunD) (ns : List Int) (st : List (List ByteArray)) (f n : Int) : Int :=
  if formB fs ns st && decide (0 ≤ f) && decide (f < (fs.length : Int)) && decide (0 ≤ n) && decide (n < ((stAt st f.toNat).length : Int)) then (place fs st f.toNat : Int) + (lenAt fs f.toNat : Int) + n else -1
end Go.Proofs.YthbbmookhcalkaaGreat.LayD
