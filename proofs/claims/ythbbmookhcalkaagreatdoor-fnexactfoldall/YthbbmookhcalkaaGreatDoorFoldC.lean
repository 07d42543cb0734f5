/- What is twice, plain data: functions that become one, till no two are the same. -/
import Derived.Test.YthbbmookhcalkaaGreatDoorFoldR
import Derived.Test.YthbbmookhcalkaaGreatDoorFoldD
namespace Go.Proofs.YthbbmookhcalkaaGreatDoor.FoldC
open Go.Proofs.YthbbmookhcalkaaGreatDoor.InsA Go.Proofs.YthbbmookhcalkaaGreatDoor.Name Go.Proofs.YthbbmookhcalkaaGreatDoor.InsB Go.Proofs.YthbbmookhcalkaaGreatDoor.Funs Go.Proofs.YthbbmookhcalkaaGreatDoor.Open Go.Proofs.YthbbmookhcalkaaGreatDoor.FunS Go.Proofs.YthbbmookhcalkaaGreatDoor.Same Go.Proofs.YthbbmookhcalkaaGreatDoor.UnitS Go.Proofs.YthbbmookhcalkaaGreatDoor.Refs Go.Proofs.YthbbmookhcalkaaGreatDoor.KeepD Go.Proofs.YthbbmookhcalkaaGreatDoor.KeepA Go.Proofs.YthbbmookhcalkaaGreatDoor.FoldR Go.Proofs.YthbbmookhcalkaaGreatDoor.FoldD
set_option linter.unusedVariables false
set_option maxRecDepth 100000

theorem has_mem {ss : List ByteArray} {s : ByteArray} : hasB ss s = true ↔ s ∈ ss := by
  unfold hasB
  rw [List.any_eq_true]
  constructor
  · rintro ⟨t, ht, e⟩
    rw [← bytes_eq.1 (beq_iff_eq.1 e)]; exact ht
  · intro h; exact ⟨s, h, beq_self_eq_true _⟩
theorem refs_fold : ∀ (xs : List InsD) (acc : List ByteArray) (r : ByteArray), r ∈ acc ∨ (∃ x ∈ xs, refsB x.o = true ∧ x.s = r) → r ∈ xs.foldl refStep acc
  | [], acc, r, h => by simpa using h
  | x :: xs, acc, r, h => by
    rw [List.foldl_cons]
    refine refs_fold xs _ r ?_
    have hm : r ∈ acc → r ∈ refStep acc x := fun h1 => by
      cases h : (refsB x.o && !hasB acc x.s)
      · rw [refs_skip h]; exact h1
      · rw [refs_put h]; exact List.mem_append_left _ h1
    rcases h with h | ⟨y, hy, h1, h2⟩
    · exact .inl (hm h)
    · rcases List.mem_cons.1 hy with rfl | hy
      · refine .inl ?_
        cases h : (refsB y.o && !hasB acc y.s)
        · rw [refs_skip h]
          rw [h1, Bool.true_and, Bool.not_eq_false', has_mem] at h
          rw [← h2]; exact h
        · rw [refs_put h, ← h2]; simp
      · exact .inr ⟨y, hy, h1, h2⟩
theorem refs_has {xs : List InsD} {x : InsD} (hx : x ∈ xs) (h : refsB x.o = true) : x.s ∈ refsOf xs := refs_fold xs [] _ (.inr ⟨x, hx, h, rfl⟩)

def nmA (fs : List FunD) (i : Nat) : ByteArray := (fs.getD i default).nm
def bdA (fs : List FunD) (i : Nat) : List InsD := (fs.getD i default).body
/-- The place of the function of a name (0 where there is none). -/
def idx (fs : List FunD) (s : ByteArray) : Nat := (findI fs s).toNat
/-- The name of what the function of a name is now. -/
def tf (fs : List FunD) (r : Nat → Nat) (s : ByteArray) : ByteArray := nmA fs (r (idx fs s))
def ren (fs : List FunD) (r : Nat → Nat) (xs : List InsD) : List InsD := mapB (tf fs r) xs
/-- A program is right: what is asked of it here. -/
def Prg (fs : List FunD) : Prop := 0 < fs.length ∧ (∀ i, i < fs.length → idx fs (nmA fs i) = i) ∧ (∀ i, i < fs.length → ∀ x ∈ bdA fs i, refsB x.o = true → nmA fs (idx fs x.s) = x.s)
theorem getD_is {fs : List FunD} {i : Nat} (h : i < fs.length) : fs.getD i default = fs[i] := by simp [List.getD, List.getElem?_eq_getElem h]
theorem idx_lt {fs : List FunD} (h : 0 < fs.length) (s : ByteArray) : idx fs s < fs.length := by
  unfold idx findI
  split
  · rename_i h; simpa using h
  · simpa using h
theorem prg_of {fs : List FunD} (h : keepOkB fs = true) : Prg fs := by
  obtain ⟨h1, h2, h3, h4, h5⟩ := keep_parts h
  refine ⟨h1, fun i hi => ?_, fun i hi x hx hr => ?_⟩
  · unfold nmA idx
    rw [getD_is hi]
    by_cases he : findI fs fs[i].nm = (i : Int)
    · rw [he]; rfl
    · rw [apartF_bad hi he] at h4; cases h4
  · unfold bdA at hx
    rw [getD_is hi] at hx
    have h0 := h5 _ (List.getElem_mem hi) _ (refs_has hx hr)
    unfold nmA idx
    unfold findI at h0 ⊢
    split at h0
    · rename_i hlt
      rw [if_pos hlt, Int.toNat_natCast, getD_is hlt]
      exact bytes_eq.1 (isNm_iff.1 (List.findIdx_getElem (w := hlt)))
    · omega
theorem mapI_tf {f g : ByteArray → ByteArray} {x : InsD} (h : refsB x.o = true → f x.s = g x.s) : mapI f x = mapI g x := by
  unfold mapI
  split
  · rename_i hr; rw [h hr]
  · rfl
theorem ren_congr {fs : List FunD} {r q : Nat → Nat} {xs : List InsD} (hp : Prg fs) (h : ∀ i, i < fs.length → r i = q i) : ren fs r xs = ren fs q xs := by
  unfold ren mapB
  refine List.map_congr_left fun x _ => mapI_tf fun _ => ?_
  unfold tf
  rw [h _ (idx_lt hp.1 _)]
theorem mapI_mapI (f g : ByteArray → ByteArray) (x : InsD) : mapI f (mapI g x) = mapI (fun s => f (g s)) x := by
  unfold mapI
  cases h : refsB x.o <;> simp [h]
theorem mapB_mapB (f g : ByteArray → ByteArray) (xs : List InsD) : mapB f (mapB g xs) = mapB (fun s => f (g s)) xs := by
  unfold mapB
  rw [List.map_map]
  exact List.map_congr_left fun x _ => mapI_mapI f g x
/-- What is told twice is told as the second way says. -/
theorem ren_ren {fs : List FunD} {r q : Nat → Nat} {xs : List InsD} (hp : Prg fs) (hr : ∀ i, i < fs.length → r i < fs.length) (h : ∀ i, i < fs.length → q (r i) = q i) : ren fs q (ren fs r xs) = ren fs q xs := by
  unfold ren
  rw [mapB_mapB]
  unfold mapB
  refine List.map_congr_left fun x _ => mapI_tf fun _ => ?_
  have hi := idx_lt hp.1 x.s
  unfold tf
  rw [hp.2.1 _ (hr _ hi), h _ hi]
theorem ren_id {fs : List FunD} (hp : Prg fs) {i : Nat} (hi : i < fs.length) : ren fs id (bdA fs i) = bdA fs i := by
  unfold ren mapB
  rw [List.map_eq_iff]
  intro j
  cases hx : (bdA fs i)[j]? with
  | none => rfl
  | some x =>
    have hm := List.mem_of_getElem? hx
    rw [Option.map_some]
    congr 1
    unfold mapI
    split
    · rename_i hr
      have := hp.2.2 i hi x hm hr
      unfold tf
      rw [show id (idx fs x.s) = idx fs x.s from rfl, this]
    · rfl

/-- Each function's place is no further on, and stays. -/
def Root (fs : List FunD) (r : Nat → Nat) : Prop := ∀ i, i < fs.length → r i ≤ i ∧ r (r i) = r i
/-- What has one body is one. -/
def Clo (fs : List FunD) (r : Nat → Nat) : Prop := Root fs r ∧ ∀ i k, i < fs.length → k < fs.length → ren fs r (bdA fs i) = ren fs r (bdA fs k) → r i = r k
/-- No more is one than must be. -/
def Fine (fs : List FunD) (r : Nat → Nat) : Prop := ∀ q, Clo fs q → ∀ i, i < fs.length → q (r i) = q i
/-- What became one has one body. -/
def Inv (fs : List FunD) (r : Nat → Nat) : Prop := ∀ i, i < fs.length → ren fs r (bdA fs i) = ren fs r (bdA fs (r i))
theorem clo_one {fs : List FunD} {r q : Nat → Nat} (h1 : Clo fs r) (h2 : Fine fs r) (h3 : Clo fs q) (h4 : Fine fs q) : ∀ i, i < fs.length → r i = q i := by
  intro i hi
  have a := h2 q h3 i hi
  have b := h4 r h1 i hi
  have c := (h1.1 i hi).1
  have d := (h3.1 i hi).1
  have e := (h3.1 (r i) (by omega)).1
  have f := (h1.1 (q i) (by omega)).1
  omega
/-- One more that becomes one: k is i now. -/
def upd (r : Nat → Nat) (i k : Nat) (x : Nat) : Nat := if r x = k then i else r x
structure St (fs : List FunD) (r : Nat → Nat) : Prop where
  root : Root fs r
  fine : Fine fs r
  inv : Inv fs r
theorem st_lt {fs : List FunD} {r : Nat → Nat} (h : Root fs r) : ∀ i, i < fs.length → r i < fs.length := fun i hi => by have := (h i hi).1; omega
theorem upd_root {fs : List FunD} {r : Nat → Nat} {i k : Nat} (h : Root fs r) (hk : k < fs.length) (hik : i < k) (hi : r i = i) (hrk : r k = k) : Root fs (upd r i k) := by
  intro x hx
  have := h x hx
  unfold upd
  by_cases e : r x = k
  · rw [if_pos e]
    have hx2 := h x hx
    exact ⟨by omega, by rw [if_neg (by omega), hi]⟩
  · rw [if_neg e, this.2, if_neg e]
    exact ⟨this.1, rfl⟩
theorem upd_comp {fs : List FunD} {r : Nat → Nat} {i k : Nat} (h : Root fs r) : ∀ x, x < fs.length → upd r i k (r x) = upd r i k x := by
  intro x hx
  unfold upd
  rw [(h x hx).2]
theorem upd_st {fs : List FunD} {r : Nat → Nat} {i k : Nat} (hp : Prg fs) (h : St fs r) (hk : k < fs.length) (hik : i < k) (hi : r i = i) (hrk : r k = k) (hb : ren fs r (bdA fs i) = ren fs r (bdA fs k)) : St fs (upd r i k) := by
  have hlt := st_lt h.root
  have hc := upd_comp (i := i) (k := k) h.root
  refine ⟨upd_root h.root hk hik hi hrk, fun q hq x hx => ?_, fun x hx => ?_⟩
  · have hf := h.fine q hq
    unfold upd
    split
    · rename_i e
      have e2 : q i = q k := hq.2 i k (by omega) hk (by rw [← ren_ren hp hlt hf, hb, ren_ren hp hlt hf])
      rw [e2, ← e, hf x hx]
    · exact hf x hx
  · have e1 : ren fs (upd r i k) (bdA fs x) = ren fs (upd r i k) (bdA fs (r x)) := by
      rw [← ren_ren hp hlt hc, h.inv x hx, ren_ren hp hlt hc]
    rw [e1]
    by_cases e : r x = k
    · have eu : upd r i k x = i := by unfold upd; rw [if_pos e]
      rw [eu, e, ← ren_ren hp hlt hc, ← hb, ren_ren hp hlt hc]
    · have eu : upd r i k x = r x := by unfold upd; rw [if_neg e]
      rw [eu]
theorem id_st {fs : List FunD} : St fs id := ⟨fun i _ => ⟨Nat.le_refl _, rfl⟩, fun q _ i _ => rfl, fun i _ => rfl⟩
/-- .. and where no two that stay have one body, all that has one body is one. -/
theorem clo_of {fs : List FunD} {r : Nat → Nat} (h : St fs r) (hn : ∀ i k, i < k → k < fs.length → r i = i → r k = k → ren fs r (bdA fs i) ≠ ren fs r (bdA fs k)) : Clo fs r := by
  refine ⟨h.root, fun i k hi hk hb => ?_⟩
  rw [h.inv i hi, h.inv k hk] at hb
  have a := h.root i hi
  have b := h.root k hk
  rcases Nat.lt_trichotomy (r i) (r k) with hl | he | hl
  · exact absurd hb (hn _ _ hl (by omega) a.2 b.2)
  · exact he
  · exact absurd hb.symm (hn _ _ hl (by omega) b.2 a.2)

/-- The places that stay, of the first m. -/
def stays (r : Nat → Nat) (m : Nat) : List Nat := (List.range m).filter fun i => r i == i
def leftF (fs : List FunD) (r : Nat → Nat) (i : Nat) : FunD := ⟨nmA fs i, (fs.getD i default).wk, ren fs r (bdA fs i)⟩
/-- What is left of the first m functions. -/
def leftN (fs : List FunD) (r : Nat → Nat) (m : Nat) : List FunD := (stays r m).map (leftF fs r)
def left (fs : List FunD) (r : Nat → Nat) : List FunD := leftN fs r fs.length
theorem stays_skip {r : Nat → Nat} {m : Nat} (h : r m ≠ m) : stays r (m + 1) = stays r m := by
  unfold stays
  rw [List.range_succ, List.filter_append]
  simp [h]
theorem stays_more {r : Nat → Nat} {m : Nat} (h : r m = m) : stays r (m + 1) = stays r m ++ [m] := by
  unfold stays
  rw [List.range_succ, List.filter_append]
  simp [h]
theorem leftN_skip {fs : List FunD} {r : Nat → Nat} {m : Nat} (h : r m ≠ m) : leftN fs r (m + 1) = leftN fs r m := by unfold leftN; rw [stays_skip h]
theorem leftN_more {fs : List FunD} {r : Nat → Nat} {m : Nat} (h : r m = m) : leftN fs r (m + 1) = leftN fs r m ++ [leftF fs r m] := by unfold leftN; rw [stays_more h, List.map_append]; rfl
theorem left_congr {fs : List FunD} {r q : Nat → Nat} (hp : Prg fs) (h : ∀ i, i < fs.length → r i = q i) : left fs r = left fs q := by
  have e : stays r fs.length = stays q fs.length := by
    unfold stays
    exact List.filter_congr fun i hi => by rw [h i (List.mem_range.1 hi)]
  unfold left leftN
  rw [e]
  refine List.map_congr_left fun i _ => ?_
  unfold leftF
  rw [ren_congr hp h]
theorem stays_id (m : Nat) : stays id m = List.range m := by
  unfold stays
  rw [List.filter_eq_self]
  intro a _
  simp
theorem left_id {fs : List FunD} (hp : Prg fs) : left fs id = fs := by
  unfold left leftN
  rw [stays_id]
  refine List.ext_getElem (by simp) fun i h1 h2 => ?_
  rw [List.getElem_map, List.getElem_range]
  unfold leftF
  rw [ren_id hp h2]
  unfold nmA bdA
  rw [getD_is h2]
theorem stays_mem {r : Nat → Nat} {m i : Nat} : i ∈ stays r m ↔ i < m ∧ r i = i := by
  unfold stays
  rw [List.mem_filter, List.mem_range, beq_iff_eq]
theorem stays_up (r : Nat → Nat) (m : Nat) : (stays r m).Pairwise (· < ·) := List.Pairwise.filter _ List.pairwise_lt_range
theorem stays_upd {fs : List FunD} {r : Nat → Nat} {i k : Nat} (h : Root fs r) (hik : i < k) (hi : r i = i) (hrk : r k = k) : stays (upd r i k) fs.length = (stays r fs.length).filter fun x => x != k := by
  unfold stays
  rw [List.filter_filter]
  refine List.filter_congr fun x hx => ?_
  rw [List.mem_range] at hx
  unfold upd
  by_cases e : r x = k
  · rw [if_pos e]
    by_cases e2 : x = k
    · subst e2
      have : ¬ i = x := by omega
      simp [this]
    · have h1 : ¬ i = x := fun e3 => by subst e3; omega
      have h2 : ¬ r x = x := fun e3 => by omega
      rw [beq_eq_false_iff_ne.2 h1, beq_eq_false_iff_ne.2 h2, Bool.and_false]
  · rw [if_neg e]
    by_cases e2 : x = k
    · subst e2; exact absurd hrk e
    · simp [e2]
/-- The k-th of a list is taken out: those that are not it. -/
theorem pick_out {R : List Nat} (h : R.Pairwise (· < ·)) {b : Nat} (hb : b < R.length) (f : Nat → FunD) : (((List.range R.length).filter fun x => x != b).map fun x => f (R.getD x 0)) = (R.filter fun x => x != R[b]).map f := by
  have e : R = (List.range R.length).map fun x => R.getD x 0 := by
    refine List.ext_getElem (by simp) fun i h1 h2 => ?_
    rw [List.getElem_map, List.getElem_range]
    simp [List.getD, List.getElem?_eq_getElem h1]
  have e2 : (R.filter fun x => x != R[b]) = ((List.range R.length).filter fun x => x != b).map fun x => R.getD x 0 := by
    obtain ⟨y, hy⟩ : ∃ y, R[b] = y := ⟨_, rfl⟩
    have hyb : R.getD b 0 = y := by rw [← hy]; simp [List.getD, List.getElem?_eq_getElem hb]
    rw [hy]
    conv => lhs; rw [e]
    rw [List.filter_map]
    congr 1
    refine List.filter_congr fun x hx => ?_
    rw [List.mem_range] at hx
    show (R.getD x 0 != y) = _
    have e3 : R.getD x 0 = R[x] := by simp [List.getD, List.getElem?_eq_getElem hx]
    by_cases e4 : x = b
    · subst e4; rw [hyb]; simp
    · rw [e3, ← hy]
      have : R[x] ≠ R[b] := by
        rcases Nat.lt_or_gt_of_ne e4 with hl | hl
        · have := List.pairwise_iff_getElem.1 h x b hx hb hl; omega
        · have := List.pairwise_iff_getElem.1 h b x hb hx hl; omega
      rw [bne_iff_ne.2 this, bne_iff_ne.2 e4]
  rw [e2, List.map_map]
  rfl

/-- A list without its k-th function, of the first m, each naming of the k-th being of the i-th. -/
def oneN (g : List FunD) (i k m : Nat) : List FunD := ((List.range m).filter fun x => x != k).map fun x => ⟨nmA g x, (g.getD x default).wk, renB (nmA g k) (nmA g i) (bdA g x)⟩
def oneL (g : List FunD) (i k : Nat) : List FunD := oneN g i k g.length
theorem oneN_skip {g : List FunD} {i k : Nat} : oneN g i k (k + 1) = oneN g i k k := by
  unfold oneN
  rw [List.range_succ, List.filter_append]
  simp
theorem oneN_more {g : List FunD} {i k m : Nat} (h : m ≠ k) : oneN g i k (m + 1) = oneN g i k m ++ [⟨nmA g m, (g.getD m default).wk, renB (nmA g k) (nmA g i) (bdA g m)⟩] := by
  unfold oneN
  rw [List.range_succ, List.filter_append, List.map_append]
  simp [h]
theorem oneN_len (g : List FunD) (i k m : Nat) : (oneN g i k m).length ≤ m := by
  unfold oneN
  rw [List.length_map]
  have := List.length_filter_le (fun x => x != k) (List.range m)
  rw [List.length_range] at this
  exact this
theorem left_at {fs : List FunD} {r : Nat → Nat} {a : Nat} (ha : a < (stays r fs.length).length) : (left fs r).getD a default = leftF fs r ((stays r fs.length)[a]) := by
  unfold left leftN
  simp [List.getD, List.getElem?_eq_getElem ha]
theorem left_len (fs : List FunD) (r : Nat → Nat) : (left fs r).length = (stays r fs.length).length := by simp [left, leftN]
theorem ren_upd {fs : List FunD} {r : Nat → Nat} {i k : Nat} (hp : Prg fs) (h : Root fs r) (hik : i < k) (hk : k < fs.length) (xs : List InsD) : renB (nmA fs k) (nmA fs i) (ren fs r xs) = ren fs (upd r i k) xs := by
  rw [renB_map]
  unfold ren
  rw [mapB_mapB]
  unfold mapB
  refine List.map_congr_left fun x _ => mapI_tf fun _ => ?_
  have hi := st_lt h _ (idx_lt hp.1 x.s)
  unfold tf swap upd
  by_cases e : r (idx fs x.s) = k
  · rw [if_pos e, e]; simp
  · rw [if_neg e]
    have : ¬ (nmA fs (r (idx fs x.s))).toList = (nmA fs k).toList := fun e2 => by
      have e3 := congrArg (idx fs) (bytes_eq.1 e2)
      rw [hp.2.1 _ hi, hp.2.1 _ hk] at e3
      exact e e3
    simp [this]
/-- One step of the specification's: two of what is left become one. -/
theorem one_left {fs : List FunD} {r : Nat → Nat} (hp : Prg fs) (h : St fs r) {a b : Nat} (hab : a < b) (hb : b < (left fs r).length) (ho : OneB (left fs r) a b) : ∃ q, St fs q ∧ oneL (left fs r) a b = left fs q ∧ (left fs q).length + 1 = (left fs r).length := by
  rw [left_len] at hb
  have ha : a < (stays r fs.length).length := by omega
  obtain ⟨i, hi⟩ : ∃ i, (stays r fs.length)[a] = i := ⟨_, rfl⟩
  obtain ⟨k, hk⟩ : ∃ k, (stays r fs.length)[b] = k := ⟨_, rfl⟩
  have mi := stays_mem.1 (hi ▸ List.getElem_mem ha)
  have mk := stays_mem.1 (hk ▸ List.getElem_mem hb)
  have hik : i < k := by
    have := List.pairwise_iff_getElem.1 (stays_up r fs.length) a b ha hb hab
    omega
  have ga := left_at (fs := fs) (r := r) ha
  have gb := left_at (fs := fs) (r := r) hb
  rw [hi] at ga
  rw [hk] at gb
  unfold OneB at ho
  rw [ga, gb] at ho
  have hq := upd_st hp h mk.1 hik mi.2 mk.2 ho
  have hm := stays_upd (k := k) h.root hik mi.2 mk.2
  refine ⟨upd r i k, hq, ?_, ?_⟩
  · unfold oneL oneN
    have na : nmA (left fs r) a = nmA fs i := by unfold nmA; rw [ga]; rfl
    have nb : nmA (left fs r) b = nmA fs k := by unfold nmA; rw [gb]; rfl
    rw [na, nb, left_len]
    have hpo := pick_out (stays_up r fs.length) hb (fun x => (⟨nmA fs x, (fs.getD x default).wk, renB (nmA fs k) (nmA fs i) (ren fs r (bdA fs x))⟩ : FunD))
    rw [hk, ← hm] at hpo
    refine Eq.trans (List.map_congr_left fun x hx => ?_) (hpo.trans ?_)
    · have hx := (List.mem_filter.1 hx).1
      rw [List.mem_range] at hx
      have gx := left_at (fs := fs) (r := r) hx
      have ex : (stays r fs.length).getD x 0 = (stays r fs.length)[x] := by simp [List.getD, List.getElem?_eq_getElem hx]
      unfold nmA bdA at *
      rw [gx, ex]
      rfl
    · unfold left leftN
      refine List.map_congr_left fun x _ => ?_
      unfold leftF
      rw [ren_upd hp h.root hik mk.1]
  · have hnd : (stays r fs.length).Nodup := (stays_up r fs.length).imp (fun h => Nat.ne_of_lt h)
    have hmem : k ∈ stays r fs.length := hk ▸ List.getElem_mem hb
    rw [left_len, left_len, hm, ← hnd.erase_eq_filter, List.length_erase_of_mem hmem]
    omega
/-- .. and where there are no two: all that has one body is one. -/
theorem none_left {fs : List FunD} {r : Nat → Nat} (h : St fs r) (hn : TwoIs (left fs r) 0 none) : Clo fs r := by
  refine clo_of h fun i k hik hk hi hrk hb => ?_
  obtain ⟨a, ha, ea⟩ := List.getElem_of_mem (stays_mem.2 ⟨by omega, hi⟩ : i ∈ stays r fs.length)
  obtain ⟨b, hb', eb⟩ := List.getElem_of_mem (stays_mem.2 ⟨hk, hrk⟩ : k ∈ stays r fs.length)
  have hab : a < b := by
    refine Nat.lt_of_not_le fun hle => ?_
    rcases Nat.lt_or_eq_of_le hle with hl | hl
    · have := List.pairwise_iff_getElem.1 (stays_up r fs.length) b a hb' ha hl; omega
    · subst hl; omega
  refine hn a b (Nat.zero_le _) hab (by rw [left_len]; exact hb') ?_
  unfold OneB
  rw [left_at ha, left_at hb', ea, eb]
  exact hb

/-- What FoldOne answers. -/
noncomputable def foldOneL (fs : List FunD) : List FunD := if keepOkB fs then (match twoN fs with | none => fs | some (i, k) => left fs (upd id i k)) else []
open Classical in
/-- What FoldAll answers. -/
noncomputable def foldAllL (fs : List FunD) : List FunD := if keepOkB fs then (if h : ∃ r, Clo fs r ∧ Fine fs r then left fs h.choose else fs) else []
theorem all_of {fs : List FunD} {r : Nat → Nat} (hk : keepOkB fs = true) (h1 : Clo fs r) (h2 : Fine fs r) : foldAllL fs = left fs r := by
  have he : ∃ r, Clo fs r ∧ Fine fs r := ⟨r, h1, h2⟩
  unfold foldAllL
  rw [if_pos hk, dif_pos he]
  exact left_congr (prg_of hk) (clo_one he.choose_spec.1 he.choose_spec.2 h1 h2)

/-- Links: each place is linked to one that is no further on; the end of the chain. -/
def rt (L : List Nat) (i : Nat) : Nat := if h : L.getD i i < i then rt L (L.getD i i) else i
termination_by i
decreasing_by exact h
def Links (L : List Nat) : Prop := ∀ i, i < L.length → L.getD i i ≤ i
theorem rt_stays {L : List Nat} {i : Nat} (h : L.getD i i = i) : rt L i = i := by
  rw [rt, dif_neg (by omega)]
theorem rt_step {L : List Nat} {i : Nat} (hl : Links L) (hi : i < L.length) : rt L i = rt L (L.getD i i) := by
  by_cases e : L.getD i i = i
  · rw [e]
  · have := hl i hi
    rw [rt, dif_pos (by omega)]
theorem rt_spec {L : List Nat} (hl : Links L) : ∀ n i, i ≤ n → i < L.length → rt L i ≤ i ∧ L.getD (rt L i) (rt L i) = rt L i := by
  intro n
  induction n with
  | zero =>
    intro i h0 hi
    have e : L.getD i i = i := by have := hl i hi; omega
    rw [rt_stays e]
    exact ⟨Nat.le_refl _, e⟩
  | succ n ih =>
    intro i h0 hi
    by_cases e : L.getD i i = i
    · rw [rt_stays e]; exact ⟨Nat.le_refl _, e⟩
    · have h1 := hl i hi
      rw [rt_step hl hi]
      obtain ⟨h2, h3⟩ := ih (L.getD i i) (by omega) (by omega)
      exact ⟨by omega, h3⟩
theorem rt_root {L : List Nat} {fs : List FunD} (hl : Links L) (hn : L.length = fs.length) : Root fs (rt L) := by
  intro i hi
  obtain ⟨h1, h2⟩ := rt_spec hl i i (Nat.le_refl _) (by omega)
  exact ⟨h1, rt_stays h2⟩
theorem rt_iff {L : List Nat} {i : Nat} (hl : Links L) (hi : i < L.length) : rt L i = i ↔ L.getD i i = i := by
  constructor
  · intro h
    obtain ⟨h1, h2⟩ := rt_spec hl i i (Nat.le_refl _) hi
    rw [h] at h2
    exact h2
  · exact rt_stays
theorem set_getD {L : List Nat} {i k x : Nat} (hk : k < L.length) : (L.set k i).getD x x = if x = k then i else L.getD x x := by
  by_cases e : x = k
  · subst e
    rw [if_pos rfl]
    simp [List.getD, hk]
  · rw [if_neg e]
    simp [List.getD, Ne.symm e]
theorem links_set {L : List Nat} {i k : Nat} (hl : Links L) (hk : k < L.length) (hik : i ≤ k) : Links (L.set k i) := by
  intro x hx
  rw [List.length_set] at hx
  rw [set_getD hk]
  split
  · omega
  · exact hl x hx
theorem rt_set {L : List Nat} {i k : Nat} (hl : Links L) (hk : k < L.length) (hik : i < k) (hi : L.getD i i = i) (hkk : L.getD k k = k) : ∀ n x, x ≤ n → x < L.length → rt (L.set k i) x = upd (rt L) i k x := by
  have hs := links_set hl hk (Nat.le_of_lt hik)
  have hii : rt (L.set k i) i = i := rt_stays (by rw [set_getD hk, if_neg (by omega)]; exact hi)
  intro n
  induction n with
  | zero =>
    intro x h0 hx
    have e : L.getD x x = x := by have := hl x hx; omega
    have e2 : x ≠ k := by omega
    unfold upd
    rw [rt_stays e, if_neg e2]
    exact rt_stays (by rw [set_getD hk, if_neg e2]; exact e)
  | succ n ih =>
    intro x h0 hx
    by_cases e2 : x = k
    · subst e2
      unfold upd
      rw [rt_stays hkk, if_pos rfl, rt_step hs (by rw [List.length_set]; exact hx), set_getD hk, if_pos rfl, hii]
    · by_cases e : L.getD x x = x
      · unfold upd
        rw [rt_stays e, if_neg e2]
        exact rt_stays (by rw [set_getD hk, if_neg e2]; exact e)
      · have h1 := hl x hx
        have h3 := ih (L.getD x x) (by omega) (by omega)
        rw [rt_step hs (by rw [List.length_set]; exact hx), set_getD hk, if_neg e2, h3]
        unfold upd
        rw [← rt_step hl hx]
theorem range_links (n : Nat) : Links (List.range n) := by
  intro i hi
  simp at hi
  simp [List.getD, hi]
theorem rt_range (n i : Nat) : rt (List.range n) i = i := by
  refine rt_stays ?_
  by_cases h : i < n
  · simp [List.getD, h]
  · simp [List.getD, h]
end Go.Proofs.YthbbmookhcalkaaGreatDoor.FoldC
