/- What is reached, as plain data: names one behind the other, each once, with the functions that they are. -/
import Derived.Test.YthbbmookhcalkaaGreatPickP
import Derived.Test.YthbbmookhcalkaaGreatRefs
namespace Go.Proofs.YthbbmookhcalkaaGreat.KeepD
open Go.Proofs.YthbbmookhcalkaaGreat.Funs Go.Proofs.YthbbmookhcalkaaGreat.Open Go.Proofs.YthbbmookhcalkaaGreat.FunS Go.Proofs.YthbbmookhcalkaaGreat.UnitS Go.Proofs.YthbbmookhcalkaaGreat.Refs Go.Proofs.YthbbmookhcalkaaGreat.PickD Go.Proofs.YthbbmookhcalkaaGreat.PickP
set_option linter.unusedVariables false
set_option maxRecDepth 100000

def keepOkB (fs : List FunD) : Bool := (decide (1 ≤ fs.length) && decide (fs.length ≤ 40)) && fs.all okD && apartF fs && fs.all (fun f => (refsOf f.body).all fun r => decide (0 ≤ findI fs r))
def tl (ns : List ByteArray) : List (List UInt8) := ns.map ByteArray.toList
abbrev KSt := List ByteArray × List FunD
/-- The one that goes ahead, of a name. -/
def bestE (us : List (List FunD)) (s : ByteArray) : Option Ent := bestOf (hits us s)
def addOne (ns : List ByteArray) (r : ByteArray) : List ByteArray := if hasB ns r then ns else ns ++ [r]
def addN (ns rs : List ByteArray) : List ByteArray := rs.foldl addOne ns
/-- One name more is walked. -/
def goK (us : List (List FunD)) (st : KSt) : KSt :=
  match st.1[st.2.length]? with
  | none => st
  | some s => match bestE us s with
    | none => st
    | some x => (addN st.1 (refsOf x.2.2.body), st.2 ++ [x.2.2])
def stK (us : List (List FunD)) (entry : ByteArray) : Nat → KSt
  | 0 => ([entry], [])
  | n + 1 => goK us (stK us entry n)
def resK (st : KSt) : Option (List FunD) := if st.1.length = st.2.length then some st.2 else none
/-- What is reached from a name; none, if a name is nowhere. -/
def walkB (us : List (List FunD)) (entry : ByteArray) : Option (List FunD) := resK (stK us entry (us.flatten.length + 1))

theorem hasB_iff {ns : List ByteArray} {r : ByteArray} : hasB ns r = true ↔ r.toList ∈ tl ns := by
  unfold hasB tl
  rw [List.any_eq_true, List.mem_map]
  simp
theorem addOne_has {ns : List ByteArray} {r : ByteArray} (h : hasB ns r = true) : addOne ns r = ns := by unfold addOne; rw [if_pos h]
theorem addOne_new {ns : List ByteArray} {r : ByteArray} (h : hasB ns r = false) : addOne ns r = ns ++ [r] := by unfold addOne; rw [h]; rfl
theorem addOne_mem {ns : List ByteArray} {r : ByteArray} (x : List UInt8) : x ∈ tl (addOne ns r) ↔ x ∈ tl ns ∨ x = r.toList := by
  cases h : hasB ns r
  · rw [addOne_new h]; simp [tl]
  · rw [addOne_has h]
    have := hasB_iff.1 h
    constructor
    · exact .inl
    · rintro (h | rfl)
      · exact h
      · exact this
theorem addN_mem {ns rs : List ByteArray} (x : List UInt8) : x ∈ tl (addN ns rs) ↔ x ∈ tl ns ∨ x ∈ tl rs := by
  induction rs generalizing ns with
  | nil => simp [addN, tl]
  | cons r t ih =>
    show x ∈ tl (addN (addOne ns r) t) ↔ _
    rw [ih, addOne_mem]
    simp [tl, or_assoc]
theorem addOne_nodup {ns : List ByteArray} {r : ByteArray} (h : (tl ns).Nodup) : (tl (addOne ns r)).Nodup := by
  cases hh : hasB ns r
  · rw [addOne_new hh]
    unfold tl at *
    rw [List.map_append]
    refine List.nodup_append.2 ⟨h, by simp, fun a ha b hb e => ?_⟩
    have : b = r.toList := by simpa using hb
    subst e this
    rw [hasB_iff.2 ha] at hh
    cases hh
  · rw [addOne_has hh]; exact h
theorem addN_nodup {ns rs : List ByteArray} (h : (tl ns).Nodup) : (tl (addN ns rs)).Nodup := by
  induction rs generalizing ns with
  | nil => exact h
  | cons r t ih => exact ih (addOne_nodup h)
theorem addOne_pre (ns : List ByteArray) (r : ByteArray) : ∃ t, addOne ns r = ns ++ t ∧ t.length ≤ 1 := by
  cases h : hasB ns r
  · exact ⟨[r], addOne_new h, Nat.le_refl _⟩
  · exact ⟨[], by rw [addOne_has h, List.append_nil], Nat.zero_le _⟩
theorem addN_pre (ns rs : List ByteArray) : ∃ t, addN ns rs = ns ++ t ∧ t.length ≤ rs.length := by
  induction rs generalizing ns with
  | nil => exact ⟨[], by simp [addN], Nat.le_refl _⟩
  | cons r t ih =>
    obtain ⟨t1, h1, l1⟩ := addOne_pre ns r
    obtain ⟨t2, h2, l2⟩ := ih (addOne ns r)
    refine ⟨t1 ++ t2, ?_, by rw [List.length_append, List.length_cons]; omega⟩
    show addN (addOne ns r) t = _
    rw [h2, h1, List.append_assoc]
theorem addN_snoc {rs : List ByteArray} {k : Nat} (ns : List ByteArray) (hk : k < rs.length) : addN ns (rs.take (k + 1)) = addOne (addN ns (rs.take k)) rs[k] := by
  unfold addN
  rw [List.take_succ_eq_append_getElem hk, List.foldl_append]
  rfl
theorem addN_sized {ns rs : List ByteArray} {m : Nat} (h : ∀ s ∈ ns, s.size ≤ m) (k : ∀ s ∈ rs, s.size ≤ m) : ∀ s ∈ addN ns rs, s.size ≤ m := by
  induction rs generalizing ns with
  | nil => exact h
  | cons r t ih =>
    refine ih (ns := addOne ns r) ?_ (fun s hs => k s (List.mem_cons_of_mem _ hs))
    unfold addOne
    split
    · exact h
    · intro s hs
      rcases List.mem_append.1 hs with hs | hs
      · exact h s hs
      · rw [List.mem_singleton.1 hs]; exact k r (List.mem_cons_self ..)

theorem best_mem {us : List (List FunD)} {s : ByteArray} {x : Ent} (h : bestE us s = some x) : ∃ hi : x.1 < us.length, ∃ hk : x.2.1 < us[x.1].length, us[x.1][x.2.1] = x.2.2 ∧ x.2.2.nm.toList = s.toList := by
  have hm : x ∈ hits us s := by
    unfold bestE bestOf at h
    cases hs : (strong (hits us s)).head? with
    | some c =>
      rw [hs] at h; cases h
      have hcs : x ∈ strong (hits us s) := List.mem_of_mem_head? (by rw [hs]; rfl)
      exact (List.mem_filter.1 hcs).1
    | none =>
      rw [hs] at h
      exact List.mem_of_mem_head? (by simpa using h)
  obtain ⟨h1, hi, hf, hk, hb⟩ := (hits_mem us.length (Nat.le_refl _)).1 hm
  obtain ⟨hk', hnm⟩ := find_is hf
  exact ⟨hi, hk, hb, by rw [← hb]; exact isNm_iff.1 hnm⟩
theorem best_flat {us : List (List FunD)} {s : ByteArray} {x : Ent} (h : bestE us s = some x) : x.2.2 ∈ us.flatten ∧ x.2.2.nm.toList = s.toList := by
  obtain ⟨hi, hk, e, hn⟩ := best_mem h
  exact ⟨List.mem_flatten.2 ⟨us[x.1], List.getElem_mem _, by rw [← e]; exact List.getElem_mem _⟩, hn⟩
theorem nodup_le {α : Type} [DecidableEq α] {l m : List α} (h : l.Nodup) (hs : ∀ x ∈ l, x ∈ m) : l.length ≤ m.length := by
  induction l generalizing m with
  | nil => exact Nat.zero_le _
  | cons a r ih =>
    obtain ⟨h1, h2⟩ := List.nodup_cons.1 h
    have ha := hs a (List.mem_cons_self ..)
    have := ih (m := m.erase a) h2 (fun x hx => (List.mem_erase_of_ne (fun e => h1 (by rw [← e]; exact hx))).2 (hs x (List.mem_cons_of_mem _ hx)))
    rw [List.length_erase_of_mem ha] at this
    have := List.length_pos_of_mem ha
    simp only [List.length_cons]
    omega

/-- What stands all the way. -/
structure InvK (us : List (List FunD)) (entry : ByteArray) (st : KSt) : Prop where
  nodup : (tl st.1).Nodup
  le : st.2.length ≤ st.1.length
  same : st.2.map (fun f => f.nm.toList) = tl (st.1.take st.2.length)
  mem : ∀ f ∈ st.2, f ∈ us.flatten
  best : ∀ i (h : i < st.2.length), ∃ s x, st.1[i]? = some s ∧ bestE us s = some x ∧ x.2.2 = st.2[i]
  head : st.1[0]? = some entry
  clos : ∀ f ∈ st.2, ∀ r ∈ refsOf f.body, r.toList ∈ tl st.1
theorem goK_inv {us : List (List FunD)} {entry : ByteArray} {st : KSt} (h : InvK us entry st) : InvK us entry (goK us st) := by
  unfold goK
  split
  · exact h
  · rename_i s hs
    split
    · exact h
    · rename_i x hx
      obtain ⟨t, ht, _⟩ := addN_pre st.1 (refsOf x.2.2.body)
      obtain ⟨hm, hn⟩ := best_flat hx
      have hlt : st.2.length < st.1.length := (List.getElem?_eq_some_iff.1 hs).1
      have hse : st.1[st.2.length] = s := (List.getElem?_eq_some_iff.1 hs).2
      refine ⟨addN_nodup h.nodup, ?_, ?_, ?_, ?_, ?_, ?_⟩
      · show (st.2 ++ [x.2.2]).length ≤ (addN st.1 _).length
        rw [ht, List.length_append, List.length_append]; simp; omega
      · show (st.2 ++ [x.2.2]).map _ = tl ((addN st.1 _).take (st.2 ++ [x.2.2]).length)
        rw [ht, List.length_append, List.length_singleton, List.take_append_of_le_length (by omega), List.take_succ_eq_append_getElem hlt, List.map_append, h.same]
        unfold tl
        rw [List.map_append, hse]
        simp [hn]
      · intro f hf
        rcases List.mem_append.1 hf with hf | hf
        · exact h.mem f hf
        · rw [List.mem_singleton.1 hf]; exact hm
      · intro i hi
        have hi' : i < st.2.length + 1 := by simpa using hi
        by_cases e : i = st.2.length
        · subst e
          refine ⟨s, x, ?_, hx, by simp⟩
          show (addN st.1 _)[st.2.length]? = some s
          rw [ht, List.getElem?_append_left hlt]; exact hs
        · obtain ⟨s', x', h1, h2, h3⟩ := h.best i (by omega)
          refine ⟨s', x', ?_, h2, ?_⟩
          · show (addN st.1 _)[i]? = some s'
            rw [ht, List.getElem?_append_left (by omega)]; exact h1
          · show x'.2.2 = (st.2 ++ [x.2.2])[i]
            rw [h3, List.getElem_append_left (by omega)]
      · show (addN st.1 _)[0]? = some entry
        rw [ht, List.getElem?_append_left (by omega)]; exact h.head
      · intro f hf r hr
        show r.toList ∈ tl (addN st.1 _)
        rw [addN_mem]
        rcases List.mem_append.1 hf with hf | hf
        · exact .inl (h.clos f hf r hr)
        · rw [List.mem_singleton.1 hf] at hr
          exact .inr (List.mem_map.2 ⟨r, hr, rfl⟩)
theorem stK_inv (us : List (List FunD)) (entry : ByteArray) : ∀ n, InvK us entry (stK us entry n)
  | 0 => ⟨by simp [stK, tl], by simp [stK], by simp [stK, tl], (fun f hf => by cases hf), (fun i hi => by simp [stK] at hi), rfl, (fun f hf => by cases hf)⟩
  | n + 1 => goK_inv (stK_inv us entry n)
theorem stK_bound (us : List (List FunD)) (entry : ByteArray) (n : Nat) : (stK us entry n).2.length ≤ us.flatten.length := by
  have h := stK_inv us entry n
  have h1 : ((stK us entry n).2.map fun f => f.nm.toList).Nodup := by
    rw [h.same]
    exact h.nodup.sublist (List.Sublist.map _ (List.take_sublist _ _))
  have := nodup_le (m := us.flatten.map fun f => f.nm.toList) h1 (fun x hx => by
    obtain ⟨f, hf, rfl⟩ := List.mem_map.1 hx
    exact List.mem_map.2 ⟨f, h.mem f hf, rfl⟩)
  rw [List.length_map, List.length_map] at this
  exact this
theorem stK_stuck {us : List (List FunD)} {entry : ByteArray} {n : Nat} (h : goK us (stK us entry n) = stK us entry n) : ∀ m, n ≤ m → stK us entry m = stK us entry n
  | 0, hm => by
    have : n = 0 := by omega
    subst this; rfl
  | m + 1, hm => by
    by_cases e : n = m + 1
    · rw [e]
    · rw [stK, stK_stuck h m (by omega), h]
/-- Where the walk stands, that is what is told. -/
theorem walk_end {us : List (List FunD)} {entry : ByteArray} {n : Nat} (hn : (stK us entry n).2.length = n) (h : goK us (stK us entry n) = stK us entry n) : walkB us entry = resK (stK us entry n) := by
  have hb := stK_bound us entry n
  unfold walkB
  rw [stK_stuck h _ (by omega)]
theorem go_done {us : List (List FunD)} {st : KSt} (h : st.2.length = st.1.length) : goK us st = st := by
  unfold goK
  rw [List.getElem?_eq_none (by omega)]
theorem go_none {us : List (List FunD)} {st : KSt} {s : ByteArray} (h : st.1[st.2.length]? = some s) (hb : bestE us s = none) : goK us st = st := by
  unfold goK
  rw [h]
  simp only
  rw [hb]
theorem go_some {us : List (List FunD)} {st : KSt} {s : ByteArray} {x : Ent} (h : st.1[st.2.length]? = some s) (hb : bestE us s = some x) : goK us st = (addN st.1 (refsOf x.2.2.body), st.2 ++ [x.2.2]) := by
  unfold goK
  rw [h]
  simp only
  rw [hb]
theorem stK_names (us : List (List FunD)) (entry : ByteArray) {m : Nat} (hb : ∀ f ∈ us.flatten, f.body.length ≤ m) : ∀ n, (stK us entry n).1.length ≤ 1 + n * m
  | 0 => by simp [stK]
  | n + 1 => by
    have ih := stK_names us entry hb n
    show (goK us (stK us entry n)).1.length ≤ _
    rw [Nat.succ_mul]
    unfold goK
    split
    · omega
    · split
      · omega
      · rename_i x hx
        obtain ⟨t, ht, hl⟩ := addN_pre (stK us entry n).1 (refsOf x.2.2.body)
        have h1 := refs_len x.2.2.body
        have h2 := hb _ (best_flat hx).1
        simp only
        rw [ht, List.length_append]
        omega
theorem refs_sized {xs : List InsD} {m : Nat} (h : ∀ x ∈ xs, x.s.size ≤ m) : ∀ s ∈ refsOf xs, s.size ≤ m := by
  have : ∀ (ys : List InsD) (acc : List ByteArray), (∀ x ∈ ys, x.s.size ≤ m) → (∀ s ∈ acc, s.size ≤ m) → ∀ s ∈ ys.foldl refStep acc, s.size ≤ m := by
    intro ys
    induction ys with
    | nil => intro acc _ h s hs; exact h s hs
    | cons y r ih =>
      intro acc hy ha
      refine ih _ (fun x hx => hy x (List.mem_cons_of_mem _ hx)) ?_
      unfold refStep
      split
      · intro s hs
        rcases List.mem_append.1 hs with hs | hs
        · exact ha s hs
        · rw [List.mem_singleton.1 hs]; exact hy y (List.mem_cons_self ..)
      · exact ha
  exact this xs [] h (fun s hs => by cases hs)
theorem stK_sized (us : List (List FunD)) (entry : ByteArray) {m : Nat} (he : entry.size ≤ m) (hb : ∀ f ∈ us.flatten, ∀ x ∈ f.body, x.s.size ≤ m) : ∀ n, ∀ s ∈ (stK us entry n).1, s.size ≤ m
  | 0 => fun s hs => by rw [List.mem_singleton.1 hs]; exact he
  | n + 1 => by
    have ih := stK_sized us entry he hb n
    show ∀ s ∈ (goK us (stK us entry n)).1, _
    unfold goK
    split
    · exact ih
    · split
      · exact ih
      · rename_i x hx
        exact addN_sized ih (refs_sized (hb _ (best_flat hx).1))
end Go.Proofs.YthbbmookhcalkaaGreat.KeepD
