/- Plain facts on what is reached in a program that is right. -/
import Derived.Test.YtnmgeaonhbhbkaaPkc9ed0e7a
namespace Go.Proofs.Ytnmgeaonhbhbkaa.KeepT
open Go.Proofs.Ytnmgeaonhbhbkaa.Funs Go.Proofs.Ytnmgeaonhbhbkaa.Open Go.Proofs.Ytnmgeaonhbhbkaa.FunS Go.Proofs.Ytnmgeaonhbhbkaa.UnitS Go.Proofs.Ytnmgeaonhbhbkaa.Refs Go.Proofs.Ytnmgeaonhbhbkaa.PickD Go.Proofs.Ytnmgeaonhbhbkaa.PickP Go.Proofs.Ytnmgeaonhbhbkaa.WantsL Go.Proofs.Ytnmgeaonhbhbkaa.KeepD Go.Proofs.Ytnmgeaonhbhbkaa.KeepA Go.Proofs.Ytnmgeaonhbhbkaa.KeepW Go.Proofs.Ytnmgeaonhbhbkaa.KeepR
set_option linter.unusedVariables false
set_option maxRecDepth 100000

/-- The function of a name, in a program. -/
theorem best_one {fs : List FunD} {s : ByteArray} (h : 0 ≤ findI fs s) : ∃ x, bestE [fs] s = some x ∧ x.2.2 ∈ fs ∧ x.2.2.nm.toList = s.toList := by
  obtain ⟨j, hj, hf⟩ := find_at (u := fs) (s := s) (by omega)
  have hh : hitsTo [fs] s (0 + 1) = hitsTo [fs] s 0 ++ [(0, j, fs[j])] := hits_hit (us := [fs]) (n := 0) (by simp) hj hf
  have e : bestE [fs] s = some (0, j, fs[j]) := by
    unfold bestE hits
    show bestOf (hitsTo [fs] s (0 + 1)) = _
    rw [hh]
    unfold bestOf hitsTo
    cases hw : fs[j].wk
    · rw [List.nil_append, strong_one (x := (0, j, fs[j])) hw]; rfl
    · rw [List.nil_append, strong_none (x := (0, j, fs[j])) hw]; rfl
  obtain ⟨hk, hn⟩ := find_is hf
  exact ⟨_, e, List.getElem_mem _, isNm_iff.1 hn⟩
theorem find_has {fs : List FunD} {s : ByteArray} {f : FunD} (hf : f ∈ fs) (h : f.nm.toList = s.toList) : 0 ≤ findI fs s := by
  have hlt : fs.findIdx (isNm s) < fs.length := List.findIdx_lt_length_of_exists ⟨f, hf, isNm_iff.2 h⟩
  unfold findI
  rw [if_pos hlt]
  omega
theorem find_same {fs : List FunD} {s t : ByteArray} (h : s.toList = t.toList) : findI fs s = findI fs t := by
  have : isNm s = isNm t := by funext f; simp [isNm, h]
  unfold findI; rw [this]
theorem best_same {us : List (List FunD)} {s t : ByteArray} (h : s.toList = t.toList) : bestE us s = bestE us t := by
  have e : ∀ n, hitsTo us s n = hitsTo us t n := fun n => by
    induction n with
    | zero => rfl
    | succ n ih => rw [hitsTo, hitsTo, ih]; unfold hitU; rw [find_same h]
  unfold bestE hits; rw [e]
theorem apart_eq {fs : List FunD} (h : apartF fs = true) {f g : FunD} (hf : f ∈ fs) (hg : g ∈ fs) (e : f.nm.toList = g.nm.toList) : f = g := by
  obtain ⟨i, hi, rfl⟩ := List.getElem_of_mem hf
  obtain ⟨j, hj, rfl⟩ := List.getElem_of_mem hg
  rcases Nat.lt_trichotomy i j with h1 | h1 | h1
  · exact absurd e ((apartF_iff fs).1 h i j hi hj h1)
  · subst h1; rfl
  · exact absurd e.symm ((apartF_iff fs).1 h j i hj hi h1)
/-- In a program that is right every name that is walked is one's. -/
theorem st_found {fs : List FunD} (hok : keepOkB fs = true) {s : ByteArray} (hs : 0 ≤ findI fs s) : ∀ n, ∀ t ∈ (stK [fs] s n).1, 0 ≤ findI fs t
  | 0 => fun t ht => by rw [List.mem_singleton.1 ht]; exact hs
  | n + 1 => by
    have ih := st_found hok hs n
    show ∀ t ∈ (goK [fs] (stK [fs] s n)).1, _
    unfold goK
    split
    · exact ih
    · split
      · exact ih
      · rename_i x hx
        intro t ht
        have hm : t.toList ∈ tl (addN (stK [fs] s n).1 (refsOf x.2.2.body)) := List.mem_map.2 ⟨t, ht, rfl⟩
        rw [addN_mem] at hm
        rcases hm with hm | hm
        · obtain ⟨t', ht', e⟩ := List.mem_map.1 hm
          rw [← find_same e]; exact ih t' ht'
        · obtain ⟨t', ht', e⟩ := List.mem_map.1 hm
          have hxf : x.2.2 ∈ fs := by simpa using (best_flat hx).1
          rw [← find_same e]; exact (keep_parts hok).2.2.2.2 _ hxf t' ht'
theorem st_long {fs : List FunD} (hok : keepOkB fs = true) {s : ByteArray} (hs : 0 ≤ findI fs s) : ∀ n, (stK [fs] s n).1.length = (stK [fs] s n).2.length ∨ (stK [fs] s n).2.length = n
  | 0 => .inr rfl
  | n + 1 => by
    rcases st_long hok hs n with h | h
    · left
      show (goK [fs] (stK [fs] s n)).1.length = (goK [fs] (stK [fs] s n)).2.length
      rw [go_done h.symm]; exact h
    · by_cases hd : (stK [fs] s n).1.length = (stK [fs] s n).2.length
      · left
        show (goK [fs] (stK [fs] s n)).1.length = (goK [fs] (stK [fs] s n)).2.length
        rw [go_done hd.symm]; exact hd
      · right
        have hle := (stK_inv [fs] s n).le
        have hlt : (stK [fs] s n).2.length < (stK [fs] s n).1.length := by omega
        obtain ⟨x, hx, _⟩ := best_one (st_found hok hs n _ (List.getElem_mem hlt))
        show (goK [fs] (stK [fs] s n)).2.length = n + 1
        rw [go_some (List.getElem?_eq_getElem hlt) hx]
        simp [h]
/-- The walk ends well, and what it tells is what stands at its end. -/
theorem walk_ends {fs : List FunD} (hok : keepOkB fs = true) {s : ByteArray} (hs : 0 ≤ findI fs s) : ∃ st : KSt, InvK [fs] s st ∧ st.1.length = st.2.length ∧ keepList fs s = st.2 := by
  have hb := stK_bound [fs] s (([fs] : List (List FunD)).flatten.length + 1)
  have hd : (stK [fs] s (([fs] : List (List FunD)).flatten.length + 1)).1.length = (stK [fs] s (([fs] : List (List FunD)).flatten.length + 1)).2.length := by
    rcases st_long hok hs (([fs] : List (List FunD)).flatten.length + 1) with h | h
    · exact h
    · omega
  refine ⟨_, stK_inv [fs] s _, hd, ?_⟩
  rw [list_ok hok]
  unfold walkB resK
  rw [if_pos hd]; rfl
/-- The names that are reached. -/
def reachS (fs : List FunD) (s : ByteArray) : List (List UInt8) := (keepList fs s).map fun f => f.nm.toList
theorem reach_names {fs : List FunD} {s : ByteArray} {st : KSt} (hi : InvK [fs] s st) (hl : st.1.length = st.2.length) (he : keepList fs s = st.2) : reachS fs s = tl st.1 := by
  unfold reachS
  rw [he, hi.same, ← hl, List.take_length]
theorem reach_head {fs : List FunD} (hok : keepOkB fs = true) {s : ByteArray} (hs : 0 ≤ findI fs s) : s.toList ∈ reachS fs s := by
  obtain ⟨st, hi, hl, he⟩ := walk_ends hok hs
  rw [reach_names hi hl he]
  have h := hi.head
  exact List.mem_map.2 ⟨s, List.mem_of_getElem? h, rfl⟩
theorem reach_clos {fs : List FunD} (hok : keepOkB fs = true) {s : ByteArray} (hs : 0 ≤ findI fs s) {f : FunD} (hf : f ∈ fs) (hm : f.nm.toList ∈ reachS fs s) : ∀ r ∈ refsOf f.body, r.toList ∈ reachS fs s := by
  obtain ⟨st, hi, hl, he⟩ := walk_ends hok hs
  obtain ⟨g, hg, e⟩ := List.mem_map.1 hm
  have hgf : g ∈ fs := (list_facts hok).2.2 g hg
  have : g = f := apart_eq (keep_parts hok).2.2.2.1 hgf hf e
  subst this
  rw [reach_names hi hl he]
  rw [he] at hg
  exact hi.clos g hg
theorem reach_nodup {fs : List FunD} (hok : keepOkB fs = true) (s : ByteArray) : (reachS fs s).Nodup := (list_facts hok).2.1
/-- Whatever holds of a name, and goes on along what is named, holds of all that is reached from it. -/
theorem reach_ind {fs : List FunD} (hok : keepOkB fs = true) {s : ByteArray} (P : List UInt8 → Prop) (h0 : P s.toList) (hstep : ∀ f ∈ fs, P f.nm.toList → ∀ r ∈ refsOf f.body, P r.toList) : ∀ x ∈ reachS fs s, P x := by
  have key : ∀ n, ∀ t ∈ (stK [fs] s n).1, P t.toList := by
    intro n
    induction n with
    | zero => intro t ht; rw [List.mem_singleton.1 ht]; exact h0
    | succ n ih =>
      show ∀ t ∈ (goK [fs] (stK [fs] s n)).1, _
      unfold goK
      split
      · exact ih
      · rename_i u hu
        split
        · exact ih
        · rename_i x hx
          intro t ht
          have hm : t.toList ∈ tl (addN (stK [fs] s n).1 (refsOf x.2.2.body)) := List.mem_map.2 ⟨t, ht, rfl⟩
          rw [addN_mem] at hm
          rcases hm with hm | hm
          · obtain ⟨t', ht', e⟩ := List.mem_map.1 hm
            rw [← e]; exact ih t' ht'
          · obtain ⟨t', ht', e⟩ := List.mem_map.1 hm
            have hxf : x.2.2 ∈ fs := by simpa using (best_flat hx).1
            rw [← e]
            refine hstep _ hxf ?_ t' ht'
            rw [(best_flat hx).2]
            exact ih u (List.mem_of_getElem? hu)
  intro x hx
  unfold reachS keepList at hx
  rw [hok, if_pos rfl] at hx
  unfold walkB resK at hx
  have hi := stK_inv [fs] s (([fs] : List (List FunD)).flatten.length + 1)
  split at hx
  · simp only [Option.getD_some] at hx
    rw [hi.same] at hx
    obtain ⟨t, ht, rfl⟩ := List.mem_map.1 hx
    exact key _ t (List.mem_of_mem_take ht)
  · simp at hx
theorem reach_sub {fs : List FunD} (hok : keepOkB fs = true) {s t : ByteArray} (hs : 0 ≤ findI fs s) (ht : t.toList ∈ reachS fs s) : ∀ x ∈ reachS fs t, x ∈ reachS fs s :=
  reach_ind hok (fun x => x ∈ reachS fs s) ht (fun f hf hm r hr => reach_clos hok hs hf hm r hr)
theorem rn_mem {fs : List FunD} {s : ByteArray} {out : List ByteArray} (h : RN fs s out) (x : List UInt8) : x ∈ bl out ↔ x ∈ reachS fs s := by
  rw [h.2 x]
  unfold reachS
  rw [List.mem_map]
theorem rn_len {fs : List FunD} {s : ByteArray} {out : List ByteArray} (hok : keepOkB fs = true) (h : RN fs s out) : out.length = (reachS fs s).length := by
  have h1 := nodup_le (srt_nodup h.1) (fun x hx => (rn_mem h x).1 hx)
  have h2 := nodup_le (reach_nodup hok s) (fun x hx => (rn_mem h x).2 hx)
  have : (bl out).length = out.length := by simp [bl]
  omega
/-- What is reached from what is reached is not more. -/
theorem reach_le {fs : List FunD} {s t : ByteArray} {o o' : List ByteArray} (hok : keepOkB fs = true) (hs : 0 ≤ findI fs s) (h : RN fs s o) (h' : RN fs t o') (ht : t.toList ∈ bl o) : o'.length ≤ o.length := by
  rw [rn_len hok h, rn_len hok h']
  exact nodup_le (reach_nodup hok t) (reach_sub hok hs ((rn_mem h _).1 ht))
theorem rn_ne {fs : List FunD} {s : ByteArray} {out : List ByteArray} (h : RN fs s out) (hne : out ≠ []) : keepOkB fs = true ∧ 0 ≤ findI fs s := by
  cases hok : keepOkB fs
  · exfalso
    cases ho : out with
    | nil => exact hne ho
    | cons x r =>
      have := (h.2 x.toList).1 (by rw [ho]; exact List.mem_cons_self ..)
      rw [list_bad hok] at this
      obtain ⟨f, hf, _⟩ := this
      cases hf
  · refine ⟨rfl, Int.not_lt.1 fun hlt => ?_⟩
    cases ho : out with
    | nil => exact hne ho
    | cons x r =>
      have := (h.2 x.toList).1 (by rw [ho]; exact List.mem_cons_self ..)
      rw [list_miss hlt] at this
      obtain ⟨f, hf, _⟩ := this
      cases hf
/-- What is reached is the name itself, and what is reached from what its function names. -/
theorem reach_union {fs : List FunD} (hok : keepOkB fs = true) {s : ByteArray} (hs : 0 ≤ findI fs s) {f : FunD} (hf : f ∈ fs) (hn : f.nm.toList = s.toList) (x : List UInt8) : x ∈ reachS fs s ↔ x = s.toList ∨ ∃ r ∈ refsOf f.body, x ∈ reachS fs r := by
  have hin := reach_head hok hs
  constructor
  · refine reach_ind hok (fun x => x = s.toList ∨ ∃ r ∈ refsOf f.body, x ∈ reachS fs r) (.inl rfl) (fun g hg hm r hr => ?_) x
    rcases hm with hm | ⟨r', hr', hm⟩
    · have : g = f := apart_eq (keep_parts hok).2.2.2.1 hg hf (hm.trans hn.symm)
      subst this
      exact .inr ⟨r, hr, reach_head hok ((keep_parts hok).2.2.2.2 _ hg r hr)⟩
    · exact .inr ⟨r', hr', reach_clos hok ((keep_parts hok).2.2.2.2 _ hf r' hr') hg hm r hr⟩
  · rintro (rfl | ⟨r, hr, hx⟩)
    · exact hin
    · exact reach_sub hok hs (reach_clos hok hs hf (by rw [hn]; exact hin) r hr) x hx
end Go.Proofs.Ytnmgeaonhbhbkaa.KeepT
