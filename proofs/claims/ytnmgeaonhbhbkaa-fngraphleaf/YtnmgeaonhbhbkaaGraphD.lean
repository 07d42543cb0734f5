/- Plain data of the chapter on who names whom: the steps of a program, what comes back, what is told of it. -/
import Derived.Test.YtnmgeaonhbhbkaaKeepT
import Derived.Test.YtnmgeaonhbhbkaaWayD
namespace Go.Proofs.Ytnmgeaonhbhbkaa.GraphD
open Go.Proofs.Ytnmgeaonhbhbkaa.InsA Go.Proofs.Ytnmgeaonhbhbkaa.Funs Go.Proofs.Ytnmgeaonhbhbkaa.Open Go.Proofs.Ytnmgeaonhbhbkaa.FunS Go.Proofs.Ytnmgeaonhbhbkaa.UnitS Go.Proofs.Ytnmgeaonhbhbkaa.Refs Go.Proofs.Ytnmgeaonhbhbkaa.PickD Go.Proofs.Ytnmgeaonhbhbkaa.PickP Go.Proofs.Ytnmgeaonhbhbkaa.WantsS Go.Proofs.Ytnmgeaonhbhbkaa.WantsL Go.Proofs.Ytnmgeaonhbhbkaa.KeepD Go.Proofs.Ytnmgeaonhbhbkaa.KeepA Go.Proofs.Ytnmgeaonhbhbkaa.KeepW Go.Proofs.Ytnmgeaonhbhbkaa.KeepR Go.Proofs.Ytnmgeaonhbhbkaa.KeepT Go.Proofs.Ytnmgeaonhbhbkaa.WayD
set_option linter.unusedVariables false
set_option maxRecDepth 100000

theorem ba_inj {a b : ByteArray} (h : a.toList = b.toList) : a = b := by
  obtain ⟨⟨x⟩⟩ := a
  obtain ⟨⟨y⟩⟩ := b
  rw [ByteArray.toList_eq, ByteArray.toList_eq] at h
  simpa using h
theorem has_mem {ss : List ByteArray} {s : ByteArray} : hasB ss s = true ↔ s ∈ ss := by
  unfold hasB
  rw [List.any_eq_true]
  constructor
  · rintro ⟨t, ht, e⟩
    rw [← ba_inj (beq_iff_eq.1 e)]; exact ht
  · intro h; exact ⟨s, h, beq_self_eq_true _⟩
theorem refs_fold : ∀ (xs : List InsD) (acc : List ByteArray) (r : ByteArray), r ∈ xs.foldl refStep acc ↔ r ∈ acc ∨ ∃ x ∈ xs, refsB x.o = true ∧ x.s = r
  | [], acc, r => by simp
  | x :: xs, acc, r => by
    rw [List.foldl_cons, refs_fold xs]
    have e : r ∈ refStep acc x ↔ r ∈ acc ∨ (refsB x.o = true ∧ x.s = r) := by
      cases h : (refsB x.o && !hasB acc x.s)
      · rw [refs_skip h]
        constructor
        · exact .inl
        · rintro (h1 | ⟨h1, h2⟩)
          · exact h1
          · rw [h1, Bool.true_and, Bool.not_eq_false', has_mem] at h
            rw [← h2]; exact h
      · rw [refs_put h, List.mem_append, List.mem_singleton]
        rw [Bool.and_eq_true] at h
        constructor
        · rintro (h1 | h1)
          · exact .inl h1
          · exact .inr ⟨h.1, h1.symm⟩
        · rintro (h1 | ⟨_, h1⟩)
          · exact .inl h1
          · exact .inr h1.symm
    rw [e]
    constructor
    · rintro ((h1 | h1) | ⟨y, hy, h1⟩)
      · exact .inl h1
      · exact .inr ⟨x, List.mem_cons_self .., h1⟩
      · exact .inr ⟨y, List.mem_cons_of_mem _ hy, h1⟩
    · rintro (h1 | ⟨y, hy, h1⟩)
      · exact .inl (.inl h1)
      · rcases List.mem_cons.1 hy with rfl | hy
        · exact .inl (.inr h1)
        · exact .inr ⟨y, hy, h1⟩
theorem refs_mem {xs : List InsD} {r : ByteArray} : r ∈ refsOf xs ↔ ∃ x ∈ xs, refsB x.o = true ∧ x.s = r := by
  unfold refsOf
  rw [refs_fold]
  simp

/-- The step of an instruction. -/
def stepOf (fs : List FunD) (x : InsD) : Nat × Bool := ((findI fs x.s).toNat, x.o == 3)
def stpL (fs : List FunD) (xs : List InsD) : List (Nat × Bool) := (xs.filter fun x => refsB x.o).map (stepOf fs)
/-- The steps of a function. -/
def stp (fs : List FunD) (f : FunD) : List (Nat × Bool) := stpL fs f.body
def steps (fs : List FunD) : StepF := fun u => stp fs (fs.getD u default)
theorem stpL_snoc (fs : List FunD) {xs : List InsD} {k : Nat} (hk : k < xs.length) : stpL fs (xs.take (k + 1)) = if refsB xs[k].o then stpL fs (xs.take k) ++ [stepOf fs xs[k]] else stpL fs (xs.take k) := by
  unfold stpL
  rw [List.take_succ_eq_append_getElem hk, List.filter_append, List.map_append]
  cases h : refsB xs[k].o <;> simp [List.filter, h]
theorem stpL_len (fs : List FunD) (xs : List InsD) : (stpL fs xs).length ≤ xs.length := by
  unfold stpL
  rw [List.length_map]
  exact List.length_filter_le _ _
theorem stpL_take_len (fs : List FunD) (xs : List InsD) (k : Nat) : (stpL fs (xs.take k)).length ≤ k := by
  have := stpL_len fs (xs.take k)
  have := List.length_take_le k xs
  omega
theorem steps_at {fs : List FunD} {u : Nat} (hu : u < fs.length) : steps fs u = stp fs fs[u] := by
  unfold steps
  rw [show fs.getD u default = fs[u] by simp [List.getD, List.getElem?_eq_getElem hu]]
theorem stp_mem {fs : List FunD} {f : FunD} {s : Nat × Bool} : s ∈ stp fs f ↔ ∃ x ∈ f.body, refsB x.o = true ∧ stepOf fs x = s := by
  unfold stp stpL
  simp only [List.mem_map, List.mem_filter, and_assoc]
theorem stp_empty {fs : List FunD} {f : FunD} : (stp fs f).length = 0 ↔ refsOf f.body = [] := by
  rw [List.length_eq_zero_iff, List.eq_nil_iff_forall_not_mem, List.eq_nil_iff_forall_not_mem]
  constructor
  · intro h r hr
    obtain ⟨x, hx, h1, _⟩ := refs_mem.1 hr
    exact h _ (stp_mem.2 ⟨x, hx, h1, rfl⟩)
  · intro h s hs
    obtain ⟨x, hx, h1, _⟩ := stp_mem.1 hs
    exact h _ (refs_mem.2 ⟨x, hx, h1, rfl⟩)
theorem find_nat {fs : List FunD} {s : ByteArray} (h : 0 ≤ findI fs s) : ∃ hk : (findI fs s).toNat < fs.length, fs[(findI fs s).toNat].nm.toList = s.toList := by
  obtain ⟨hk, hn⟩ := find_is (k := (findI fs s).toNat) (show findI fs s = ((findI fs s).toNat : Int) by omega)
  exact ⟨hk, isNm_iff.1 hn⟩
theorem ref_ok {fs : List FunD} (hok : keepOkB fs = true) {f : FunD} (hf : f ∈ fs) {x : InsD} (hx : x ∈ f.body) (h : refsB x.o = true) : 0 ≤ findI fs x.s := (keep_parts hok).2.2.2.2 f hf _ (refs_mem.2 ⟨x, hx, h, rfl⟩)
/-- Where a step leads. -/
theorem stp_to {fs : List FunD} (hok : keepOkB fs = true) {f : FunD} (hf : f ∈ fs) {s : Nat × Bool} (hs : s ∈ stp fs f) : ∃ hk : s.1 < fs.length, fs[s.1].nm ∈ refsOf f.body := by
  obtain ⟨x, hx, h1, rfl⟩ := stp_mem.1 hs
  obtain ⟨hk, hn⟩ := find_nat (ref_ok hok hf hx h1)
  exact ⟨hk, (show fs[(findI fs x.s).toNat].nm ∈ refsOf f.body by rw [ba_inj hn]; exact refs_mem.2 ⟨x, hx, h1, rfl⟩)⟩
theorem ref_stp {fs : List FunD} (hok : keepOkB fs = true) {f : FunD} (hf : f ∈ fs) {r : ByteArray} (hr : r ∈ refsOf f.body) : ∃ s ∈ stp fs f, ∃ hk : s.1 < fs.length, fs[s.1].nm = r := by
  obtain ⟨x, hx, h1, rfl⟩ := refs_mem.1 hr
  obtain ⟨hk, hn⟩ := find_nat (ref_ok hok hf hx h1)
  exact ⟨_, stp_mem.2 ⟨x, hx, h1, rfl⟩, hk, ba_inj hn⟩
theorem steps_lt {fs : List FunD} (hok : keepOkB fs = true) : ∀ u, u < fs.length → ∀ s ∈ steps fs u, s.1 < fs.length := fun u hu s hs => by
  rw [steps_at hu] at hs
  exact (stp_to hok (List.getElem_mem hu) hs).1
theorem nth_nm {fs : List FunD} (hok : keepOkB fs = true) {i j : Nat} (hi : i < fs.length) (hj : j < fs.length) (h : fs[i].nm = fs[j].nm) : i = j := by
  have ha := (apartF_iff fs).1 (keep_parts hok).2.2.2.1
  rcases Nat.lt_trichotomy i j with h1 | h1 | h1
  · exact absurd (by rw [h]) (ha i j hi hj h1)
  · exact h1
  · exact absurd (by rw [h]) (ha j i hj hi h1)

/-- What names a name. -/
def ByP (s : ByteArray) (f : FunD) : Prop := s ∈ refsOf f.body
def LeafP (f : FunD) : Prop := refsOf f.body = []
def BackP (fs : List FunD) (f : FunD) : Prop := ∃ r ∈ refsOf f.body, f.nm.toList ∈ reachS fs r
/-- The names of those of which it is so, in order, each once; none where the program is not right. -/
def GN (fs : List FunD) (P : FunD → Prop) (out : List ByteArray) : Prop := srt (bl out) ∧ ∀ x, x ∈ bl out ↔ keepOkB fs = true ∧ ∃ f ∈ fs, P f ∧ f.nm.toList = x
theorem gn_one {fs : List FunD} {P : FunD → Prop} {o o' : List ByteArray} (h : GN fs P o) (h' : GN fs P o') : o = o' := bl_inj (srt_ext h.1 h'.1 (fun x => (h.2 x).trans (h'.2 x).symm))
theorem gn_bad {fs : List FunD} {P : FunD → Prop} (h : keepOkB fs = false) : GN fs P [] := ⟨List.Pairwise.nil, fun x => by simp [bl, h]⟩
theorem by_iff {fs : List FunD} (hok : keepOkB fs = true) {f : FunD} (hf : f ∈ fs) (s : ByteArray) : ByP s f ↔ ∃ t ∈ stp fs f, (fs.getD t.1 default).nm = s := by
  unfold ByP
  constructor
  · intro h
    obtain ⟨t, ht, hk, e⟩ := ref_stp hok hf h
    exact ⟨t, ht, by rw [show fs.getD t.1 default = fs[t.1] by simp [List.getD, List.getElem?_eq_getElem hk]]; exact e⟩
  · rintro ⟨t, ht, e⟩
    obtain ⟨hk, h⟩ := stp_to hok hf ht
    rw [show fs.getD t.1 default = fs[t.1] by simp [List.getD, List.getElem?_eq_getElem hk]] at e
    rw [← e]; exact h
theorem way_reach {fs : List FunD} (hok : keepOkB fs = true) {s : ByteArray} (hs : 0 ≤ findI fs s) : ∀ {k t c v : Nat} (ht : t < fs.length) (hv : v < fs.length), fs[t].nm.toList ∈ reachS fs s → WayG (steps fs) k t c v → fs[v].nm.toList ∈ reachS fs s
  | 0, t, c, v, ht, hv, h, hw => by obtain ⟨_, rfl⟩ := hw; exact h
  | k + 1, t, c, v, ht, hv, h, hw => by
    obtain ⟨t', b, c', h1, h2, rfl⟩ := hw
    rw [steps_at ht] at h1
    obtain ⟨hk, hr⟩ := stp_to hok (List.getElem_mem ht) h1
    exact way_reach hok hs hk hv (reach_clos hok hs (List.getElem_mem ht) h _ hr) h2
/-- What is reached behind a step is what ways of one step at least lead to. -/
theorem reach_way {fs : List FunD} (hok : keepOkB fs = true) {u v : Nat} (hu : u < fs.length) (hv : v < fs.length) : (∃ r ∈ refsOf fs[u].body, fs[v].nm.toList ∈ reachS fs r) ↔ ∃ k c, WayG (steps fs) (k + 1) u c v := by
  constructor
  · rintro ⟨r, hr, h⟩
    have key := reach_ind hok (s := r) (fun x => ∃ v, ∃ hv : v < fs.length, fs[v].nm.toList = x ∧ ∃ k c, WayG (steps fs) (k + 1) u c v) ?_ ?_ _ h
    · obtain ⟨v', hv', e, k, c, hw⟩ := key
      have : v' = v := nth_nm hok hv' hv (ba_inj e)
      subst this
      exact ⟨k, c, hw⟩
    · obtain ⟨s, hs, hk, e⟩ := ref_stp hok (List.getElem_mem hu) hr
      rw [← steps_at hu] at hs
      exact ⟨s.1, hk, by rw [e], 0, _, way_one (show (s.1, s.2) ∈ steps fs u from hs)⟩
    · rintro f hf ⟨v', hv', e, k, c, hw⟩ r' hr'
      have : f = fs[v'] := apart_eq (keep_parts hok).2.2.2.1 hf (List.getElem_mem hv') e.symm
      subst this
      obtain ⟨s, hs, hk, e⟩ := ref_stp hok (List.getElem_mem hv') hr'
      rw [← steps_at hv'] at hs
      exact ⟨s.1, hk, by rw [e], k + 1, _, way_snoc hw (show (s.1, s.2) ∈ steps fs v' from hs)⟩
  · rintro ⟨k, c, t, b, c', h1, h2, rfl⟩
    rw [steps_at hu] at h1
    obtain ⟨hk, hr⟩ := stp_to hok (List.getElem_mem hu) h1
    have h0 := (keep_parts hok).2.2.2.2 _ (List.getElem_mem hu) _ hr
    exact ⟨_, hr, way_reach hok h0 hk hv (reach_head hok h0) h2⟩
theorem back_iff {fs : List FunD} (hok : keepOkB fs = true) {u : Nat} (hu : u < fs.length) : BackP fs fs[u] ↔ ∃ k c, WayG (steps fs) (k + 1) u c u := reach_way hok hu hu
end Go.Proofs.Ytnmgeaonhbhbkaa.GraphD
