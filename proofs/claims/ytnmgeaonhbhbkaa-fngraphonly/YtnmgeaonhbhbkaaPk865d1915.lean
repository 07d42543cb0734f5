/- Plain facts for the laws on who names whom. -/
import Derived.Test.YtnmgeaonhbhbkaaGraphD
namespace Go.Proofs.Ytnmgeaonhbhbkaa.GraphU
open Go.Proofs.Ytnmgeaonhbhbkaa.InsA Go.Proofs.Ytnmgeaonhbhbkaa.Funs Go.Proofs.Ytnmgeaonhbhbkaa.Open Go.Proofs.Ytnmgeaonhbhbkaa.FunS Go.Proofs.Ytnmgeaonhbhbkaa.UnitS Go.Proofs.Ytnmgeaonhbhbkaa.Refs Go.Proofs.Ytnmgeaonhbhbkaa.PickD Go.Proofs.Ytnmgeaonhbhbkaa.PickP Go.Proofs.Ytnmgeaonhbhbkaa.WantsS Go.Proofs.Ytnmgeaonhbhbkaa.WantsL Go.Proofs.Ytnmgeaonhbhbkaa.KeepD Go.Proofs.Ytnmgeaonhbhbkaa.KeepA Go.Proofs.Ytnmgeaonhbhbkaa.KeepW Go.Proofs.Ytnmgeaonhbhbkaa.KeepR Go.Proofs.Ytnmgeaonhbhbkaa.KeepT Go.Proofs.Ytnmgeaonhbhbkaa.WayD Go.Proofs.Ytnmgeaonhbhbkaa.GraphD
set_option linter.unusedVariables false
set_option maxRecDepth 100000

theorem bl_get {out : List ByteArray} {i : Nat} (hi : i < out.length) : out[i].toList ∈ bl out := List.mem_map.2 ⟨_, List.getElem_mem hi, rfl⟩
theorem gn_get {fs : List FunD} {P : FunD → Prop} {out : List ByteArray} (h : GN fs P out) {i : Nat} (hi : i < out.length) : keepOkB fs = true ∧ ∃ f ∈ fs, P f ∧ f.nm = out[i] := by
  obtain ⟨h1, f, hf, hp, e⟩ := (h.2 _).1 (bl_get hi)
  exact ⟨h1, f, hf, hp, ba_inj e⟩
theorem gn_has {fs : List FunD} {P : FunD → Prop} {out : List ByteArray} (h : GN fs P out) (t : ByteArray) : hasB out t = true ↔ keepOkB fs = true ∧ ∃ f ∈ fs, P f ∧ f.nm = t := by
  rw [has_mem]
  constructor
  · intro hm
    obtain ⟨i, hi, rfl⟩ := List.getElem_of_mem hm
    exact gn_get h hi
  · rintro ⟨h1, f, hf, hp, rfl⟩
    obtain ⟨y, hy, e⟩ := List.mem_map.1 ((h.2 _).2 ⟨h1, f, hf, hp, rfl⟩)
    rw [← ba_inj e]; exact hy
theorem gn_none {fs : List FunD} {P : FunD → Prop} {out : List ByteArray} (hok : keepOkB fs = false) (h : GN fs P out) : out.length = 0 := by
  refine Classical.byContradiction fun h0 => ?_
  have := (gn_get h (i := 0) (by omega)).1
  rw [hok] at this; cases this
theorem gn_not {fs : List FunD} {P : FunD → Prop} {out : List ByteArray} (h : GN fs P out) {f : FunD} (hf : f ∈ fs) (hp : ¬ P f) : hasB out f.nm = false := by
  cases hh : hasB out f.nm
  · rfl
  · obtain ⟨hok, g, hg, hpg, e⟩ := (gn_has h _).1 hh
    have : g = f := apart_eq (keep_parts hok).2.2.2.1 hg hf (by rw [e])
    subst this
    exact absurd hpg hp
theorem gn_yes {fs : List FunD} {P : FunD → Prop} {out : List ByteArray} (hok : keepOkB fs = true) (h : GN fs P out) {f : FunD} (hf : f ∈ fs) (hp : P f) : hasB out f.nm = true := (gn_has h _).2 ⟨hok, f, hf, hp, rfl⟩
/-- How many of the first k are so. -/
def cntF (fs : List FunD) (p : FunD → Bool) (k : Nat) : Nat := ((fs.take k).filter p).length
theorem cntF_zero (fs : List FunD) (p : FunD → Bool) : cntF fs p 0 = 0 := rfl
theorem cntF_le (fs : List FunD) (p : FunD → Bool) (k : Nat) : cntF fs p k ≤ k := by
  unfold cntF
  have h1 := List.length_filter_le p (fs.take k)
  have h2 := List.length_take_le k fs
  omega
theorem cntF_yes {fs : List FunD} {p : FunD → Bool} {k : Nat} (hk : k < fs.length) (h : p fs[k] = true) : cntF fs p (k + 1) = cntF fs p k + 1 := by
  unfold cntF
  rw [List.take_succ_eq_append_getElem hk, List.filter_append]
  simp [h]
theorem cntF_no {fs : List FunD} {p : FunD → Bool} {k : Nat} (hk : k < fs.length) (h : p fs[k] = false) : cntF fs p (k + 1) = cntF fs p k := by
  unfold cntF
  rw [List.take_succ_eq_append_getElem hk, List.filter_append]
  simp [h]
theorem cntF_all {fs : List FunD} {P : FunD → Prop} {out : List ByteArray} {p : FunD → Bool} (hok : keepOkB fs = true) (h : GN fs P out) (hp : ∀ f ∈ fs, p f = true ↔ P f) : cntF fs p fs.length = out.length := by
  unfold cntF
  rw [List.take_length]
  have hap := (keep_parts hok).2.2.2.1
  have hnd : ((fs.filter p).map fun f => f.nm.toList).Nodup := by
    have h0 : (fs.map fun f => f.nm.toList).Nodup := by
      unfold List.Nodup
      rw [List.pairwise_map]
      exact List.pairwise_iff_getElem.2 fun i j hi hj hij => (apartF_iff fs).1 hap i j hi hj hij
    exact h0.sublist (List.filter_sublist.map _)
  have h1 := nodup_le hnd (m := bl out) (fun x hx => by
    obtain ⟨f, hf, rfl⟩ := List.mem_map.1 hx
    obtain ⟨hf1, hf2⟩ := List.mem_filter.1 hf
    exact (h.2 _).2 ⟨hok, f, hf1, (hp f hf1).1 hf2, rfl⟩)
  have h2 := nodup_le (srt_nodup h.1) (m := (fs.filter p).map fun f => f.nm.toList) (fun x hx => by
    obtain ⟨_, f, hf, hp', rfl⟩ := (h.2 x).1 hx
    exact List.mem_map.2 ⟨f, List.mem_filter.2 ⟨hf, (hp f hf).2 hp'⟩, rfl⟩)
  simp [bl] at h1 h2
  omega
/-- A leaf reaches itself alone. -/
theorem leaf_reach {fs : List FunD} (hok : keepOkB fs = true) {f : FunD} (hf : f ∈ fs) (hl : LeafP f) {out : List ByteArray} (h : RN fs f.nm out) : out = [f.nm] := by
  have h0 : 0 ≤ findI fs f.nm := find_has hf rfl
  refine rn_one h ⟨List.pairwise_singleton _ _, fun x => ?_⟩
  have e : (∃ g ∈ keepList fs f.nm, g.nm.toList = x) ↔ x ∈ reachS fs f.nm := (List.mem_map (f := fun g : FunD => g.nm.toList)).symm
  rw [e]
  constructor
  · intro hx
    have : x = f.nm.toList := by simpa [bl] using hx
    rw [this]; exact reach_head hok h0
  · intro hx
    have := reach_ind hok (s := f.nm) (fun y => y = f.nm.toList) rfl (fun g hg e r hr => by
      have : g = f := apart_eq (keep_parts hok).2.2.2.1 hg hf e
      rw [this, hl] at hr; cases hr) x hx
    rw [this]; simp [bl]
theorem leaf_back {fs : List FunD} {f : FunD} (hl : LeafP f) : ¬ BackP fs f := by
  rintro ⟨r, hr, _⟩
  rw [hl] at hr; cases hr
end Go.Proofs.Ytnmgeaonhbhbkaa.GraphU
/- Plain facts on what is kept of a program: it is right, comes back as it did, and calls as deep. -/
namespace Go.Proofs.Ytnmgeaonhbhbkaa.OnlyD
open Go.Proofs.Ytnmgeaonhbhbkaa.InsA Go.Proofs.Ytnmgeaonhbhbkaa.Funs Go.Proofs.Ytnmgeaonhbhbkaa.Open Go.Proofs.Ytnmgeaonhbhbkaa.FunS Go.Proofs.Ytnmgeaonhbhbkaa.UnitS Go.Proofs.Ytnmgeaonhbhbkaa.Refs Go.Proofs.Ytnmgeaonhbhbkaa.PickD Go.Proofs.Ytnmgeaonhbhbkaa.PickP Go.Proofs.Ytnmgeaonhbhbkaa.WantsS Go.Proofs.Ytnmgeaonhbhbkaa.WantsL Go.Proofs.Ytnmgeaonhbhbkaa.KeepD Go.Proofs.Ytnmgeaonhbhbkaa.KeepA Go.Proofs.Ytnmgeaonhbhbkaa.KeepW Go.Proofs.Ytnmgeaonhbhbkaa.KeepR Go.Proofs.Ytnmgeaonhbhbkaa.KeepT Go.Proofs.Ytnmgeaonhbhbkaa.WayD Go.Proofs.Ytnmgeaonhbhbkaa.GraphD Go.Proofs.Ytnmgeaonhbhbkaa.GraphU
set_option linter.unusedVariables false
set_option maxRecDepth 100000

/-- What is kept. -/
def kept (fs : List FunD) : List FunD := keepList fs (fs.getD 0 default).nm
theorem first_nm {fs : List FunD} (h : 0 < fs.length) : fs.getD 0 default = fs[0] := by simp [List.getD, List.getElem?_eq_getElem h]
theorem first_found {fs : List FunD} (hok : keepOkB fs = true) : 0 ≤ findI fs (fs.getD 0 default).nm := by
  have h1 := (keep_parts hok).1
  rw [first_nm h1]
  exact find_has (List.getElem_mem h1) rfl
theorem kept_sub {fs : List FunD} (hok : keepOkB fs = true) : ∀ f ∈ kept fs, f ∈ fs := (list_facts hok).2.2
theorem kept_head {fs : List FunD} (hok : keepOkB fs = true) : ∃ h : 0 < (kept fs).length, (kept fs)[0] = fs[0]'(keep_parts hok).1 := by
  have h1 := (keep_parts hok).1
  obtain ⟨st, hi, hl, he⟩ := walk_ends hok (first_found hok)
  have hh := hi.head
  have hpos : 0 < st.1.length := (List.getElem?_eq_some_iff.1 hh).1
  have hk : kept fs = st.2 := he
  have hp2 : 0 < st.2.length := by omega
  have hs := hi.same
  rw [← hl, List.take_length] at hs
  have e0 : (st.2.map fun f => f.nm.toList)[0]? = (tl st.1)[0]? := by rw [hs]
  have e1 : (tl st.1)[0]? = some ((fs.getD 0 default).nm.toList) := by
    unfold tl
    rw [List.getElem?_map, hh]; rfl
  rw [e1, List.getElem?_map, List.getElem?_eq_getElem hp2] at e0
  have e2 : st.2[0].nm.toList = fs[0].nm.toList := by
    rw [first_nm h1] at e0
    simpa using e0
  refine ⟨by rw [hk]; exact hp2, ?_⟩
  have hm : st.2[0] ∈ fs := kept_sub hok _ (by rw [hk]; exact List.getElem_mem hp2)
  have : (kept fs)[0]'(by rw [hk]; exact hp2) = st.2[0] := by simp only [hk]
  rw [this]
  exact apart_eq (keep_parts hok).2.2.2.1 hm (List.getElem_mem h1) e2
theorem kept_name {fs : List FunD} {x : List UInt8} : x ∈ reachS fs (fs.getD 0 default).nm ↔ ∃ f ∈ kept fs, f.nm.toList = x := List.mem_map
theorem kept_mem {fs : List FunD} (hok : keepOkB fs = true) {f : FunD} (hf : f ∈ fs) : f ∈ kept fs ↔ f.nm.toList ∈ reachS fs (fs.getD 0 default).nm := by
  rw [kept_name]
  constructor
  · intro h; exact ⟨f, h, rfl⟩
  · rintro ⟨g, hg, e⟩
    have : g = f := apart_eq (keep_parts hok).2.2.2.1 (kept_sub hok g hg) hf e
    rw [← this]; exact hg
/-- What is named by what is kept is kept. -/
theorem kept_clos {fs : List FunD} (hok : keepOkB fs = true) {f : FunD} (hf : f ∈ kept fs) {r : ByteArray} (hr : r ∈ refsOf f.body) : ∃ g ∈ kept fs, g.nm.toList = r.toList := by
  have hff := kept_sub hok f hf
  exact kept_name.1 (reach_clos hok (first_found hok) hff ((kept_mem hok hff).1 hf) r hr)
theorem kept_apart {fs : List FunD} (hok : keepOkB fs = true) : apartF (kept fs) = true := by
  rw [apartF_iff]
  have h := (list_facts (s := (fs.getD 0 default).nm) hok).2.1
  unfold List.Nodup at h
  rw [List.pairwise_map] at h
  intro i j hi hj hij
  exact List.pairwise_iff_getElem.1 h i j hi hj hij
theorem kept_ok {fs : List FunD} (hok : keepOkB fs = true) : keepOkB (kept fs) = true := by
  obtain ⟨h0, _⟩ := kept_head hok
  have h40 : (kept fs).length ≤ 40 := (list_facts hok).1
  rw [keep_is, kept_apart hok, decide_eq_true (show 1 ≤ (kept fs).length from h0), decide_eq_true h40]
  have h1 : (kept fs).all okD = true := by
    rw [List.all_eq_true]
    intro f hf
    exact (keep_parts hok).2.2.1 f (kept_sub hok f hf)
  have h2 : (kept fs).all (refsIn (kept fs)) = true := by
    rw [List.all_eq_true]
    intro f hf
    refine refs_in fun j hj => ?_
    obtain ⟨g, hg, e⟩ := kept_clos hok hf (List.getElem_mem hj)
    exact find_has hg e
  rw [h1, h2]; rfl
/-- What is reached in it is what was reached. -/
theorem kept_reach {fs : List FunD} (hok : keepOkB fs = true) {s : ByteArray} (hs : 0 ≤ findI (kept fs) s) (x : List UInt8) : x ∈ reachS (kept fs) s ↔ x ∈ reachS fs s := by
  have hk := kept_ok hok
  have hsf : 0 ≤ findI fs s := by
    obtain ⟨h1, h2⟩ := find_nat hs
    exact find_has (kept_sub hok _ (List.getElem_mem h1)) h2
  constructor
  · refine reach_ind hk (fun x => x ∈ reachS fs s) (reach_head hok hsf) (fun f hf h r hr => ?_) x
    exact reach_clos hok hsf (kept_sub hok f hf) h r hr
  · refine reach_ind hok (fun x => x ∈ reachS (kept fs) s) (reach_head hk hs) (fun f hf h r hr => ?_) x
    obtain ⟨g, hg, e⟩ := List.mem_map.1 h
    have hgk : g ∈ kept fs := (list_facts hk).2.2 g hg
    have : g = f := apart_eq (keep_parts hok).2.2.2.1 (kept_sub hok g hgk) hf e
    subst this
    exact reach_clos hk hs hgk h r hr
theorem kept_back {fs : List FunD} (hok : keepOkB fs = true) {f : FunD} (hf : f ∈ kept fs) : BackP (kept fs) f ↔ BackP fs f := by
  unfold BackP
  constructor
  · rintro ⟨r, hr, h⟩
    exact ⟨r, hr, (kept_reach hok ((keep_parts (kept_ok hok)).2.2.2.2 f hf r hr) _).1 h⟩
  · rintro ⟨r, hr, h⟩
    exact ⟨r, hr, (kept_reach hok ((keep_parts (kept_ok hok)).2.2.2.2 f hf r hr) _).2 h⟩
/-- Its places among those of the program. -/
def plc (fs : List FunD) (u : Nat) : Nat := (findI fs ((kept fs).getD u default).nm).toNat
theorem plc_is {fs : List FunD} (hok : keepOkB fs = true) {u : Nat} (hu : u < (kept fs).length) : ∃ h : plc fs u < fs.length, fs[plc fs u] = (kept fs)[u] := by
  have hm := kept_sub hok _ (List.getElem_mem hu)
  have e : (kept fs).getD u default = (kept fs)[u] := by simp [List.getD, List.getElem?_eq_getElem hu]
  have h0 : 0 ≤ findI fs (kept fs)[u].nm := find_has hm rfl
  obtain ⟨h1, h2⟩ := find_nat h0
  unfold plc
  simp only [e]
  exact ⟨h1, apart_eq (keep_parts hok).2.2.2.1 (List.getElem_mem h1) hm h2⟩
theorem plc_zero {fs : List FunD} (hok : keepOkB fs = true) : plc fs 0 = 0 := by
  obtain ⟨h0, e⟩ := kept_head hok
  obtain ⟨h1, e1⟩ := plc_is hok h0
  exact nth_nm hok h1 (keep_parts hok).1 (by rw [e1, e])
theorem plc_steps {fs : List FunD} (hok : keepOkB fs = true) {u : Nat} (hu : u < (kept fs).length) : steps fs (plc fs u) = (steps (kept fs) u).map fun s => (plc fs s.1, s.2) := by
  obtain ⟨h1, e1⟩ := plc_is hok hu
  rw [steps_at h1, steps_at hu, e1]
  unfold stp stpL
  rw [List.map_map]
  refine List.map_congr_left fun x hx => ?_
  obtain ⟨hx1, hx2⟩ := List.mem_filter.1 hx
  have hkr := ref_ok (kept_ok hok) (List.getElem_mem hu) hx1 hx2
  obtain ⟨h2, e2⟩ := find_nat hkr
  obtain ⟨h3, e3⟩ := plc_is hok h2
  have hfr : 0 ≤ findI fs x.s := find_has (kept_sub hok _ (List.getElem_mem h2)) e2
  obtain ⟨h4, e4⟩ := find_nat hfr
  show ((findI fs x.s).toNat, x.o == 3) = (plc fs (findI (kept fs) x.s).toNat, x.o == 3)
  congr 1
  exact nth_nm hok h4 h3 (by rw [e3]; exact ba_inj (e4.trans e2.symm))
theorem plc_way {fs : List FunD} (hok : keepOkB fs = true) : ∀ {k u c v : Nat}, u < (kept fs).length → (∃ v', WayG (steps fs) k (plc fs u) c v') → ∃ v', WayG (steps (kept fs)) k u c v'
  | 0, u, c, v, hu, h => by
    obtain ⟨v', h1, _⟩ := h
    exact ⟨u, h1, rfl⟩
  | k + 1, u, c, v, hu, h => by
    obtain ⟨v', t, b, c', h1, h2, e⟩ := h
    rw [plc_steps hok hu] at h1
    obtain ⟨s, hs, es⟩ := List.mem_map.1 h1
    cases es
    obtain ⟨v2, h3⟩ := plc_way hok (v := 0) (steps_lt (kept_ok hok) u hu s hs) ⟨v', h2⟩
    exact ⟨v2, s.1, s.2, c', hs, h3, e⟩
theorem plc_back {fs : List FunD} (hok : keepOkB fs = true) : ∀ {k u c v : Nat}, u < (kept fs).length → WayG (steps (kept fs)) k u c v → WayG (steps fs) k (plc fs u) c (plc fs v)
  | 0, u, c, v, hu, h => by
    obtain ⟨h1, rfl⟩ := h
    exact ⟨h1, rfl⟩
  | k + 1, u, c, v, hu, h => by
    obtain ⟨t, b, c', h1, h2, e⟩ := h
    refine ⟨plc fs t, b, c', ?_, plc_back hok (steps_lt (kept_ok hok) u hu _ h1) h2, e⟩
    rw [plc_steps hok hu]
    exact List.mem_map.2 ⟨(t, b), h1, rfl⟩
theorem kept_sup {fs : List FunD} (hok : keepOkB fs = true) (m : Nat) : Sup (steps (kept fs)) 0 m ↔ Sup (steps fs) 0 m := by
  obtain ⟨h0, _⟩ := kept_head hok
  have hz := plc_zero hok
  constructor
  · rintro ⟨⟨k, v, h1⟩, h2⟩
    refine ⟨⟨k, plc fs v, by have := plc_back hok h0 h1; rw [hz] at this; exact this⟩, fun k' c v' h => ?_⟩
    obtain ⟨v2, h3⟩ := plc_way hok (v := 0) h0 (k := k') (c := c) ⟨v', by rw [hz]; exact h⟩
    exact h2 k' c v2 h3
  · rintro ⟨⟨k, v, h1⟩, h2⟩
    obtain ⟨v2, h3⟩ := plc_way hok (v := 0) h0 (k := k) (c := m) ⟨v, by rw [hz]; exact h1⟩
    refine ⟨⟨k, v2, h3⟩, fun k' c v' h => h2 k' c (plc fs v') (by have := plc_back hok h0 h; rw [hz] at this; exact this)⟩
theorem kept_deep {fs : List FunD} (hok : keepOkB fs = true) {r : Int} : Deepest (steps (kept fs)) r ↔ Deepest (steps fs) r := by
  unfold Deepest
  simp only [kept_sup hok]
/-- How many of the first i names are of the functions of a list. -/
def cntN (qs : List FunD) (out : List ByteArray) (i : Nat) : Nat := ((out.take i).filter fun t => qs.any fun f => f.nm.toList == t.toList).length
def cntQ (qs : List FunD) (t : ByteArray) (k : Nat) : Nat := ((qs.take k).filter fun f => f.nm.toList == t.toList).length
theorem cntQ_yes {qs : List FunD} {t : ByteArray} {k : Nat} (hk : k < qs.length) (h : (qs[k].nm.toList == t.toList) = true) : cntQ qs t (k + 1) = cntQ qs t k + 1 := by
  unfold cntQ
  rw [List.take_succ_eq_append_getElem hk, List.filter_append]
  simp only [List.filter, h, List.length_append, List.length_singleton]
theorem cntQ_no {qs : List FunD} {t : ByteArray} {k : Nat} (hk : k < qs.length) (h : (qs[k].nm.toList == t.toList) = false) : cntQ qs t (k + 1) = cntQ qs t k := by
  unfold cntQ
  rw [List.take_succ_eq_append_getElem hk, List.filter_append]
  simp only [List.filter, h, List.append_nil]
theorem cntQ_le (qs : List FunD) (t : ByteArray) (k : Nat) : cntQ qs t k ≤ k := by
  unfold cntQ
  have h1 := List.length_filter_le (fun f : FunD => f.nm.toList == t.toList) (qs.take k)
  have h2 := List.length_take_le k qs
  omega
theorem cntN_le (qs : List FunD) (out : List ByteArray) (i : Nat) : cntN qs out i ≤ i := by
  unfold cntN
  have h1 := List.length_filter_le (fun t : ByteArray => qs.any fun f => f.nm.toList == t.toList) (out.take i)
  have h2 := List.length_take_le i out
  omega
theorem cntQ_all {qs : List FunD} (h : (qs.map fun f => f.nm.toList).Nodup) (t : ByteArray) : cntQ qs t qs.length = if qs.any (fun f => f.nm.toList == t.toList) then 1 else 0 := by
  unfold cntQ
  rw [List.take_length]
  induction qs with
  | nil => rfl
  | cons f qs ih =>
    rw [List.map_cons, List.nodup_cons] at h
    have ih' := ih h.2
    cases hq : (f.nm.toList == t.toList)
    · simp only [List.filter, hq, List.any_cons, Bool.false_or]; exact ih'
    · have hn : qs.filter (fun f => f.nm.toList == t.toList) = [] := by
        rw [List.filter_eq_nil_iff]
        intro g hg hgt
        refine h.1 (List.mem_map.2 ⟨g, hg, ?_⟩)
        rw [beq_iff_eq.1 hgt, beq_iff_eq.1 hq]
      simp only [List.filter, hq, List.any_cons, Bool.true_or, hn]; rfl
theorem cntN_next {qs : List FunD} (h : (qs.map fun f => f.nm.toList).Nodup) {out : List ByteArray} {i : Nat} (hi : i < out.length) : cntN qs out (i + 1) = cntN qs out i + cntQ qs out[i] qs.length := by
  rw [cntQ_all h]
  unfold cntN
  rw [List.take_succ_eq_append_getElem hi, List.filter_append]
  cases hq : qs.any (fun f => f.nm.toList == out[i].toList)
  · simp only [List.filter, hq, List.length_append]; rfl
  · simp only [List.filter, hq, List.length_append]; rfl
theorem cntN_all {fs : List FunD} (hok : keepOkB fs = true) {ob oc : List ByteArray} (hb : GN fs (BackP fs) ob) (hc : GN (kept fs) (BackP (kept fs)) oc) : cntN (kept fs) ob ob.length = oc.length := by
  unfold cntN
  rw [List.take_length]
  have hnd : ((ob.filter fun t => (kept fs).any fun f => f.nm.toList == t.toList).map ByteArray.toList).Nodup := (srt_nodup hb.1).sublist (List.filter_sublist.map _)
  have h1 := nodup_le hnd (m := bl oc) (fun x hx => by
    obtain ⟨t, ht, rfl⟩ := List.mem_map.1 hx
    obtain ⟨ht1, ht2⟩ := List.mem_filter.1 ht
    obtain ⟨g, hg, e⟩ := List.any_eq_true.1 ht2
    obtain ⟨_, f, hf, hp, ef⟩ := (hb.2 _).1 (List.mem_map.2 ⟨t, ht1, rfl⟩)
    have : g = f := apart_eq (keep_parts hok).2.2.2.1 (kept_sub hok g hg) hf ((beq_iff_eq.1 e).trans ef.symm)
    subst this
    exact (hc.2 _).2 ⟨kept_ok hok, g, hg, (kept_back hok hg).2 hp, ef⟩)
  have h2 := nodup_le (srt_nodup hc.1) (m := (ob.filter fun t => (kept fs).any fun f => f.nm.toList == t.toList).map ByteArray.toList) (fun x hx => by
    obtain ⟨_, f, hf, hp, rfl⟩ := (hc.2 x).1 hx
    have hm := (hb.2 f.nm.toList).2 ⟨hok, f, kept_sub hok f hf, (kept_back hok hf).1 hp, rfl⟩
    obtain ⟨t, ht, e⟩ := List.mem_map.1 hm
    exact List.mem_map.2 ⟨t, List.mem_filter.2 ⟨ht, List.any_eq_true.2 ⟨f, hf, by rw [e]; exact beq_self_eq_true _⟩⟩, e⟩)
  rw [List.length_map] at h1 h2
  simp [bl] at h1 h2
  omega
theorem kept_has {fs : List FunD} (hok : keepOkB fs = true) {ob oc : List ByteArray} (hb : GN fs (BackP fs) ob) (hc : GN (kept fs) (BackP (kept fs)) oc) {i : Nat} (hi : i < oc.length) : hasB ob oc[i] = true := by
  obtain ⟨_, f, hf, hp, e⟩ := gn_get hc hi
  rw [← e]
  exact gn_yes hok hb (kept_sub hok f hf) ((kept_back hok hf).1 hp)
end Go.Proofs.Ytnmgeaonhbhbkaa.OnlyD
