/- Plain facts for the laws on who names whom. -/
import Derived.Test.YtnmgeaonhbhbkaaGraphD
import Derived.Test.YtnmgeaonhbhbkaaKeepT
namespace Go.Proofs.Ytnmgeaonhbhbkaa.GraphU
open Go.Proofs.Ytnmgeaonhbhbkaa.InsA Go.Proofs.Ytnmgeaonhbhbkaa.Funs Go.Proofs.Ytnmgeaonhbhbkaa.Open Go.Proofs.Ytnmgeaonhbhbkaa.FunS Go.Proofs.Ytnmgeaonhbhbkaa.UnitS Go.Proofs.Ytnmgeaonhbhbkaa.Refs Go.Proofs.Ytnmgeaonhbhbkaa.PickD Go.Proofs.Ytnmgeaonhbhbkaa.PickP Go.Proofs.Ytnmgeaonhbhbkaa.WantsS Go.Proofs.Ytnmgeaonhbhbkaa.WantsL Go.Proofs.Ytnmgeaonhbhbkaa.KeepD Go.Proofs.Ytnmgeaonhbhbkaa.KeepA Go.Proofs.Ytnmgeaonhbhbkaa.KeepW Go.Proofs.Ytnmgeaonhbhbkaa.KeepR Go.Proofs.Ytnmgeaonhbhbkaa.KeepT Go.Proofs.Ytnmgeaonhbhbkaa.WayD Go.Proofs.Ytnmgeaonhbhbkaa.GraphD
set_option linter.unusedVariables false
set_option maxRecDepth 100000

theorem bl_get {out : List ByteArray} {i : Nat} (hi : i < out.length) : out[i].toList ∈ bl out := List.mem_map.2 ⟨_, List.getElem_mem hi, rfl⟩
theorem gn_get {fs : List FunD} {P : FunD → Prop} {out : List ByteArray} (h : GN fs P out) {i : Nat} (hi : i < out.length) : keepOkB fs = true ∧ ∃ f ∈ fs, P f ∧ f.nm = out[i] := by
  obtain ⟨h1, f, hf, hp, e⟩ := (h.2 _).1 (bl_get hi)
  exact ⟨h1, f, hf, hp, ba_inj e⟩
theorem gn_has {fs : List FunD} {P : FunD → Prop} {out : List ByteArray} (h : GN fs P out) (t : ByteArray) : hasB out t = true ↔ keepOkB fs = true ∧ ∃ f ∈ fs, P f ∧ f.nm = t := by
  rw [has_mem]
  constructor
  · intro hm
    obtain ⟨i, hi, rfl⟩ := List.getElem_of_mem hm
    exact gn_get h hi
  · rintro ⟨h1, f, hf, hp, rfl⟩
    obtain ⟨y, hy, e⟩ := List.mem_map.1 ((h.2 _).2 ⟨h1, f, hf, hp, rfl⟩)
    rw [← ba_inj e]; exact hy
theorem gn_none {fs : List FunD} {P : FunD → Prop} {out : List ByteArray} (hok : keepOkB fs = false) (h : GN fs P out) : out.length = 0 := by
  refine Classical.byContradiction fun h0 => ?_
  have := (gn_get h (i := 0) (by omega)).1
  rw [hok] at this; cases this
theorem gn_not {fs : List FunD} {P : FunD → Prop} {out : List ByteArray} (h : GN fs P out) {f : FunD} (hf : f ∈ fs) (hp : ¬ P f) : hasB out f.nm = false := by
  cases hh : hasB out f.nm
  · rfl
  · obtain ⟨hok, g, hg, hpg, e⟩ := (gn_has h _).1 hh
    have : g = f := apart_eq (keep_parts hok).2.2.2.1 hg hf (by rw [e])
    subst this
    exact absurd hpg hp
theorem gn_yes {fs : List FunD} {P : FunD → Prop} {out : List ByteArray} (hok : keepOkB fs = true) (h : GN fs P out) {f : FunD} (hf : f ∈ fs) (hp : P f) : hasB out f.nm = true := (gn_has h _).2 ⟨hok, f, hf, hp, rfl⟩
/-- How many of the first k are so. -/
def cntF (fs : List FunD) (p : FunD → Bool) (k : Nat) : Nat := ((fs.take k).filter p).length
theorem cntF_zero (fs : List FunD) (p : FunD → Bool) : cntF fs p 0 = 0 := rfl
theorem cntF_le (fs : List FunD) (p : FunD → Bool) (k : Nat) : cntF fs p k ≤ k := by
  unfold cntF
  have h1 := List.length_filter_le p (fs.take k)
  have h2 := List.length_take_le k fs
  omega
theorem cntF_yes {fs : List FunD} {p : FunD → Bool} {k : Nat} (hk : k < fs.length) (h : p fs[k] = true) : cntF fs p (k + 1) = cntF fs p k + 1 := by
  unfold cntF
  rw [List.take_succ_eq_append_getElem hk, List.filter_append]
  simp [h]
theorem cntF_no {fs : List FunD} {p : FunD → Bool} {k : Nat} (hk : k < fs.length) (h : p fs[k] = false) : cntF fs p (k + 1) = cntF fs p k := by
  unfold cntF
  rw [List.take_succ_eq_append_getElem hk, List.filter_append]
  simp [h]
theorem cntF_all {fs : List FunD} {P : FunD → Prop} {out : List ByteArray} {p : FunD → Bool} (hok : keepOkB fs = true) (h : GN fs P out) (hp : ∀ f ∈ fs, p f = true ↔ P f) : cntF fs p fs.length = out.length := by
  unfold cntF
  rw [List.take_length]
  have hap := (keep_parts hok).2.2.2.1
  have hnd : ((fs.filter p).map fun f => f.nm.toList).Nodup := by
    have h0 : (fs.map fun f => f.nm.toList).Nodup := by
      unfold List.Nodup
      rw [List.pairwise_map]
      exact List.pairwise_iff_getElem.2 fun i j hi hj hij => (apartF_iff fs).1 hap i j hi hj hij
    exact h0.sublist (List.filter_sublist.map _)
  have h1 := nodup_le hnd (m := bl out) (fun x hx => by
    obtain ⟨f, hf, rfl⟩ := List.mem_map.1 hx
    obtain ⟨hf1, hf2⟩ := List.mem_filter.1 hf
    exact (h.2 _).2 ⟨hok, f, hf1, (hp f hf1).1 hf2, rfl⟩)
  have h2 := nodup_le (srt_nodup h.1) (m := (fs.filter p).map fun f => f.nm.toList) (fun x hx => by
    obtain ⟨_, f, hf, hp', rfl⟩ := (h.2 x).1 hx
    exact List.mem_map.2 ⟨f, List.mem_filter.2 ⟨hf, (hp f hf).2 hp'⟩, rfl⟩)
  simp [bl] at h1 h2
  omega
/-- A leaf reaches itself alone. -/
theorem leaf_reach {fs : List FunD} (hok : keepOkB fs = true) {f : FunD} (hf : f ∈ fs) (hl : LeafP f) {out : List ByteArray} (h : RN fs f.nm out) : out = [f.nm] := by
  have h0 : 0 ≤ findI fs f.nm := find_has hf rfl
  refine rn_one h ⟨List.pairwise_singleton _ _, fun x => ?_⟩
  have e : (∃ g ∈ keepList fs f.nm, g.nm.toList = x) ↔ x ∈ reachS fs f.nm := (List.mem_map (f := fun g : FunD => g.nm.toList)).symm
  rw [e]
  constructor
  · intro hx
    have : x = f.nm.toList := by simpa [bl] using hx
    rw [this]; exact reach_head hok h0
  · intro hx
    have := reach_ind hok (s := f.nm) (fun y => y = f.nm.toList) rfl (fun g hg e r hr => by
      have : g = f := apart_eq (keep_parts hok).2.2.2.1 hg hf e
      rw [this, hl] at hr; cases hr) x hx
    rw [this]; simp [bl]
theorem leaf_back {fs : List FunD} {f : FunD} (hl : LeafP f) : ¬ BackP fs f := by
  rintro ⟨r, hr, _⟩
  rw [hl] at hr; cases hr
end Go.Proofs.Ytnmgeaonhbhbkaa.GraphU
/- Plain facts for the laws on what is reached, and the contract of their helper that looks for a text. -/
namespace Go.Proofs.Ytnmgeaonhbhbkaa.KeepU
open Go.ChangeShapes Go.WideShapes Go.ChangeAt Go.RowKit Go.Joins
open Go.Proofs.Ytnmgeaonhbhbkaa.Base Go.Proofs.Ytnmgeaonhbhbkaa.Funs Go.Proofs.Ytnmgeaonhbhbkaa.Open Go.Proofs.Ytnmgeaonhbhbkaa.FunS Go.Proofs.Ytnmgeaonhbhbkaa.Keep Go.Proofs.Ytnmgeaonhbhbkaa.UnitS Go.Proofs.Ytnmgeaonhbhbkaa.Refs Go.Proofs.Ytnmgeaonhbhbkaa.WantsL Go.Proofs.Ytnmgeaonhbhbkaa.KeepD Go.Proofs.Ytnmgeaonhbhbkaa.KeepA Go.Proofs.Ytnmgeaonhbhbkaa.KeepR Go.Proofs.Ytnmgeaonhbhbkaa.KeepT
set_option linter.unusedVariables false
set_option maxRecDepth 100000

set_option maxHeartbeats 1000000 in
theorem wpHas_any (v : Value) (ss : List ByteArray) (s : ByteArray) (w : World) (hR : StrAt w v ss) :
    Calls Try.prog 22 #[v, .string s] w fun e w' => e = .returned (.bool (hasB ss s)) ∧ Below w.heap.size w w' := by
  obtain ⟨a, cap, rfl, hcap, hcm, hR⟩ := hR
  have HR := hide hR
  clear hR
  unfold maxLen at hcm
  have hlen : (ss.length : Int) ≤ 9223372036854775807 := by omega
  go_enter Try.func22, Try.ntmps22
  go_wp2_with fail
  go_loopw [5] (fun i w' => ∃ k : Nat, k ≤ ss.length ∧ i = .int .i64 k ∧ Hid (∀ i (h : i < ss.length), i < k → (ss[i].toList == s.toList) = false) ∧ Below w.heap.size w w') (fun i _ => ss.length - (intOf i).toNat)
  case atStart => exact ⟨0, Nat.zero_le _, rfl, fun i h h0 => by omega, Below.refl _ _⟩
  case round =>
    obtain ⟨k, hk, rfl, HN, hB⟩ := hrel
    by_cases hkl : k < ss.length
    · obtain h0 | ⟨b, off, rfl, hc⟩ := unhide HR
      · rw [h0] at hkl; simp at hkl
      have c0 := (Stable.cell ⟨b, off + k, none⟩ (.string ss[k])).1 _ _ hB (hc k hkl)
      have hkl' : (k : Int) < (ss.length : Int) := by omega
      have HH := hide (hasB_hit (s := s) hkl)
      have HX : Hid ((ss[k].toList == s.toList) = false → ∀ i (h : i < ss.length), i < k + 1 → (ss[i].toList == s.toList) = false) := fun h i hi hlt => by
        by_cases e : i = k
        · subst e; exact h
        · exact unhide HN i hi (by omega)
      clear hc
      generalize ss[k] = t at *
      cases hq : (t.toList == s.toList)
      · go_wp2_with fail
        exact ⟨⟨k + 1, by omega, by go_num, unhide HX hq, hB⟩, by simp [intOf]; omega⟩
      · go_wp2_with fail
        go_ret
        exact ⟨ret_bool (unhide HH hq), hB⟩
    · have HE := hide (hasB_miss (fun i h => unhide HN i h (by omega)))
      go_wp2_with fail
      go_ret
      exact ⟨ret_bool (unhide HE), hB⟩

/-- What is together behind the first i functions. -/
def UP (fs : List FunD) (s : ByteArray) (i : Nat) (x : List UInt8) : Prop := x = s.toList ∨ ∃ f ∈ fs.take i, f.nm.toList = s.toList ∧ ∃ r ∈ refsOf f.body, x ∈ reachS fs r
/-- .. and behind the first k names of a function. -/
def UQ (fs : List FunD) (s : ByteArray) (i k : Nat) (f : FunD) (x : List UInt8) : Prop := UP fs s i x ∨ ∃ r ∈ (refsOf f.body).take k, x ∈ reachS fs r
/-- A list of texts, each once, that are just those. -/
def Just (al : List ByteArray) (P : List UInt8 → Prop) : Prop := (tl al).Nodup ∧ ∀ x, x ∈ tl al ↔ P x
theorem Just.congr {al : List ByteArray} {P Q : List UInt8 → Prop} (h : Just al P) (e : ∀ x, P x ↔ Q x) : Just al Q := ⟨h.1, fun x => (h.2 x).trans (e x)⟩
theorem just_one (s : ByteArray) (fs : List FunD) : Just [s] (UP fs s 0) := ⟨by simp [tl], fun x => by simp [tl, UP]⟩
theorem just_add {al : List ByteArray} {P : List UInt8 → Prop} (h : Just al P) (t : ByteArray) : Just (addOne al t) (fun x => P x ∨ x = t.toList) := ⟨addOne_nodup h.1, fun x => by rw [addOne_mem, h.2]⟩
theorem up_skip {fs : List FunD} {s : ByteArray} {i : Nat} (hi : i < fs.length) (h : fs[i].nm.toList ≠ s.toList) (x : List UInt8) : UP fs s i x ↔ UP fs s (i + 1) x := by
  unfold UP
  rw [List.take_succ_eq_append_getElem hi]
  constructor
  · rintro (h1 | ⟨f, hf, h1⟩)
    · exact .inl h1
    · exact .inr ⟨f, List.mem_append_left _ hf, h1⟩
  · rintro (h1 | ⟨f, hf, h1, h2⟩)
    · exact .inl h1
    · rcases List.mem_append.1 hf with hf | hf
      · exact .inr ⟨f, hf, h1, h2⟩
      · rw [List.mem_singleton.1 hf] at h1; exact absurd h1 h
theorem uq_zero {fs : List FunD} {s : ByteArray} {i : Nat} (f : FunD) (x : List UInt8) : UP fs s i x ↔ UQ fs s i 0 f x := by
  unfold UQ
  simp
theorem uq_step {fs : List FunD} {s : ByteArray} {i k : Nat} {f : FunD} {o : List ByteArray} (hk : k < (refsOf f.body).length) (h : RN fs (refsOf f.body)[k] o) (x : List UInt8) : (UQ fs s i k f x ∨ x ∈ bl (o.take o.length)) ↔ UQ fs s i (k + 1) f x := by
  unfold UQ
  rw [List.take_length, rn_mem h, List.take_succ_eq_append_getElem hk]
  constructor
  · rintro ((h1 | ⟨r, hr, h1⟩) | h1)
    · exact .inl h1
    · exact .inr ⟨r, List.mem_append_left _ hr, h1⟩
    · exact .inr ⟨_, List.mem_append_right _ (List.mem_singleton.2 rfl), h1⟩
  · rintro (h1 | ⟨r, hr, h1⟩)
    · exact .inl (.inl h1)
    · rcases List.mem_append.1 hr with hr | hr
      · exact .inl (.inr ⟨r, hr, h1⟩)
      · rw [List.mem_singleton.1 hr] at h1; exact .inr h1
theorem uq_end {fs : List FunD} {s : ByteArray} {i : Nat} (hi : i < fs.length) (h : fs[i].nm.toList = s.toList) (x : List UInt8) : UQ fs s i (refsOf fs[i].body).length fs[i] x ↔ UP fs s (i + 1) x := by
  unfold UQ UP
  rw [List.take_length, List.take_succ_eq_append_getElem hi]
  constructor
  · rintro ((h1 | ⟨f, hf, h1⟩) | h1)
    · exact .inl h1
    · exact .inr ⟨f, List.mem_append_left _ hf, h1⟩
    · exact .inr ⟨fs[i], List.mem_append_right _ (List.mem_singleton.2 rfl), h, h1⟩
  · rintro (h1 | ⟨f, hf, h1, h2⟩)
    · exact .inl (.inl h1)
    · rcases List.mem_append.1 hf with hf | hf
      · exact .inl (.inr ⟨f, hf, h1, h2⟩)
      · rw [List.mem_singleton.1 hf] at h2; exact .inr h2
theorem up_end {fs : List FunD} {s : ByteArray} (hok : keepOkB fs = true) (hs : 0 ≤ findI fs s) (x : List UInt8) : UP fs s fs.length x ↔ x ∈ reachS fs s := by
  obtain ⟨y, _, hy, hn⟩ := best_one hs
  rw [reach_union hok hs hy hn]
  unfold UP
  rw [List.take_length]
  constructor
  · rintro (h1 | ⟨f, hf, h1, h2⟩)
    · exact .inl h1
    · have : f = y.2.2 := apart_eq (keep_parts hok).2.2.2.1 hf hy (h1.trans hn.symm)
      subst this
      exact .inr h2
  · rintro (h1 | h2)
    · exact .inl h1
    · exact .inr ⟨y.2.2, hy, hn, h2⟩
theorem just_len {fs : List FunD} {s : ByteArray} {al out : List ByteArray} (h : Just al (fun x => x ∈ reachS fs s)) (ho : RN fs s out) : al.length = out.length := by
  have h1 := nodup_le h.1 (m := bl out) (fun x hx => (rn_mem ho x).2 ((h.2 x).1 hx))
  have h2 := nodup_le (srt_nodup ho.1) (m := tl al) (fun x hx => (h.2 x).2 ((rn_mem ho x).1 hx))
  have e1 : (tl al).length = al.length := by simp [tl]
  have e2 : (bl out).length = out.length := by simp [bl]
  omega
theorem just_has {fs : List FunD} {s : ByteArray} {al out : List ByteArray} (h : Just al (fun x => x ∈ reachS fs s)) (ho : RN fs s out) {i : Nat} (hi : i < out.length) : hasB al out[i] = true := by
  rw [hasB_iff]
  exact (h.2 _).2 ((rn_mem ho _).1 (List.mem_map.2 ⟨out[i], List.getElem_mem hi, rfl⟩))
theorem bl_take {o : List ByteArray} {j : Nat} (hj : j < o.length) (P : List UInt8 → Prop) (x : List UInt8) : ((P x ∨ x ∈ bl (o.take j)) ∨ x = o[j].toList) ↔ (P x ∨ x ∈ bl (o.take (j + 1))) := by
  rw [List.take_succ_eq_append_getElem hj]
  unfold bl
  rw [List.map_append]
  simp [or_assoc]
theorem has_iff {ss : List ByteArray} {s : ByteArray} {fs : List FunD} {t : ByteArray} (h : RN fs s ss) : hasB ss t = true ↔ t.toList ∈ reachS fs s := by
  rw [hasB_iff]
  exact rn_mem h t.toList
end Go.Proofs.Ytnmgeaonhbhbkaa.KeepU
