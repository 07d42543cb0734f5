/- Plain facts for the laws on who names whom. -/
import Derived.Test.YtpcdafifblghiaaGraphD
namespace Go.Proofs.Ytpcdafifblghiaa.GraphU
open Go.Proofs.Ytpcdafifblghiaa.InsA Go.Proofs.Ytpcdafifblghiaa.Funs Go.Proofs.Ytpcdafifblghiaa.Open Go.Proofs.Ytpcdafifblghiaa.FunS Go.Proofs.Ytpcdafifblghiaa.UnitS Go.Proofs.Ytpcdafifblghiaa.Refs Go.Proofs.Ytpcdafifblghiaa.PickD Go.Proofs.Ytpcdafifblghiaa.PickP Go.Proofs.Ytpcdafifblghiaa.WantsS Go.Proofs.Ytpcdafifblghiaa.WantsL Go.Proofs.Ytpcdafifblghiaa.KeepD Go.Proofs.Ytpcdafifblghiaa.KeepA Go.Proofs.Ytpcdafifblghiaa.KeepW Go.Proofs.Ytpcdafifblghiaa.KeepR Go.Proofs.Ytpcdafifblghiaa.KeepT Go.Proofs.Ytpcdafifblghiaa.WayD Go.Proofs.Ytpcdafifblghiaa.GraphD
set_option linter.unusedVariables false
set_option maxRecDepth 100000

theorem bl_get {out : List ByteArray} {i : Nat} (hi : i < out.length) : out[i].toList ∈ bl out := List.mem_map.2 ⟨_, List.getElem_mem hi, rfl⟩
theorem gn_get {fs : List FunD} {P : FunD → Prop} {out : List ByteArray} (h : GN fs P out) {i : Nat} (hi : i < out.length) : keepOkB fs = true ∧ ∃ f ∈ fs, P f ∧ f.nm = out[i] := by
  obtain ⟨h1, f, hf, hp, e⟩ := (h.2 _).1 (bl_get hi)
  exact ⟨h1, f, hf, hp, ba_inj e⟩
theorem gn_has {fs : List FunD} {P : FunD → Prop} {out : List ByteArray} (h : GN fs P out) (t : ByteArray) : hasB out t = true ↔ keepOkB fs = true ∧ ∃ f ∈ fs, P f ∧ f.nm = t := by
  rw [has_mem]
  constructor
  · intro hm
    obtain ⟨i, hi, rfl⟩ := List.getElem_of_mem hm
    exact gn_get h hi
  · rintro ⟨h1, f, hf, hp, rfl⟩
    obtain ⟨y, hy, e⟩ := List.mem_map.1 ((h.2 _).2 ⟨h1, f, hf, hp, rfl⟩)
    rw [← ba_inj e]; exact hy
theorem gn_none {fs : List FunD} {P : FunD → Prop} {out : List ByteArray} (hok : keepOkB fs = false) (h : GN fs P out) : out.length = 0 := by
  refine Classical.byContradiction fun h0 => ?_
  have := (gn_get h (i := 0) (by omega)).1
  rw [hok] at this; cases this
theorem gn_not {fs : List FunD} {P : FunD → Prop} {out : List ByteArray} (h : GN fs P out) {f : FunD} (hf : f ∈ fs) (hp : ¬ P f) : hasB out f.nm = false := by
  cases hh : hasB out f.nm
  · rfl
  · obtain ⟨hok, g, hg, hpg, e⟩ := (gn_has h _).1 hh
    have : g = f := apart_eq (keep_parts hok).2.2.2.1 hg hf (by rw [e])
    subst this
    exact absurd hpg hp
theorem gn_yes {fs : List FunD} {P : FunD → Prop} {out : List ByteArray} (hok : keepOkB fs = true) (h : GN fs P out) {f : FunD} (hf : f ∈ fs) (hp : P f) : hasB out f.nm = true := (gn_has h _).2 ⟨hok, f, hf, hp, rfl⟩
/-- How many of the first k are so. -/
def cntF (fs : List FunD) (p : FunD → Bool) (k : Nat) : Nat := ((fs.take k).filter p).length
theorem cntF_zero (fs : List FunD) (p : FunD → Bool) : cntF fs p 0 = 0 := rfl
theorem cntF_le (fs : List FunD) (p : FunD → Bool) (k : Nat) : cntF fs p k ≤ k := by
  unfold cntF
  have h1 := List.length_filter_le p (fs.take k)
  have h2 := List.length_take_le k fs
  omega
theorem cntF_yes {fs : List FunD} {p : FunD → Bool} {k : Nat} (hk : k < fs.length) (h : p fs[k] = true) : cntF fs p (k + 1) = cntF fs p k + 1 := by
  unfold cntF
  rw [List.take_succ_eq_append_getElem hk, List.filter_append]
  simp [h]
theorem cntF_no {fs : List FunD} {p : FunD → Bool} {k : Nat} (hk : k < fs.length) (h : p fs[k] = false) : cntF fs p (k + 1) = cntF fs p k := by
  unfold cntF
  rw [List.take_succ_eq_append_getElem hk, List.filter_append]
  simp [h]
theorem cntF_all {fs : List FunD} {P : FunD → Prop} {out : List ByteArray} {p : FunD → Bool} (hok : keepOkB fs = true) (h : GN fs P out) (hp : ∀ f ∈ fs, p f = true ↔ P f) : cntF fs p fs.length = out.length := by
  unfold cntF
  rw [List.take_length]
  have hap := (keep_parts hok).2.2.2.1
  have hnd : ((fs.filter p).map fun f => f.nm.toList).Nodup := by
    have h0 : (fs.map fun f => f.nm.toList).Nodup := by
      unfold List.Nodup
      rw [List.pairwise_map]
      exact List.pairwise_iff_getElem.2 fun i j hi hj hij => (apartF_iff fs).1 hap i j hi hj hij
    exact h0.sublist (List.filter_sublist.map _)
  have h1 := nodup_le hnd (m := bl out) (fun x hx => by
    obtain ⟨f, hf, rfl⟩ := List.mem_map.1 hx
    obtain ⟨hf1, hf2⟩ := List.mem_filter.1 hf
    exact (h.2 _).2 ⟨hok, f, hf1, (hp f hf1).1 hf2, rfl⟩)
  have h2 := nodup_le (srt_nodup h.1) (m := (fs.filter p).map fun f => f.nm.toList) (fun x hx => by
    obtain ⟨_, f, hf, hp', rfl⟩ := (h.2 x).1 hx
    exact List.mem_map.2 ⟨f, List.mem_filter.2 ⟨hf, (hp f hf).2 hp'⟩, rfl⟩)
  simp [bl] at h1 h2
  omega
/-- A leaf reaches itself alone. -/
theorem leaf_reach {fs : List FunD} (hok : keepOkB fs = true) {f : FunD} (hf : f ∈ fs) (hl : LeafP f) {out : List ByteArray} (h : RN fs f.nm out) : out = [f.nm] := by
  have h0 : 0 ≤ findI fs f.nm := find_has hf rfl
  refine rn_one h ⟨List.pairwise_singleton _ _, fun x => ?_⟩
  have e : (∃ g ∈ keepList fs f.nm, g.nm.toList = x) ↔ x ∈ reachS fs f.nm := (List.mem_map (f := fun g : FunD => g.nm.toList)).symm
  rw [e]
  constructor
  · intro hx
    have : x = f.nm.toList := by simpa [bl] using hx
    rw [this]; exact reach_head hok h0
  · intro hx
    have := reach_ind hok (s := f.nm) (fun y => y = f.nm.toList) rfl (fun g hg e r hr => by
      have : g = f := apart_eq (keep_parts hok).2.2.2.1 hg hf e
      rw [this, hl] at hr; cases hr) x hx
    rw [this]; simp [bl]
theorem leaf_back {fs : List FunD} {f : FunD} (hl : LeafP f) : ¬ BackP fs f := by
  rintro ⟨r, hr, _⟩
  rw [hl] at hr; cases hr
end Go.Proofs.Ytpcdafifblghiaa.GraphU
