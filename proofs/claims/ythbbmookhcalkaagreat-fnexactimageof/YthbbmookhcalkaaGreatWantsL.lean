/- Texts in order, each once; and the contracts of the specification's l2Wants and UnitWants. -/
import Derived.Test.YthbbmookhcalkaaGreatWantsS
import Derived.Test.YthbbmookhcalkaaGreatWantsI
import Derived.Sort.Walk0
import Derived.Sort.KeysCollected
namespace Go.Proofs.YthbbmookhcalkaaGreat.WantsL
open Go.ChangeShapes Go.WideShapes Go.ChangeAt Go.RowKit Go.Joins
open Go.Proofs.YthbbmookhcalkaaGreat.Base Go.Proofs.YthbbmookhcalkaaGreat.InsA Go.Proofs.YthbbmookhcalkaaGreat.InsB Go.Proofs.YthbbmookhcalkaaGreat.Funs Go.Proofs.YthbbmookhcalkaaGreat.Open Go.Proofs.YthbbmookhcalkaaGreat.FunS Go.Proofs.YthbbmookhcalkaaGreat.Keep Go.Proofs.YthbbmookhcalkaaGreat.UnitS Go.Proofs.YthbbmookhcalkaaGreat.Refs Go.Proofs.YthbbmookhcalkaaGreat.Mark Go.Proofs.YthbbmookhcalkaaGreat.WantsS Go.Proofs.YthbbmookhcalkaaGreat.WantsI
set_option linter.unusedVariables false
set_option maxRecDepth 100000

def bl (ss : List ByteArray) : List (List UInt8) := ss.map ByteArray.toList
/-- In order, each once. -/
def srt (l : List (List UInt8)) : Prop := l.Pairwise (fun a b => a < b)
theorem lt_of {a b : List UInt8} (h : ¬ a < b) (hne : a ≠ b) : b < a := by
  rcases Classical.em (b < a) with h' | h'
  · exact h'
  · exact absurd (List.le_antisymm (List.not_lt.1 h') (List.not_lt.1 h)) hne
theorem ltS_iff {a b : ByteArray} : ltS a b = true ↔ a.toList < b.toList := by unfold ltS; rw [Go.Proofs.bytesLess_eq]; simp
theorem srt_nodup {l : List (List UInt8)} (h : srt l) : l.Nodup := h.imp fun {a b} hab e => by rw [e] at hab; exact List.lt_irrefl _ hab
theorem srt_ext {l l' : List (List UInt8)} (h : srt l) (h' : srt l') (hm : ∀ x, x ∈ l ↔ x ∈ l') : l = l' :=
  List.Perm.eq_of_pairwise (le := fun a b => a < b) (fun a b _ _ h1 h2 => absurd (List.lt_trans h1 h2) (List.lt_irrefl _)) h h' ((List.perm_ext_iff_of_nodup (srt_nodup h) (srt_nodup h')).2 hm)
theorem put_srt {ss out : List ByteArray} {s : ByteArray} (h : srt (bl ss)) (hp : Put ss s out) : srt (bl out) ∧ ∀ x, x ∈ bl out ↔ x ∈ bl ss ∨ x = s.toList := by
  obtain ⟨k, hk, hlt, ⟨hk', he, rfl⟩ | ⟨hl, rfl⟩⟩ := hp
  · refine ⟨h, fun x => ⟨.inl, fun hx => ?_⟩⟩
    rcases hx with hx | rfl
    · exact hx
    · rw [← he]; exact List.mem_map.2 ⟨_, List.getElem_mem hk', rfl⟩
  · have e : bl (putAt ss s k) = (bl ss).take k ++ [s.toList] ++ (bl ss).drop k := by simp [bl, putAt, List.map_take, List.map_drop]
    have hmem : ∀ x, x ∈ bl (putAt ss s k) ↔ x ∈ bl ss ∨ x = s.toList := fun x => by
      rw [e]
      have := List.take_append_drop k (bl ss)
      simp only [List.mem_append, List.mem_singleton]
      constructor
      · rintro ((hx | hx) | hx)
        · exact .inl (List.mem_of_mem_take hx)
        · exact .inr hx
        · exact .inl (List.mem_of_mem_drop hx)
      · rintro (hx | hx)
        · rw [← this] at hx
          rcases List.mem_append.1 hx with hx | hx
          · exact .inl (.inl hx)
          · exact .inr hx
        · exact .inl (.inr hx)
    refine ⟨?_, hmem⟩
    rw [e]
    have hs := h
    unfold srt at hs ⊢
    have h1 : ∀ x ∈ (bl ss).take k, x < s.toList := fun x hx => by
      obtain ⟨i, hi, rfl⟩ := List.getElem_of_mem hx
      have hi' : i < k ∧ i < ss.length := by simp [bl] at hi; omega
      simp only [bl, List.getElem_take, List.getElem_map]
      exact ltS_iff.1 (hlt i hi'.2 hi'.1)
    have h2 : ∀ x ∈ (bl ss).drop k, s.toList < x := fun x hx => by
      obtain ⟨i, hi, rfl⟩ := List.getElem_of_mem hx
      have hi' : k + i < ss.length := by simp [bl] at hi; omega
      have hk' : k < ss.length := by omega
      obtain ⟨ha, hb⟩ := hl hk'
      have hsk : s.toList < ss[k].toList := lt_of (fun hc => by rw [ltS_iff.2 hc] at ha; cases ha) hb
      simp only [bl, List.getElem_drop, List.getElem_map]
      by_cases hi0 : i = 0
      · subst hi0; simpa using hsk
      · have := List.pairwise_iff_getElem.1 hs k (k + i) (by simpa [bl] using hk') (by simpa [bl] using hi') (by omega)
        simp only [bl, List.getElem_map] at this
        exact List.lt_trans hsk this
    rw [List.pairwise_append, List.pairwise_append]
    refine ⟨⟨hs.sublist (List.take_sublist _ _), List.pairwise_singleton _ _, fun x hx y hy => ?_⟩, hs.sublist (List.drop_sublist _ _), fun x hx y hy => ?_⟩
    · rw [List.mem_singleton.1 hy]; exact h1 x hx
    · rcases List.mem_append.1 hx with hx | hx
      · exact List.lt_trans (h1 x hx) (h2 y hy)
      · rw [List.mem_singleton.1 hx]; exact h2 y hy

/-- A unit's wants: in order, each once, what is named and none of them is. -/
def Wants (fs : List FunD) (names : List ByteArray) (out : List ByteArray) : Prop := srt (bl out) ∧ ∀ x, x ∈ bl out ↔ ∃ t ∈ names, t.toList = x ∧ findI fs t < 0
theorem bl_inj {a b : List ByteArray} (h : bl a = bl b) : a = b := by
  refine List.map_inj_right (fun x y e => ?_) |>.1 h
  obtain ⟨⟨x⟩⟩ := x
  obtain ⟨⟨y⟩⟩ := y
  rw [ByteArray.toList_eq, ByteArray.toList_eq] at e
  simpa using e
theorem wants_one {fs : List FunD} {names out out' : List ByteArray} (h : Wants fs names out) (h' : Wants fs names out') : out = out' := bl_inj (srt_ext h.1 h'.1 (fun x => (h.2 x).trans (h'.2 x).symm))
theorem wants_skip {fs : List FunD} {names out : List ByteArray} {s : ByteArray} (h : Wants fs names out) (hs : ¬ findI fs s < 0) : Wants fs (names ++ [s]) out := by
  refine ⟨h.1, fun x => (h.2 x).trans ⟨fun ⟨t, h1, h2⟩ => ⟨t, List.mem_append_left _ h1, h2⟩, fun ⟨t, h1, h2, h3⟩ => ?_⟩⟩
  rcases List.mem_append.1 h1 with h1 | h1
  · exact ⟨t, h1, h2, h3⟩
  · rw [List.mem_singleton.1 h1] at h3; exact absurd h3 hs
theorem wants_put {fs : List FunD} {names out out' : List ByteArray} {s : ByteArray} (h : Wants fs names out) (hs : findI fs s < 0) (hp : Put out s out') : Wants fs (names ++ [s]) out' := by
  obtain ⟨h1, h2⟩ := put_srt h.1 hp
  refine ⟨h1, fun x => (h2 x).trans ⟨fun hx => ?_, fun ⟨t, ht, e, hf⟩ => ?_⟩⟩
  · rcases hx with hx | rfl
    · obtain ⟨t, ht, e⟩ := (h.2 x).1 hx
      exact ⟨t, List.mem_append_left _ ht, e⟩
    · exact ⟨s, List.mem_append_right _ (List.mem_singleton.2 rfl), rfl, hs⟩
  · rcases List.mem_append.1 ht with ht | ht
    · exact .inl ((h.2 x).2 ⟨t, ht, e, hf⟩)
    · rw [List.mem_singleton.1 ht] at e; exact .inr e.symm
theorem put_len {ss out : List ByteArray} {s : ByteArray} (h : Put ss s out) : out.length ≤ ss.length + 1 := by
  obtain ⟨k, hk, _, ⟨_, _, rfl⟩ | ⟨_, rfl⟩⟩ := h
  · omega
  · rw [putAt_len _ _ hk]; exact Nat.le_refl _
theorem refsOf_size {xs : List InsD} (h : ∀ x ∈ xs, x.s.size ≤ maxLen) : ∀ s ∈ refsOf xs, s.size ≤ maxLen := by
  have : ∀ (ys : List InsD) (acc : List ByteArray), (∀ x ∈ ys, x.s.size ≤ maxLen) → (∀ s ∈ acc, s.size ≤ maxLen) → ∀ s ∈ ys.foldl refStep acc, s.size ≤ maxLen := by
    intro ys
    induction ys with
    | nil => intro acc _ h s hs; exact h s hs
    | cons y r ih =>
      intro acc hy ha
      refine ih _ (fun x hx => hy x (List.mem_cons_of_mem _ hx)) ?_
      unfold refStep
      split
      · intro s hs
        rcases List.mem_append.1 hs with hs | hs
        · exact ha s hs
        · rw [List.mem_singleton.1 hs]; exact hy y (List.mem_cons_self ..)
      · exact ha
  exact this xs [] h (fun s hs => by cases hs)
/-- What the first k bodies name. -/
def bodyRefs (fs : List FunD) (k : Nat) : List ByteArray := (fs.take k).flatMap fun f => refsOf f.body
theorem bodyRefs_succ {fs : List FunD} {k : Nat} (hk : k < fs.length) : bodyRefs fs (k + 1) = bodyRefs fs k ++ refsOf fs[k].body := by
  unfold bodyRefs
  rw [List.take_succ_eq_append_getElem hk, List.flatMap_append]
  simp

theorem strOwn_but {w w' : World} {B C g : Nat} {v : Value} {ss : List ByteArray} (h : StrOwn w C v ss) (hb : But g w w') (hne : v.ownBlock ≠ some g) : StrOwn w' C v ss := hb.strOwn h hne


/-- The wants of whatever functions: none of what is no unit. -/
def UWants (fs : List FunD) (out : List ByteArray) : Prop := if unitOkB fs then Wants fs (bodyRefs fs fs.length) out else out = []
theorem uwants_one {fs : List FunD} {o o' : List ByteArray} (h : UWants fs o) (h' : UWants fs o') : o = o' := by
  unfold UWants at h h'
  cases hu : unitOkB fs
  · rw [hu] at h h'; simp at h h'; rw [h, h']
  · rw [hu] at h h'; simp at h h'; exact wants_one h h'
theorem unit_bodies {fs : List FunD} (h : unitOkB fs = true) : fs.length ≤ 5 ∧ (∀ f ∈ fs, f.body.length ≤ 10) ∧ ∀ f ∈ fs, funOkB f.nm f.body = true := by
  unfold unitOkB at h
  simp only [Bool.and_eq_true, decide_eq_true_iff, List.all_eq_true] at h
  exact ⟨h.1.1, fun f hf => fun_le (nm := f.nm) (h.1.2 f hf), fun f hf => h.1.2 f hf⟩

end Go.Proofs.YthbbmookhcalkaaGreat.WantsL
