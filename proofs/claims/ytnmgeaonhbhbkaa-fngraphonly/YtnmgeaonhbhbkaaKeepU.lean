/- Plain facts for the laws on what is reached, and the contract of their helper that looks for a text. -/
import Derived.Test.YtnmgeaonhbhbkaaKeepT
namespace Go.Proofs.Ytnmgeaonhbhbkaa.KeepU
open Go.ChangeShapes Go.WideShapes Go.ChangeAt Go.RowKit Go.Joins
open Go.Proofs.Ytnmgeaonhbhbkaa.Base Go.Proofs.Ytnmgeaonhbhbkaa.Funs Go.Proofs.Ytnmgeaonhbhbkaa.Open Go.Proofs.Ytnmgeaonhbhbkaa.FunS Go.Proofs.Ytnmgeaonhbhbkaa.Keep Go.Proofs.Ytnmgeaonhbhbkaa.UnitS Go.Proofs.Ytnmgeaonhbhbkaa.Refs Go.Proofs.Ytnmgeaonhbhbkaa.WantsL Go.Proofs.Ytnmgeaonhbhbkaa.KeepD Go.Proofs.Ytnmgeaonhbhbkaa.KeepA Go.Proofs.Ytnmgeaonhbhbkaa.KeepR Go.Proofs.Ytnmgeaonhbhbkaa.KeepT
set_option linter.unusedVariables false
set_option maxRecDepth 100000

set_option maxHeartbeats 1000000 in
theorem wpHas_any (v : Value) (ss : List ByteArray) (s : ByteArray) (w : World) (hR : StrAt w v ss) :
    Calls Try.prog 22 #[v, .string s] w fun e w' => e = .returned (.bool (hasB ss s)) ∧ Below w.heap.size w w' := by
  obtain ⟨a, cap, rfl, hcap, hcm, hR⟩ := hR
  have HR := hide hR
  clear hR
  unfold maxLen at hcm
  have hlen : (ss.length : Int) ≤ 9223372036854775807 := by omega
  go_enter Try.func22, Try.ntmps22
  go_wp2_with fail
  go_loopw [5] (fun i w' => ∃ k : Nat, k ≤ ss.length ∧ i = .int .i64 k ∧ Hid (∀ i (h : i < ss.length), i < k → (ss[i].toList == s.toList) = false) ∧ Below w.heap.size w w') (fun i _ => ss.length - (intOf i).toNat)
  case atStart => exact ⟨0, Nat.zero_le _, rfl, fun i h h0 => by omega, Below.refl _ _⟩
  case round =>
    obtain ⟨k, hk, rfl, HN, hB⟩ := hrel
    by_cases hkl : k < ss.length
    · obtain h0 | ⟨b, off, rfl, hc⟩ := unhide HR
      · rw [h0] at hkl; simp at hkl
      have c0 := (Stable.cell ⟨b, off + k, none⟩ (.string ss[k])).1 _ _ hB (hc k hkl)
      have hkl' : (k : Int) < (ss.length : Int) := by omega
      have HH := hide (hasB_hit (s := s) hkl)
      have HX : Hid ((ss[k].toList == s.toList) = false → ∀ i (h : i < ss.length), i < k + 1 → (ss[i].toList == s.toList) = false) := fun h i hi hlt => by
        by_cases e : i = k
        · subst e; exact h
        · exact unhide HN i hi (by omega)
      clear hc
      generalize ss[k] = t at *
      cases hq : (t.toList == s.toList)
      · go_wp2_with fail
        exact ⟨⟨k + 1, by omega, by go_num, unhide HX hq, hB⟩, by simp [intOf]; omega⟩
      · go_wp2_with fail
        go_ret
        exact ⟨ret_bool (unhide HH hq), hB⟩
    · have HE := hide (hasB_miss (fun i h => unhide HN i h (by omega)))
      go_wp2_with fail
      go_ret
      exact ⟨ret_bool (unhide HE), hB⟩

/-- What is together behind the first i functions. -/
def UP (fs : List FunD) (s : ByteArray) (i : Nat) (x : List UInt8) : Prop := x = s.toList ∨ ∃ f ∈ fs.take i, f.nm.toList = s.toList ∧ ∃ r ∈ refsOf f.body, x ∈ reachS fs r
/-- .. and behind the first k names of a function. -/
def UQ (fs : List FunD) (s : ByteArray) (i k : Nat) (f : FunD) (x : List UInt8) : Prop := UP fs s i x ∨ ∃ r ∈ (refsOf f.body).take k, x ∈ reachS fs r
/-- A list of texts, each once, that are just those. -/
def Just (al : List ByteArray) (P : List UInt8 → Prop) : Prop := (tl al).Nodup ∧ ∀ x, x ∈ tl al ↔ P x
theorem Just.congr {al : List ByteArray} {P Q : List UInt8 → Prop} (h : Just al P) (e : ∀ x, P x ↔ Q x) : Just al Q := ⟨h.1, fun x => (h.2 x).trans (e x)⟩
theorem just_one (s : ByteArray) (fs : List FunD) : Just [s] (UP fs s 0) := ⟨by simp [tl], fun x => by simp [tl, UP]⟩
theorem just_add {al : List ByteArray} {P : List UInt8 → Prop} (h : Just al P) (t : ByteArray) : Just (addOne al t) (fun x => P x ∨ x = t.toList) := ⟨addOne_nodup h.1, fun x => by rw [addOne_mem, h.2]⟩
theorem up_skip {fs : List FunD} {s : ByteArray} {i : Nat} (hi : i < fs.length) (h : fs[i].nm.toList ≠ s.toList) (x : List UInt8) : UP fs s i x ↔ UP fs s (i + 1) x := by
  unfold UP
  rw [List.take_succ_eq_append_getElem hi]
  constructor
  · rintro (h1 | ⟨f, hf, h1⟩)
    · exact .inl h1
    · exact .inr ⟨f, List.mem_append_left _ hf, h1⟩
  · rintro (h1 | ⟨f, hf, h1, h2⟩)
    · exact .inl h1
    · rcases List.mem_append.1 hf with hf | hf
      · exact .inr ⟨f, hf, h1, h2⟩
      · rw [List.mem_singleton.1 hf] at h1; exact absurd h1 h
theorem uq_zero {fs : List FunD} {s : ByteArray} {i : Nat} (f : FunD) (x : List UInt8) : UP fs s i x ↔ UQ fs s i 0 f x := by
  unfold UQ
  simp
theorem uq_step {fs : List FunD} {s : ByteArray} {i k : Nat} {f : FunD} {o : List ByteArray} (hk : k < (refsOf f.body).length) (h : RN fs (refsOf f.body)[k] o) (x : List UInt8) : (UQ fs s i k f x ∨ x ∈ bl (o.take o.length)) ↔ UQ fs s i (k + 1) f x := by
  unfold UQ
  rw [List.take_length, rn_mem h, List.take_succ_eq_append_getElem hk]
  constructor
  · rintro ((h1 | ⟨r, hr, h1⟩) | h1)
    · exact .inl h1
    · exact .inr ⟨r, List.mem_append_left _ hr, h1⟩
    · exact .inr ⟨_, List.mem_append_right _ (List.mem_singleton.2 rfl), h1⟩
  · rintro (h1 | ⟨r, hr, h1⟩)
    · exact .inl (.inl h1)
    · rcases List.mem_append.1 hr with hr | hr
      · exact .inl (.inr ⟨r, hr, h1⟩)
      · rw [List.mem_singleton.1 hr] at h1; exact .inr h1
theorem uq_end {fs : List FunD} {s : ByteArray} {i : Nat} (hi : i < fs.length) (h : fs[i].nm.toList = s.toList) (x : List UInt8) : UQ fs s i (refsOf fs[i].body).length fs[i] x ↔ UP fs s (i + 1) x := by
  unfold UQ UP
  rw [List.take_length, List.take_succ_eq_append_getElem hi]
  constructor
  · rintro ((h1 | ⟨f, hf, h1⟩) | h1)
    · exact .inl h1
    · exact .inr ⟨f, List.mem_append_left _ hf, h1⟩
    · exact .inr ⟨fs[i], List.mem_append_right _ (List.mem_singleton.2 rfl), h, h1⟩
  · rintro (h1 | ⟨f, hf, h1, h2⟩)
    · exact .inl (.inl h1)
    · rcases List.mem_append.1 hf with hf | hf
      · exact .inl (.inr ⟨f, hf, h1, h2⟩)
      · rw [List.mem_singleton.1 hf] at h2; exact .inr h2
theorem up_end {fs : List FunD} {s : ByteArray} (hok : keepOkB fs = true) (hs : 0 ≤ findI fs s) (x : List UInt8) : UP fs s fs.length x ↔ x ∈ reachS fs s := by
  obtain ⟨y, _, hy, hn⟩ := best_one hs
  rw [reach_union hok hs hy hn]
  unfold UP
  rw [List.take_length]
  constructor
  · rintro (h1 | ⟨f, hf, h1, h2⟩)
    · exact .inl h1
    · have : f = y.2.2 := apart_eq (keep_parts hok).2.2.2.1 hf hy (h1.trans hn.symm)
      subst this
      exact .inr h2
  · rintro (h1 | h2)
    · exact .inl h1
    · exact .inr ⟨y.2.2, hy, hn, h2⟩
theorem just_len {fs : List FunD} {s : ByteArray} {al out : List ByteArray} (h : Just al (fun x => x ∈ reachS fs s)) (ho : RN fs s out) : al.length = out.length := by
  have h1 := nodup_le h.1 (m := bl out) (fun x hx => (rn_mem ho x).2 ((h.2 x).1 hx))
  have h2 := nodup_le (srt_nodup ho.1) (m := tl al) (fun x hx => (h.2 x).2 ((rn_mem ho x).1 hx))
  have e1 : (tl al).length = al.length := by simp [tl]
  have e2 : (bl out).length = out.length := by simp [bl]
  omega
theorem just_has {fs : List FunD} {s : ByteArray} {al out : List ByteArray} (h : Just al (fun x => x ∈ reachS fs s)) (ho : RN fs s out) {i : Nat} (hi : i < out.length) : hasB al out[i] = true := by
  rw [hasB_iff]
  exact (h.2 _).2 ((rn_mem ho _).1 (List.mem_map.2 ⟨out[i], List.getElem_mem hi, rfl⟩))
theorem bl_take {o : List ByteArray} {j : Nat} (hj : j < o.length) (P : List UInt8 → Prop) (x : List UInt8) : ((P x ∨ x ∈ bl (o.take j)) ∨ x = o[j].toList) ↔ (P x ∨ x ∈ bl (o.take (j + 1))) := by
  rw [List.take_succ_eq_append_getElem hj]
  unfold bl
  rw [List.map_append]
  simp [or_assoc]
theorem has_iff {ss : List ByteArray} {s : ByteArray} {fs : List FunD} {t : ByteArray} (h : RN fs s ss) : hasB ss t = true ↔ t.toList ∈ reachS fs s := by
  rw [hasB_iff]
  exact rn_mem h t.toList
end Go.Proofs.Ytnmgeaonhbhbkaa.KeepU
