/- Plain facts on a walk with marks and a stack: what is marked at its end is what ways of one step at least lead to. -/
import Derived.Test.YtnmgeaonhbhbkaaWayD
namespace Go.Proofs.Ytnmgeaonhbhbkaa.WalkD
open Go.Proofs.Ytnmgeaonhbhbkaa.WayD
set_option linter.unusedVariables false

def setM (bs : Nat → Bool) (k : Nat) (u : Nat) : Bool := if u = k then true else bs u
def cnt (bs : Nat → Bool) (n : Nat) : Nat := sumTo (fun u => if bs u then 0 else 1) n
theorem cnt_le (bs : Nat → Bool) : ∀ n, cnt bs n ≤ n
  | 0 => Nat.le_refl _
  | n + 1 => by
    have := cnt_le bs n
    show cnt bs n + (if bs n then 0 else 1) ≤ n + 1
    split <;> omega
theorem cnt_congr {bs bs' : Nat → Bool} : ∀ {n : Nat}, (∀ u, u < n → bs u = bs' u) → cnt bs n = cnt bs' n
  | 0, _ => rfl
  | n + 1, h => by
    show cnt bs n + (if bs n then 0 else 1) = cnt bs' n + (if bs' n then 0 else 1)
    rw [cnt_congr (fun u hu => h u (by omega)), h n (by omega)]
theorem cnt_set {bs : Nat → Bool} {t : Nat} : ∀ {n : Nat}, t < n → bs t = false → cnt (setM bs t) n + 1 = cnt bs n
  | 0, h, _ => by omega
  | n + 1, h, hb => by
    show cnt (setM bs t) n + (if setM bs t n then 0 else 1) + 1 = cnt bs n + (if bs n then 0 else 1)
    by_cases e : t = n
    · subst e
      have h1 : cnt (setM bs t) t = cnt bs t := cnt_congr (fun u hu => by unfold setM; rw [if_neg (by omega)])
      have h2 : setM bs t t = true := by unfold setM; rw [if_pos rfl]
      rw [h1, h2, hb]; simp
    · have h1 := cnt_set (n := n) (by omega) hb
      have h2 : setM bs t n = bs n := by unfold setM; rw [if_neg (by omega)]
      rw [h2]; omega
/-- What ways of one step at least lead to. -/
def Rch (E : StepF) (x v : Nat) : Prop := ∃ k c, WayG E (k + 1) x c v
/-- What stands ahead of each turn; 'top' is the one at hand, of which j steps are gone. -/
structure WInv (E : StepF) (n x : Nat) (bs : Nat → Bool) (st : List Nat) : Prop where
  sound : ∀ v, v < n → bs v = true → Rch E x v
  inst : ∀ u ∈ st, u < n ∧ (u = x ∨ bs u = true)
  clos : ∀ u, u < n → u = x ∨ bs u = true → u ∈ st ∨ ∀ s ∈ E u, bs s.1 = true
  few : st.length + cnt bs n ≤ n + 1
structure WMid (E : StepF) (n x top j : Nat) (bs : Nat → Bool) (st : List Nat) : Prop where
  sound : ∀ v, v < n → bs v = true → Rch E x v
  inst : ∀ u ∈ st, u < n ∧ (u = x ∨ bs u = true)
  clos : ∀ u, u < n → u = x ∨ bs u = true → u ∈ st ∨ u = top ∨ ∀ s ∈ E u, bs s.1 = true
  gone : ∀ s ∈ (E top).take j, bs s.1 = true
  tlt : top < n
  tin : top = x ∨ bs top = true
  few : st.length + cnt bs n ≤ n
theorem winv_start {E : StepF} {n x : Nat} (hx : x < n) : WInv E n x (fun _ => false) [x] := by
  refine ⟨fun v _ h => ?_, fun u hu => ?_, fun u _ h => ?_, ?_⟩
  · cases h
  · rw [List.mem_singleton.1 hu]; exact ⟨hx, .inl rfl⟩
  · rcases h with rfl | h
    · exact .inl (List.mem_singleton.2 rfl)
    · cases h
  · have := cnt_le (fun _ => false) n
    simp only [List.length_singleton]; omega
theorem winv_take {E : StepF} {n x top : Nat} {bs : Nat → Bool} {st : List Nat} (h : WInv E n x bs (st ++ [top])) : WMid E n x top 0 bs st :=
  ⟨h.sound, fun u hu => h.inst u (List.mem_append_left _ hu), fun u hu h1 => by
    rcases h.clos u hu h1 with h2 | h2
    · rcases List.mem_append.1 h2 with h3 | h3
      · exact .inl h3
      · exact .inr (.inl (List.mem_singleton.1 h3))
    · exact .inr (.inr h2), fun s hs => by simp at hs, (h.inst top (List.mem_append_right _ (List.mem_singleton.2 rfl))).1, (h.inst top (List.mem_append_right _ (List.mem_singleton.2 rfl))).2, by
    have := h.few
    rw [List.length_append, List.length_singleton] at this
    omega⟩
theorem wmid_skip {E : StepF} {n x top j : Nat} {bs : Nat → Bool} {st : List Nat} (h : WMid E n x top j bs st) (hj : j < (E top).length) (hb : bs (E top)[j].1 = true) : WMid E n x top (j + 1) bs st :=
  ⟨h.sound, h.inst, h.clos, fun s hs => by
    rw [List.take_succ_eq_append_getElem hj] at hs
    rcases List.mem_append.1 hs with hs | hs
    · exact h.gone s hs
    · rw [List.mem_singleton.1 hs]; exact hb, h.tlt, h.tin, h.few⟩
theorem rch_snoc {E : StepF} {n x top : Nat} {bs : Nat → Bool} (hs : ∀ v, v < n → bs v = true → Rch E x v) (ht : top < n) (hi : top = x ∨ bs top = true) {s : Nat × Bool} (h : s ∈ E top) : Rch E x s.1 := by
  rcases hi with rfl | hi
  · exact ⟨0, _, way_one (show (s.1, s.2) ∈ E top from h)⟩
  · obtain ⟨k, c, hw⟩ := hs top ht hi
    exact ⟨k + 1, _, way_snoc hw (show (s.1, s.2) ∈ E top from h)⟩
theorem wmid_push {E : StepF} {n x top j : Nat} {bs : Nat → Bool} {st : List Nat} (h : WMid E n x top j bs st) (hj : j < (E top).length) (hn : (E top)[j].1 < n) (hb : bs (E top)[j].1 = false) : WMid E n x top (j + 1) (setM bs (E top)[j].1) (st ++ [(E top)[j].1]) := by
  have hmono : ∀ u, bs u = true → setM bs (E top)[j].1 u = true := fun u hu => by unfold setM; split; rfl; exact hu
  have hset : setM bs (E top)[j].1 (E top)[j].1 = true := by unfold setM; rw [if_pos rfl]
  refine ⟨fun v hv h1 => ?_, fun u hu => ?_, fun u hu h1 => ?_, fun s hs => ?_, h.tlt, h.tin.imp id (hmono _), ?_⟩
  · unfold setM at h1
    split at h1
    · rename_i e; rw [e]; exact rch_snoc h.sound h.tlt h.tin (List.getElem_mem hj)
    · exact h.sound v hv h1
  · rcases List.mem_append.1 hu with hu | hu
    · obtain ⟨h1, h2⟩ := h.inst u hu
      exact ⟨h1, h2.imp id (hmono _)⟩
    · rw [List.mem_singleton.1 hu]; exact ⟨hn, .inr hset⟩
  · by_cases e : u = (E top)[j].1
    · exact .inl (List.mem_append_right _ (List.mem_singleton.2 e))
    · have h2 : u = x ∨ bs u = true := h1.imp id (fun h3 => by unfold setM at h3; rw [if_neg e] at h3; exact h3)
      rcases h.clos u hu h2 with h3 | h3 | h3
      · exact .inl (List.mem_append_left _ h3)
      · exact .inr (.inl h3)
      · exact .inr (.inr (fun s hs => hmono _ (h3 s hs)))
  · rw [List.take_succ_eq_append_getElem hj] at hs
    rcases List.mem_append.1 hs with hs | hs
    · exact hmono _ (h.gone s hs)
    · rw [List.mem_singleton.1 hs]; exact hset
  · have h1 := cnt_set hn hb
    have h2 := h.few
    rw [List.length_append, List.length_singleton]
    omega
theorem wmid_end {E : StepF} {n x top j : Nat} {bs : Nat → Bool} {st : List Nat} (h : WMid E n x top j bs st) (hj : j = (E top).length) : WInv E n x bs st := by
  subst hj
  refine ⟨h.sound, h.inst, fun u hu h1 => ?_, by have := h.few; omega⟩
  rcases h.clos u hu h1 with h3 | h3 | h3
  · exact .inl h3
  · have := h.gone
    rw [List.take_length, ← h3] at this
    exact .inr this
  · exact .inr h3
theorem winv_done {E : StepF} {n x : Nat} {bs : Nat → Bool} (hc : ∀ u, u < n → ∀ s ∈ E u, s.1 < n) (hx : x < n) (h : WInv E n x bs []) : ∀ v, v < n → (bs v = true ↔ Rch E x v) := by
  intro v hv
  refine ⟨h.sound v hv, ?_⟩
  rintro ⟨k, c, hw⟩
  have key : ∀ (k u c : Nat), u < n → (u = x ∨ bs u = true) → WayG E (k + 1) u c v → bs v = true := by
    intro k
    induction k with
    | zero =>
      intro u c hu h1 h2
      obtain ⟨t, b, c', h3, ⟨_, rfl⟩, _⟩ := h2
      rcases h.clos u hu h1 with h4 | h4
      · cases h4
      · exact h4 _ h3
    | succ k ih =>
      intro u c hu h1 h2
      obtain ⟨t, b, c', h3, h5, _⟩ := h2
      rcases h.clos u hu h1 with h4 | h4
      · cases h4
      · exact ih t c' (hc u hu _ h3) (.inr (h4 _ h3)) h5
  exact key k x c hx (.inl rfl) hw
end Go.Proofs.Ytnmgeaonhbhbkaa.WalkD
