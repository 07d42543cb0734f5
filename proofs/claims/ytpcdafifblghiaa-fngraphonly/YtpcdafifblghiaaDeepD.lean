/- Plain facts on calls that are raised, step by step, till none grows. -/
import Derived.Test.YtpcdafifblghiaaWayD
namespace Go.Proofs.Ytpcdafifblghiaa.DeepD
open Go.Proofs.Ytpcdafifblghiaa.WayD
set_option linter.unusedVariables false

def setZ (C : Nat → Int) (k : Nat) (z : Int) (u : Nat) : Int := if u = k then z else C u
/-- How a function is reached: not yet, or by a way of so many calls. -/
def Got (E : StepF) (C : Nat → Int) (u : Nat) : Prop := C u = -1 ∨ (0 ≤ C u ∧ ∃ len, WayG E len 0 (C u).toNat u)
/-- What stands along a turn: the first k functions are gone, and of the next one j steps. -/
structure DInv (E : StepF) (n : Nat) (B : Int) (C0 C : Nat → Int) (more : Bool) (k j : Nat) : Prop where
  ge : ∀ u, u < n → C0 u ≤ C u
  got : ∀ u, u < n → Got E C u
  same : more = false → ∀ u, u < n → C u = C0 u
  grew : more = true → ∃ u, u < n ∧ C0 u < C u
  clos : more = false → ∀ u, u < k → 0 ≤ C0 u → ∀ s ∈ E u, C0 u + wt s.2 ≤ C0 s.1
  row : more = false → ∀ s ∈ (E k).take j, C0 k + wt s.2 ≤ C0 s.1
  few : ∀ u, u < n → C u ≤ B + (10 * k + j : Nat)
theorem wt_le (b : Bool) : wt b ≤ 1 := by unfold wt; split <;> omega
theorem dinv_start {E : StepF} {n : Nat} {B : Int} {C : Nat → Int} (hg : ∀ u, u < n → Got E C u) (hB : ∀ u, u < n → C u ≤ B) : DInv E n B C C false 0 0 :=
  ⟨fun _ _ => Int.le_refl _, hg, fun _ _ _ => rfl, (fun h => by cases h), fun _ u hu => by omega, (fun _ s hs => by simp at hs), fun u hu => by have := hB u hu; omega⟩
theorem dinv_skip {E : StepF} {n : Nat} {B : Int} {C0 C : Nat → Int} {more : Bool} {k : Nat} (h : DInv E n B C0 C more k 0) (hk : k < n) (hC : C k = -1) : DInv E n B C0 C more (k + 1) 0 := by
  refine ⟨h.ge, h.got, h.same, h.grew, fun hm u hu h0 => ?_, (fun _ s hs => by simp at hs), fun u hu => by have := h.few u hu; omega⟩
  by_cases e : u = k
  · subst e
    have := h.same hm u hk
    omega
  · exact h.clos hm u (by omega) h0
theorem dinv_row {E : StepF} {n : Nat} {B : Int} {C0 C : Nat → Int} {more : Bool} {k j : Nat} (h : DInv E n B C0 C more k j) (hj : j = (E k).length) (h10 : (E k).length ≤ 10) : DInv E n B C0 C more (k + 1) 0 := by
  subst hj
  refine ⟨h.ge, h.got, h.same, h.grew, fun hm u hu h0 => ?_, (fun _ s hs => by simp at hs), fun u hu => by have := h.few u hu; omega⟩
  by_cases e : u = k
  · subst e
    have := h.row hm
    rw [List.take_length] at this
    exact this
  · exact h.clos hm u (by omega) h0
theorem dinv_stay {E : StepF} {n : Nat} {B : Int} {C0 C : Nat → Int} {more : Bool} {k j : Nat} (h : DInv E n B C0 C more k j) (hk : k < n) (hj : j < (E k).length) (ht : (E k)[j].1 < n) (hle : C k + wt (E k)[j].2 ≤ C (E k)[j].1) : DInv E n B C0 C more k (j + 1) := by
  refine ⟨h.ge, h.got, h.same, h.grew, h.clos, fun hm s hs => ?_, fun u hu => by have := h.few u hu; omega⟩
  rw [List.take_succ_eq_append_getElem hj] at hs
  rcases List.mem_append.1 hs with hs | hs
  · exact h.row hm s hs
  · rw [List.mem_singleton.1 hs]
    have h1 := h.same hm k hk
    have h2 := h.same hm _ ht
    omega
theorem dinv_more {E : StepF} {n : Nat} {B : Int} {C0 C : Nat → Int} {more : Bool} {k j : Nat} (h : DInv E n B C0 C more k j) (hk : k < n) (hj : j < (E k).length) (ht : (E k)[j].1 < n) (h0 : 0 ≤ C k) (hlt : C (E k)[j].1 < C k + wt (E k)[j].2) : DInv E n B C0 (setZ C (E k)[j].1 (C k + wt (E k)[j].2)) true k (j + 1) := by
  have hw := wt_le (E k)[j].2
  refine ⟨fun u hu => ?_, fun u hu => ?_, (fun hm => by cases hm), fun _ => ⟨_, ht, ?_⟩, (fun hm => by cases hm), (fun hm => by cases hm), fun u hu => ?_⟩
  · have := h.ge u hu
    unfold setZ
    split
    · rename_i e; rw [e] at this ⊢; omega
    · exact this
  · unfold Got setZ
    split
    · rename_i e
      refine .inr ⟨by omega, ?_⟩
      rcases h.got k hk with h1 | ⟨_, len, h1⟩
      · omega
      · refine ⟨len + 1, ?_⟩
        have h2 := way_snoc h1 (show ((E k)[j].1, (E k)[j].2) ∈ E k from List.getElem_mem hj)
        rw [e]
        have e2 : (C k + (wt (E k)[j].2 : Nat)).toNat = (C k).toNat + wt (E k)[j].2 := by omega
        rw [e2]; exact h2
    · exact h.got u hu
  · have := h.ge _ ht
    unfold setZ
    rw [if_pos rfl]; omega
  · have h1 := h.few u hu
    have h2 := h.few k hk
    unfold setZ
    split <;> omega
theorem set_kept {C : Nat → Int} {t k : Nat} {z : Int} (h : 0 ≤ C k) (hz : 0 ≤ z) : 0 ≤ setZ C t z k := by
  unfold setZ
  split
  · exact hz
  · exact h
/-- The turn's end. -/
theorem dinv_far {E : StepF} {n : Nat} {B : Int} {C0 C : Nat → Int} {more : Bool} {k j : Nat} (hc : ∀ u, u < n → ∀ s ∈ E u, s.1 < n) (h0 : 0 < n) (h : DInv E n B C0 C more k j) {u : Nat} (hu : u < n) (hn : (n : Int) ≤ C u) : Deepest E (-1) := by
  rcases h.got u hu with h1 | ⟨_, len, h1⟩
  · omega
  · exact deepest_far hc h0 h1 (by omega)
theorem dinv_calls {E : StepF} {n : Nat} {B : Int} {C0 C : Nat → Int} (hc : ∀ u, u < n → ∀ s ∈ E u, s.1 < n) (h0 : 0 < n) (h : DInv E n B C0 C false n 0) (hz : 0 ≤ C0 0) {z : Int} {u : Nat} (hu : u < n) (hm : C u = z) (hle : ∀ v, v < n → C v ≤ z) : Deepest E z := by
  have hs := h.same rfl
  have hz0 : 0 ≤ z := by have := hle 0 h0; have := hs 0 h0; omega
  obtain ⟨m, rfl⟩ : ∃ m : Nat, z = m := ⟨z.toNat, (Int.toNat_of_nonneg hz0).symm⟩
  refine deepest_calls (n := n) (calls := C0) hc h0 hz (fun v hv h1 s hs' => h.clos rfl v hv h1 s hs') (fun v hv => by rw [← hs v hv]; exact hle v hv) ?_
  rcases h.got u hu with h1 | ⟨_, len, h1⟩
  · omega
  · rw [hm, Int.toNat_natCast] at h1
    exact ⟨len, u, h1⟩
/-- How much there still is to grow. -/
def room (C : Nat → Int) (n : Nat) : Nat := sumTo (fun u => ((n : Int) - C u).toNat) n
theorem room_less {n : Nat} {C0 C : Nat → Int} (hge : ∀ u, u < n → C0 u ≤ C u) (hg : ∃ u, u < n ∧ C0 u < C u) (hlt : ∀ u, u < n → C u < n) : room C n < room C0 n := by
  have := sum_lt (f := fun u => ((n : Int) - C u).toNat) (g := fun u => ((n : Int) - C0 u).toNat) (n := n) (fun u hu => by have := hge u hu; omega) (by
    obtain ⟨u, hu, h⟩ := hg
    exact ⟨u, hu, by have := hlt u hu; omega⟩)
  unfold room
  omega
def first0 (u : Nat) : Int := if u = 0 then 0 else -1
theorem got_first (E : StepF) (u : Nat) : Got E first0 u := by
  unfold Got
  by_cases h : u = 0
  · have e : first0 u = 0 := by unfold first0; rw [if_pos h]
    rw [e]; exact .inr ⟨Int.le_refl _, 0, by rw [h]; exact way_nil E 0⟩
  · exact .inl (by unfold first0; rw [if_neg h])
end Go.Proofs.Ytpcdafifblghiaa.DeepD
