/- Plain data: where an instruction stands, what stands at a place, and what the map says of it. -/
import Derived.Test.YtjbhbkkkjdpamaaGreatDoorLayT
namespace Go.Proofs.YtjbhbkkkjdpamaaGreatDoor.MapD
open Go.Proofs.YtjbhbkkkjdpamaaGreatDoor.InsA Go.Proofs.YtjbhbkkkjdpamaaGreatDoor.Funs Go.Proofs.YtjbhbkkkjdpamaaGreatDoor.Open Go.Proofs.YtjbhbkkkjdpamaaGreatDoor.UnitS Go.Proofs.YtjbhbkkkjdpamaaGreatDoor.Refs Go.Proofs.YtjbhbkkkjdpamaaGreatDoor.KeepD Go.Proofs.YtjbhbkkkjdpamaaGreatDoor.KeepA Go.Proofs.YtjbhbkkkjdpamaaGreatDoor.LayA Go.Proofs.YtjbhbkkkjdpamaaGreatDoor.LayD Go.Proofs.YtjbhbkkkjdpamaaGreatDoor.LayT
set_option linter.unusedVariables false
set_option maxRecDepth 100000

/-- Whether a program has such an instruction. -/
def spotQ (fs : List FunD) (f p : Int) : Bool := decide (0 ≤ f) && decide (f < fs.length) && decide (0 ≤ p) && decide (p < (lenAt fs f.toNat : Int))
/-- Where it stands. -/
def mapAtI (fs : List FunD) (ns : List Int) (st : List (List ByteArray)) (f p : Int) : Int :=
  if formB fs ns st && spotQ fs f p then (place fs st f.toNat : Int) + p else -1
/-- Whether an instruction of the i'th function stands at a place. -/
def hitB (fs : List FunD) (st : List (List ByteArray)) (at_ : Int) (i : Nat) : Bool := decide ((place fs st i : Int) ≤ at_) && decide (at_ < ((place fs st i + lenAt fs i : Nat) : Int))
/-- The function of which an instruction stands there. -/
def spotN (fs : List FunD) (ns : List Int) (st : List (List ByteArray)) (at_ : Int) : Option Nat :=
  if formB fs ns st then (List.range fs.length).find? (hitB fs st at_) else none

theorem mapAt_no {fs : List FunD} {ns : List Int} {st : List (List ByteArray)} {f p : Int} (h : formB fs ns st = false ∨ spotQ fs f p = false) : mapAtI fs ns st f p = -1 := by
  unfold mapAtI
  rcases h with h | h <;> simp [h]
theorem mapAt_yes {fs : List FunD} {ns : List Int} {st : List (List ByteArray)} {k j : Nat} (h : formB fs ns st = true) (hs : spotQ fs (k : Int) (j : Int) = true) : mapAtI fs ns st (k : Int) (j : Int) = ((place fs st k + j : Nat) : Int) := by
  unfold mapAtI
  simp [h, hs]
theorem spotQ_parts {fs : List FunD} {f p : Int} (h : spotQ fs f p = true) : ∃ k j : Nat, f = (k : Int) ∧ p = (j : Int) ∧ ∃ hk : k < fs.length, j < fs[k].body.length := by
  unfold spotQ at h
  simp only [Bool.and_eq_true, decide_eq_true_iff] at h
  obtain ⟨⟨⟨h1, h2⟩, h3⟩, h4⟩ := h
  have hk : f.toNat < fs.length := by omega
  refine ⟨f.toNat, p.toNat, by omega, by omega, hk, ?_⟩
  rw [lenAt_is hk] at h4
  omega
theorem spotQ_yes {fs : List FunD} {k j : Nat} (hk : k < fs.length) (hj : j < fs[k].body.length) : spotQ fs (k : Int) (j : Int) = true := by
  unfold spotQ
  simp only [Bool.and_eq_true, decide_eq_true_iff, Int.toNat_natCast]
  rw [lenAt_is hk]
  exact ⟨⟨⟨by omega, by omega⟩, by omega⟩, by omega⟩
theorem spotQ_pc {fs : List FunD} {k j : Nat} (hk : k < fs.length) (hj : ¬ j < fs[k].body.length) : spotQ fs (k : Int) (j : Int) = false := by
  have h : ¬ ((j : Int) < (fs[k].body.length : Int)) := by omega
  unfold spotQ
  rw [Int.toNat_natCast, lenAt_is hk, decide_eq_false h, Bool.and_false]
/-- One place is of one function. -/
theorem hit_one {fs : List FunD} {st : List (List ByteArray)} {at_ : Int} {i j : Nat} (hi : hitB fs st at_ i = true) (hj : hitB fs st at_ j = true) : i = j := by
  unfold hitB at hi hj
  simp only [Bool.and_eq_true, decide_eq_true_iff] at hi hj
  rcases Nat.lt_trichotomy i j with h | h | h
  · have := place_mono (fs := fs) (st := st) (show i + 1 ≤ j by omega)
    rw [place] at this
    omega
  · exact h
  · have := place_mono (fs := fs) (st := st) (show j + 1 ≤ i by omega)
    rw [place] at this
    omega
theorem hit_iff {fs : List FunD} {st : List (List ByteArray)} {at_ : Int} {i : Nat} : hitB fs st at_ i = true ↔ (place fs st i : Int) ≤ at_ ∧ at_ < ((place fs st i + lenAt fs i : Nat) : Int) := by
  unfold hitB
  simp only [Bool.and_eq_true, decide_eq_true_iff]
theorem spotN_form {fs : List FunD} {ns : List Int} {st : List (List ByteArray)} {at_ : Int} (h : formB fs ns st = false) : spotN fs ns st at_ = none := by simp [spotN, h]
theorem spotN_some {fs : List FunD} {ns : List Int} {st : List (List ByteArray)} {at_ : Int} {k : Nat} (h : formB fs ns st = true) (hk : k < fs.length) (hh : hitB fs st at_ k = true) : spotN fs ns st at_ = some k := by
  unfold spotN
  rw [if_pos h]
  exact range_find hk hh (fun j hj => by
    cases e : hitB fs st at_ j with
    | false => rfl
    | true => have := hit_one e hh; omega)
theorem spotN_none {fs : List FunD} {ns : List Int} {st : List (List ByteArray)} {at_ : Int} (h : ∀ j, j < fs.length → hitB fs st at_ j = false) : spotN fs ns st at_ = none := by
  unfold spotN
  split
  · exact range_none h
  · rfl
theorem spotN_facts {fs : List FunD} {ns : List Int} {st : List (List ByteArray)} {at_ : Int} {k : Nat} (h : spotN fs ns st at_ = some k) : formB fs ns st = true ∧ k < fs.length ∧ hitB fs st at_ k = true := by
  unfold spotN at h
  split at h
  · rename_i hf
    rw [List.find?_range_eq_some] at h
    exact ⟨hf, by simpa using h.2.1, h.1⟩
  · cases h
/-- What MapSpot answers. -/
def spotE (fs : List FunD) (ns : List Int) (st : List (List ByteArray)) (at_ : Int) : Int × Int × Bool :=
  match spotN fs ns st at_ with | none => (0, 0, false) | some k => ((k : Int), at_ - (place fs st k : Int), true)
theorem spotE_none {fs : List FunD} {ns : List Int} {st : List (List ByteArray)} {at_ : Int} (h : spotN fs ns st at_ = none) : spotE fs ns st at_ = (0, 0, false) := by simp [spotE, h]
theorem spotE_some {fs : List FunD} {ns : List Int} {st : List (List ByteArray)} {at_ : Int} {k : Nat} (h : spotN fs ns st at_ = some k) : spotE fs ns st at_ = ((k : Int), at_ - (place fs st k : Int), true) := by simp [spotE, h]
/-- The last function that begins at a place or ahead of it. -/
def UpTo (fs : List FunD) (st : List (List ByteArray)) (at_ : Int) (k : Nat) : Prop := (place fs st k : Int) ≤ at_ ∧ ∀ j, k < j → j < fs.length → at_ < (place fs st j : Int)
/-- Behind its instructions there is none. -/
theorem upTo_miss {fs : List FunD} {ns : List Int} {st : List (List ByteArray)} {at_ : Int} {k : Nat} (hu : UpTo fs st at_ k) (hm : ((place fs st k + lenAt fs k : Nat) : Int) ≤ at_) : spotN fs ns st at_ = none := by
  refine spotN_none fun j hj => ?_
  cases e : hitB fs st at_ j with
  | false => rfl
  | true =>
    rw [hit_iff] at e
    rcases Nat.lt_trichotomy j k with h | h | h
    · have := place_mono (fs := fs) (st := st) (show j + 1 ≤ k by omega)
      rw [place] at this
      have := hu.1
      omega
    · subst h; omega
    · have := hu.2 j h hj
      omega
end Go.Proofs.YtjbhbkkkjdpamaaGreatDoor.MapD
