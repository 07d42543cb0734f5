/- Plain data: what the map says of a place. -/
import Derived.Test.YtjbhbkkkjdpamaaGreatDoorMapK
import Derived.Test.YtjbhbkkkjdpamaaGreatDoorDec
namespace Go.Proofs.YtjbhbkkkjdpamaaGreatDoor.MapN
open Go.Proofs.YtjbhbkkkjdpamaaGreatDoor.Base Go.Proofs.YtjbhbkkkjdpamaaGreatDoor.InsA Go.Proofs.YtjbhbkkkjdpamaaGreatDoor.Funs Go.Proofs.YtjbhbkkkjdpamaaGreatDoor.Open Go.Proofs.YtjbhbkkkjdpamaaGreatDoor.UnitS Go.Proofs.YtjbhbkkkjdpamaaGreatDoor.Refs Go.Proofs.YtjbhbkkkjdpamaaGreatDoor.KeepD Go.Proofs.YtjbhbkkkjdpamaaGreatDoor.KeepA Go.Proofs.YtjbhbkkkjdpamaaGreatDoor.LayA Go.Proofs.YtjbhbkkkjdpamaaGreatDoor.LayD Go.Proofs.YtjbhbkkkjdpamaaGreatDoor.LayT Go.Proofs.YtjbhbkkkjdpamaaGreatDoor.LayV Go.Proofs.YtjbhbkkkjdpamaaGreatDoor.MapD Go.Proofs.YtjbhbkkkjdpamaaGreatDoor.MapJ Go.Proofs.YtjbhbkkkjdpamaaGreatDoor.MapK Go.Proofs.YtjbhbkkkjdpamaaGreatDoor.Dec
set_option linter.unusedVariables false
set_option maxRecDepth 100000

def plusB : ByteArray := ⟨#[43]⟩
def starB : ByteArray := ⟨#[42]⟩
def decB (n : Nat) : ByteArray := ⟨(Lib.decDigits n).toArray⟩
/-- Of an instruction. -/
def insN (nm : ByteArray) (j : Nat) : ByteArray := if j = 0 then nm else nm ++ plusB ++ decB j
/-- Where the k'th function's j'th stone stands. -/
def stoneAt (fs : List FunD) (st : List (List ByteArray)) (at_ : Int) (k j : Nat) : Prop := ((place fs st k + lenAt fs k + j : Nat) : Int) = at_ ∧ k < fs.length ∧ j < (stAt st k).length
/-- What the map says of a place: an instruction, a stone, or nothing. -/
def NameIs (fs : List FunD) (ns : List Int) (st : List (List ByteArray)) (at_ : Int) (o : ByteArray) : Prop :=
  (∃ k : Nat, spotN fs ns st at_ = some k ∧ o = insN (fs.getD k default).nm (at_ - (place fs st k : Int)).toNat) ∨ (spotN fs ns st at_ = none ∧ formB fs ns st = true ∧ ∃ k j, stoneAt fs st at_ k j ∧ o = starB ++ (stAt st k).getD j ⟨#[]⟩) ∨ (spotN fs ns st at_ = none ∧ (formB fs ns st = true → ∀ k j, ¬ stoneAt fs st at_ k j) ∧ o = ⟨#[]⟩)
theorem stone_one {fs : List FunD} {st : List (List ByteArray)} {at_ : Int} {k j k' j' : Nat} (h : stoneAt fs st at_ k j) (h' : stoneAt fs st at_ k' j') : k = k' ∧ j = j' := by
  obtain ⟨e1, e2, e3⟩ := h
  obtain ⟨f1, f2, f3⟩ := h'
  rcases Nat.lt_trichotomy k k' with e | e | e
  · have := place_mono (fs := fs) (st := st) (show k + 1 ≤ k' by omega)
    rw [place] at this
    omega
  · subst e
    exact ⟨rfl, by omega⟩
  · have := place_mono (fs := fs) (st := st) (show k' + 1 ≤ k by omega)
    rw [place] at this
    omega
theorem name_one {fs : List FunD} {ns : List Int} {st : List (List ByteArray)} {at_ : Int} {o o' : ByteArray} (h : NameIs fs ns st at_ o) (h' : NameIs fs ns st at_ o') : o = o' := by
  rcases h with ⟨k, h1, h2⟩ | ⟨h1, hf, k, j, hs, h2⟩ | ⟨h1, h3, h2⟩
  · rcases h' with ⟨k', g1, g2⟩ | ⟨g1, _⟩ | ⟨g1, _⟩
    · rw [h1] at g1; cases g1; rw [h2, g2]
    · rw [h1] at g1; cases g1
    · rw [h1] at g1; cases g1
  · rcases h' with ⟨k', g1, g2⟩ | ⟨g1, gf, k', j', gs, g2⟩ | ⟨g1, g3, g2⟩
    · rw [h1] at g1; cases g1
    · obtain ⟨rfl, rfl⟩ := stone_one hs gs; rw [h2, g2]
    · exact absurd hs (g3 hf k j)
  · rcases h' with ⟨k', g1, g2⟩ | ⟨g1, gf, k', j', gs, g2⟩ | ⟨g1, g3, g2⟩
    · rw [h1] at g1; cases g1
    · exact absurd gs (h3 gf k' j')
    · rw [h2, g2]
/-- Behind its instructions a function's stones stand. -/
theorem upTo_stone {fs : List FunD} {st : List (List ByteArray)} {at_ : Int} {q : Nat} (hq : q < fs.length) (hu : UpTo fs st at_ q) (hsz : at_ < (place fs st fs.length : Int)) (hm : ((place fs st q + lenAt fs q : Nat) : Int) ≤ at_) : stoneAt fs st at_ q (at_ - ((place fs st q + lenAt fs q : Nat) : Int)).toNat := by
  have hn : at_ < (place fs st (q + 1) : Int) := by
    rcases Nat.lt_or_ge (q + 1) fs.length with e | e
    · exact hu.2 (q + 1) (by omega) e
    · have : q + 1 = fs.length := by omega
      rw [this]; exact hsz
  rw [place] at hn
  exact ⟨by omega, hq, by omega⟩
theorem out_stone {fs : List FunD} {st : List (List ByteArray)} {at_ : Int} (h : at_ < 0 ∨ (place fs st fs.length : Int) ≤ at_) : ∀ k j, ¬ stoneAt fs st at_ k j := fun k j hs => by
  obtain ⟨e1, e2, e3⟩ := hs
  have := place_mono (fs := fs) (st := st) (show k + 1 ≤ fs.length by omega)
  rw [place] at this
  omega
end Go.Proofs.YtjbhbkkkjdpamaaGreatDoor.MapN
