/- The contracts of the specification's l2Put, l2Wants. -/
import Derived.Test.YthbbmookhcalkaaGreatUnitS
import Derived.Test.YthbbmookhcalkaaGreatMark
import Derived.Deep.AppendLies
import Derived.Maps.Range
namespace Go.Proofs.YthbbmookhcalkaaGreat.WantsS
open Go.ChangeShapes Go.WideShapes Go.ChangeAt Go.RowKit Go.Joins
open Go.Proofs.YthbbmookhcalkaaGreat.Base Go.Proofs.YthbbmookhcalkaaGreat.InsA Go.Proofs.YthbbmookhcalkaaGreat.InsB Go.Proofs.YthbbmookhcalkaaGreat.Funs Go.Proofs.YthbbmookhcalkaaGreat.Open Go.Proofs.YthbbmookhcalkaaGreat.FunS Go.Proofs.YthbbmookhcalkaaGreat.Keep Go.Proofs.YthbbmookhcalkaaGreat.UnitS Go.Proofs.YthbbmookhcalkaaGreat.Refs Go.Proofs.YthbbmookhcalkaaGreat.Mark
set_option linter.unusedVariables false
set_option maxRecDepth 100000

def ltS (t s : ByteArray) : Bool := Op.bytesLess t.toList s.toList
/-- A text put among others, at the place k. -/
def putAt (ss : List ByteArray) (s : ByteArray) (k : Nat) : List ByteArray := ss.take k ++ [s] ++ ss.drop k
/-- What l2Put makes of a list. -/
def Put (ss : List ByteArray) (s : ByteArray) (out : List ByteArray) : Prop :=
  ∃ k, k ≤ ss.length ∧ (∀ i (h : i < ss.length), i < k → ltS ss[i] s = true) ∧ ((∃ h : k < ss.length, ss[k].toList = s.toList ∧ out = ss) ∨ ((∀ h : k < ss.length, ltS ss[k] s = false ∧ ss[k].toList ≠ s.toList) ∧ out = putAt ss s k))
theorem putAt_len (ss : List ByteArray) (s : ByteArray) {k : Nat} (hk : k ≤ ss.length) : (putAt ss s k).length = ss.length + 1 := by simp [putAt]; omega
theorem own_some {w : World} {B : Nat} {e : TypeId} {z n : Nat} {v : Value} {xs : List Value} (h : w.ownsRow B e z v n xs) (hn : v ≠ .slice none 0 0) : ∃ g c, v = .slice (some ⟨g, 0, none⟩) n c ∧ B ≤ g ∧ g < w.heap.size := by
  obtain ⟨_, ⟨rfl, _⟩ | ⟨g, cap, cur, rfl, hB, hg, _⟩⟩ := h
  · exact absurd rfl hn
  · exact ⟨g, cap, rfl, hB, (Array.getElem?_eq_some_iff.1 hg).1⟩
theorem own_take {w : World} {B g cap : Nat} {ss : List ByteArray} (h : StrOwn w B (.slice (some ⟨g, 0, none⟩) ss.length cap) ss) {k : Nat} (hk : k ≤ ss.length) : w.ownsRow B 9 1 (.slice (some ⟨g, 0, none⟩) k cap) k ((ss.take k).map Value.string) := by
  obtain ⟨_, ⟨hv, _⟩ | ⟨g', cap', cur, hv, hB, hg, hn, hm, hsz, ht⟩⟩ := h
  · simp at hv
  · simp only [Value.slice.injEq, Option.some.injEq, Addr.mk.injEq, and_true, true_and] at hv
    obtain ⟨rfl, rfl⟩ := hv
    refine ⟨by simp; omega, .inr ⟨g, cap, cur, rfl, hB, hg, by omega, hm, hsz, ?_⟩⟩
    have h1 : cur.toList.take (k * 1) = (cur.toList.take (ss.length * 1)).take k := by rw [List.take_take]; congr 1; omega
    rw [h1, ht, ← List.map_take]
theorem tail_cells {w : World} {B g cap : Nat} {ss : List ByteArray} (h : StrOwn w B (.slice (some ⟨g, 0, none⟩) ss.length cap) ss) (k : Nat) : ∀ j u, ((ss.drop k).map Value.string)[j]? = some u → w.cell? ((⟨g, k, none⟩ : Addr).add j) = some u := by
  intro j u hj
  obtain ⟨a', c', e, _, _, hc⟩ := h.at
  simp only [Value.slice.injEq, true_and] at e
  obtain ⟨rfl, rfl⟩ := e
  have hl : k + j < ss.length := by
    have := (List.getElem?_eq_some_iff.1 hj).1
    simp at this
    omega
  obtain h0 | ⟨b, off, e, hc⟩ := hc
  · rw [h0] at hl; simp at hl
  · simp only [Option.some.injEq, Addr.mk.injEq, and_true] at e
    obtain ⟨rfl, rfl⟩ := e
    rw [add_plain]
    have := hc (k + j) hl
    simp only [Nat.zero_add] at this
    rw [this]
    simp [List.getElem?_eq_getElem hl] at hj
    rw [hj]
theorem str_one : ∀ (l : List ByteArray), ∀ u ∈ l.map Value.string, u.oneCell' = true := by
  intro l u hu
  obtain ⟨x, _, rfl⟩ := List.mem_map.1 hu
  rfl
theorem row_cells {w : World} {B g : Nat} {e : TypeId} {n cap : Nat} {xs : List Value} (h : w.ownsRow B e 1 (.slice (some ⟨g, 0, none⟩) n cap) n xs) : ∀ j u, xs[j]? = some u → w.cell? ((⟨g, 0, none⟩ : Addr).add j) = some u := h.cells rfl

theorem put_own {w : World} {B k : Nat} {v : Value} {ss : List ByteArray} {s : ByteArray} (hk : k ≤ ss.length) (h : w.ownsRow B 9 1 v (k + 1 + (ss.length - k)) ((ss.take k).map Value.string ++ [.string s] ++ (ss.drop k).map Value.string)) : StrOwn w B v (putAt ss s k) := by
  unfold StrOwn
  rw [putAt_len ss s hk, show ss.length + 1 = k + 1 + (ss.length - k) by omega]
  simpa [putAt] using h
theorem put_but {w w1 w2 w3 : World} {g g2 : Nat} {o1 o2 : Obj} (h1 : (w.alloc o1).grownBy w1 (some w.heap.size)) (h2 : (w1.alloc o2).grownBy w2 (some g)) (hat : g2 = g ∨ w.heap.size ≤ g2) (h3 : w2.grownBy w3 (some g2)) : But g w w3 :=
  ((World.grownBy_alloc w o1 (some g)).andThen h1 (fun j hj => .inl (by cases hj; exact Nat.le_refl _))).andThen ((World.grownBy_alloc w1 o2 (some g)).trans h2) (fun j hj => .inr hj) |>.andThen h3 (fun j hj => by cases hj; rcases hat with h | h; exact .inr (by rw [h]); exact .inl h)

end Go.Proofs.YthbbmookhcalkaaGreat.WantsS
