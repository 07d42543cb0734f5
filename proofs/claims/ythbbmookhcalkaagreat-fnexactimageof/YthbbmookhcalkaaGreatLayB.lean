/- The contracts of LayMany and LaySame of both sides. -/
import Derived.Test.YthbbmookhcalkaaGreatLayA
namespace Go.Proofs.YthbbmookhcalkaaGreat.LayB
open Go.ChangeShapes Go.WideShapes Go.ChangeAt Go.RowKit Go.Joins Go.Deep
open Go.Proofs.YthbbmookhcalkaaGreat.Base Go.Proofs.YthbbmookhcalkaaGreat.Funs Go.Proofs.YthbbmookhcalkaaGreat.Open Go.Proofs.YthbbmookhcalkaaGreat.Keep Go.Proofs.YthbbmookhcalkaaGreat.Refs Go.Proofs.YthbbmookhcalkaaGreat.LayN Go.Proofs.YthbbmookhcalkaaGreat.LayA
set_option linter.unusedVariables false
set_option maxRecDepth 100000

def tl (ns : List ByteArray) : List (List UInt8) := ns.map ByteArray.toList
def manyTo (st : List (List ByteArray)) : Nat → Nat
  | 0 => 0
  | k + 1 => manyTo st k + (st.getD k []).length
def manyN (st : List (List ByteArray)) : Nat := manyTo st st.length
theorem many_succ {st : List (List ByteArray)} {k : Nat} (h : k < st.length) : manyTo st (k + 1) = manyTo st k + st[k].length := by simp [manyTo, List.getD, List.getElem?_eq_getElem h]
theorem many_bd {st : List (List ByteArray)} (h : ∀ ss ∈ st, ss.length ≤ 1048576) : ∀ k, k ≤ st.length → manyTo st k ≤ k * 1048576
  | 0, _ => by simp [manyTo]
  | k + 1, hk => by
    have := many_bd h k (by omega)
    have := h _ (List.getElem_mem (show k < st.length by omega))
    rw [many_succ (by omega), Nat.succ_mul]; omega
theorem many_end {st : List (List ByteArray)} {k : Nat} (h : ¬ k < st.length) (hk : k ≤ st.length) : manyTo st k = manyN st := by rw [show k = st.length by omega]; rfl



def laySameB (ns ns' : List Int) (st st' : List (List ByteArray)) : Bool := decide (ns = ns') && decide (st.map tl = st'.map tl)
theorem tl_inj : ∀ {a b : List ByteArray}, tl a = tl b → a = b
  | [], [], _ => rfl
  | [], _ :: _, h => by simp [tl] at h
  | _ :: _, [], h => by simp [tl] at h
  | x :: a, y :: b, h => by
    simp only [tl, List.map_cons, List.cons.injEq] at h
    have e : x = y := by
      have h1 := h.1
      rw [ByteArray.toList_eq, ByteArray.toList_eq] at h1
      exact ByteArray.ext (Array.toList_inj.1 h1)
    rw [e, tl_inj (show tl a = tl b from h.2)]
theorem stl_inj : ∀ {a b : List (List ByteArray)}, a.map tl = b.map tl → a = b
  | [], [], _ => rfl
  | [], _ :: _, h => by simp at h
  | _ :: _, [], h => by simp at h
  | x :: a, y :: b, h => by
    simp only [List.map_cons, List.cons.injEq] at h
    rw [tl_inj h.1, stl_inj h.2]
theorem laySame_iff {ns ns' : List Int} {st st' : List (List ByteArray)} : laySameB ns ns' st st' = true ↔ ns = ns' ∧ st = st' := by
  unfold laySameB
  rw [Bool.and_eq_true, decide_eq_true_iff, decide_eq_true_iff]
  exact ⟨fun h => ⟨h.1, stl_inj h.2⟩, fun h => ⟨h.1, by rw [h.2]⟩⟩
theorem texts_get {xs ys : List (List ByteArray)} {k : Nat} (hx : k < xs.length) (hy : k < ys.length) (h : decide (tl xs[k] = tl ys[k]) = false) : false = decide (xs.map tl = ys.map tl) :=
  list_ne (k := k) (by simpa using hx) (by simpa using hy) (by simpa using h)
theorem same_at {ns ns' : List Int} {st st' : List (List ByteArray)} (h : ns ≠ ns') : false = laySameB ns ns' st st' := by simp [laySameB, h]
theorem same_st {ns ns' : List Int} {st st' : List (List ByteArray)} (h : false = decide (st.map tl = st'.map tl)) : false = laySameB ns ns' st st' := by simp [laySameB, ← h]
theorem same_yes {ns ns' : List Int} {st st' : List (List ByteArray)} (h0 : ns = ns') (h : true = decide (st.map tl = st'.map tl)) : true = laySameB ns ns' st st' := by simp [laySameB, ← h, h0]

end Go.Proofs.YthbbmookhcalkaaGreat.LayB
