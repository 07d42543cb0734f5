/- What is twice, plain data: a function with each naming of a name being of another one. -/
import Derived.Test.YthbbmookhcalkaaGreatDoorFunS
import Derived.Test.YthbbmookhcalkaaGreatDoorOpen
namespace Go.Proofs.YthbbmookhcalkaaGreatDoor.FoldR
open Go.Proofs.YthbbmookhcalkaaGreatDoor.InsA Go.Proofs.YthbbmookhcalkaaGreatDoor.Name Go.Proofs.YthbbmookhcalkaaGreatDoor.InsB Go.Proofs.YthbbmookhcalkaaGreatDoor.Funs Go.Proofs.YthbbmookhcalkaaGreatDoor.Open Go.Proofs.YthbbmookhcalkaaGreatDoor.FunS
set_option linter.unusedVariables false
set_option maxRecDepth 100000

/-- An instruction with its naming of one name being of the other one. -/
def renI (s t : ByteArray) (x : InsD) : InsD := if refsB x.o && (x.s.toList == s.toList) then ⟨x.o, x.n, t⟩ else x
def renB (s t : ByteArray) (xs : List InsD) : List InsD := xs.map (renI s t)
/-- What FoldName answers. -/
def foldF (s t : ByteArray) (f : FunD) : FunD := if funOkB f.nm f.body && nameB t then ⟨f.nm, f.wk, renB s t f.body⟩ else default
theorem renB_len (s t : ByteArray) (xs : List InsD) : (renB s t xs).length = xs.length := by simp [renB]
theorem renI_o (s t : ByteArray) (x : InsD) : (renI s t x).o = x.o := by
  unfold renI
  split <;> rfl
theorem renI_size {s t : ByteArray} {x : InsD} {m : Nat} (hx : x.s.size ≤ m) (ht : t.size ≤ m) : (renI s t x).s.size ≤ m := by
  unfold renI
  split
  · exact ht
  · exact hx
theorem ren_take {s t : ByteArray} {xs : List InsD} {k : Nat} (hk : k < xs.length) : renB s t (xs.take (k + 1)) = renB s t (xs.take k) ++ [renI s t xs[k]] := by
  unfold renB
  rw [List.take_succ_eq_append_getElem hk, List.map_append]
  rfl
/-- An instruction with its name told anew. -/
def mapI (tf : ByteArray → ByteArray) (x : InsD) : InsD := if refsB x.o then ⟨x.o, x.n, tf x.s⟩ else x
def mapB (tf : ByteArray → ByteArray) (xs : List InsD) : List InsD := xs.map (mapI tf)
def swap (s t nm : ByteArray) : ByteArray := if nm.toList == s.toList then t else nm
theorem ren_map (s t : ByteArray) (x : InsD) : renI s t x = mapI (swap s t) x := by
  unfold renI mapI swap
  cases h1 : refsB x.o <;> cases h2 : (x.s.toList == s.toList) <;> simp
theorem renB_map (s t : ByteArray) (xs : List InsD) : renB s t xs = mapB (swap s t) xs := by
  unfold renB mapB
  exact List.map_congr_left fun x _ => ren_map s t x
theorem mapB_len (tf : ByteArray → ByteArray) (xs : List InsD) : (mapB tf xs).length = xs.length := by simp [mapB]
theorem mapI_no {tf : ByteArray → ByteArray} {x : InsD} (h : refsB x.o = false) : mapI tf x = x := by simp [mapI, h]
theorem mapI_yes {tf : ByteArray → ByteArray} {x : InsD} (h : refsB x.o = true) : mapI tf x = ⟨x.o, x.n, tf x.s⟩ := by simp [mapI, h]
/-- The first k instructions are told anew, the others are as they were. -/
def curB (tf : ByteArray → ByteArray) (xs : List InsD) (k : Nat) : List InsD := mapB tf (xs.take k) ++ xs.drop k
theorem curB_len (tf : ByteArray → ByteArray) {xs : List InsD} {k : Nat} (hk : k ≤ xs.length) : (curB tf xs k).length = xs.length := by
  unfold curB
  rw [List.length_append, mapB_len, List.length_take, List.length_drop]
  omega
theorem curB_zero (tf : ByteArray → ByteArray) (xs : List InsD) : curB tf xs 0 = xs := by simp [curB, mapB]
theorem curB_end (tf : ByteArray → ByteArray) (xs : List InsD) : curB tf xs xs.length = mapB tf xs := by simp [curB]
theorem curB_get {tf : ByteArray → ByteArray} {xs : List InsD} {k : Nat} (hk : k < xs.length) : (curB tf xs k)[k]? = some xs[k] := by
  unfold curB
  rw [List.getElem?_append_right (by rw [mapB_len, List.length_take]; omega), mapB_len, List.length_take, Nat.min_eq_left (Nat.le_of_lt hk), Nat.sub_self, List.getElem?_drop, Nat.add_zero, List.getElem?_eq_getElem hk]
theorem curB_at {tf : ByteArray → ByteArray} {xs : List InsD} {k : Nat} (hk : k < xs.length) (h : k < (curB tf xs k).length) : (curB tf xs k)[k] = xs[k] := by
  have := curB_get (tf := tf) hk
  rw [List.getElem?_eq_getElem h] at this
  exact Option.some.inj this
theorem curB_step {tf : ByteArray → ByteArray} {xs : List InsD} {k : Nat} (hk : k < xs.length) : curB tf xs (k + 1) = (curB tf xs k).set k (mapI tf xs[k]) := by
  unfold curB
  rw [List.set_append_right _ _ (by rw [mapB_len, List.length_take]; omega), mapB_len, List.length_take, Nat.min_eq_left (Nat.le_of_lt hk), Nat.sub_self, List.drop_eq_getElem_cons hk, List.set_cons_zero]
  unfold mapB
  rw [List.take_succ_eq_append_getElem hk, List.map_append, List.append_assoc]
  rfl
theorem curB_skip {tf : ByteArray → ByteArray} {xs : List InsD} {k : Nat} (hk : k < xs.length) (h : refsB xs[k].o = false) : curB tf xs (k + 1) = curB tf xs k := by
  rw [curB_step hk, mapI_no h]
  refine List.ext_getElem (by simp) fun i h1 h2 => ?_
  by_cases e : i = k
  · subst e
    rw [List.getElem_set_self]
    exact (curB_at hk h2).symm
  · rw [List.getElem_set_ne (fun e' => e e'.symm)]
end Go.Proofs.YthbbmookhcalkaaGreatDoor.FoldR
