/- Plain data of an image: when it is right, what is done at a place, and that its places stay places. -/
import Derived.Test.YthbbmookhcalkaaDoorCellA
import Derived.Test.YthbbmookhcalkaaDoorInsA
import Derived.Test.YthbbmookhcalkaaDoorSum
namespace Go.Proofs.YthbbmookhcalkaaDoor.ImgD
open Go.ChangeShapes Go.WideShapes Go.ChangeAt Go.RowKit Go.Joins
open Go.Proofs.YthbbmookhcalkaaDoor.Base Go.Proofs.YthbbmookhcalkaaDoor.InsA Go.Proofs.YthbbmookhcalkaaDoor.LayN Go.Proofs.YthbbmookhcalkaaDoor.CellA Go.Proofs.YthbbmookhcalkaaDoor.Sum
set_option linter.unusedVariables false
set_option maxRecDepth 100000

def cellOf (l : List CellD) (q : Int) : CellD := l.getD q.toNat default
theorem cellOf_at {l : List CellD} {k : Nat} (hk : k < l.length) : cellOf l k = l[k] := by
  unfold cellOf; simp [List.getD, List.getElem?_eq_getElem hk]
/-- Whether a cell can stand at that place. -/
def oneB (l : List CellD) (r : Int) (k : Nat) (x : CellD) : Bool :=
  if x.f = 8 then decide (0 ≤ x.p) && (decide (x.p < (l.length : Int)) && !decide ((cellOf l x.p).f = 8))
  else if x.f = 2 then decide (-1000 ≤ x.p) && decide (x.p ≤ 1000)
  else if refsB x.f then decide (-r ≤ x.p) && (decide (x.p ≤ r) && (decide (0 ≤ (k : Int) + x.p) && decide ((k : Int) + x.p < (l.length : Int))))
  else (x.f == 1 || x.f == 6 || x.f == 7) && x.p == 0
def endB (l : List CellD) : Bool := lastB (cellOf l (l.length - 1 : Nat)).f || (cellOf l (l.length - 1 : Nat)).f == 8
def headB (l : List CellD) (r : Int) : Bool := decide (1 ≤ l.length) && decide (l.length ≤ 800) && decide (1 ≤ r) && decide (r ≤ 100)
def imageB (l : List CellD) (r : Int) : Bool := headB l r && endB l && (List.range l.length).all fun k => oneB l r k (cellOf l k)
/-- The first n can stand where they stand. -/
def GoodTo (l : List CellD) (r : Int) (n : Nat) : Prop := ∀ k, k < n → oneB l r k (cellOf l k) = true
theorem GoodTo.zero (l : List CellD) (r : Int) : GoodTo l r 0 := fun k h => by omega
theorem GoodTo.step {l : List CellD} {r : Int} {n : Nat} (h : GoodTo l r n) (h1 : oneB l r n (cellOf l n) = true) : GoodTo l r (n + 1) := fun k hk => by
  by_cases e : k = n
  · subst e; exact h1
  · exact h k (by omega)
theorem image_head {l : List CellD} {r : Int} (h : headB l r = false) : false = imageB l r := by unfold imageB; rw [h]; rfl
theorem image_end {l : List CellD} {r : Int} (h : endB l = false) : false = imageB l r := by unfold imageB; rw [h]; simp
theorem image_no {l : List CellD} {r : Int} {k : Nat} (hk : k < l.length) (h : oneB l r k (cellOf l k) = false) : false = imageB l r := by
  symm
  unfold imageB
  rw [Bool.and_eq_false_iff]
  right
  rw [List.all_eq_false]
  exact ⟨k, List.mem_range.2 hk, by rw [h]; simp⟩
theorem image_yes {l : List CellD} {r : Int} (h0 : headB l r = true) (h1 : GoodTo l r l.length) : endB l = imageB l r := by
  unfold imageB
  rw [h0]
  have : ((List.range l.length).all fun k => oneB l r k (cellOf l k)) = true := List.all_eq_true.2 fun k hk => h1 k (List.mem_range.1 hk)
  rw [this]; simp
theorem image_all {l : List CellD} {r : Int} (h0 : headB l r = true) (h2 : endB l = true) (h1 : GoodTo l r l.length) : true = imageB l r := by
  rw [← image_yes h0 h1, h2]
theorem image_parts {l : List CellD} {r : Int} (h : imageB l r = true) : headB l r = true ∧ endB l = true ∧ GoodTo l r l.length := by
  unfold imageB at h
  simp only [Bool.and_eq_true] at h
  exact ⟨h.1.1, h.1.2, fun k hk => List.all_eq_true.1 h.2 k (List.mem_range.2 hk)⟩
theorem head_parts {l : List CellD} {r : Int} (h : headB l r = true) : 1 ≤ l.length ∧ l.length ≤ 800 ∧ 1 ≤ r ∧ r ≤ 100 := by
  unfold headB at h
  simp only [Bool.and_eq_true, decide_eq_true_iff] at h
  exact ⟨h.1.1.1, h.1.1.2, h.1.2, h.2⟩
theorem head_mk {l : List CellD} {r : Int} (h1 : 1 ≤ l.length) (h2 : l.length ≤ 800) (h3 : 1 ≤ r) (h4 : r ≤ 100) : headB l r = true := by
  unfold headB
  simp only [Bool.and_eq_true, decide_eq_true_iff]
  exact ⟨⟨⟨h1, h2⟩, h3⟩, h4⟩
theorem head_no {l : List CellD} {r : Int} (h : l.length < 1 ∨ 800 < l.length ∨ r < 1 ∨ 100 < r) : headB l r = false := by
  rw [← Bool.not_eq_true]
  intro e
  have := head_parts e
  omega
/-- Where a place leads, if it is a stone. -/
def overI (l : List CellD) (q : Int) : Int := if (cellOf l q).f = 8 then (cellOf l q).p else q
def IsPl (l : List CellD) (q : Int) : Prop := 0 ≤ q ∧ q < (l.length : Int)
theorem isPl_nat {l : List CellD} {q : Int} (h : IsPl l q) : ∃ k : Nat, q = k ∧ k < l.length := ⟨q.toNat, by have := h.1; omega, by have := h.1; have := h.2; omega⟩
theorem far_in {l : List CellD} {r : Int} (h : imageB l r = true) {q : Int} (hq : IsPl l q) (h8 : (cellOf l q).f = 8) : IsPl l (cellOf l q).p ∧ (cellOf l (cellOf l q).p).f ≠ 8 := by
  obtain ⟨_, _, hg⟩ := image_parts h
  obtain ⟨k, rfl, hk⟩ := isPl_nat hq
  have := hg k hk
  unfold oneB at this
  rw [if_pos h8] at this
  simp only [Bool.and_eq_true, decide_eq_true_iff, Bool.not_eq_true', decide_eq_false_iff_not] at this
  exact ⟨⟨this.1, this.2.1⟩, this.2.2⟩
theorem over_in {l : List CellD} {r : Int} (h : imageB l r = true) {q : Int} (hq : IsPl l q) : IsPl l (overI l q) ∧ (cellOf l (overI l q)).f ≠ 8 := by
  unfold overI
  by_cases h8 : (cellOf l q).f = 8
  · rw [if_pos h8]; exact far_in h hq h8
  · rw [if_neg h8]; exact ⟨hq, h8⟩
theorem over_over {l : List CellD} {q : Int} (h : (cellOf l q).f ≠ 8) : overI l q = q := by unfold overI; rw [if_neg h]
theorem refs_in {l : List CellD} {r : Int} (h : imageB l r = true) {q : Int} (hq : IsPl l q) (hr : refsB (cellOf l q).f = true) : IsPl l (q + (cellOf l q).p) := by
  obtain ⟨_, _, hg⟩ := image_parts h
  obtain ⟨k, rfl, hk⟩ := isPl_nat hq
  have := hg k hk
  have h8 : (cellOf l k).f ≠ 8 := by intro e; rw [e] at hr; cases hr
  have h2 : (cellOf l k).f ≠ 2 := by intro e; rw [e] at hr; cases hr
  unfold oneB at this
  rw [if_neg h8, if_neg h2, if_pos hr] at this
  simp only [Bool.and_eq_true, decide_eq_true_iff] at this
  exact ⟨this.2.2.1, this.2.2.2⟩
/-- The numbers of a right image are small, its kinds are kinds. -/
theorem cell_small {l : List CellD} {r : Int} (h : imageB l r = true) {q : Int} (hq : IsPl l q) : -1000 ≤ (cellOf l q).p ∧ (cellOf l q).p ≤ 1000 ∧ 1 ≤ (cellOf l q).f ∧ (cellOf l q).f ≤ 8 := by
  obtain ⟨h0, _, hg⟩ := image_parts h
  obtain ⟨h1, h2, h3, h4⟩ := head_parts h0
  obtain ⟨k, rfl, hk⟩ := isPl_nat hq
  have := hg k hk
  unfold oneB at this
  split at this
  · rename_i h8
    simp only [Bool.and_eq_true, decide_eq_true_iff, Bool.not_eq_true', decide_eq_false_iff_not] at this
    omega
  split at this
  · simp only [Bool.and_eq_true, decide_eq_true_iff] at this
    omega
  split at this
  · rename_i hr
    simp only [Bool.and_eq_true, decide_eq_true_iff] at this
    simp only [refsB, Bool.or_eq_true, beq_iff_eq] at hr
    omega
  · simp only [Bool.and_eq_true, Bool.or_eq_true, beq_iff_eq] at this
    omega
theorem next_in {l : List CellD} {r : Int} (h : imageB l r = true) {q : Int} (hq : IsPl l q) (hl : lastB (cellOf l q).f = false) (h8 : (cellOf l q).f ≠ 8) : IsPl l (q + 1) := by
  obtain ⟨_, he, _⟩ := image_parts h
  obtain ⟨k, rfl, hk⟩ := isPl_nat hq
  refine ⟨by omega, ?_⟩
  by_cases e : k + 1 < l.length
  · omega
  · have e1 : l.length - 1 = k := by omega
    unfold endB at he
    rw [e1, hl] at he
    simp only [Bool.false_or, beq_iff_eq] at he
    exact absurd he h8

/-- A machine of an image as plain data. -/
structure CM where
  p : Int
  c : Int
  d : Int
  st : List Int
  os : List Int
def nextC (l : List CellD) (m : CM) : CM := { m with p := overI l (m.p + 1) }
def wayC (l : List CellD) (m : CM) (n : Int) : CM := { m with p := overI l (m.p + n) }
def sayC (l : List CellD) (m : CM) : CM := if 30 ≤ m.os.length then { m with d := 4 } else { m with os := m.os ++ [m.c], p := overI l (m.p + 1) }
def callC (l : List CellD) (m : CM) (n : Int) : CM := if 5 ≤ m.st.length then { m with d := 2 } else { m with st := m.st ++ [m.p + 1], p := overI l (m.p + n) }
def retC (l : List CellD) (m : CM) : CM := match m.st.getLast? with
  | none => { m with d := 3 }
  | some s => { m with p := overI l s, st := m.st.dropLast }
/-- What is done at a place that is no stone. -/
def doC (l : List CellD) (m : CM) (x : CellD) : CM :=
  if x.f = 1 then sayC l m
  else if x.f = 2 then { m with c := sumI m.c x.p, p := overI l (m.p + 1) }
  else if x.f = 3 then callC l m x.p
  else if x.f = 4 then wayC l m x.p
  else if x.f = 5 then (if 0 < m.c then wayC l m x.p else nextC l m)
  else if x.f = 6 then retC l m
  else { m with d := 1 }
def overM (l : List CellD) (m : CM) : CM := { m with p := overI l m.p }
def stepC (l : List CellD) (m : CM) : CM := doC l (overM l m) (cellOf l (overI l m.p))
/-- One step: what has ended stays as it is. -/
def goC (l : List CellD) (m : CM) : CM := if m.d = 0 then stepC l m else m
def runC (l : List CellD) : Nat → CM → CM
  | 0, m => m
  | n + 1, m => runC l n (goC l m)
theorem runC_snoc (l : List CellD) : ∀ (n : Nat) (m : CM), runC l (n + 1) m = goC l (runC l n m)
  | 0, m => rfl
  | n + 1, m => runC_snoc l n (goC l m)
def zeroC : CM := ⟨0, 0, 0, [], []⟩
structure InvC (l : List CellD) (m : CM) : Prop where
  here : IsPl l m.p
  st : ∀ s ∈ m.st, IsPl l s
  sl : m.st.length ≤ 5
  ol : m.os.length ≤ 30
theorem do_invC {l : List CellD} {r : Int} (hok : imageB l r = true) {m : CM} (h : InvC l m) (h8 : (cellOf l m.p).f ≠ 8) : InvC l (doC l m (cellOf l m.p)) := by
  obtain ⟨h1, h2, h3, h4⟩ := h
  have hR : refsB (cellOf l m.p).f = true → IsPl l (overI l (m.p + (cellOf l m.p).p)) := fun hr => (over_in hok (refs_in hok h1 hr)).1
  have hN0 : lastB (cellOf l m.p).f = false → IsPl l (m.p + 1) := fun hl => next_in hok h1 hl h8
  have hN : lastB (cellOf l m.p).f = false → IsPl l (overI l (m.p + 1)) := fun hl => (over_in hok (hN0 hl)).1
  generalize cellOf l m.p = x at *
  unfold doC
  split
  · rename_i ho
    unfold sayC
    split
    · exact ⟨h1, h2, h3, h4⟩
    · exact ⟨hN (by rw [ho]; rfl), h2, h3, by simp; omega⟩
  split
  · rename_i ho
    exact ⟨hN (by rw [ho]; rfl), h2, h3, h4⟩
  split
  · rename_i ho
    unfold callC
    split
    · exact ⟨h1, h2, h3, h4⟩
    · refine ⟨hR (by rw [ho]; rfl), fun s hs => ?_, by simp; omega, h4⟩
      rcases List.mem_append.1 hs with hs | hs
      · exact h2 s hs
      · rw [List.mem_singleton.1 hs]; exact hN0 (by rw [ho]; rfl)
  split
  · rename_i ho
    exact ⟨hR (by rw [ho]; rfl), h2, h3, h4⟩
  split
  · rename_i ho
    split
    · exact ⟨hR (by rw [ho]; rfl), h2, h3, h4⟩
    · exact ⟨hN (by rw [ho]; rfl), h2, h3, h4⟩
  split
  · unfold retC
    split
    · exact ⟨h1, h2, h3, h4⟩
    · rename_i s hs
      have hm : s ∈ m.st := List.mem_of_getLast? hs
      exact ⟨(over_in hok (h2 s hm)).1, fun t ht => h2 t (List.dropLast_subset _ ht), by simp; omega, h4⟩
  · exact ⟨h1, h2, h3, h4⟩
theorem over_inv {l : List CellD} {r : Int} (hok : imageB l r = true) {m : CM} (h : InvC l m) : InvC l (overM l m) := ⟨(over_in hok h.1).1, h.2, h.3, h.4⟩
theorem step_invC {l : List CellD} {r : Int} (hok : imageB l r = true) {m : CM} (h : InvC l m) : InvC l (stepC l m) := do_invC (m := overM l m) hok (over_inv hok h) (over_in hok h.1).2
theorem go_invC {l : List CellD} {r : Int} (hok : imageB l r = true) {m : CM} (h : InvC l m) : InvC l (goC l m) := by
  unfold goC
  split
  · exact step_invC hok h
  · exact h
theorem run_invC {l : List CellD} {r : Int} (hok : imageB l r = true) : ∀ (n : Nat) {m : CM}, InvC l m → InvC l (runC l n m)
  | 0, m, h => h
  | n + 1, m, h => run_invC hok n (go_invC hok h)
theorem zero_invC {l : List CellD} {r : Int} (hok : imageB l r = true) : InvC l zeroC := by
  obtain ⟨h0, _⟩ := image_parts hok
  obtain ⟨h1, _⟩ := head_parts h0
  exact ⟨⟨Int.le_refl _, by show (0 : Int) < _; omega⟩, fun s hs => absurd hs (List.not_mem_nil), Nat.zero_le _, Nat.zero_le _⟩
theorem run_doneC {l : List CellD} {m : CM} (h : m.d ≠ 0) : ∀ n, runC l n m = m
  | 0 => rfl
  | n + 1 => by
    have e : goC l m = m := by unfold goC; rw [if_neg h]
    rw [runC, e]; exact run_doneC h n

/-- A cell in one number: its kind in the lowest bits. -/
theorem pack_or : ∀ n : Fin 2001, ∀ o : Fin 9, IntKind.wrap .i32 ((BitVec.ofInt 32 (((n.val : Int) - 1000) * 16) ||| BitVec.ofInt 32 (o.val : Int)).toNat : Int) = ((n.val : Int) - 1000) * 16 + o.val := by decide +kernel
theorem pack_and : ∀ n : Fin 2001, ∀ o : Fin 9, IntKind.wrap .i32 ((BitVec.ofInt 32 (((n.val : Int) - 1000) * 16 + o.val) &&& BitVec.ofInt 32 15).toNat : Int) = (o.val : Int) := by decide +kernel
end Go.Proofs.YthbbmookhcalkaaDoor.ImgD
