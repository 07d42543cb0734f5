/- What a world keeps through calls that make memory alone and through draws, as one word for many facts. -/
import Derived.Test.YtnmgeaonhbhbkaaOpen
import Derived.Deep.RegionHeld3
import Derived.Test.YtnmgeaonhbhbkaaFunS
namespace Go.Proofs.Ytnmgeaonhbhbkaa.Keep
open Go.ChangeShapes Go.WideShapes Go.ChangeAt Go.RowKit Go.Joins
open Go.Proofs.Ytnmgeaonhbhbkaa.Base Go.Proofs.Ytnmgeaonhbhbkaa.InsA Go.Proofs.Ytnmgeaonhbhbkaa.Funs Go.Proofs.Ytnmgeaonhbhbkaa.Open
set_option linter.unusedVariables false
set_option maxRecDepth 100000

/-- A fact on worlds that stands where only new memory is made or a draw is made. -/
def Stable (S : World → Prop) : Prop := (∀ w w', Below w.heap.size w w' → S w → S w') ∧ ∀ w, S w → S w.drew
theorem Stable.and {S T : World → Prop} (h : Stable S) (k : Stable T) : Stable (fun w => S w ∧ T w) := ⟨fun w w' hb hs => ⟨h.1 w w' hb hs.1, k.1 w w' hb hs.2⟩, fun w hs => ⟨h.2 w hs.1, k.2 w hs.2⟩⟩
theorem Stable.cell (p : Addr) (v : Value) : Stable (fun w => w.cell? p = some v) := ⟨fun w w' hb hs => (hb.cell (p := p) (World.block_lt_of_cell? w _ hs)).trans hs, fun w hs => hs⟩
theorem Stable.box (B : Nat) (o : Obj) : Stable (fun w => w.heap[B]? = some o) := ⟨fun w w' hb hs => box_below hs hb, fun w hs => hs⟩
theorem Stable.row (a : Option Addr) (xs : List InsD) : Stable (fun w => InsRow w a xs) := ⟨fun w w' hb hs => hs.below hb, fun w hs => hs⟩
theorem Stable.frow (a : Option Addr) (fs : List FunD) : Stable (fun w => FunRow w a fs) := ⟨fun w w' hb hs => hs.below hb, fun w hs => hs⟩
theorem Stable.below (W : World) : Stable (fun w => Below W.heap.size W w) := ⟨fun w w' hb hs => bl_trans hs hb, fun w hs => hs.drew⟩
theorem Stable.alloc {S : World → Prop} (h : Stable S) {w : World} (hs : S w) (o : Obj) : S (w.alloc o) := h.1 w _ (below_alloc1 w o) hs

theorem s0 {a r : Prop} (h : a ∧ r) : a := h.1
theorem s1 {p1 a r : Prop} (h : p1 ∧ a ∧ r) : a := h.2.1
theorem s2 {p1 p2 a r : Prop} (h : p1 ∧ p2 ∧ a ∧ r) : a := h.2.2.1
theorem s3 {p1 p2 p3 a r : Prop} (h : p1 ∧ p2 ∧ p3 ∧ a ∧ r) : a := h.2.2.2.1
theorem s4 {p1 p2 p3 p4 a r : Prop} (h : p1 ∧ p2 ∧ p3 ∧ p4 ∧ a ∧ r) : a := h.2.2.2.2.1
theorem s5 {p1 p2 p3 p4 p5 a r : Prop} (h : p1 ∧ p2 ∧ p3 ∧ p4 ∧ p5 ∧ a ∧ r) : a := h.2.2.2.2.2.1
theorem s6 {p1 p2 p3 p4 p5 p6 a r : Prop} (h : p1 ∧ p2 ∧ p3 ∧ p4 ∧ p5 ∧ p6 ∧ a ∧ r) : a := h.2.2.2.2.2.2.1
theorem s7 {p1 p2 p3 p4 p5 p6 p7 a r : Prop} (h : p1 ∧ p2 ∧ p3 ∧ p4 ∧ p5 ∧ p6 ∧ p7 ∧ a ∧ r) : a := h.2.2.2.2.2.2.2.1
end Go.Proofs.Ytnmgeaonhbhbkaa.Keep
/- The contracts of the laws' helpers on slices of functions. -/
namespace Go.Proofs.Ytnmgeaonhbhbkaa.Units
open Go.ChangeShapes Go.WideShapes Go.ChangeAt Go.RowKit Go.Joins
open Go.Proofs.Ytnmgeaonhbhbkaa.Base Go.Proofs.Ytnmgeaonhbhbkaa.InsA Go.Proofs.Ytnmgeaonhbhbkaa.Funs Go.Proofs.Ytnmgeaonhbhbkaa.Open Go.Proofs.Ytnmgeaonhbhbkaa.Keep
set_option linter.unusedVariables false
set_option maxRecDepth 100000


/-- The first k functions lie in these cells, their instructions in blocks of their own. -/
def FilledF (w : World) (C : Array Value) (R : Nat) (Rs : Nat → Nat) (fs : List FunD) (k : Nat) : Prop :=
  C.size = fs.length * 3 ∧ ∀ i (h : i < fs.length), i < k → C[i * 3]? = some (.string fs[i].nm) ∧ C[i * 3 + 1]? = some (.bool fs[i].wk) ∧ C[i * 3 + 2]? = some (.slice (some ⟨Rs i, 0, none⟩) fs[i].body.length fs[i].body.length) ∧ R < Rs i ∧ OwnIns w (Rs i) fs[i].body fs[i].body.length
/-- A slice of functions of the program's own. -/
def OwnFuns (w : World) (R : Nat) (fs : List FunD) (k : Nat) : Prop := ∃ C Rs, w.heap[R]? = some (.cells C 31) ∧ FilledF w C R Rs fs k

theorem OwnFuns.row {w : World} {R : Nat} {fs : List FunD} (h : OwnFuns w R fs fs.length) (hs : ∀ f ∈ fs, f.nm.size ≤ maxLen ∧ f.body.length ≤ maxLen ∧ ∀ x ∈ f.body, x.s.size ≤ maxLen) : FunRow w (some ⟨R, 0, none⟩) fs := by
  obtain ⟨C, Rs, hC, hF⟩ := h
  refine .inr ⟨R, 0, rfl, fun i hi => ?_⟩
  obtain ⟨h0, h1, h2, h3, h4⟩ := hF.2 i hi hi
  obtain ⟨k1, k2, k3⟩ := hs _ (List.getElem_mem hi)
  simp only [Nat.zero_add]
  exact ⟨_, _, by rw [cell_of_block hC]; exact h0, by rw [cell_of_block hC]; exact h1, by rw [cell_of_block hC]; exact h2, k1, Nat.le_refl _, k2, h4.row k3⟩


end Go.Proofs.Ytnmgeaonhbhbkaa.Units
/- The contracts of the specification's l2Find, UnitOk, UnitFind. -/
namespace Go.Proofs.Ytnmgeaonhbhbkaa.UnitS
open Go.ChangeShapes Go.WideShapes Go.ChangeAt Go.RowKit Go.Joins
open Go.Proofs.Ytnmgeaonhbhbkaa.Base Go.Proofs.Ytnmgeaonhbhbkaa.InsA Go.Proofs.Ytnmgeaonhbhbkaa.InsB Go.Proofs.Ytnmgeaonhbhbkaa.Funs Go.Proofs.Ytnmgeaonhbhbkaa.Open Go.Proofs.Ytnmgeaonhbhbkaa.FunS Go.Proofs.Ytnmgeaonhbhbkaa.Keep
set_option linter.unusedVariables false
set_option maxRecDepth 100000

def isNm (s : ByteArray) (f : FunD) : Bool := f.nm.toList == s.toList
def findI (fs : List FunD) (s : ByteArray) : Int := if fs.findIdx (isNm s) < fs.length then (fs.findIdx (isNm s) : Nat) else -1
def okD (f : FunD) : Bool := funOkB f.nm f.body
def apartF : List FunD → Bool
  | [] => true
  | f :: r => !r.any (isNm f.nm) && apartF r
def unitOkB (fs : List FunD) : Bool := decide (fs.length ≤ 5) && fs.all okD && apartF fs

theorem find_hit {fs : List FunD} {s : ByteArray} {k : Nat} (hk : k < fs.length) (hb : ∀ i (h : i < k), isNm s (fs[i]'(by omega)) = false) (h : isNm s fs[k] = true) : (k : Int) = findI fs s := by
  have e : fs.findIdx (isNm s) = k := by
    rw [List.findIdx_eq hk]
    exact ⟨h, hb⟩
  unfold findI
  rw [e, if_pos hk]
theorem find_miss {fs : List FunD} {s : ByteArray} (hb : ∀ i (h : i < fs.length), isNm s fs[i] = false) : -1 = findI fs s := by
  have e : ¬ fs.findIdx (isNm s) < fs.length := by
    intro hlt
    have := List.findIdx_getElem (w := hlt)
    rw [hb _ hlt] at this
    cases this
  unfold findI
  rw [if_neg e]

set_option maxHeartbeats 1000000 in
theorem specFind_any (a : Option Addr) (cap : Nat) (fs : List FunD) (s : ByteArray) (w : World) (hs : s.size ≤ maxLen) (hcap : fs.length ≤ cap) (hcm : cap ≤ maxLen) (hR : FunRow w a fs) :
    Calls Try.prog 31 #[.slice a fs.length cap, .string s] w fun e w' => e = .returned (.int .i64 (findI fs s)) ∧ Below w.heap.size w w' := by
  have HR := hide hR
  clear hR
  unfold maxLen at hcm
  have hlen : (fs.length : Int) ≤ 9223372036854775807 := by omega
  go_enter Try.func31, Try.ntmps31
  go_wp2_with fail
  go_loopw [5] (fun i w' => ∃ k : Nat, k ≤ fs.length ∧ i = .int .i64 k ∧ Hid (∀ i (h : i < fs.length), i < k → isNm s fs[i] = false) ∧ Below w.heap.size w w') (fun i _ => fs.length - (intOf i).toNat)
  case atStart => exact ⟨0, Nat.zero_le _, rfl, fun i h h0 => by omega, Below.refl _ _⟩
  case round =>
    obtain ⟨k, hk, rfl, HN, hB⟩ := hrel
    by_cases hkl : k < fs.length
    · obtain ⟨b, off, rfl⟩ := (unhide HR).get (by omega)
      obtain ⟨ai, ci, c0, c1, c2, hn, h4, h5, h6⟩ := ((unhide HR).below hB).at hkl
      clear h6 c1 c2
      have hkl' : (k : Int) < (fs.length : Int) := by omega
      have HH := hide (find_hit (s := s) hkl (fun i h => unhide HN i (by omega) h))
      have HD : Hid (isNm s fs[k] = (fs[k].nm.toList == s.toList)) := rfl
      have HX : Hid (isNm s fs[k] = false → ∀ i (h : i < fs.length), i < k + 1 → isNm s fs[i] = false) := fun h i hi hlt => by
        by_cases e : i = k
        · subst e; exact h
        · exact unhide HN i hi (by omega)
      generalize fs[k] = f at *
      cases hq : (f.nm.toList == s.toList)
      · go_wp2_with fail
        exact ⟨⟨k + 1, by omega, by go_num, unhide HX ((unhide HD).trans hq), hB⟩, by simp [intOf]; omega⟩
      · go_wp2_with fail
        go_ret
        exact ⟨ret_int (unhide HH ((unhide HD).trans hq)), hB⟩
    · have HE := hide (find_miss (fun i h => unhide HN i h (by omega)))
      go_wp2_with fail
      go_ret
      exact ⟨ret_int (unhide HE), hB⟩

theorem isNm_iff {s : ByteArray} {f : FunD} : isNm s f = true ↔ f.nm.toList = s.toList := by simp [isNm]
theorem apartF_iff (fs : List FunD) : apartF fs = true ↔ ∀ i j (hi : i < fs.length) (hj : j < fs.length), i < j → fs[i].nm.toList ≠ fs[j].nm.toList := by
  induction fs with
  | nil => simp [apartF]
  | cons f r ih =>
    simp only [apartF, Bool.and_eq_true, Bool.not_eq_true', List.any_eq_false, ih]
    constructor
    · rintro ⟨h1, h2⟩ i j hi hj hij
      match i, j with
      | 0, 0 => omega
      | 0, j + 1 =>
        have := h1 _ (List.getElem_mem (show j < r.length by simpa using hj))
        rw [isNm_iff] at this
        exact fun e => this e.symm
      | i + 1, 0 => omega
      | i + 1, j + 1 => exact h2 i j (by simpa using hi) (by simpa using hj) (by omega)
    · intro h
      refine ⟨fun x hx => ?_, fun i j hi hj hij => h (i + 1) (j + 1) (by simpa using hi) (by simpa using hj) (by omega)⟩
      obtain ⟨j, hj, rfl⟩ := List.getElem_of_mem hx
      rw [isNm_iff]
      exact fun e => h 0 (j + 1) (by simp) (by simpa using hj) (by omega) e.symm
theorem find_self {fs : List FunD} {k : Nat} (hk : k < fs.length) : ∃ j, ∃ hj : j < fs.length, findI fs fs[k].nm = (j : Int) ∧ j ≤ k ∧ fs[j].nm.toList = fs[k].nm.toList := by
  have hlt : fs.findIdx (isNm fs[k].nm) < fs.length := List.findIdx_lt_length_of_exists ⟨fs[k], List.getElem_mem _, by simp [isNm]⟩
  refine ⟨_, hlt, by unfold findI; rw [if_pos hlt], ?_, ?_⟩
  · refine Nat.le_of_not_lt fun h => ?_
    have := List.not_of_lt_findIdx h
    simp [isNm] at this
  · exact isNm_iff.1 (List.findIdx_getElem (w := hlt))
theorem apartF_bad {fs : List FunD} {k : Nat} (hk : k < fs.length) (h : findI fs fs[k].nm ≠ (k : Int)) : apartF fs = false := by
  obtain ⟨j, hj, e, hjk, hn⟩ := find_self hk
  rw [e] at h
  rw [← Bool.not_eq_true, apartF_iff]
  exact fun hd => hd j k hj hk (by omega) hn
theorem apartF_all {fs : List FunD} (h : ∀ i (hi : i < fs.length), findI fs fs[i].nm = (i : Int)) : apartF fs = true := by
  rw [apartF_iff]
  intro i j hi hj hij hn
  have hf := h j hj
  unfold findI at hf
  by_cases hlt : fs.findIdx (isNm fs[j].nm) < fs.length
  · rw [if_pos hlt] at hf
    have := List.not_of_lt_findIdx (p := isNm fs[j].nm) (xs := fs) (i := i) (by omega)
    simp [isNm, hn] at this
  · rw [if_neg hlt] at hf; omega

theorem unit_bad {fs : List FunD} {k : Nat} (hk : k < fs.length) (h : okD fs[k] = false) : false = unitOkB fs := by
  have : fs.all okD = false := by rw [List.all_eq_false]; exact ⟨fs[k], List.getElem_mem _, by simp [h]⟩
  simp [unitOkB, this]
theorem unit_twice {fs : List FunD} {k : Nat} (hk : k < fs.length) (h : findI fs fs[k].nm ≠ (k : Int)) : false = unitOkB fs := by simp [unitOkB, apartF_bad hk h]
theorem unit_end {fs : List FunD} (h : ∀ i (hi : i < fs.length), okD fs[i] = true ∧ findI fs fs[i].nm = (i : Int)) : unitOkB fs = decide (fs.length ≤ 5) := by
  have h1 : fs.all okD = true := by rw [List.all_eq_true]; intro f hf; obtain ⟨i, hi, rfl⟩ := List.getElem_of_mem hf; exact (h i hi).1
  simp [unitOkB, h1, apartF_all (fun i hi => (h i hi).2)]

def unitFindI (fs : List FunD) (s : ByteArray) : Int := if unitOkB fs then findI fs s else -1
end Go.Proofs.Ytnmgeaonhbhbkaa.UnitS
