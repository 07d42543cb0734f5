/- Plain data of what a program does: a machine, one instruction of it, and that its places stay places of the program. -/
import Derived.Test.YtjbhbkkkjdpamaaGreatMOk
import Derived.Test.YtjbhbkkkjdpamaaGreatPickP
namespace Go.Proofs.YtjbhbkkkjdpamaaGreat.MD
open Go.ChangeShapes Go.WideShapes Go.ChangeAt Go.RowKit Go.Joins
open Go.Proofs.YtjbhbkkkjdpamaaGreat.Base Go.Proofs.YtjbhbkkkjdpamaaGreat.InsA Go.Proofs.YtjbhbkkkjdpamaaGreat.InsB Go.Proofs.YtjbhbkkkjdpamaaGreat.Funs Go.Proofs.YtjbhbkkkjdpamaaGreat.Open Go.Proofs.YtjbhbkkkjdpamaaGreat.FunS Go.Proofs.YtjbhbkkkjdpamaaGreat.UnitS Go.Proofs.YtjbhbkkkjdpamaaGreat.Refs Go.Proofs.YtjbhbkkkjdpamaaGreat.Mach Go.Proofs.YtjbhbkkkjdpamaaGreat.KeepA Go.Proofs.YtjbhbkkkjdpamaaGreat.KeepD Go.Proofs.YtjbhbkkkjdpamaaGreat.PickD Go.Proofs.YtjbhbkkkjdpamaaGreat.PickP Go.Proofs.YtjbhbkkkjdpamaaGreat.Sum Go.Proofs.YtjbhbkkkjdpamaaGreat.MOk
set_option linter.unusedVariables false
set_option maxRecDepth 100000

/-- A machine as plain data. -/
structure MD where
  f : Int
  p : Int
  c : Int
  d : Int
  st : List SpotD
  os : List Int
def insOf (fs : List FunD) (f p : Int) : InsD := (fs.getD f.toNat default).body.getD p.toNat default
def goTo (fs : List FunD) (m : MD) (s : ByteArray) : MD := { m with f := findI fs s, p := 0 }
def nextM (m : MD) : MD := { m with p := m.p + 1 }
def sayM (m : MD) : MD := if 30 ≤ m.os.length then { m with d := 4 } else { m with os := m.os ++ [m.c], p := m.p + 1 }
def callM (fs : List FunD) (m : MD) (s : ByteArray) : MD := if 5 ≤ m.st.length then { m with d := 2 } else { m with st := m.st ++ [⟨m.f, m.p + 1⟩], f := findI fs s, p := 0 }
def retM (m : MD) : MD := match m.st.getLast? with
  | none => { m with d := 3 }
  | some s => { m with f := s.f, p := s.p, st := m.st.dropLast }
/-- What one instruction does. -/
def doX (fs : List FunD) (m : MD) (x : InsD) : MD :=
  if x.o = 1 then sayM m
  else if x.o = 2 then { m with c := sumI m.c x.n, p := m.p + 1 }
  else if x.o = 3 then callM fs m x.s
  else if x.o = 4 then goTo fs m x.s
  else if x.o = 5 then (if 0 < m.c then goTo fs m x.s else nextM m)
  else if x.o = 6 then retM m
  else { m with d := 1 }
def doM (fs : List FunD) (m : MD) : MD := doX fs m (insOf fs m.f m.p)
/-- One step: what has ended stays as it is. -/
def goM (fs : List FunD) (m : MD) : MD := if m.d = 0 then doM fs m else m
def runM (fs : List FunD) : Nat → MD → MD
  | 0, m => m
  | n + 1, m => runM fs n (goM fs m)
theorem runM_snoc (fs : List FunD) : ∀ (n : Nat) (m : MD), runM fs (n + 1) m = goM fs (runM fs n m)
  | 0, m => rfl
  | n + 1, m => runM_snoc fs n (goM fs m)
def zeroM : MD := ⟨0, 0, 0, 0, [], []⟩

/-- The places of a machine are places of the program, and its lists are short. -/
structure Inv (fs : List FunD) (m : MD) : Prop where
  here : spotB fs m.f m.p = true
  st : ∀ s ∈ m.st, spotB fs s.f s.p = true
  sl : m.st.length ≤ 5
  ol : m.os.length ≤ 30

theorem spot_is {fs : List FunD} {f p : Int} (h : spotB fs f p = true) : ∃ k j : Nat, f = k ∧ p = j ∧ ∃ hk : k < fs.length, ∃ hj : j < fs[k].body.length, insOf fs f p = fs[k].body[j] := by
  unfold spotB at h
  simp only [Bool.and_eq_true, decide_eq_true_iff] at h
  obtain ⟨⟨⟨h0, h1⟩, h2⟩, h3⟩ := h
  have hk : f.toNat < fs.length := by omega
  rw [getF_at hk] at h3
  have hj : p.toNat < fs[f.toNat].body.length := by omega
  refine ⟨f.toNat, p.toNat, by omega, by omega, hk, hj, ?_⟩
  unfold insOf
  rw [getF_at hk]
  simp [List.getD, List.getElem?_eq_getElem hj]
theorem spot_mk {fs : List FunD} {k j : Nat} (hk : k < fs.length) (hj : j < fs[k].body.length) : spotB fs k j = true := by
  unfold spotB
  simp only [Bool.and_eq_true, decide_eq_true_iff, Int.toNat_natCast]
  rw [getF_at hk]
  omega
theorem has_append (ss : List ByteArray) (t s : ByteArray) : hasB (ss ++ [t]) s = (hasB ss s || (t.toList == s.toList)) := by simp [hasB]
theorem has_mono (xs : List InsD) : ∀ (acc : List ByteArray) (s : ByteArray), hasB acc s = true → hasB (xs.foldl refStep acc) s = true := by
  induction xs with
  | nil => intro acc s h; exact h
  | cons x r ih =>
    intro acc s h
    refine ih _ s ?_
    unfold refStep
    split
    · rw [has_append, h]; rfl
    · exact h
theorem refs_has {xs : List InsD} {k : Nat} (hk : k < xs.length) (h : refsB xs[k].o = true) : hasB (refsOf xs) xs[k].s = true := by
  have e : xs = xs.take k ++ xs[k] :: xs.drop (k + 1) := by rw [← List.drop_eq_getElem_cons hk, List.take_append_drop]
  have : refsOf xs = (xs.drop (k + 1)).foldl refStep (refStep (refsOf (xs.take k)) xs[k]) := by
    conv => lhs; rw [e]
    unfold refsOf
    rw [List.foldl_append]
    rfl
  rw [this]
  refine has_mono _ _ _ ?_
  unfold refStep
  rw [h]
  cases hh : hasB (refsOf (xs.take k)) xs[k].s
  · simp [has_append]
  · simpa using hh
theorem find_eq {fs : List FunD} {s t : ByteArray} (h : s.toList = t.toList) : findI fs s = findI fs t := by
  have : isNm s = isNm t := by funext f; simp [isNm, h]
  unfold findI; rw [this]
theorem ref_found {fs : List FunD} (hok : keepOkB fs = true) {k j : Nat} (hk : k < fs.length) (hj : j < fs[k].body.length) (h : refsB fs[k].body[j].o = true) : 0 ≤ findI fs fs[k].body[j].s := by
  obtain ⟨_, _, _, _, h5⟩ := keep_parts hok
  have hh := refs_has hj h
  unfold hasB at hh
  obtain ⟨r, hr, e⟩ := List.any_eq_true.1 hh
  rw [← find_eq (by simpa using e)]
  exact h5 _ (List.getElem_mem hk) r hr
theorem spot_first {fs : List FunD} (hok : keepOkB fs = true) {k : Nat} (hk : k < fs.length) : spotB fs k 0 = true := by
  obtain ⟨_, _, h3, _, _⟩ := keep_parts hok
  have h := h3 _ (List.getElem_mem hk)
  unfold funOkB at h
  simp only [Bool.and_eq_true, decide_eq_true_iff] at h
  exact spot_mk (j := 0) hk (by omega)
theorem spot_find {fs : List FunD} (hok : keepOkB fs = true) {s : ByteArray} (h : 0 ≤ findI fs s) : spotB fs (findI fs s) 0 = true := by
  obtain ⟨j, hj, e⟩ := find_at (u := fs) (s := s) (by omega)
  rw [e]
  exact spot_first hok hj
theorem spot_next {fs : List FunD} (hok : keepOkB fs = true) {k j : Nat} (hk : k < fs.length) (hj : j < fs[k].body.length) (h : lastB fs[k].body[j].o = false) : spotB fs k (j + 1 : Nat) = true := by
  obtain ⟨_, _, h3, _, _⟩ := keep_parts hok
  have hf := h3 _ (List.getElem_mem hk)
  unfold funOkB at hf
  simp only [Bool.and_eq_true, decide_eq_true_iff] at hf
  have hl := hf.1.2
  rw [lastD_at (by omega)] at hl
  refine spot_mk hk ?_
  by_cases e : j + 1 < fs[k].body.length
  · exact e
  · have : j = fs[k].body.length - 1 := by omega
    subst this
    rw [h] at hl
    cases hl
theorem body_le {fs : List FunD} (hok : keepOkB fs = true) {k : Nat} (hk : k < fs.length) : fs[k].body.length ≤ 10 := by
  obtain ⟨_, _, h3, _, _⟩ := keep_parts hok
  have hf := h3 _ (List.getElem_mem hk)
  unfold funOkB at hf
  simp only [Bool.and_eq_true, decide_eq_true_iff] at hf
  exact hf.1.1.2.2
theorem do_inv {fs : List FunD} (hok : keepOkB fs = true) {m : MD} (h : Inv fs m) : Inv fs (doM fs m) := by
  obtain ⟨h1, h2, h3, h4⟩ := h
  obtain ⟨k, j, e1, e2, hk, hj, ex⟩ := spot_is h1
  unfold doM
  rw [ex]
  have hR : refsB fs[k].body[j].o = true → spotB fs (findI fs fs[k].body[j].s) 0 = true := fun h => spot_find hok (ref_found hok hk hj h)
  have hN : lastB fs[k].body[j].o = false → spotB fs m.f (m.p + 1) = true := fun h => by
    have := spot_next hok hk hj h
    rw [e1, e2]
    exact_mod_cast this
  generalize fs[k].body[j] = x at *
  unfold doX
  split
  · rename_i ho
    unfold sayM
    split
    · exact ⟨h1, h2, h3, h4⟩
    · exact ⟨hN (by rw [ho]; rfl), h2, h3, by simp; omega⟩
  split
  · rename_i ho
    exact ⟨hN (by rw [ho]; rfl), h2, h3, h4⟩
  split
  · rename_i ho
    unfold callM
    split
    · exact ⟨h1, h2, h3, h4⟩
    · refine ⟨hR (by rw [ho]; rfl), fun s hs => ?_, by simp; omega, h4⟩
      rcases List.mem_append.1 hs with hs | hs
      · exact h2 s hs
      · rw [List.mem_singleton.1 hs]; exact hN (by rw [ho]; rfl)
  split
  · rename_i ho
    exact ⟨hR (by rw [ho]; rfl), h2, h3, h4⟩
  split
  · rename_i ho
    split
    · exact ⟨hR (by rw [ho]; rfl), h2, h3, h4⟩
    · exact ⟨hN (by rw [ho]; rfl), h2, h3, h4⟩
  split
  · unfold retM
    split
    · exact ⟨h1, h2, h3, h4⟩
    · rename_i s hs
      have hm : s ∈ m.st := List.mem_of_getLast? hs
      exact ⟨h2 s hm, fun t ht => h2 t (List.dropLast_subset _ ht), by simp; omega, h4⟩
  · exact ⟨h1, h2, h3, h4⟩
theorem go_inv {fs : List FunD} (hok : keepOkB fs = true) {m : MD} (h : Inv fs m) : Inv fs (goM fs m) := by
  unfold goM
  split
  · exact do_inv hok h
  · exact h
theorem run_inv {fs : List FunD} (hok : keepOkB fs = true) : ∀ (n : Nat) {m : MD}, Inv fs m → Inv fs (runM fs n m)
  | 0, m, h => h
  | n + 1, m, h => run_inv hok n (go_inv hok h)
theorem zero_inv {fs : List FunD} (hok : keepOkB fs = true) : Inv fs zeroM := by
  obtain ⟨h0, _⟩ := keep_parts hok
  exact ⟨spot_first hok (k := 0) (by omega), fun s hs => absurd hs (List.not_mem_nil), Nat.zero_le _, Nat.zero_le _⟩
theorem run_done {fs : List FunD} {m : MD} (h : m.d ≠ 0) : ∀ n, runM fs n m = m
  | 0 => rfl
  | n + 1 => by
    have e : goM fs m = m := by unfold goM; rw [if_neg h]
    rw [runM, e]; exact run_done h n
end Go.Proofs.YtjbhbkkkjdpamaaGreat.MD
