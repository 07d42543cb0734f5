/- Plain facts for the law on malformed programs: a program with one function more. -/
import Derived.Test.YtnmgeaonhbhbkaaKeepT
import Derived.Test.YtnmgeaonhbhbkaaDrawS
namespace Go.Proofs.Ytnmgeaonhbhbkaa.KeepB
open Go.ChangeShapes Go.WideShapes Go.ChangeAt Go.RowKit Go.Joins
open Go.Proofs.Ytnmgeaonhbhbkaa.Base Go.Proofs.Ytnmgeaonhbhbkaa.InsA Go.Proofs.Ytnmgeaonhbhbkaa.InsB Go.Proofs.Ytnmgeaonhbhbkaa.Name Go.Proofs.Ytnmgeaonhbhbkaa.Funs Go.Proofs.Ytnmgeaonhbhbkaa.Open Go.Proofs.Ytnmgeaonhbhbkaa.FunS Go.Proofs.Ytnmgeaonhbhbkaa.Keep Go.Proofs.Ytnmgeaonhbhbkaa.UnitS Go.Proofs.Ytnmgeaonhbhbkaa.Refs Go.Proofs.Ytnmgeaonhbhbkaa.WantsM Go.Proofs.Ytnmgeaonhbhbkaa.KeepD Go.Proofs.Ytnmgeaonhbhbkaa.KeepA Go.Proofs.Ytnmgeaonhbhbkaa.KeepT Go.Proofs.Ytnmgeaonhbhbkaa.Concat Go.Proofs.Ytnmgeaonhbhbkaa.KeepC Go.Proofs.Ytnmgeaonhbhbkaa.KeepW Go.Proofs.Ytnmgeaonhbhbkaa.DrawIns Go.Proofs.Ytnmgeaonhbhbkaa.DrawP Go.Proofs.Ytnmgeaonhbhbkaa.DrawR
set_option linter.unusedVariables false
set_option maxRecDepth 100000

def zyB : ByteArray := ⟨#[122, 121]⟩
def goTo (s : ByteArray) : FunD := ⟨zyB, false, [⟨4, 0, s⟩]⟩
theorem refs_goTo (s : ByteArray) : refsOf (goTo s).body = [s] := by
  simp [goTo, refsOf, refStep, refsB, hasB]
theorem goTo_ok : okD (goTo zyB) = true := by decide
theorem not_zy {x : ByteArray} (h : okN x) : x.toList ≠ zyB.toList := fun e => by
  rw [ByteArray.toList_eq, ByteArray.toList_eq] at e
  exact h.2.1 e
theorem not_nowh {x : ByteArray} (h : okN x) : x.toList ≠ nowhB.toList := fun e => by
  rw [ByteArray.toList_eq, ByteArray.toList_eq] at e
  exact h.2.2 e
theorem zy_nowh : zyB.toList ≠ nowhB.toList := fun e => by
  rw [ByteArray.toList_eq, ByteArray.toList_eq] at e
  exact absurd e (by decide)
theorem bent_a {fs : List FunD} (h : ∀ f ∈ fs, okN f.nm) : keepOkB (fs ++ [goTo nowhB]) = false := by
  have hk : fs.length < (fs ++ [goTo nowhB]).length := by simp
  have e : (fs ++ [goTo nowhB])[fs.length]'hk = goTo nowhB := by simp
  have hr : refsOf ((fs ++ [goTo nowhB])[fs.length]'hk).body = [nowhB] := by rw [e]; exact refs_goTo _
  refine (keep_ref hk (j := 0) (by rw [hr]; simp) ?_).symm
  have e2 : (refsOf ((fs ++ [goTo nowhB])[fs.length]'hk).body)[0]'(by rw [hr]; simp) = nowhB := by simp [refs_goTo]
  rw [e2]
  refine find_neg.2 (fun f hf => ?_)
  rcases List.mem_append.1 hf with hf | hf
  · exact not_nowh (h f hf)
  · rw [List.mem_singleton.1 hf]; exact zy_nowh
theorem bent_b {fs : List FunD} (h0 : 0 < fs.length) : keepOkB (fs ++ [fs[0]]) = false := by
  have ha : apartF (fs ++ [fs[0]]) = false := by
    cases hc : apartF (fs ++ [fs[0]])
    · rfl
    · have := (apartF_iff _).1 hc 0 fs.length (by simp) (by simp) h0
      exact absurd (by simp [List.getElem_append_left h0]) this
  rw [keep_is, ha]; simp
theorem bent_c {fs : List FunD} (hok : keepOkB fs = true) (h : ∀ f ∈ fs, okN f.nm) : keepOkB (fs ++ [goTo zyB]) = decide (fs.length < 40) := by
  obtain ⟨h1, h2, h3, h4, h5⟩ := keep_parts hok
  have hl : (fs ++ [goTo zyB]).length = fs.length + 1 := by simp
  have hall : (fs ++ [goTo zyB]).all okD = true := by
    rw [List.all_append, Bool.and_eq_true]
    exact ⟨by rw [List.all_eq_true]; exact h3, by simp [goTo_ok]⟩
  have hap : apartF (fs ++ [goTo zyB]) = true := by
    rw [apartF_iff]
    intro i j hi hj hij
    have hj' : j < fs.length + 1 := by rw [← hl]; exact hj
    by_cases e : j = fs.length
    · subst e
      have hi' : i < fs.length := hij
      rw [List.getElem_append_left hi']
      have : (fs ++ [goTo zyB])[fs.length]'hj = goTo zyB := by simp
      rw [this]
      exact not_zy (h _ (List.getElem_mem _))
    · rw [List.getElem_append_left (by omega), List.getElem_append_left (by omega)]
      exact (apartF_iff fs).1 h4 i j (by omega) (by omega) hij
  have hfind : ∀ r, (∃ f ∈ fs ++ [goTo zyB], f.nm.toList = r.toList) → 0 ≤ findI (fs ++ [goTo zyB]) r := fun r ⟨f, hf, e⟩ => find_has hf e
  have hrf : (fs ++ [goTo zyB]).all (refsIn (fs ++ [goTo zyB])) = true := by
    rw [List.all_eq_true]
    intro f hf
    unfold refsIn
    rw [List.all_eq_true]
    intro r hr
    rw [decide_eq_true_iff]
    refine hfind r ?_
    rcases List.mem_append.1 hf with hf | hf
    · have := h5 f hf r hr
      by_cases hx : ∃ g ∈ fs, g.nm.toList = r.toList
      · obtain ⟨g, hg, e⟩ := hx
        exact ⟨g, List.mem_append_left _ hg, e⟩
      · have : findI fs r < 0 := find_neg.2 (fun g hg e => hx ⟨g, hg, e⟩)
        omega
    · rw [List.mem_singleton.1 hf, refs_goTo] at hr
      rw [List.mem_singleton.1 hr]
      exact ⟨goTo zyB, by simp, rfl⟩
  rw [keep_is, hall, hap, hrf, hl]
  have : (decide (1 ≤ fs.length + 1) && decide (fs.length + 1 ≤ 40)) = decide (fs.length < 40) := by
    rw [decide_eq_true (show 1 ≤ fs.length + 1 by omega), Bool.true_and]
    exact decide_eq_decide.2 (by omega)
  rw [this]; simp
theorem bent_nil : keepOkB [] = false := by decide
/-- A copy of a program, made by an append onto nothing. -/
theorem copy_prog {w w1 : World} {v1 : Value} {us : List (FunD × Value)} (hbd : ∀ u ∈ us, BodyAt w u) (ho : w1.ownsRow w.heap.size 31 3 v1 us.length (us.flatMap encV)) (hg : (w.alloc (.cells #[] 31)).grownBy w1 (some w.heap.size)) : ProgOwn w1 w.heap.size v1 us ∧ Below w.heap.size w w1 := by
  have hb : Below w.heap.size w w1 := (below_alloc1 w _).grown hg (below_alloc1 w _).size (fun x hx => by cases hx; exact Nat.le_refl _)
  exact ⟨⟨ho, fun u hu => BodyOff.of (hbd u hu) hb (fun g hg => (World.ownsRow.lt ho g hg).1)⟩, hb⟩
theorem copy_run {w : World} {a : Option Addr} {ci : Nat} {fs : List FunD} (hr : FunRow w a fs) (hsz : fs.length ≤ 42) (ty : TypeId) : ∃ vs v' w', vs.map Prod.fst = fs ∧ (Builtin.append_ #[23, 23] ty #[.slice (some ⟨w.heap.size, 0, none⟩) 0 0, .slice a fs.length ci]).run Try.prog (w.alloc (.cells #[] 31)) = .ok v' w' ∧ ProgOwn w' w.heap.size v' vs ∧ Below w.heap.size w w' := by
  obtain ⟨vs, v', w', e, hb, hrun, ho, hg⟩ := append_vals (below_alloc1 w (.cells #[] 31)) (us := []) (ci := ci) (v := .slice (some ⟨w.heap.size, 0, none⟩) 0 0) ty (show w.heap.size ≤ (w.alloc (.cells #[] 31)).heap.size by simp) (DrawThin.fun_made w) hr (by simp; omega)
  rw [List.nil_append] at ho
  obtain ⟨h1, h2⟩ := copy_prog hb ho hg
  exact ⟨vs, v', w', e, hrun, h1, h2⟩
theorem zy_body (w : World) (s : ByteArray) (hs : s.size ≤ maxLen) (G : Option Nat) (hG : G ≠ some w.heap.size) : BodyOff (w.alloc (.cells #[.int .i64 4, .int .i64 0, .string s] 28)) G (goTo s, .slice (some ⟨w.heap.size, 0, none⟩) 1 1) := by
  have h0 := new_block w (.cells #[.int .i64 4, .int .i64 0, .string s] 28)
  refine ⟨_, 1, rfl, by show (2 : Nat) ≤ maxLen; unfold maxLen; omega, Nat.le_refl _, by unfold maxLen; omega, .inr ⟨_, 0, rfl, fun i hi => ?_⟩, .inr ⟨_, 0, rfl, hG, by simp⟩⟩
  have hi0 : i = 0 := by simpa [goTo] using hi
  subst hi0
  exact ⟨by rw [cell_of_block h0]; rfl, by rw [cell_of_block h0]; rfl, by rw [cell_of_block h0]; rfl, hs⟩
/-- .. and one function more behind it. -/
theorem more_run {w1 : World} {v : Value} {us : List (FunD × Value)} {fs : List FunD} {B : Nat} (hus : us.map Prod.fst = fs) (hP : ProgOwn w1 B v us) (hl : fs.length ≤ 42) (hB : B ≤ w1.heap.size) (s : ByteArray) (hs : s.size ≤ maxLen) (ty : TypeId) : ∃ (qs : List FunD) (a : Option Addr) (c : Nat) (w' : World), (Builtin.append_ #[23, 23] ty #[v, .slice (some ⟨w1.heap.size + 1, 0, none⟩) 1 1]).run Try.prog ((w1.alloc (.cells #[.int .i64 4, .int .i64 0, .string s] 28)).alloc (.cells #[.string zyB, .bool false, .slice (some ⟨w1.heap.size, 0, none⟩) 1 1] 31)) = .ok (.slice a qs.length c) w' ∧ Hid (qs = fs ++ [goTo s]) ∧ qs.length ≤ c ∧ c ≤ maxLen ∧ FunRow w' a qs ∧ Below B w1 w' := by
  obtain ⟨i1, hi1, hy0, hy1, hy2⟩ := info_fun
  have hul : us.length ≤ 42 := by rw [← hus, List.length_map] at hl; exact hl
  have hPA := hP.below (below_alloc1 _ (.cells #[.int .i64 4, .int .i64 0, .string s] 28))
  have hY := zy_body w1 s hs v.ownBlock (fun e => by have := (World.ownsRow.lt hP.1 _ e).2; omega)
  obtain ⟨v', w', hrun, hown, hgrow, _, hat⟩ := run_append_own_at (P := Try.prog) ((w1.alloc (.cells #[.int .i64 4, .int .i64 0, .string s] 28)).alloc (.cells #[.string zyB, .bool false, .slice (some ⟨w1.heap.size, 0, none⟩) 1 1] 31)) B 23 ty 31 i1 _ 3 48 Try.underlying23 hi1 hy0 hy1 hy2 rfl (by decide) v us.length (us.flatMap encV) (World.ownsRow.alloc hPA.1 _) ⟨w1.heap.size + 1, 0, none⟩ 1 1 (encV (goTo s, .slice (some ⟨w1.heap.size, 0, none⟩) 1 1)) rfl (funV_new2 w1 _ (goTo s, .slice (some ⟨w1.heap.size, 0, none⟩) 1 1)) (by simp [encV, Value.oneCell']) (by unfold maxLen; omega) (by omega) (by simp; omega)
  have hP' := hPA.snoc hY hown hgrow hat
  obtain ⟨a, c, e, h1, h2, h3⟩ := hP'.row
  have hq : (us ++ [(goTo s, Value.slice (some ⟨w1.heap.size, 0, none⟩) 1 1)]).map Prod.fst = fs ++ [goTo s] := by rw [List.map_append, hus]; rfl
  refine ⟨_, a, c, w', by rw [hrun, e], hq, h1, h2, h3, ?_⟩
  exact ((bl_alloc (bl_alloc (Below.refl w1.heap.size w1) _) _).mono hB).grown hgrow (by simp; omega) (fun x hx => (World.ownsRow.lt hP.1 x hx).1)
theorem one_more {w w1 w2 : World} {W0 : World} (hW : Below W0.heap.size W0 w) (h1 : Below w.heap.size w w1) (h2 : Below w.heap.size w1 w2) : Below w.heap.size w w2 ∧ Below W0.heap.size W0 w2 := by
  have h := h1.trans h2
  exact ⟨h, bl_trans hW h⟩
/-- The copy, where other blocks have been laid meanwhile. -/
theorem copy_at {w0 w : World} {k : Nat} (h0w : Below w0.heap.size w0 w) (hk : w.ownsRow w0.heap.size 31 3 (.slice (some ⟨k, 0, none⟩) 0 0) 0 []) {a : Option Addr} {ci : Nat} {fs : List FunD} (hr : FunRow w0 a fs) (hsz : fs.length ≤ 42) (ty : TypeId) : ∃ vs v' w', vs.map Prod.fst = fs ∧ (Builtin.append_ #[23, 23] ty #[.slice (some ⟨k, 0, none⟩) 0 0, .slice a fs.length ci]).run Try.prog w = .ok v' w' ∧ ProgOwn w' w0.heap.size v' vs ∧ w.grownBy w' (some k) ∧ Below w0.heap.size w0 w' := by
  obtain ⟨vs, v', w', e, hb, hrun, ho, hg⟩ := append_vals h0w (us := []) (ci := ci) (v := .slice (some ⟨k, 0, none⟩) 0 0) ty h0w.size hk hr (by simp; omega)
  rw [List.nil_append] at ho
  have hkl : w0.heap.size ≤ k := (World.ownsRow.lt hk k rfl).1
  have hb' : Below w0.heap.size w0 w' := h0w.grown hg h0w.size (fun x hx => by cases hx; exact hkl)
  exact ⟨vs, v', w', e, hrun, ⟨ho, fun u hu => BodyOff.of (hb u hu) hb' (fun g hg => (World.ownsRow.lt ho g hg).1)⟩, hg, hb'⟩
end Go.Proofs.Ytnmgeaonhbhbkaa.KeepB
