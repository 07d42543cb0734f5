/- One function more behind a program of one's own, wherever it lies. -/
import Derived.Test.YtnmgeaonhbhbkaaKeepB
namespace Go.Proofs.Ytnmgeaonhbhbkaa.KeepV
open Go.ChangeShapes Go.WideShapes Go.ChangeAt Go.RowKit Go.Joins
open Go.Proofs.Ytnmgeaonhbhbkaa.Base Go.Proofs.Ytnmgeaonhbhbkaa.InsA Go.Proofs.Ytnmgeaonhbhbkaa.InsB Go.Proofs.Ytnmgeaonhbhbkaa.Name Go.Proofs.Ytnmgeaonhbhbkaa.Funs Go.Proofs.Ytnmgeaonhbhbkaa.Open Go.Proofs.Ytnmgeaonhbhbkaa.FunS Go.Proofs.Ytnmgeaonhbhbkaa.Keep Go.Proofs.Ytnmgeaonhbhbkaa.UnitS Go.Proofs.Ytnmgeaonhbhbkaa.Refs Go.Proofs.Ytnmgeaonhbhbkaa.WantsM Go.Proofs.Ytnmgeaonhbhbkaa.KeepD Go.Proofs.Ytnmgeaonhbhbkaa.KeepA Go.Proofs.Ytnmgeaonhbhbkaa.KeepT Go.Proofs.Ytnmgeaonhbhbkaa.Concat Go.Proofs.Ytnmgeaonhbhbkaa.KeepC Go.Proofs.Ytnmgeaonhbhbkaa.KeepW Go.Proofs.Ytnmgeaonhbhbkaa.DrawIns Go.Proofs.Ytnmgeaonhbhbkaa.DrawP Go.Proofs.Ytnmgeaonhbhbkaa.DrawR Go.Proofs.Ytnmgeaonhbhbkaa.KeepB
set_option linter.unusedVariables false
set_option maxRecDepth 100000

theorem prog_snoc {W w3 : World} {B : Nat} {v v3 : Value} {us : List (FunD × Value)} {y : FunD × Value} (h : ProgOwn W B v us) (hy : BodyOff W v.ownBlock y) (ho : w3.ownsRow B 31 3 v3 (us.length + 1) (us.flatMap encV ++ encV y)) (hg : W.grownBy w3 v.ownBlock) (hat : v3.ownBlock = v.ownBlock ∨ v3.ownBlock = some W.heap.size) : ProgOwn w3 B v3 (us ++ [y]) := by
  have key : ∀ u, BodyOff W v.ownBlock u → BodyOff w3 v3.ownBlock u := fun u hu => hu.step hg.size (fun b hl hn => hg.block b hl (fun e => hn e.symm)) (fun b hl hn e => by
    rcases hat with e' | e'
    · exact hn (by rw [← e']; exact e)
    · rw [e'] at e; simp at e; omega)
  refine ⟨vals_snoc ho, fun u hu => ?_⟩
  rcases List.mem_append.1 hu with hu | hu
  · exact key u (h.2 u hu)
  · rw [List.mem_singleton.1 hu]; exact key y hy
/-- The last append: a function that lies in a box behind all that is one's own. -/
theorem last_run {w6 w : World} {v : Value} {us : List (FunD × Value)} {fs : List FunD} {g : Nat} {u : FunD × Value} (hus : us.map Prod.fst = fs) (hP : ProgOwn w w6.heap.size v us) (hl : fs.length ≤ 42) (hB : Below w6.heap.size w6 w) (hbd : BodyAt w6 u) (hg : w.heap[g]? = some (.cells #[.string u.1.nm, .bool u.1.wk, u.2] 31)) (ty : TypeId) : ∃ (qs : List FunD) (a : Option Addr) (c : Nat) (w' : World), (Builtin.append_ #[23, 23] ty #[v, .slice (some ⟨g, 0, none⟩) 1 1]).run Try.prog w = .ok (.slice a qs.length c) w' ∧ Hid (qs = fs ++ [u.1]) ∧ qs.length ≤ c ∧ c ≤ maxLen ∧ FunRow w' a qs ∧ Below w6.heap.size w6 w' := by
  obtain ⟨i1, hi1, hy0, hy1, hy2⟩ := info_fun
  have hul : us.length ≤ 42 := by rw [← hus, List.length_map] at hl; exact hl
  have hlo : ∀ g, v.ownBlock = some g → w6.heap.size ≤ g := fun g hg => (World.ownsRow.lt hP.1 g hg).1
  have hY : BodyOff w v.ownBlock u := BodyOff.of hbd hB hlo
  have hnews : ∀ j x, (encV u)[j]? = some x → w.cell? ((⟨g, 0, none⟩ : Addr).add j) = some x := fun j x hj => by
    rw [add_plain, cell_of_block hg]
    match j, hj with
    | 0, hj => exact hj
    | 1, hj => exact hj
    | 2, hj => exact hj
    | j + 3, hj => simp [encV] at hj
  obtain ⟨ai, ci, hu2, _⟩ := hbd
  obtain ⟨v', w', hrun, hown, hgrow, _, hat⟩ := run_append_own_at (P := Try.prog) w w6.heap.size 23 ty 31 i1 _ 3 48 Try.underlying23 hi1 hy0 hy1 hy2 rfl (by decide) v us.length (us.flatMap encV) hP.1 ⟨g, 0, none⟩ 1 1 (encV u) rfl hnews (by simp [encV, hu2, Value.oneCell']) (by unfold maxLen; omega) (by omega) hB.size
  have hP' := prog_snoc hP hY hown hgrow hat
  obtain ⟨a, c, e, h1, h2, h3⟩ := hP'.row
  have hq : (us ++ [u]).map Prod.fst = fs ++ [u.1] := by rw [List.map_append, hus]; rfl
  refine ⟨_, a, c, w', by rw [hrun, e], hq, h1, h2, h3, ?_⟩
  exact hB.grown hgrow hB.size hlo
end Go.Proofs.Ytnmgeaonhbhbkaa.KeepV
