/- The contract of the program's copyFuns: functions in memory of their own. -/
import Derived.Test.YthbbmookhcalkaaGreatDoorKeepC
import Derived.Lib.AppendZeros
namespace Go.Proofs.YthbbmookhcalkaaGreatDoor.KeepO
open Go.ChangeShapes Go.WideShapes Go.ChangeAt Go.RowKit Go.Joins Go.Deep
open Go.Proofs.YthbbmookhcalkaaGreatDoor.Base Go.Proofs.YthbbmookhcalkaaGreatDoor.InsA Go.Proofs.YthbbmookhcalkaaGreatDoor.Funs Go.Proofs.YthbbmookhcalkaaGreatDoor.Open Go.Proofs.YthbbmookhcalkaaGreatDoor.Keep Go.Proofs.YthbbmookhcalkaaGreatDoor.UU Go.Proofs.YthbbmookhcalkaaGreatDoor.Concat Go.Proofs.YthbbmookhcalkaaGreatDoor.KeepC
set_option linter.unusedVariables false
set_option maxRecDepth 100000

/-- A body of its own, out of the body of a function whose copy lies in the newest block. -/
theorem copy_body {wr : World} {nm : ByteArray} {wk : Bool} {a : Option Addr} {ci : Nat} {xs : List InsD} (hr : InsRow wr a xs) (hn : nm.size ≤ maxLen) (h1 : 0 < xs.length) (hl : xs.length ≤ 1000) :
    ∀ ty, ∃ g c w2, (Builtin.append_ #[26, 26] ty #[.slice none 0 0, .slice a xs.length ci]).run Tryz.prog (wr.alloc (.cells #[.string nm, .bool wk, .slice a xs.length ci] 28)) = .ok (.slice (some ⟨g, 0, none⟩) xs.length c) w2 ∧
      (w2.cell? ⟨wr.heap.size, 2, none⟩ = some (.slice a xs.length ci) ∧ w2.frozen? ⟨wr.heap.size, 2, none⟩ = false) ∧
      ((w2.setCell ⟨wr.heap.size, 2, none⟩ (.slice (some ⟨g, 0, none⟩) xs.length c)).cell? ⟨wr.heap.size, 0, none⟩ = some (.string nm) ∧ (w2.setCell ⟨wr.heap.size, 2, none⟩ (.slice (some ⟨g, 0, none⟩) xs.length c)).cell? ⟨wr.heap.size, 1, none⟩ = some (.bool wk) ∧ (w2.setCell ⟨wr.heap.size, 2, none⟩ (.slice (some ⟨g, 0, none⟩) xs.length c)).cell? ⟨wr.heap.size, 2, none⟩ = some (.slice (some ⟨g, 0, none⟩) xs.length c)) ∧
      Below wr.heap.size wr (w2.setCell ⟨wr.heap.size, 2, none⟩ (.slice (some ⟨g, 0, none⟩) xs.length c)) ∧ BodyO (w2.setCell ⟨wr.heap.size, 2, none⟩ (.slice (some ⟨g, 0, none⟩) xs.length c)) wr.heap.size (⟨nm, wk, xs⟩, .slice (some ⟨g, 0, none⟩) xs.length c) := by
  intro ty
  obtain ⟨v', w2, hrun, hO, hg, hne⟩ := append_body (w := wr.alloc (.cells #[.string nm, .bool wk, .slice a xs.length ci] 28)) (B := wr.heap.size) (v := .slice none 0 0) (ci := ci) ty (by simp) (World.ownsRow_nil _ _ _ _) (hr.below (below_alloc1 _ _)) h1 (by omega)
  obtain ⟨g, c, e⟩ : ∃ g c, v' = .slice (some ⟨g, 0, none⟩) xs.length c := by
    obtain ⟨_, ⟨rfl, h0⟩ | ⟨g, cap, cur, e, _⟩⟩ := hO
    · omega
    · exact ⟨g, cap, e⟩
  subst e
  have hF : w2.heap[wr.heap.size]? = some (.cells #[.string nm, .bool wk, .slice a xs.length ci] 28) := by
    rw [hg.block _ (by simp) (fun e => by cases e)]
    exact new_block wr _
  have hgF : g ≠ wr.heap.size := fun e => by
    obtain ⟨_, ⟨h0, _⟩ | ⟨g', cap, cur, e', _, hb, _⟩⟩ := hO
    · cases h0
    · cases e'
      rw [e, hF] at hb
      simp at hb
  have hF2 := block_setCell (i := 2) hF (.slice (some ⟨g, 0, none⟩) xs.length c)
  have hB2 : Below wr.heap.size wr w2 := (below_alloc1 wr _).grown hg (by simp) (fun j hj => by cases hj)
  refine ⟨g, c, w2, hrun, ⟨by rw [cell_of_block hF]; rfl, unfrozen_of_block hF 2⟩, (box3 hF2).1, hB2.setCell (Nat.le_refl _) _, ?_, hn, hr.sizes, hne⟩
  obtain ⟨h0, ⟨h3, _⟩ | ⟨g', cap, cur, e', hB, hb, h4⟩⟩ := hO
  · cases h3
  · exact ⟨h0, .inr ⟨g', cap, cur, e', hB, (Below.heap_setCell w2 ⟨wr.heap.size, 2, none⟩ _ g' (fun e => hgF (by cases e'; exact e))).trans hb, h4⟩⟩
theorem funV_set (w : World) (p : Addr) (x : Value) (u : FunD × Value) : ∀ j y, (encV u)[j]? = some y → ((w.setCell p x).alloc (.cells #[.string u.1.nm, .bool u.1.wk, u.2] 28)).cell? ((⟨w.heap.size, 0, none⟩ : Addr).add j) = some y := by
  have h := funV_new (w.setCell p x) u
  have e : (w.setCell p x).heap.size = w.heap.size := by simp
  rwa [e] at h
/-- What a copy leaves. -/
def Copied (w : World) (fs : List FunD) (e : Ending) (w' : World) : Prop := ∃ v vs, e = .returned v ∧ vs.map Prod.fst = fs ∧ OwnFs w' w.heap.size v vs ∧ Below w.heap.size w w'
theorem fst_snoc {fs : List FunD} {vs : List (FunD × Value)} {k : Nat} {v : Value} (hk : k < fs.length) (h : vs.map Prod.fst = fs.take k) : (vs ++ [(fs[k], v)]).map Prod.fst = fs.take (k + 1) := by
  rw [List.map_append, h, List.take_succ_eq_append_getElem hk]; rfl
end Go.Proofs.YthbbmookhcalkaaGreatDoor.KeepO
