/- The contract of the program's copyFuns: functions in memory of their own. -/
import Derived.Test.YtnmgeaonhbhbkaaKeepC
import Derived.Lib.AppendZeros
namespace Go.Proofs.Ytnmgeaonhbhbkaa.KeepO
open Go.ChangeShapes Go.WideShapes Go.ChangeAt Go.RowKit Go.Joins Go.Deep
open Go.Proofs.Ytnmgeaonhbhbkaa.Base Go.Proofs.Ytnmgeaonhbhbkaa.InsA Go.Proofs.Ytnmgeaonhbhbkaa.Funs Go.Proofs.Ytnmgeaonhbhbkaa.Open Go.Proofs.Ytnmgeaonhbhbkaa.Keep Go.Proofs.Ytnmgeaonhbhbkaa.UU Go.Proofs.Ytnmgeaonhbhbkaa.Concat Go.Proofs.Ytnmgeaonhbhbkaa.KeepC
set_option linter.unusedVariables false
set_option maxRecDepth 100000

/-- A body of its own, out of the body of a function whose copy lies in the newest block. -/
theorem copy_body {wr : World} {nm : ByteArray} {wk : Bool} {a : Option Addr} {ci : Nat} {xs : List InsD} (hr : InsRow wr a xs) (hn : nm.size ≤ maxLen) (h1 : 0 < xs.length) (hl : xs.length ≤ 1000) :
    ∀ ty, ∃ g c w2, (Builtin.append_ #[29, 29] ty #[.slice none 0 0, .slice a xs.length ci]).run Try.prog (wr.alloc (.cells #[.string nm, .bool wk, .slice a xs.length ci] 31)) = .ok (.slice (some ⟨g, 0, none⟩) xs.length c) w2 ∧
      (w2.cell? ⟨wr.heap.size, 2, none⟩ = some (.slice a xs.length ci) ∧ w2.frozen? ⟨wr.heap.size, 2, none⟩ = false) ∧
      ((w2.setCell ⟨wr.heap.size, 2, none⟩ (.slice (some ⟨g, 0, none⟩) xs.length c)).cell? ⟨wr.heap.size, 0, none⟩ = some (.string nm) ∧ (w2.setCell ⟨wr.heap.size, 2, none⟩ (.slice (some ⟨g, 0, none⟩) xs.length c)).cell? ⟨wr.heap.size, 1, none⟩ = some (.bool wk) ∧ (w2.setCell ⟨wr.heap.size, 2, none⟩ (.slice (some ⟨g, 0, none⟩) xs.length c)).cell? ⟨wr.heap.size, 2, none⟩ = some (.slice (some ⟨g, 0, none⟩) xs.length c)) ∧
      Below wr.heap.size wr (w2.setCell ⟨wr.heap.size, 2, none⟩ (.slice (some ⟨g, 0, none⟩) xs.length c)) ∧ BodyO (w2.setCell ⟨wr.heap.size, 2, none⟩ (.slice (some ⟨g, 0, none⟩) xs.length c)) wr.heap.size (⟨nm, wk, xs⟩, .slice (some ⟨g, 0, none⟩) xs.length c) := by
  intro ty
  obtain ⟨v', w2, hrun, hO, hg, hne⟩ := append_body (w := wr.alloc (.cells #[.string nm, .bool wk, .slice a xs.length ci] 31)) (B := wr.heap.size) (v := .slice none 0 0) (ci := ci) ty (by simp) (World.ownsRow_nil _ _ _ _) (hr.below (below_alloc1 _ _)) h1 (by omega)
  obtain ⟨g, c, e⟩ : ∃ g c, v' = .slice (some ⟨g, 0, none⟩) xs.length c := by
    obtain ⟨_, ⟨rfl, h0⟩ | ⟨g, cap, cur, e, _⟩⟩ := hO
    · omega
    · exact ⟨g, cap, e⟩
  subst e
  have hF : w2.heap[wr.heap.size]? = some (.cells #[.string nm, .bool wk, .slice a xs.length ci] 31) := by
    rw [hg.block _ (by simp) (fun e => by cases e)]
    exact new_block wr _
  have hgF : g ≠ wr.heap.size := fun e => by
    obtain ⟨_, ⟨h0, _⟩ | ⟨g', cap, cur, e', _, hb, _⟩⟩ := hO
    · cases h0
    · cases e'
      rw [e, hF] at hb
      simp at hb
  have hF2 := block_setCell (i := 2) hF (.slice (some ⟨g, 0, none⟩) xs.length c)
  have hB2 : Below wr.heap.size wr w2 := (below_alloc1 wr _).grown hg (by simp) (fun j hj => by cases hj)
  refine ⟨g, c, w2, hrun, ⟨by rw [cell_of_block hF]; rfl, unfrozen_of_block hF 2⟩, (box3 hF2).1, hB2.setCell (Nat.le_refl _) _, ?_, hn, hr.sizes, hne⟩
  obtain ⟨h0, ⟨h3, _⟩ | ⟨g', cap, cur, e', hB, hb, h4⟩⟩ := hO
  · cases h3
  · exact ⟨h0, .inr ⟨g', cap, cur, e', hB, (Below.heap_setCell w2 ⟨wr.heap.size, 2, none⟩ _ g' (fun e => hgF (by cases e'; exact e))).trans hb, h4⟩⟩
theorem funV_set (w : World) (p : Addr) (x : Value) (u : FunD × Value) : ∀ j y, (encV u)[j]? = some y → ((w.setCell p x).alloc (.cells #[.string u.1.nm, .bool u.1.wk, u.2] 31)).cell? ((⟨w.heap.size, 0, none⟩ : Addr).add j) = some y := by
  have h := funV_new (w.setCell p x) u
  have e : (w.setCell p x).heap.size = w.heap.size := by simp
  rwa [e] at h
/-- What a copy leaves. -/
def Copied (w : World) (fs : List FunD) (e : Ending) (w' : World) : Prop := ∃ v vs, e = .returned v ∧ vs.map Prod.fst = fs ∧ OwnFs w' w.heap.size v vs ∧ Below w.heap.size w w'
theorem fst_snoc {fs : List FunD} {vs : List (FunD × Value)} {k : Nat} {v : Value} (hk : k < fs.length) (h : vs.map Prod.fst = fs.take k) : (vs ++ [(fs[k], v)]).map Prod.fst = fs.take (k + 1) := by
  rw [List.map_append, h, List.take_succ_eq_append_getElem hk]; rfl
set_option maxHeartbeats 4000000 in
theorem copy_any (a : Option Addr) (cap : Nat) (fs : List FunD) (w : World) (hcap : fs.length ≤ cap) (hcm : cap ≤ maxLen) (hl : fs.length ≤ 1000) (hbd : ∀ f ∈ fs, 0 < f.body.length ∧ f.body.length ≤ 1000) (hR : FunRow w a fs) :
    Calls Try.prog 34 #[.slice a fs.length cap] w (Copied w fs) := by
  have HR := hide hR
  have HBD := hide hbd
  clear hR hbd
  obtain ⟨i1, hi1, hy0, hy1, hy2⟩ := info_fun
  go_enter Try.func34, Try.ntmps34
  go_wp2_with fail
  go_loopw [3, 8] (fun v i w' => ∃ (k : Nat) (vs : List (FunD × Value)), k ≤ fs.length ∧ i = .int .i64 k ∧ vs.length ≤ k ∧ Hid (vs.map Prod.fst = fs.take k) ∧ OwnFs w' w.heap.size v vs ∧ Below w.heap.size w w') (fun _ i _ => fs.length - (intOf i).toNat)
  case atStart => exact ⟨0, [], Nat.zero_le _, rfl, Nat.le_refl _, rfl, OwnFs.nil _ _, Below.refl _ _⟩
  case round =>
    obtain ⟨k, vs, hk, rfl, hvk, HV, hO, hB⟩ := hrel
    have HO := hide hO
    have hs := hB.size
    clear hO
    by_cases hkl : k < fs.length
    · have hkl' : (k : Int) < (fs.length : Int) := by omega
      obtain ⟨b, off, rfl⟩ := (unhide HR).get (by omega)
      obtain ⟨ai, ci, c0, c1, c2, hn, h4, h5, h6⟩ := ((unhide HR).below hB).at hkl
      obtain ⟨hb0, hb1⟩ := unhide HBD fs[k] (List.getElem_mem _)
      have HCB := hide (copy_body (wk := fs[k].wk) (ci := ci) h6 hn hb0 hb1)
      have HFS := hide (fun v => fst_snoc (v := v) hkl (unhide HV))
      clear h6
      generalize fs[k] = f at *
      obtain ⟨nm, wk, xs⟩ := f
      simp only at *
      go_wp2_with (first
        | (at_builtin; obtain ⟨g, c, w2, hrun, ⟨e2, f2⟩, ⟨d0, d1, d2⟩, hB5, hBO⟩ := unhide HCB _; refine Lib.wpList_append_run _ rfl _ _ _ _ rfl _ _ rfl rfl _ _ hrun ?_; have HB5 := hide hB5; have HBO := hide hBO; clear hB5 hBO hrun)
        | (at_builtin; refine wpList_append_own_at _ rfl _ _ 23 rfl w.heap.size 31 i1 (.agg #[.string ⟨#[]⟩, .bool false, .slice none 0 0]) 3 48 Try.underlying23 hi1 hy0 hy1 hy2 rfl (by decide) _ vs.length (vs.flatMap encV) rfl (row_below (unhide HO).1 (bl_alloc (unhide HB5) _)) ⟨w2.heap.size, 0, none⟩ 1 1 (encV (⟨nm, wk, xs⟩, .slice (some ⟨g, 0, none⟩) xs.length c)) rfl rfl (funV_set w2 ⟨wr.heap.size, 2, none⟩ (.slice (some ⟨g, 0, none⟩) xs.length c) (⟨nm, wk, xs⟩, .slice (some ⟨g, 0, none⟩) xs.length c)) (by simp [encV, Value.oneCell']) (by unfold maxLen; omega) (by omega) (Nat.le_trans hs (bl_alloc (unhide HB5) _).size) ?_; intro v3 w3 hown3 hgrow3 _ _))
      have hB3 : Below w.heap.size w w3 := (bl_trans hB (bl_alloc (unhide HB5) _)).grown hgrow3 (bl_trans hB (bl_alloc (unhide HB5) _)).size (fun j hj => (World.ownsRow.lt (unhide HO).1 j hj).1)
      have HO3 := hide (OwnFs.snoc (unhide HO) (bl_alloc (unhide HB5) _) (BodyO.below (unhide HBO) (below_alloc1 _ _)) hs hown3 hgrow3)
      have HF3 := hide (unhide HFS (.slice (some ⟨g, 0, none⟩) xs.length c))
      exact ⟨⟨k + 1, vs ++ [((⟨nm, wk, xs⟩ : FunD), Value.slice (some ⟨g, 0, none⟩) xs.length c)], by omega, by go_num, by simp; omega, unhide HF3, unhide HO3, hB3⟩, by simp [intOf]; omega⟩
    · have hke : k = fs.length := by omega
      have HV' : Hid (vs.map Prod.fst = fs) := by show _ = _; rw [unhide HV, hke, List.take_length]
      go_wp2_with fail
      go_ret
      exact ⟨_, vs, rfl, unhide HV', unhide HO, hB⟩
end Go.Proofs.Ytnmgeaonhbhbkaa.KeepO
