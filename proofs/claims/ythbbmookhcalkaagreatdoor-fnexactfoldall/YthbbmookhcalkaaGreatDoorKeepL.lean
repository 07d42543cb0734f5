/- The contract of the specification's l2Copy: functions in memory of their own. -/
import Derived.Test.YthbbmookhcalkaaGreatDoorKeepO
import Derived.Deep.RegionLaw
import Derived.Deep.AppendLies
namespace Go.Proofs.YthbbmookhcalkaaGreatDoor.KeepL
open Go.ChangeShapes Go.WideShapes Go.ChangeAt Go.RowKit Go.Joins Go.Deep
open Go.Proofs.YthbbmookhcalkaaGreatDoor.Base Go.Proofs.YthbbmookhcalkaaGreatDoor.InsA Go.Proofs.YthbbmookhcalkaaGreatDoor.Funs Go.Proofs.YthbbmookhcalkaaGreatDoor.Open Go.Proofs.YthbbmookhcalkaaGreatDoor.Keep Go.Proofs.YthbbmookhcalkaaGreatDoor.UU Go.Proofs.YthbbmookhcalkaaGreatDoor.Concat Go.Proofs.YthbbmookhcalkaaGreatDoor.KeepC Go.Proofs.YthbbmookhcalkaaGreatDoor.KeepO
set_option linter.unusedVariables false
set_option maxRecDepth 100000

theorem row_form' {w : World} {B : Nat} {e : TypeId} {z n : Nat} {v : Value} {xs : List Value} (h : w.ownsRow B e z v n xs) : ∃ a c, v = .slice a n c := by
  obtain ⟨_, ⟨rfl, rfl⟩ | ⟨g, cap, cur, rfl, _⟩⟩ := h
  · exact ⟨_, _, rfl⟩
  · exact ⟨_, _, rfl⟩
/-- An append whose run is known, as one step of a region that draws. -/
theorem step_run {P : Program} {ops : Array Oper} {o : Oper} {a : Act} {w w' : World} {K : Act → World → Prop} {Q : Exit → Act → World → Prop} {E : Prop} (hgd : o.guard = none) (s x : Operand) (t tx : TypeId)
    (ho : o.op = Op.call { callee := Callee.builtin Builtin.append, args := #[s, x], argTypes := #[t, tx] }) (v u v' : Value) (hs : a.eval s = v) (hx : a.eval x = u) (hr : (Builtin.append_ #[t, tx] o.type #[v, u]).run P w = .ok v' w') (hK : K (a.put o.dst v') w') :
    if Region.wanted o (yielded ops a.tmps) = true then Oper.wp P o a w K Q else E := by
  have hw : Region.wanted o (yielded ops a.tmps) = true := by simp [Region.wanted, hgd]
  rw [if_pos hw]
  unfold Oper.wp
  simp [execOp, ho, resolve, invoke, builtin, hs, hx, hr, Result.andThen]
  exact hK
/-- The body's copy, behind the draw. -/
theorem copy_made {wr : World} {nm : ByteArray} {wk : Bool} {a : Option Addr} {ci : Nat} {xs : List InsD} (hr : InsRow wr a xs) (hn : nm.size ≤ maxLen) (h1 : 0 < xs.length) (hl : xs.length ≤ 1000) (ty : TypeId) :
    ∃ g c w2, (Builtin.append_ #[26, 26] ty #[.slice (some ⟨wr.heap.size, 0, none⟩) 0 0, .slice a xs.length ci]).run Tryz.prog (wr.alloc (.cells #[] 105)).drew = .ok (.slice (some ⟨g, 0, none⟩) xs.length c) w2 ∧ Below wr.heap.size wr w2 ∧ BodyO w2 wr.heap.size (⟨nm, wk, xs⟩, .slice (some ⟨g, 0, none⟩) xs.length c) := by
  have hb : Below wr.heap.size wr (wr.alloc (.cells #[] 105)).drew := (below_alloc1 wr _).drew
  have h0 : (wr.alloc (.cells #[] 105)).drew.ownsRow wr.heap.size 105 3 (.slice (some ⟨wr.heap.size, 0, none⟩) 0 0) 0 [] := ⟨by simp, .inr ⟨_, _, _, rfl, Nat.le_refl _, new_block wr _, Nat.le_refl _, Nat.zero_le _, rfl, rfl⟩⟩
  obtain ⟨v', w2, hrun, hO, hg, hne⟩ := append_body (ci := ci) ty hb.size h0 (hr.below hb) h1 (by omega)
  obtain ⟨g, c, e⟩ : ∃ g c, v' = .slice (some ⟨g, 0, none⟩) xs.length c := by
    obtain ⟨_, ⟨rfl, h0⟩ | ⟨g, cap, cur, e, _⟩⟩ := hO
    · omega
    · exact ⟨g, cap, e⟩
  subst e
  exact ⟨g, c, w2, hrun, hb.grown hg hb.size (fun j hj => by cases hj; exact Nat.le_refl _), hO, hn, hr.sizes, hne⟩
set_option maxHeartbeats 8000000 in
theorem specCopy_any (a : Option Addr) (cap : Nat) (fs : List FunD) (w : World) (hcap : fs.length ≤ cap) (hcm : cap ≤ maxLen) (hl : fs.length ≤ 1000) (hbd : ∀ f ∈ fs, 0 < f.body.length ∧ f.body.length ≤ 1000) (hR : FunRow w a fs) :
    Calls Tryz.prog 47 #[.slice a fs.length cap] w (Copied w fs) := by
  have HR := hide hR
  have HBD := hide hbd
  clear hR hbd
  obtain ⟨i1, hi1, hy0, hy1, hy2⟩ := info_fun
  obtain ⟨i2, hi2, hx0, hx1, hx2⟩ := info_ins
  go_enter Tryz.func47, Tryz.ntmps47
  go_wp2_with fail
  go_loopw [3, 4] (fun v i w' => ∃ (k : Nat) (vs : List (FunD × Value)), k ≤ fs.length ∧ i = .int .i64 k ∧ vs.length ≤ k ∧ Hid (vs.map Prod.fst = fs.take k) ∧ OwnFs w' w.heap.size v vs ∧ Below w.heap.size w w') (fun _ i _ => fs.length - (intOf i).toNat)
  case atStart => exact ⟨0, [], Nat.zero_le _, rfl, Nat.le_refl _, rfl, OwnFs.made _, below_alloc1 _ _⟩
  case round =>
    obtain ⟨k, vs, hk, rfl, hvk, HV, hO, hB⟩ := hrel
    have HO := hide hO
    have hs := hB.size
    obtain ⟨va, vc, ev⟩ := row_form' hO.1
    subst ev
    clear hO
    by_cases hkl : k < fs.length
    · have hkl' : (k : Int) < (fs.length : Int) := by omega
      have hk0 : (0 : Int) ≤ (k : Int) := by omega
      obtain ⟨b, off, rfl⟩ := (unhide HR).get (by omega)
      obtain ⟨ai, ci, c0, c1, c2, hn, h4, h5, h6⟩ := ((unhide HR).below hB).at hkl
      obtain ⟨hb0, hb1⟩ := unhide HBD fs[k] (List.getElem_mem _)
      have HFS := hide (fun v => fst_snoc (v := v) hkl (unhide HV))
      have H6 := hide h6
      clear h6
      generalize fs[k] = f at *
      obtain ⟨nm, wk, xs⟩ := f
      simp only at *
      obtain ⟨g2, k2, w2, hrun2, hb2, hbo⟩ := copy_made (nm := nm) (wk := wk) (ci := ci) (unhide H6) hn hb0 hb1 26
      have HBO := hide hbo
      have hb3 := bl_alloc hb2 (.cells #[.string nm, .bool wk, .slice (some ⟨g2, 0, none⟩) xs.length k2] 28)
      obtain ⟨v3, w3, hrun3, hown3, hgrow3, _, _⟩ := run_append_own_at (P := Tryz.prog) (w2.alloc (.cells #[.string nm, .bool wk, .slice (some ⟨g2, 0, none⟩) xs.length k2] 28)) w.heap.size 23 23 28 i1 _ 3 48 Tryz.underlying23 hi1 hy0 hy1 hy2 rfl (by decide) (.slice va vs.length vc) vs.length (vs.flatMap encV) (row_below (unhide HO).1 hb3) ⟨w2.heap.size, 0, none⟩ 1 1 (encV (⟨nm, wk, xs⟩, .slice (some ⟨g2, 0, none⟩) xs.length k2)) rfl (funV_new w2 (⟨nm, wk, xs⟩, .slice (some ⟨g2, 0, none⟩) xs.length k2)) (by simp [encV, Value.oneCell']) (by unfold maxLen; omega) (by omega) (Nat.le_trans hs hb3.size)
      obtain ⟨a3, c3, e3⟩ := row_form' hown3
      subst e3
      have hB3 : Below w.heap.size w w3 := (bl_trans hB hb3).grown hgrow3 (bl_trans hB hb3).size (fun j hj => (World.ownsRow.lt (unhide HO).1 j hj).1)
      have HO3 := hide (OwnFs.snoc (unhide HO) hb3 (BodyO.below (unhide HBO) (below_alloc1 _ _)) hs hown3 hgrow3)
      have HF3 := hide (unhide HFS (.slice (some ⟨g2, 0, none⟩) xs.length k2))
      have HB3 := hide hB3
      have c0a := (Stable.cell ⟨b, off + k * 3, none⟩ (.string nm)).alloc c0 (.cells #[] 105)
      have c1a := (Stable.cell ⟨b, off + k * 3 + 1, none⟩ (.bool wk)).alloc c1 (.cells #[] 105)
      have c2a := (Stable.cell ⟨b, off + k * 3 + 2, none⟩ (.slice ai xs.length ci)).alloc c2 (.cells #[] 105)
      have c0b := (Stable.cell ⟨b, off + k * 3, none⟩ (.string nm)).1 _ _ hb2 c0
      have c1b := (Stable.cell ⟨b, off + k * 3 + 1, none⟩ (.bool wk)).1 _ _ hb2 c1
      have c2b := (Stable.cell ⟨b, off + k * 3 + 2, none⟩ (.slice ai xs.length ci)).1 _ _ hb2 c2
      have HRUN2 := hide hrun2
      have HRUN3 := hide hrun3
      clear hbo hb3 hown3 hgrow3 hB3 hrun2 hrun3 hb2 hi1 hi2 hy0 hy1 hy2 hx0 hx1 hx2
      go_wp2_with fail
      go_region_law (first
        | (refine step_run rfl (.tmp 23) (.tmp 28) 26 26 rfl _ _ _ (by simp [Act.eval]) (by simp [Act.eval]) (unhide HRUN2) ?_)
        | (refine step_run rfl (.tmp 12) (.tmp 31) 23 23 rfl _ _ _ (by simp [Act.eval]) (by simp [Act.eval]) (unhide HRUN3) ?_))
      all_goals (go_wp2_with fail)
      all_goals (exact ⟨⟨k + 1, vs ++ [((⟨nm, wk, xs⟩ : FunD), Value.slice (some ⟨g2, 0, none⟩) xs.length k2)], by omega, by go_num, by simp; omega, unhide HF3, unhide HO3, unhide HB3⟩, by simp [intOf]; omega⟩)
    · have hke : k = fs.length := by omega
      have HV' : Hid (vs.map Prod.fst = fs) := by show _ = _; rw [unhide HV, hke, List.take_length]
      go_wp2_with fail
      go_ret
      exact ⟨_, vs, rfl, unhide HV', unhide HO, hB⟩
end Go.Proofs.YthbbmookhcalkaaGreatDoor.KeepL
