/- The contract of the program's copyFuns: functions in memory of their own. -/
import Derived.Test.YtnmgeaonhbhbkaaKeepC
import Derived.Lib.AppendZeros
import Derived.Deep.RegionLaw
import Derived.Deep.AppendLies
import Derived.Test.YtnmgeaonhbhbkaaPkc9ed0e7a
namespace Go.Proofs.Ytnmgeaonhbhbkaa.KeepO
open Go.ChangeShapes Go.WideShapes Go.ChangeAt Go.RowKit Go.Joins Go.Deep
open Go.Proofs.Ytnmgeaonhbhbkaa.Base Go.Proofs.Ytnmgeaonhbhbkaa.InsA Go.Proofs.Ytnmgeaonhbhbkaa.Funs Go.Proofs.Ytnmgeaonhbhbkaa.Open Go.Proofs.Ytnmgeaonhbhbkaa.Keep Go.Proofs.Ytnmgeaonhbhbkaa.UU Go.Proofs.Ytnmgeaonhbhbkaa.Concat Go.Proofs.Ytnmgeaonhbhbkaa.KeepC
set_option linter.unusedVariables false
set_option maxRecDepth 100000

/-- A body of its own, out of the body of a function whose copy lies in the newest block. -/
theorem copy_body {wr : World} {nm : ByteArray} {wk : Bool} {a : Option Addr} {ci : Nat} {xs : List InsD} (hr : InsRow wr a xs) (hn : nm.size ≤ maxLen) (h1 : 0 < xs.length) (hl : xs.length ≤ 1000) :
    ∀ ty, ∃ g c w2, (Builtin.append_ #[29, 29] ty #[.slice none 0 0, .slice a xs.length ci]).run Try.prog (wr.alloc (.cells #[.string nm, .bool wk, .slice a xs.length ci] 31)) = .ok (.slice (some ⟨g, 0, none⟩) xs.length c) w2 ∧
      (w2.cell? ⟨wr.heap.size, 2, none⟩ = some (.slice a xs.length ci) ∧ w2.frozen? ⟨wr.heap.size, 2, none⟩ = false) ∧
      ((w2.setCell ⟨wr.heap.size, 2, none⟩ (.slice (some ⟨g, 0, none⟩) xs.length c)).cell? ⟨wr.heap.size, 0, none⟩ = some (.string nm) ∧ (w2.setCell ⟨wr.heap.size, 2, none⟩ (.slice (some ⟨g, 0, none⟩) xs.length c)).cell? ⟨wr.heap.size, 1, none⟩ = some (.bool wk) ∧ (w2.setCell ⟨wr.heap.size, 2, none⟩ (.slice (some ⟨g, 0, none⟩) xs.length c)).cell? ⟨wr.heap.size, 2, none⟩ = some (.slice (some ⟨g, 0, none⟩) xs.length c)) ∧
      Below wr.heap.size wr (w2.setCell ⟨wr.heap.size, 2, none⟩ (.slice (some ⟨g, 0, none⟩) xs.length c)) ∧ BodyO (w2.setCell ⟨wr.heap.size, 2, none⟩ (.slice (some ⟨g, 0, none⟩) xs.length c)) wr.heap.size (⟨nm, wk, xs⟩, .slice (some ⟨g, 0, none⟩) xs.length c) := by
  intro ty
  obtain ⟨v', w2, hrun, hO, hg, hne⟩ := append_body (w := wr.alloc (.cells #[.string nm, .bool wk, .slice a xs.length ci] 31)) (B := wr.heap.size) (v := .slice none 0 0) (ci := ci) ty (by simp) (World.ownsRow_nil _ _ _ _) (hr.below (below_alloc1 _ _)) h1 (by omega)
  obtain ⟨g, c, e⟩ : ∃ g c, v' = .slice (some ⟨g, 0, none⟩) xs.length c := by
    obtain ⟨_, ⟨rfl, h0⟩ | ⟨g, cap, cur, e, _⟩⟩ := hO
    · omega
    · exact ⟨g, cap, e⟩
  subst e
  have hF : w2.heap[wr.heap.size]? = some (.cells #[.string nm, .bool wk, .slice a xs.length ci] 31) := by
    rw [hg.block _ (by simp) (fun e => by cases e)]
    exact new_block wr _
  have hgF : g ≠ wr.heap.size := fun e => by
    obtain ⟨_, ⟨h0, _⟩ | ⟨g', cap, cur, e', _, hb, _⟩⟩ := hO
    · cases h0
    · cases e'
      rw [e, hF] at hb
      simp at hb
  have hF2 := block_setCell (i := 2) hF (.slice (some ⟨g, 0, none⟩) xs.length c)
  have hB2 : Below wr.heap.size wr w2 := (below_alloc1 wr _).grown hg (by simp) (fun j hj => by cases hj)
  refine ⟨g, c, w2, hrun, ⟨by rw [cell_of_block hF]; rfl, unfrozen_of_block hF 2⟩, (box3 hF2).1, hB2.setCell (Nat.le_refl _) _, ?_, hn, hr.sizes, hne⟩
  obtain ⟨h0, ⟨h3, _⟩ | ⟨g', cap, cur, e', hB, hb, h4⟩⟩ := hO
  · cases h3
  · exact ⟨h0, .inr ⟨g', cap, cur, e', hB, (Below.heap_setCell w2 ⟨wr.heap.size, 2, none⟩ _ g' (fun e => hgF (by cases e'; exact e))).trans hb, h4⟩⟩
theorem funV_set (w : World) (p : Addr) (x : Value) (u : FunD × Value) : ∀ j y, (encV u)[j]? = some y → ((w.setCell p x).alloc (.cells #[.string u.1.nm, .bool u.1.wk, u.2] 31)).cell? ((⟨w.heap.size, 0, none⟩ : Addr).add j) = some y := by
  have h := funV_new (w.setCell p x) u
  have e : (w.setCell p x).heap.size = w.heap.size := by simp
  rwa [e] at h
/-- What a copy leaves. -/
def Copied (w : World) (fs : List FunD) (e : Ending) (w' : World) : Prop := ∃ v vs, e = .returned v ∧ vs.map Prod.fst = fs ∧ OwnFs w' w.heap.size v vs ∧ Below w.heap.size w w'
theorem fst_snoc {fs : List FunD} {vs : List (FunD × Value)} {k : Nat} {v : Value} (hk : k < fs.length) (h : vs.map Prod.fst = fs.take k) : (vs ++ [(fs[k], v)]).map Prod.fst = fs.take (k + 1) := by
  rw [List.map_append, h, List.take_succ_eq_append_getElem hk]; rfl
set_option maxHeartbeats 4000000 in
theorem copy_any (a : Option Addr) (cap : Nat) (fs : List FunD) (w : World) (hcap : fs.length ≤ cap) (hcm : cap ≤ maxLen) (hl : fs.length ≤ 1000) (hbd : ∀ f ∈ fs, 0 < f.body.length ∧ f.body.length ≤ 1000) (hR : FunRow w a fs) :
    Calls Try.prog 34 #[.slice a fs.length cap] w (Copied w fs) := by
  have HR := hide hR
  have HBD := hide hbd
  clear hR hbd
  obtain ⟨i1, hi1, hy0, hy1, hy2⟩ := info_fun
  go_enter Try.func34, Try.ntmps34
  go_wp2_with fail
  go_loopw [3, 8] (fun v i w' => ∃ (k : Nat) (vs : List (FunD × Value)), k ≤ fs.length ∧ i = .int .i64 k ∧ vs.length ≤ k ∧ Hid (vs.map Prod.fst = fs.take k) ∧ OwnFs w' w.heap.size v vs ∧ Below w.heap.size w w') (fun _ i _ => fs.length - (intOf i).toNat)
  case atStart => exact ⟨0, [], Nat.zero_le _, rfl, Nat.le_refl _, rfl, OwnFs.nil _ _, Below.refl _ _⟩
  case round =>
    obtain ⟨k, vs, hk, rfl, hvk, HV, hO, hB⟩ := hrel
    have HO := hide hO
    have hs := hB.size
    clear hO
    by_cases hkl : k < fs.length
    · have hkl' : (k : Int) < (fs.length : Int) := by omega
      obtain ⟨b, off, rfl⟩ := (unhide HR).get (by omega)
      obtain ⟨ai, ci, c0, c1, c2, hn, h4, h5, h6⟩ := ((unhide HR).below hB).at hkl
      obtain ⟨hb0, hb1⟩ := unhide HBD fs[k] (List.getElem_mem _)
      have HCB := hide (copy_body (wk := fs[k].wk) (ci := ci) h6 hn hb0 hb1)
      have HFS := hide (fun v => fst_snoc (v := v) hkl (unhide HV))
      clear h6
      generalize fs[k] = f at *
      obtain ⟨nm, wk, xs⟩ := f
      simp only at *
      go_wp2_with (first
        | (at_builtin; obtain ⟨g, c, w2, hrun, ⟨e2, f2⟩, ⟨d0, d1, d2⟩, hB5, hBO⟩ := unhide HCB _; refine Lib.wpList_append_run _ rfl _ _ _ _ rfl _ _ rfl rfl _ _ hrun ?_; have HB5 := hide hB5; have HBO := hide hBO; clear hB5 hBO hrun)
        | (at_builtin; refine wpList_append_own_at _ rfl _ _ 23 rfl w.heap.size 31 i1 (.agg #[.string ⟨#[]⟩, .bool false, .slice none 0 0]) 3 48 Try.underlying23 hi1 hy0 hy1 hy2 rfl (by decide) _ vs.length (vs.flatMap encV) rfl (row_below (unhide HO).1 (bl_alloc (unhide HB5) _)) ⟨w2.heap.size, 0, none⟩ 1 1 (encV (⟨nm, wk, xs⟩, .slice (some ⟨g, 0, none⟩) xs.length c)) rfl rfl (funV_set w2 ⟨wr.heap.size, 2, none⟩ (.slice (some ⟨g, 0, none⟩) xs.length c) (⟨nm, wk, xs⟩, .slice (some ⟨g, 0, none⟩) xs.length c)) (by simp [encV, Value.oneCell']) (by unfold maxLen; omega) (by omega) (Nat.le_trans hs (bl_alloc (unhide HB5) _).size) ?_; intro v3 w3 hown3 hgrow3 _ _))
      have hB3 : Below w.heap.size w w3 := (bl_trans hB (bl_alloc (unhide HB5) _)).grown hgrow3 (bl_trans hB (bl_alloc (unhide HB5) _)).size (fun j hj => (World.ownsRow.lt (unhide HO).1 j hj).1)
      have HO3 := hide (OwnFs.snoc (unhide HO) (bl_alloc (unhide HB5) _) (BodyO.below (unhide HBO) (below_alloc1 _ _)) hs hown3 hgrow3)
      have HF3 := hide (unhide HFS (.slice (some ⟨g, 0, none⟩) xs.length c))
      exact ⟨⟨k + 1, vs ++ [((⟨nm, wk, xs⟩ : FunD), Value.slice (some ⟨g, 0, none⟩) xs.length c)], by omega, by go_num, by simp; omega, unhide HF3, unhide HO3, hB3⟩, by simp [intOf]; omega⟩
    · have hke : k = fs.length := by omega
      have HV' : Hid (vs.map Prod.fst = fs) := by show _ = _; rw [unhide HV, hke, List.take_length]
      go_wp2_with fail
      go_ret
      exact ⟨_, vs, rfl, unhide HV', unhide HO, hB⟩
end Go.Proofs.Ytnmgeaonhbhbkaa.KeepO
/- The contract of the specification's l2Copy: functions in memory of their own. -/
namespace Go.Proofs.Ytnmgeaonhbhbkaa.KeepL
open Go.ChangeShapes Go.WideShapes Go.ChangeAt Go.RowKit Go.Joins Go.Deep
open Go.Proofs.Ytnmgeaonhbhbkaa.Base Go.Proofs.Ytnmgeaonhbhbkaa.InsA Go.Proofs.Ytnmgeaonhbhbkaa.Funs Go.Proofs.Ytnmgeaonhbhbkaa.Open Go.Proofs.Ytnmgeaonhbhbkaa.Keep Go.Proofs.Ytnmgeaonhbhbkaa.UU Go.Proofs.Ytnmgeaonhbhbkaa.Concat Go.Proofs.Ytnmgeaonhbhbkaa.KeepC Go.Proofs.Ytnmgeaonhbhbkaa.KeepO
set_option linter.unusedVariables false
set_option maxRecDepth 100000

theorem row_form' {w : World} {B : Nat} {e : TypeId} {z n : Nat} {v : Value} {xs : List Value} (h : w.ownsRow B e z v n xs) : ∃ a c, v = .slice a n c := by
  obtain ⟨_, ⟨rfl, rfl⟩ | ⟨g, cap, cur, rfl, _⟩⟩ := h
  · exact ⟨_, _, rfl⟩
  · exact ⟨_, _, rfl⟩
/-- An append whose run is known, as one step of a region that draws. -/
theorem step_run {P : Program} {ops : Array Oper} {o : Oper} {a : Act} {w w' : World} {K : Act → World → Prop} {Q : Exit → Act → World → Prop} {E : Prop} (hgd : o.guard = none) (s x : Operand) (t tx : TypeId)
    (ho : o.op = Op.call { callee := Callee.builtin Builtin.append, args := #[s, x], argTypes := #[t, tx] }) (v u v' : Value) (hs : a.eval s = v) (hx : a.eval x = u) (hr : (Builtin.append_ #[t, tx] o.type #[v, u]).run P w = .ok v' w') (hK : K (a.put o.dst v') w') :
    if Region.wanted o (yielded ops a.tmps) = true then Oper.wp P o a w K Q else E := by
  have hw : Region.wanted o (yielded ops a.tmps) = true := by simp [Region.wanted, hgd]
  rw [if_pos hw]
  unfold Oper.wp
  simp [execOp, ho, resolve, invoke, builtin, hs, hx, hr, Result.andThen]
  exact hK
/-- The body's copy, behind the draw. -/
theorem copy_made {wr : World} {nm : ByteArray} {wk : Bool} {a : Option Addr} {ci : Nat} {xs : List InsD} (hr : InsRow wr a xs) (hn : nm.size ≤ maxLen) (h1 : 0 < xs.length) (hl : xs.length ≤ 1000) (ty : TypeId) :
    ∃ g c w2, (Builtin.append_ #[29, 29] ty #[.slice (some ⟨wr.heap.size, 0, none⟩) 0 0, .slice a xs.length ci]).run Try.prog (wr.alloc (.cells #[] 28)).drew = .ok (.slice (some ⟨g, 0, none⟩) xs.length c) w2 ∧ Below wr.heap.size wr w2 ∧ BodyO w2 wr.heap.size (⟨nm, wk, xs⟩, .slice (some ⟨g, 0, none⟩) xs.length c) := by
  have hb : Below wr.heap.size wr (wr.alloc (.cells #[] 28)).drew := (below_alloc1 wr _).drew
  have h0 : (wr.alloc (.cells #[] 28)).drew.ownsRow wr.heap.size 28 3 (.slice (some ⟨wr.heap.size, 0, none⟩) 0 0) 0 [] := ⟨by simp, .inr ⟨_, _, _, rfl, Nat.le_refl _, new_block wr _, Nat.le_refl _, Nat.zero_le _, rfl, rfl⟩⟩
  obtain ⟨v', w2, hrun, hO, hg, hne⟩ := append_body (ci := ci) ty hb.size h0 (hr.below hb) h1 (by omega)
  obtain ⟨g, c, e⟩ : ∃ g c, v' = .slice (some ⟨g, 0, none⟩) xs.length c := by
    obtain ⟨_, ⟨rfl, h0⟩ | ⟨g, cap, cur, e, _⟩⟩ := hO
    · omega
    · exact ⟨g, cap, e⟩
  subst e
  exact ⟨g, c, w2, hrun, hb.grown hg hb.size (fun j hj => by cases hj; exact Nat.le_refl _), hO, hn, hr.sizes, hne⟩
end Go.Proofs.Ytnmgeaonhbhbkaa.KeepL
/- The contracts of KeepOnly and KeepAll of both sides. -/
namespace Go.Proofs.Ytnmgeaonhbhbkaa.KeepN
open Go.ChangeShapes Go.WideShapes Go.ChangeAt Go.RowKit Go.Joins Go.Deep
open Go.Proofs.Ytnmgeaonhbhbkaa.Base Go.Proofs.Ytnmgeaonhbhbkaa.InsA Go.Proofs.Ytnmgeaonhbhbkaa.InsB Go.Proofs.Ytnmgeaonhbhbkaa.Funs Go.Proofs.Ytnmgeaonhbhbkaa.Open Go.Proofs.Ytnmgeaonhbhbkaa.FunS Go.Proofs.Ytnmgeaonhbhbkaa.Keep Go.Proofs.Ytnmgeaonhbhbkaa.UnitS Go.Proofs.Ytnmgeaonhbhbkaa.UnitM Go.Proofs.Ytnmgeaonhbhbkaa.Refs Go.Proofs.Ytnmgeaonhbhbkaa.UU Go.Proofs.Ytnmgeaonhbhbkaa.PickD Go.Proofs.Ytnmgeaonhbhbkaa.PickS Go.Proofs.Ytnmgeaonhbhbkaa.PickM Go.Proofs.Ytnmgeaonhbhbkaa.Concat Go.Proofs.Ytnmgeaonhbhbkaa.KeepC Go.Proofs.Ytnmgeaonhbhbkaa.KeepD Go.Proofs.Ytnmgeaonhbhbkaa.KeepA Go.Proofs.Ytnmgeaonhbhbkaa.KeepW Go.Proofs.Ytnmgeaonhbhbkaa.KeepX Go.Proofs.Ytnmgeaonhbhbkaa.KeepR Go.Proofs.Ytnmgeaonhbhbkaa.KeepO Go.Proofs.Ytnmgeaonhbhbkaa.KeepL
open Go.Proofs.Ytnmgeaonhbhbkaa.Name (nameB specName_any implName_any)
set_option linter.unusedVariables false
set_option maxRecDepth 100000

/-- What is kept of a program. -/
def onlyB (fs : List FunD) : List FunD := keepList fs (fs.getD 0 default).nm
theorem only_bad {fs : List FunD} (h : keepOkB fs = false) : onlyB fs = [] := list_bad h
theorem only_ok {fs : List FunD} (h : keepOkB fs = true) (h0 : 0 < fs.length) : (walkB [fs] fs[0].nm).getD [] = onlyB fs := by
  unfold onlyB
  rw [list_ok h]
  simp [List.getD, h0]
theorem only_bodies {fs : List FunD} (h : keepOkB fs = true) : (onlyB fs).length ≤ 40 ∧ ∀ f ∈ onlyB fs, 0 < f.body.length ∧ f.body.length ≤ 1000 := by
  obtain ⟨h1, _, h3⟩ := list_facts (s := (fs.getD 0 default).nm) h
  refine ⟨h1, fun f hf => ?_⟩
  have hk := (keep_parts h).2.2.1 f (h3 f hf)
  have := fun_le hk
  have := fun_pos hk
  omega
theorem only_few (fs : List FunD) : (onlyB fs).length ≤ 40 ∧ ∀ f ∈ onlyB fs, f.body.length ≤ 1000 := by
  cases h : keepOkB fs
  · rw [only_bad h]; exact ⟨Nat.zero_le _, (fun f hf => by cases hf)⟩
  · exact ⟨(only_bodies h).1, fun f hf => ((only_bodies h).2 f hf).2⟩

set_option maxHeartbeats 2000000 in
theorem implKeepOnly_any (a : Option Addr) (cap : Nat) (fs : List FunD) (w : World) (hcap : fs.length ≤ cap) (hcm : cap ≤ maxLen) (hR : FunRow w a fs) :
    Calls Try.prog 11 #[.slice a fs.length cap] w (Copied w (onlyB fs)) := by
  have HR := hide hR
  clear hR
  cases hok : keepOkB fs
  · go_enter Try.func11, Try.ntmps11
    go_wp2_with fail
    refine (implKeepOk_any a cap fs _ hcap hcm (unhide HR)).mono ?_
    rintro e w1 ⟨rfl, hb1⟩
    rw [hok]
    go_wp2_with fail
    go_ret
    exact ⟨_, [], rfl, (only_bad hok).symm, OwnFs.nil _ _, hb1⟩
  have HSM := hide (keep_small hok (unhide HR))
  obtain ⟨h0, hp40, hpok, hpap, _⟩ := keep_parts hok
  have HPO : Hid (∀ f ∈ ([fs] : List (List FunD)).flatten, funOkB f.nm f.body = true) := fun f hf => hpok f (by simpa using hf)
  have HPA : Hid (∀ u ∈ ([fs] : List (List FunD)), apartF u = true) := fun u hu => by rw [List.mem_singleton.1 hu]; exact hpap
  have HP40 : Hid (∀ u ∈ ([fs] : List (List FunD)), u.length ≤ 40) := fun u hu => by rw [List.mem_singleton.1 hu]; exact hp40
  have HLO := hide (only_ok hok h0)
  obtain ⟨ho40, hob⟩ := only_bodies hok
  have HOB := hide hob
  clear hob hpok hpap
  obtain ⟨b, off, rfl⟩ := (unhide HR).get h0
  go_enter Try.func11, Try.ntmps11
  go_wp2_with fail
  refine (implKeepOk_any _ cap fs _ hcap hcm (unhide HR)).mono ?_
  rintro e w1 ⟨rfl, hb1⟩
  rw [hok]
  have HU := hide (one_unit hcap hcm ((unhide HR).below hb1))
  obtain ⟨ai, ci, c0, _, _, hn, _⟩ := ((unhide HR).below (bl_alloc hb1 (.cells #[.slice (some ⟨b, off, none⟩) fs.length cap] 23))).at h0
  simp only [Nat.zero_mul, Nat.add_zero] at c0
  have h0' : (0 : Int) < (fs.length : Int) := by omega
  generalize fs[0].nm = s at *
  go_wp2_with fail
  refine (reached_any _ 1 [fs] s _ hn (Nat.le_refl _) (by unfold maxLen; omega) (unhide HSM) (by simp) (unhide HP40) (unhide HPO) (unhide HPA) (unhide HU)).mono ?_
  rintro e w3 ⟨v, ok, rfl, hWk, hb3⟩
  have hB3 := bl_trans (bl_alloc hb1 _) hb3
  obtain ⟨la, lc, rfl, hlc, hlcm, hrow⟩ := walked_row hWk hb3
  have HRW := hide hrow
  rw [unhide HLO] at HRW hlc
  rw [unhide HLO]
  clear hWk hb3 hrow HU HSM HLO hb1 hok c0 HPO HPA HP40
  generalize onlyB fs = lst at *
  go_wp2_with fail
  refine (copy_any la lc lst _ hlc hlcm (by omega) (unhide HOB) (unhide HRW)).mono ?_
  rintro e w4 ⟨v4, vs4, rfl, hv4, hO4, hb4⟩
  have HV4 := hide hv4
  have HO4 := hide hO4
  clear hv4 hO4
  go_wp2_with fail
  go_ret
  exact ⟨v4, vs4, rfl, unhide HV4, (unhide HO4).base hB3.size, bl_trans hB3 hb4⟩
end Go.Proofs.Ytnmgeaonhbhbkaa.KeepN
