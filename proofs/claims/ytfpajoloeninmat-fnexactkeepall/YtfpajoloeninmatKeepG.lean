/- The contracts of KeepAll of both sides. -/
import Derived.Test.YtfpajoloeninmatKeepN
namespace Go.Proofs.Ytfpajoloeninmat.KeepG
open Go.ChangeShapes Go.WideShapes Go.ChangeAt Go.RowKit Go.Joins Go.Deep
open Go.Proofs.Ytfpajoloeninmat.Base Go.Proofs.Ytfpajoloeninmat.InsA Go.Proofs.Ytfpajoloeninmat.InsB Go.Proofs.Ytfpajoloeninmat.Funs Go.Proofs.Ytfpajoloeninmat.Open Go.Proofs.Ytfpajoloeninmat.FunS Go.Proofs.Ytfpajoloeninmat.Keep Go.Proofs.Ytfpajoloeninmat.UnitS Go.Proofs.Ytfpajoloeninmat.UnitM Go.Proofs.Ytfpajoloeninmat.Refs Go.Proofs.Ytfpajoloeninmat.UU Go.Proofs.Ytfpajoloeninmat.PickD Go.Proofs.Ytfpajoloeninmat.PickS Go.Proofs.Ytfpajoloeninmat.PickM Go.Proofs.Ytfpajoloeninmat.Concat Go.Proofs.Ytfpajoloeninmat.KeepC Go.Proofs.Ytfpajoloeninmat.KeepD Go.Proofs.Ytfpajoloeninmat.KeepA Go.Proofs.Ytfpajoloeninmat.KeepW Go.Proofs.Ytfpajoloeninmat.KeepX Go.Proofs.Ytfpajoloeninmat.KeepR Go.Proofs.Ytfpajoloeninmat.KeepO Go.Proofs.Ytfpajoloeninmat.KeepL Go.Proofs.Ytfpajoloeninmat.KeepN
open Go.Proofs.Ytfpajoloeninmat.Name (nameB specName_any implName_any)
set_option linter.unusedVariables false
set_option maxRecDepth 100000

/-- What is kept of units; none, if they are not right, or a name is nowhere. -/
def allB (us : List (List FunD)) (s : ByteArray) : Option (List FunD) := if unitsOkB us 8 && nameB s then walkB us s else none
theorem all_units {us : List (List FunD)} {s : ByteArray} (h : unitsOkB us 8 = false) : allB us s = none := by simp [allB, h]
theorem all_name {us : List (List FunD)} {s : ByteArray} (h : nameB s = false) : allB us s = none := by simp [allB, h]
theorem all_ok {us : List (List FunD)} {s : ByteArray} (h : unitsOkB us 8 = true) (hn : nameB s = true) : allB us s = walkB us s := by simp [allB, h, hn]
theorem units_fun {us : List (List FunD)} {m : Nat} (h : unitsOkB us m = true) : ∀ f ∈ us.flatten, funOkB f.nm f.body = true := fun f hf => by
  obtain ⟨u, hu, hf⟩ := List.mem_flatten.1 hf
  have h1 := units_each h u hu
  unfold unitOkB at h1
  simp only [Bool.and_eq_true, List.all_eq_true] at h1
  exact h1.1.2 f hf
theorem units_few {us : List (List FunD)} (h : unitsOkB us 8 = true) : flen us ≤ 40 := by
  have h1 := flatten_le (ok_five h) us.length (Nat.le_refl _)
  rw [List.take_length] at h1
  have := units_len h
  unfold flen; omega
theorem units_small {us : List (List FunD)} (h : unitsOkB us 8 = true) {w : World} {a : Option Addr} (hr : UnitRow w a us) : Small us :=
  ⟨by have := units_few h; omega, fun f hf => by have := fun_le (units_fun h f hf); omega, small_sizes hr⟩
theorem all_bodies {us : List (List FunD)} {s : ByteArray} {out : List FunD} (h : unitsOkB us 8 = true) (hw : walkB us s = some out) : out.length ≤ 40 ∧ ∀ f ∈ out, 0 < f.body.length ∧ f.body.length ≤ 1000 := by
  obtain ⟨h1, _, h3⟩ := walk_facts hw
  have := units_few h
  refine ⟨by omega, fun f hf => ?_⟩
  have hk := units_fun h f (h3 f hf)
  have := fun_le hk
  have := fun_pos hk
  omega
theorem all_few (us : List (List FunD)) (s : ByteArray) : ((allB us s).getD []).length ≤ 40 ∧ ∀ f ∈ (allB us s).getD [], f.body.length ≤ 1000 := by
  cases hu : unitsOkB us 8
  · rw [all_units hu]; exact ⟨Nat.zero_le _, (fun f hf => by cases hf)⟩
  cases hn : nameB s
  · rw [all_name hn]; exact ⟨Nat.zero_le _, (fun f hf => by cases hf)⟩
  rw [all_ok hu hn]
  cases hw : walkB us s with
  | none => exact ⟨Nat.zero_le _, (fun f hf => by cases hf)⟩
  | some out => exact ⟨(all_bodies hu hw).1, fun f hf => ((all_bodies hu hw).2 f hf).2⟩
/-- What a call of KeepAll leaves. -/
def KAll (w : World) (us : List (List FunD)) (s : ByteArray) (e : Ending) (w' : World) : Prop := ∃ v vs, e = .returned (.tuple #[v, .bool (allB us s).isSome]) ∧ vs.map Prod.fst = (allB us s).getD [] ∧ OwnFs w' w.heap.size v vs ∧ Below w.heap.size w w'
theorem kall_none {w w' : World} {us : List (List FunD)} {s : ByteArray} {v : Value} (h : allB us s = none) (hO : OwnFs w' w.heap.size v []) (hb : Below w.heap.size w w') : KAll w us s (.returned (.tuple #[v, .bool false])) w' := ⟨v, [], by rw [h]; rfl, by rw [h]; rfl, hO, hb⟩
theorem kall_some {w w' : World} {us : List (List FunD)} {s : ByteArray} {v : Value} {out : List FunD} {vs : List (FunD × Value)} (h : allB us s = some out) (hv : vs.map Prod.fst = out) (hO : OwnFs w' w.heap.size v vs) (hb : Below w.heap.size w w') : KAll w us s (.returned (.tuple #[v, .bool true])) w' := ⟨v, vs, by rw [h]; rfl, by rw [h]; exact hv, hO, hb⟩

set_option maxHeartbeats 2000000 in
theorem specKeepAll_any (a : Option Addr) (cap : Nat) (us : List (List FunD)) (s : ByteArray) (w : World) (hs : s.size ≤ maxLen) (hcap : us.length ≤ cap) (hcm : cap ≤ maxLen) (hR : UnitRow w a us) :
    Calls Try.prog 24 #[.slice a us.length cap, .string s] w (KAll w us s) := by
  have HR := hide hR
  clear hR
  cases hu : unitsOkB us 8
  · go_enter Try.func24, Try.ntmps24
    go_wp2_with fail
    refine (specUnitsOk_any a cap us 8 _ (by omega) hcap hcm (unhide HR)).mono ?_
    rintro e w1 ⟨rfl, hb1⟩
    rw [hu]
    go_wp2_with fail
    go_ret2
    exact kall_none (all_units hu) ((OwnFs.made w1).base hb1.size) (bl_alloc hb1 _)
  cases hn : nameB s
  · go_enter Try.func24, Try.ntmps24
    go_wp2_with fail
    refine (specUnitsOk_any a cap us 8 _ (by omega) hcap hcm (unhide HR)).mono ?_
    rintro e w1 ⟨rfl, hb1⟩
    rw [hu]
    go_wp2_with fail
    refine (specName_any _ _ hs).mono ?_
    rintro e w2 ⟨rfl, rfl⟩
    rw [hn]
    go_wp2_with fail
    go_ret2
    exact kall_none (all_name hn) ((OwnFs.made _).base hb1.size) (bl_alloc hb1 _)
  have HSM := hide (units_small hu (unhide HR))
  have HA := hide (all_ok hu hn)
  have HB := hide (fun out => all_bodies (s := s) (out := out) hu)
  go_enter Try.func24, Try.ntmps24
  go_wp2_with fail
  refine (specUnitsOk_any a cap us 8 _ (by omega) hcap hcm (unhide HR)).mono ?_
  rintro e w1 ⟨rfl, hb1⟩
  rw [hu]
  go_wp2_with fail
  refine (specName_any _ _ hs).mono ?_
  rintro e w2 ⟨rfl, hw2⟩
  have hw2' : w2 = w1 := hw2
  subst hw2'
  rw [hn]
  go_wp2_with fail
  refine (specWalk_any a cap us s _ hs hcap hcm (unhide HSM) ((unhide HR).below hb1)).mono ?_
  rintro e w3 ⟨v, ok, rfl, hWk, hb3⟩
  have hB3 := bl_trans hb1 hb3
  cases hw : walkB us s with
  | none =>
    rw [hw] at hWk
    obtain ⟨rfl, rfl⟩ := hWk
    go_wp2_with fail
    go_ret2
    exact kall_none ((unhide HA).trans hw) ((OwnFs.made w3).base hB3.size) (bl_alloc hB3 _)
  | some out =>
    have hrow := walked_row hWk hb3
    rw [hw] at hWk hrow
    obtain ⟨rfl, _⟩ := hWk
    simp only [Option.getD_some] at hrow
    obtain ⟨la, lc, rfl, hlc, hlcm, hrow⟩ := hrow
    have HRW := hide hrow
    obtain ⟨ho40, hob⟩ := unhide HB out hw
    have HOB := hide hob
    have HAS := hide ((unhide HA).trans hw)
    clear hrow hob HB HSM HA hb3 hb1
    go_wp2_with fail
    refine (specCopy_any la lc out _ hlc hlcm (by omega) (unhide HOB) (unhide HRW)).mono ?_
    rintro e w4 ⟨v4, vs4, rfl, hv4, hO4, hb4⟩
    have HV4 := hide hv4
    have HO4 := hide hO4
    obtain ⟨a4, c4, e4⟩ := row_form hO4.1
    subst e4
    clear hv4 hO4
    go_wp2_with fail
    go_ret2
    exact kall_some (unhide HAS) (unhide HV4) ((unhide HO4).base hB3.size) (bl_trans hB3 hb4)
set_option maxHeartbeats 2000000 in
theorem implKeepAll_any (a : Option Addr) (cap : Nat) (us : List (List FunD)) (s : ByteArray) (w : World) (hs : s.size ≤ maxLen) (hcap : us.length ≤ cap) (hcm : cap ≤ maxLen) (hR : UnitRow w a us) :
    Calls Try.prog 25 #[.slice a us.length cap, .string s] w (KAll w us s) := by
  have HR := hide hR
  clear hR
  cases hu : unitsOkB us 8
  · go_enter Try.func25, Try.ntmps25
    go_wp2_with fail
    refine (implUnitsOk_any a cap us 8 _ (by omega) hcap hcm (unhide HR)).mono ?_
    rintro e w1 ⟨rfl, hb1⟩
    rw [hu]
    go_wp2_with fail
    go_ret2
    exact kall_none (all_units hu) (OwnFs.nil _ _) hb1
  cases hn : nameB s
  · go_enter Try.func25, Try.ntmps25
    go_wp2_with fail
    refine (implUnitsOk_any a cap us 8 _ (by omega) hcap hcm (unhide HR)).mono ?_
    rintro e w1 ⟨rfl, hb1⟩
    rw [hu]
    go_wp2_with fail
    refine (implName_any _ _ hs).mono ?_
    rintro e w2 ⟨rfl, hw2⟩
    rw [hn]
    go_wp2_with fail
    go_ret2
    exact kall_none (all_name hn) (OwnFs.nil _ _) (hb1.trans (by first | exact hw2.mono hb1.size | (subst hw2; exact Below.refl _ _)))
  have HSM := hide (units_small hu (unhide HR))
  have HA := hide (all_ok hu hn)
  have HB := hide (fun out => all_bodies (s := s) (out := out) hu)
  have h8 := units_len hu
  have H40 := hide (ok_forty hu)
  have HFO := hide (units_fun hu)
  have HAP := hide (units_apart hu)
  go_enter Try.func25, Try.ntmps25
  go_wp2_with fail
  refine (implUnitsOk_any a cap us 8 _ (by omega) hcap hcm (unhide HR)).mono ?_
  rintro e w1 ⟨rfl, hb1⟩
  rw [hu]
  go_wp2_with fail
  refine (implName_any _ _ hs).mono ?_
  rintro e w2 ⟨rfl, hw2⟩
  have hB2 : Below w.heap.size w w2 := hb1.trans (by first | exact hw2.mono hb1.size | (subst hw2; exact Below.refl _ _))
  rw [hn]
  clear hw2 hb1
  go_wp2_with fail
  refine (reached_any a cap us s _ hs hcap hcm (unhide HSM) h8 (unhide H40) (unhide HFO) (unhide HAP) ((unhide HR).below hB2)).mono ?_
  rintro e w3 ⟨v, ok, rfl, hWk, hb3⟩
  have hB3 := bl_trans hB2 hb3
  cases hw : walkB us s with
  | none =>
    rw [hw] at hWk
    obtain ⟨rfl, rfl⟩ := hWk
    have HAS := hide ((unhide HA).trans hw)
    clear HB HSM HA hb3 hB2 H40 HFO HAP
    go_wp2_with fail
    refine (copy_any none 0 [] _ (Nat.le_refl _) (Nat.zero_le _) (by simp) (fun f hf => by cases hf) (.inl rfl)).mono ?_
    rintro e w4 ⟨v4, vs4, rfl, hv4, hO4, hb4⟩
    have hv4' : vs4 = [] := by simpa using hv4
    subst hv4'
    have HO4 := hide hO4
    obtain ⟨a4, c4, e4⟩ := row_form hO4.1
    subst e4
    clear hv4 hO4
    go_wp2_with fail
    go_ret2
    exact kall_none (unhide HAS) ((unhide HO4).base hB3.size) (bl_trans hB3 hb4)
  | some out =>
    have hrow := walked_row hWk hb3
    rw [hw] at hWk hrow
    obtain ⟨rfl, _⟩ := hWk
    simp only [Option.getD_some] at hrow
    obtain ⟨la, lc, rfl, hlc, hlcm, hrow⟩ := hrow
    have HRW := hide hrow
    obtain ⟨ho40, hob⟩ := unhide HB out hw
    have HOB := hide hob
    have HAS := hide ((unhide HA).trans hw)
    clear hrow hob HB HSM HA hb3 hB2 H40 HFO HAP
    go_wp2_with fail
    refine (copy_any la lc out _ hlc hlcm (by omega) (unhide HOB) (unhide HRW)).mono ?_
    rintro e w4 ⟨v4, vs4, rfl, hv4, hO4, hb4⟩
    have HV4 := hide hv4
    have HO4 := hide hO4
    obtain ⟨a4, c4, e4⟩ := row_form hO4.1
    subst e4
    clear hv4 hO4
    go_wp2_with fail
    go_ret2
    exact kall_some (unhide HAS) (unhide HV4) ((unhide HO4).base hB3.size) (bl_trans hB3 hb4)
end Go.Proofs.Ytfpajoloeninmat.KeepG
