/- The contracts of KeepOnly and KeepAll of both sides. -/
import Derived.Test.YtnmgeaonhbhbkaaKeepR
import Derived.Test.YtnmgeaonhbhbkaaKeepL
namespace Go.Proofs.Ytnmgeaonhbhbkaa.KeepN
open Go.ChangeShapes Go.WideShapes Go.ChangeAt Go.RowKit Go.Joins Go.Deep
open Go.Proofs.Ytnmgeaonhbhbkaa.Base Go.Proofs.Ytnmgeaonhbhbkaa.InsA Go.Proofs.Ytnmgeaonhbhbkaa.InsB Go.Proofs.Ytnmgeaonhbhbkaa.Funs Go.Proofs.Ytnmgeaonhbhbkaa.Open Go.Proofs.Ytnmgeaonhbhbkaa.FunS Go.Proofs.Ytnmgeaonhbhbkaa.Keep Go.Proofs.Ytnmgeaonhbhbkaa.UnitS Go.Proofs.Ytnmgeaonhbhbkaa.UnitM Go.Proofs.Ytnmgeaonhbhbkaa.Refs Go.Proofs.Ytnmgeaonhbhbkaa.UU Go.Proofs.Ytnmgeaonhbhbkaa.PickD Go.Proofs.Ytnmgeaonhbhbkaa.PickS Go.Proofs.Ytnmgeaonhbhbkaa.PickM Go.Proofs.Ytnmgeaonhbhbkaa.Concat Go.Proofs.Ytnmgeaonhbhbkaa.KeepC Go.Proofs.Ytnmgeaonhbhbkaa.KeepD Go.Proofs.Ytnmgeaonhbhbkaa.KeepA Go.Proofs.Ytnmgeaonhbhbkaa.KeepW Go.Proofs.Ytnmgeaonhbhbkaa.KeepX Go.Proofs.Ytnmgeaonhbhbkaa.KeepR Go.Proofs.Ytnmgeaonhbhbkaa.KeepO Go.Proofs.Ytnmgeaonhbhbkaa.KeepL
open Go.Proofs.Ytnmgeaonhbhbkaa.Name (nameB specName_any implName_any)
set_option linter.unusedVariables false
set_option maxRecDepth 100000

/-- What is kept of a program. -/
def onlyB (fs : List FunD) : List FunD := keepList fs (fs.getD 0 default).nm
theorem only_bad {fs : List FunD} (h : keepOkB fs = false) : onlyB fs = [] := list_bad h
theorem only_ok {fs : List FunD} (h : keepOkB fs = true) (h0 : 0 < fs.length) : (walkB [fs] fs[0].nm).getD [] = onlyB fs := by
  unfold onlyB
  rw [list_ok h]
  simp [List.getD, h0]
theorem only_bodies {fs : List FunD} (h : keepOkB fs = true) : (onlyB fs).length ≤ 40 ∧ ∀ f ∈ onlyB fs, 0 < f.body.length ∧ f.body.length ≤ 1000 := by
  obtain ⟨h1, _, h3⟩ := list_facts (s := (fs.getD 0 default).nm) h
  refine ⟨h1, fun f hf => ?_⟩
  have hk := (keep_parts h).2.2.1 f (h3 f hf)
  have := fun_le hk
  have := fun_pos hk
  omega
theorem only_few (fs : List FunD) : (onlyB fs).length ≤ 40 ∧ ∀ f ∈ onlyB fs, f.body.length ≤ 1000 := by
  cases h : keepOkB fs
  · rw [only_bad h]; exact ⟨Nat.zero_le _, (fun f hf => by cases hf)⟩
  · exact ⟨(only_bodies h).1, fun f hf => ((only_bodies h).2 f hf).2⟩

set_option maxHeartbeats 2000000 in
theorem implKeepOnly_any (a : Option Addr) (cap : Nat) (fs : List FunD) (w : World) (hcap : fs.length ≤ cap) (hcm : cap ≤ maxLen) (hR : FunRow w a fs) :
    Calls Try.prog 11 #[.slice a fs.length cap] w (Copied w (onlyB fs)) := by
  have HR := hide hR
  clear hR
  cases hok : keepOkB fs
  · go_enter Try.func11, Try.ntmps11
    go_wp2_with fail
    refine (implKeepOk_any a cap fs _ hcap hcm (unhide HR)).mono ?_
    rintro e w1 ⟨rfl, hb1⟩
    rw [hok]
    go_wp2_with fail
    go_ret
    exact ⟨_, [], rfl, (only_bad hok).symm, OwnFs.nil _ _, hb1⟩
  have HSM := hide (keep_small hok (unhide HR))
  obtain ⟨h0, hp40, hpok, hpap, _⟩ := keep_parts hok
  have HPO : Hid (∀ f ∈ ([fs] : List (List FunD)).flatten, funOkB f.nm f.body = true) := fun f hf => hpok f (by simpa using hf)
  have HPA : Hid (∀ u ∈ ([fs] : List (List FunD)), apartF u = true) := fun u hu => by rw [List.mem_singleton.1 hu]; exact hpap
  have HP40 : Hid (∀ u ∈ ([fs] : List (List FunD)), u.length ≤ 40) := fun u hu => by rw [List.mem_singleton.1 hu]; exact hp40
  have HLO := hide (only_ok hok h0)
  obtain ⟨ho40, hob⟩ := only_bodies hok
  have HOB := hide hob
  clear hob hpok hpap
  obtain ⟨b, off, rfl⟩ := (unhide HR).get h0
  go_enter Try.func11, Try.ntmps11
  go_wp2_with fail
  refine (implKeepOk_any _ cap fs _ hcap hcm (unhide HR)).mono ?_
  rintro e w1 ⟨rfl, hb1⟩
  rw [hok]
  have HU := hide (one_unit hcap hcm ((unhide HR).below hb1))
  obtain ⟨ai, ci, c0, _, _, hn, _⟩ := ((unhide HR).below (bl_alloc hb1 (.cells #[.slice (some ⟨b, off, none⟩) fs.length cap] 23))).at h0
  simp only [Nat.zero_mul, Nat.add_zero] at c0
  have h0' : (0 : Int) < (fs.length : Int) := by omega
  generalize fs[0].nm = s at *
  go_wp2_with fail
  refine (reached_any _ 1 [fs] s _ hn (Nat.le_refl _) (by unfold maxLen; omega) (unhide HSM) (by simp) (unhide HP40) (unhide HPO) (unhide HPA) (unhide HU)).mono ?_
  rintro e w3 ⟨v, ok, rfl, hWk, hb3⟩
  have hB3 := bl_trans (bl_alloc hb1 _) hb3
  obtain ⟨la, lc, rfl, hlc, hlcm, hrow⟩ := walked_row hWk hb3
  have HRW := hide hrow
  rw [unhide HLO] at HRW hlc
  rw [unhide HLO]
  clear hWk hb3 hrow HU HSM HLO hb1 hok c0 HPO HPA HP40
  generalize onlyB fs = lst at *
  go_wp2_with fail
  refine (copy_any la lc lst _ hlc hlcm (by omega) (unhide HOB) (unhide HRW)).mono ?_
  rintro e w4 ⟨v4, vs4, rfl, hv4, hO4, hb4⟩
  have HV4 := hide hv4
  have HO4 := hide hO4
  clear hv4 hO4
  go_wp2_with fail
  go_ret
  exact ⟨v4, vs4, rfl, unhide HV4, (unhide HO4).base hB3.size, bl_trans hB3 hb4⟩
end Go.Proofs.Ytnmgeaonhbhbkaa.KeepN
