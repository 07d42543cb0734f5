/- The contracts of the specification's LaySize, LayStone, LayOk, LayTo. -/
import Derived.Test.YthbbmookhcalkaaGreatLayU
namespace Go.Proofs.YthbbmookhcalkaaGreat.LayV
open Go.ChangeShapes Go.WideShapes Go.ChangeAt Go.RowKit Go.Joins Go.Deep
open Go.Proofs.YthbbmookhcalkaaGreat.Base Go.Proofs.YthbbmookhcalkaaGreat.InsA Go.Proofs.YthbbmookhcalkaaGreat.Funs Go.Proofs.YthbbmookhcalkaaGreat.Open Go.Proofs.YthbbmookhcalkaaGreat.FunS Go.Proofs.YthbbmookhcalkaaGreat.Keep Go.Proofs.YthbbmookhcalkaaGreat.UnitS Go.Proofs.YthbbmookhcalkaaGreat.Refs Go.Proofs.YthbbmookhcalkaaGreat.LayN Go.Proofs.YthbbmookhcalkaaGreat.LayA Go.Proofs.YthbbmookhcalkaaGreat.KeepD Go.Proofs.YthbbmookhcalkaaGreat.KeepA Go.Proofs.YthbbmookhcalkaaGreat.LayD Go.Proofs.YthbbmookhcalkaaGreat.LayS Go.Proofs.YthbbmookhcalkaaGreat.LayT Go.Proofs.YthbbmookhcalkaaGreat.LayU
set_option linter.unusedVariables false
set_option maxRecDepth 100000

theorem int_wf {z : Int} (h : (Lit.int .i64 z).wf = true) : -9223372036854775808 ≤ z ∧ z ≤ 9223372036854775807 := by
  unfold Lit.wf at h
  rw [Bool.and_eq_true, decide_eq_true_iff, decide_eq_true_iff] at h
  exact h
theorem size_no {fs : List FunD} {ns : List Int} {st : List (List ByteArray)} (h : formB fs ns st = false) : sizeI fs ns st = 0 := by simp [sizeI, h]
theorem size_yes {fs : List FunD} {ns : List Int} {st : List (List ByteArray)} (h : formB fs ns st = true) : sizeI fs ns st = (place fs st fs.length : Int) := by simp [sizeI, h]
theorem stone_no {fs : List FunD} {ns : List Int} {st : List (List ByteArray)} {f n : Int} (h : formB fs ns st = false ∨ f < 0 ∨ (fs.length : Int) ≤ f ∨ n < 0 ∨ ((stAt st f.toNat).length : Int) ≤ n) : stoneI fs ns st f n = -1 := by
  unfold stoneI
  rw [if_neg]
  simp only [Bool.and_eq_true, decide_eq_true_iff]
  rintro ⟨⟨⟨⟨e1, e2⟩, e3⟩, e4⟩, e5⟩
  rcases h with h | h | h | h | h
  · rw [h] at e1; cases e1
  all_goals omega
theorem stone_yes {fs : List FunD} {ns : List Int} {st : List (List ByteArray)} {k j : Nat} (h : formB fs ns st = true) (hk : k < fs.length) (hj : j < (stAt st k).length) : stoneI fs ns st (k : Int) (j : Int) = ((place fs st k + lenAt fs k + j : Nat) : Int) := by
  unfold stoneI
  rw [if_pos]
  · simp
  · simp only [Bool.and_eq_true, decide_eq_true_iff, Int.toNat_natCast]
    exact ⟨⟨⟨⟨h, by omega⟩, by omega⟩, by omega⟩, by omega⟩
theorem layTo_no {fs : List FunD} {ns : List Int} {st : List (List ByteArray)} {r p : Int} {s : ByteArray} (h : formB fs ns st = false ∨ r < 1 ∨ 100 < r ∨ p < 0 ∨ (place fs st fs.length : Int) ≤ p) : layToI fs ns st r p s = -1 := by
  unfold layToI reachB
  rw [if_neg]
  simp only [Bool.and_eq_true, decide_eq_true_iff]
  rintro ⟨⟨⟨e1, e2, e3⟩, e4⟩, e5⟩
  rcases h with h | h | h | h | h
  · rw [h] at e1; cases e1
  all_goals omega
theorem layTo_yes {fs : List FunD} {ns : List Int} {st : List (List ByteArray)} {r p : Int} {s : ByteArray} (h : formB fs ns st = true) (h1 : 1 ≤ r) (h2 : r ≤ 100) (h3 : 0 ≤ p) (h4 : p < (place fs st fs.length : Int)) : layToI fs ns st r p s = toI fs st r p s := by
  unfold layToI reachB
  rw [if_pos]
  simp only [Bool.and_eq_true, decide_eq_true_iff]
  exact ⟨⟨⟨h, h1, h2⟩, h3⟩, h4⟩
theorem layOk_reach {fs : List FunD} {ns : List Int} {st : List (List ByteArray)} {r : Int} (h : r < 1 ∨ 100 < r) : layOkB fs r ns st = false := by
  have : reachB r = false := by unfold reachB; rcases h with h | h <;> simp <;> omega
  simp [layOkB, this]
theorem layOk_form {fs : List FunD} {ns : List Int} {st : List (List ByteArray)} {r : Int} (h : formB fs ns st = false) : layOkB fs r ns st = false := by simp [layOkB, h]
theorem layOk_end {fs : List FunD} {ns : List Int} {st : List (List ByteArray)} {r : Int} (h : formB fs ns st = true) (h1 : 1 ≤ r) (h2 : r ≤ 100) : layOkB fs r ns st = (lackN fs st r).isNone := by
  have : reachB r = true := by unfold reachB; simp; omega
  simp [layOkB, this, h]
set_option maxHeartbeats 4000000 in
theorem specLayOk_any (a : Option Addr) (cap : Nat) (fs : List FunD) (rr : Int) (na sa : Option Addr) (nc sc : Nat) (ns : List Int) (st : List (List ByteArray)) (w : World) (hcap : fs.length ≤ cap) (hcm : cap ≤ maxLen) (h1 : ns.length ≤ nc) (h2 : nc ≤ maxLen) (h3 : st.length ≤ sc) (h4 : sc ≤ maxLen) (hft : FewT st) (hR : FunRow w a fs) (hs : NumRow w na ns) (ho : TextsRow w sa st) :
    Calls Tryz.prog 20 #[.slice a fs.length cap, .int .i64 rr, .agg #[.slice na ns.length nc, .slice sa st.length sc]] w fun e w' => e = .returned (.bool (layOkB fs rr ns st)) ∧ Below w.heap.size w w' := by
  have HR := hide hR
  have HS := hide hs
  have HO := hide ho
  have hB0 := below_alloc1 w (.cells #[.slice na ns.length nc, .slice sa st.length sc] 33)
  have HX := hide (new_block w (.cells #[.slice na ns.length nc, .slice sa st.length sc] 33))
  have HF := hide hft
  clear hR hs ho hft
  by_cases hr0 : rr < 1
  · have HE := hide (layOk_reach (fs := fs) (ns := ns) (st := st) (.inl hr0))
    go_enter Tryz.func20, Tryz.ntmps20
    go_wp2_with fail
    go_ret
    exact ⟨ret_bool (unhide HE).symm, hB0⟩
  by_cases hr1 : 100 < rr
  · have HE := hide (layOk_reach (fs := fs) (ns := ns) (st := st) (.inr hr1))
    go_enter Tryz.func20, Tryz.ntmps20
    go_wp2_with fail
    go_ret
    exact ⟨ret_bool (unhide HE).symm, hB0⟩
  go_enter Tryz.func20, Tryz.ntmps20
  go_wp2_with fail
  refine (l7Form_any _ _ _ _ _ _ fs ns st _ hcap hcm h1 h2 h3 h4 (unhide HF) ((unhide HR).below hB0) ((unhide HS).below hB0) ((unhide HO).below hB0)).mono ?_
  rintro e w1 ⟨rfl, hb1⟩
  have hX := box2 (box_below (unhide HX) hb1)
  have hB1 := bl_trans hB0 hb1
  clear HX hB0 hb1
  cases hf : formB fs ns st
  · have HE := hide (layOk_form (r := rr) hf)
    go_wp2_with fail
    go_ret
    exact ⟨ret_bool (unhide HE).symm, hB1⟩
  have HL := hide (lying_of hf (unhide HF))
  have HE := hide (layOk_end hf (show 1 ≤ rr by omega) (show rr ≤ 100 by omega))
  cases hq : lackN fs st rr with
  | none =>
    go_wp2_with fail
    refine (l7Lack_any _ _ _ _ _ _ fs ns st rr _ (unhide HL) hcap hcm h1 h2 h3 h4 ((unhide HR).below hB1) ((unhide HS).below hB1) ((unhide HO).below hB1)).mono ?_
    rw [hq]
    unfold lackV
    rintro e w2 ⟨rfl, hb2⟩
    have hB2 := bl_trans hB1 hb2
    clear hX
    go_wp2_with fail
    go_ret
    exact ⟨ret_bool (by rw [unhide HE, hq]; rfl), hB2⟩
  | some q =>
    obtain ⟨i, s⟩ := q
    go_wp2_with fail
    refine (l7Lack_any _ _ _ _ _ _ fs ns st rr _ (unhide HL) hcap hcm h1 h2 h3 h4 ((unhide HR).below hB1) ((unhide HS).below hB1) ((unhide HO).below hB1)).mono ?_
    rw [hq]
    unfold lackV
    rintro e w2 ⟨rfl, hb2⟩
    have hB2 := bl_trans hB1 hb2
    clear hX
    go_wp2_with fail
    go_ret
    exact ⟨ret_bool (by rw [unhide HE, hq]; rfl), hB2⟩
end Go.Proofs.YthbbmookhcalkaaGreat.LayV
