/- The contracts of the specification's LaySize, LayStone, LayOk, LayTo. -/
import Derived.Test.YtjbhbkkkjdpamaaGreatDoorLayU
namespace Go.Proofs.YtjbhbkkkjdpamaaGreatDoor.LayV
open Go.ChangeShapes Go.WideShapes Go.ChangeAt Go.RowKit Go.Joins Go.Deep
open Go.Proofs.YtjbhbkkkjdpamaaGreatDoor.Base Go.Proofs.YtjbhbkkkjdpamaaGreatDoor.InsA Go.Proofs.YtjbhbkkkjdpamaaGreatDoor.Funs Go.Proofs.YtjbhbkkkjdpamaaGreatDoor.Open Go.Proofs.YtjbhbkkkjdpamaaGreatDoor.FunS Go.Proofs.YtjbhbkkkjdpamaaGreatDoor.Keep Go.Proofs.YtjbhbkkkjdpamaaGreatDoor.UnitS Go.Proofs.YtjbhbkkkjdpamaaGreatDoor.Refs Go.Proofs.YtjbhbkkkjdpamaaGreatDoor.LayN Go.Proofs.YtjbhbkkkjdpamaaGreatDoor.LayA Go.Proofs.YtjbhbkkkjdpamaaGreatDoor.KeepD Go.Proofs.YtjbhbkkkjdpamaaGreatDoor.KeepA Go.Proofs.YtjbhbkkkjdpamaaGreatDoor.LayD Go.Proofs.YtjbhbkkkjdpamaaGreatDoor.LayS Go.Proofs.YtjbhbkkkjdpamaaGreatDoor.LayT Go.Proofs.YtjbhbkkkjdpamaaGreatDoor.LayU
set_option linter.unusedVariables false
set_option maxRecDepth 100000

theorem int_wf {z : Int} (h : (Lit.int .i64 z).wf = true) : -9223372036854775808 ≤ z ∧ z ≤ 9223372036854775807 := by
  unfold Lit.wf at h
  rw [Bool.and_eq_true, decide_eq_true_iff, decide_eq_true_iff] at h
  exact h
theorem size_no {fs : List FunD} {ns : List Int} {st : List (List ByteArray)} (h : formB fs ns st = false) : sizeI fs ns st = 0 := by simp [sizeI, h]
theorem size_yes {fs : List FunD} {ns : List Int} {st : List (List ByteArray)} (h : formB fs ns st = true) : sizeI fs ns st = (place fs st fs.length : Int) := by simp [sizeI, h]
theorem stone_no {fs : List FunD} {ns : List Int} {st : List (List ByteArray)} {f n : Int} (h : formB fs ns st = false ∨ f < 0 ∨ (fs.length : Int) ≤ f ∨ n < 0 ∨ ((stAt st f.toNat).length : Int) ≤ n) : stoneI fs ns st f n = -1 := by
  unfold stoneI
  rw [if_neg]
  simp only [Bool.and_eq_true, decide_eq_true_iff]
  rintro ⟨⟨⟨⟨e1, e2⟩, e3⟩, e4⟩, e5⟩
  rcases h with h | h | h | h | h
  · rw [h] at e1; cases e1
  all_goals omega
theorem stone_yes {fs : List FunD} {ns : List Int} {st : List (List ByteArray)} {k j : Nat} (h : formB fs ns st = true) (hk : k < fs.length) (hj : j < (stAt st k).length) : stoneI fs ns st (k : Int) (j : Int) = ((place fs st k + lenAt fs k + j : Nat) : Int) := by
  unfold stoneI
  rw [if_pos]
  · simp
  · simp only [Bool.and_eq_true, decide_eq_true_iff, Int.toNat_natCast]
    exact ⟨⟨⟨⟨h, by omega⟩, by omega⟩, by omega⟩, by omega⟩
theorem layTo_no {fs : List FunD} {ns : List Int} {st : List (List ByteArray)} {r p : Int} {s : ByteArray} (h : formB fs ns st = false ∨ r < 1 ∨ 100 < r ∨ p < 0 ∨ (place fs st fs.length : Int) ≤ p) : layToI fs ns st r p s = -1 := by
  unfold layToI reachB
  rw [if_neg]
  simp only [Bool.and_eq_true, decide_eq_true_iff]
  rintro ⟨⟨⟨e1, e2, e3⟩, e4⟩, e5⟩
  rcases h with h | h | h | h | h
  · rw [h] at e1; cases e1
  all_goals omega
theorem layTo_yes {fs : List FunD} {ns : List Int} {st : List (List ByteArray)} {r p : Int} {s : ByteArray} (h : formB fs ns st = true) (h1 : 1 ≤ r) (h2 : r ≤ 100) (h3 : 0 ≤ p) (h4 : p < (place fs st fs.length : Int)) : layToI fs ns st r p s = toI fs st r p s := by
  unfold layToI reachB
  rw [if_pos]
  simp only [Bool.and_eq_true, decide_eq_true_iff]
  exact ⟨⟨⟨h, h1, h2⟩, h3⟩, h4⟩
theorem layOk_reach {fs : List FunD} {ns : List Int} {st : List (List ByteArray)} {r : Int} (h : r < 1 ∨ 100 < r) : layOkB fs r ns st = false := by
  have : reachB r = false := by unfold reachB; rcases h with h | h <;> simp <;> omega
  simp [layOkB, this]
theorem layOk_form {fs : List FunD} {ns : List Int} {st : List (List ByteArray)} {r : Int} (h : formB fs ns st = false) : layOkB fs r ns st = false := by simp [layOkB, h]
theorem layOk_end {fs : List FunD} {ns : List Int} {st : List (List ByteArray)} {r : Int} (h : formB fs ns st = true) (h1 : 1 ≤ r) (h2 : r ≤ 100) : layOkB fs r ns st = (lackN fs st r).isNone := by
  have : reachB r = true := by unfold reachB; simp; omega
  simp [layOkB, this, h]
set_option maxHeartbeats 4000000 in
theorem specLaySize_any (a : Option Addr) (cap : Nat) (fs : List FunD) (na sa : Option Addr) (nc sc : Nat) (ns : List Int) (st : List (List ByteArray)) (w : World) (hcap : fs.length ≤ cap) (hcm : cap ≤ maxLen) (h1 : ns.length ≤ nc) (h2 : nc ≤ maxLen) (h3 : st.length ≤ sc) (h4 : sc ≤ maxLen) (hft : FewT st) (hR : FunRow w a fs) (hs : NumRow w na ns) (ho : TextsRow w sa st) :
    Calls Tryz.prog 18 #[.slice a fs.length cap, .agg #[.slice na ns.length nc, .slice sa st.length sc]] w fun e w' => e = .returned (.int .i64 (sizeI fs ns st)) ∧ Below w.heap.size w w' := by
  have HR := hide hR
  have HS := hide hs
  have HO := hide ho
  have hB0 := below_alloc1 w (.cells #[.slice na ns.length nc, .slice sa st.length sc] 32)
  have HX := hide (new_block w (.cells #[.slice na ns.length nc, .slice sa st.length sc] 32))
  have HF := hide hft
  clear hR hs ho hft
  have hlf : (fs.length : Int) ≤ 9223372036854775807 := by unfold maxLen at hcm; omega
  have hln : (ns.length : Int) ≤ 9223372036854775807 := by unfold maxLen at h2; omega
  have hls : (st.length : Int) ≤ 9223372036854775807 := by unfold maxLen at h4; omega
  cases hf : formB fs ns st
  · have HE := hide (size_no hf)
    go_enter Tryz.func18, Tryz.ntmps18
    go_wp2_with fail
    refine (l7Form_any _ _ _ _ _ _ fs ns st _ hcap hcm h1 h2 h3 h4 (unhide HF) ((unhide HR).below hB0) ((unhide HS).below hB0) ((unhide HO).below hB0)).mono ?_
    rw [hf]
    rintro e w1 ⟨rfl, hb1⟩
    go_wp2_with fail
    go_ret
    exact ⟨ret_int (unhide HE).symm, bl_trans hB0 hb1⟩
  have HL := hide (lying_of hf (unhide HF))
  have hkp := (keep_parts (form_parts hf).1).1
  obtain ⟨m, hm⟩ : ∃ m, fs.length = m + 1 := ⟨fs.length - 1, by omega⟩
  have hmf : m < fs.length := by omega
  have hmn : m < ns.length := by rw [(unhide HL).len]; omega
  have hms : m < st.length := by rw [(unhide HL).2.2.1]; omega
  have HE : Hid (sizeI fs ns st = ((place fs st m + fs[m].body.length + st[m].length : Nat) : Int)) := by show _ = _; rw [size_yes hf, hm, place, lenAt_is hmf, stAt_is hms]
  have HM : Hid ((fs.length : Int) - 1 = (m : Int)) := by show (fs.length : Int) - 1 = _; omega
  have hfl : fs[m].body.length ≤ 10 := (unhide HL).2.1 _ (List.getElem_mem _)
  have hsl := (unhide HL).2.2.2.2.2 st[m] (List.getElem_mem _)
  have hpb := (unhide HL).small m (by omega)
  have hmf' : (m : Int) < (fs.length : Int) := by omega
  have hmn' : (m : Int) < (ns.length : Int) := by omega
  have hms' : (m : Int) < (st.length : Int) := by omega
  have hm0 : (0 : Int) ≤ (m : Int) := by omega
  clear hm
  go_enter Tryz.func18, Tryz.ntmps18
  go_wp2_with fail
  refine (l7Form_any _ _ _ _ _ _ fs ns st _ hcap hcm h1 h2 h3 h4 (unhide HF) ((unhide HR).below hB0) ((unhide HS).below hB0) ((unhide HO).below hB0)).mono ?_
  rw [hf]
  rintro e w1 ⟨rfl, hb1⟩
  have hX := box2 (box_below (unhide HX) hb1)
  have hB1 := bl_trans hB0 hb1
  obtain ⟨b, off, rfl⟩ := (unhide HR).get (by omega)
  obtain ⟨nb, no, rfl⟩ := (unhide HS).get (by omega)
  obtain ⟨sb, so, rfl⟩ := (unhide HO).get (by omega)
  obtain ⟨fi, fc, f0, f1, f2, _, f4, f5, _⟩ := ((unhide HR).below hB1).at hmf
  have n0 := ((unhide HS).below hB1).cells hmn
  rw [(unhide HL).at hmn] at n0
  obtain ⟨ai, ci, t0, h5, h6, _⟩ := ((unhide HO).below hB1).at hms
  clear HX hB0 hb1 hf
  generalize fs[m] = f at *
  generalize st[m] = ss at *
  generalize place fs st m = pl at *
  go_wp2_with fail
  rw [unhide HM]
  go_quiet (fail)
  go_wp2_with fail
  go_ret
  exact ⟨ret_int (by rw [unhide HE]; go_num), by first | exact hB1 | exact bl_drewN hB1 _ | exact hB1.drew⟩
end Go.Proofs.YtjbhbkkkjdpamaaGreatDoor.LayV
