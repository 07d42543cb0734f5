/- The contracts of the specification's CpuStep and CpuRun (written by mk_cspecd.py out of MSpecD.t and MRunB.t). -/
import Derived.Test.YtjbhbkkkjdpamaaCSpecC
namespace Go.Proofs.Ytjbhbkkkjdpamaa.CSpecD
open Go.ChangeShapes Go.WideShapes Go.ChangeAt Go.RowKit Go.Joins Go.WideMaps Go.Maps Go.Deep
open Go.Proofs.Ytjbhbkkkjdpamaa.Base Go.Proofs.Ytjbhbkkkjdpamaa.InsA Go.Proofs.Ytjbhbkkkjdpamaa.Keep Go.Proofs.Ytjbhbkkkjdpamaa.LayN Go.Proofs.Ytjbhbkkkjdpamaa.CellA Go.Proofs.Ytjbhbkkkjdpamaa.Sum Go.Proofs.Ytjbhbkkkjdpamaa.ImgD Go.Proofs.Ytjbhbkkkjdpamaa.ImgOk Go.Proofs.Ytjbhbkkkjdpamaa.RestOk Go.Proofs.Ytjbhbkkkjdpamaa.COkS Go.Proofs.Ytjbhbkkkjdpamaa.CSpec Go.Proofs.Ytjbhbkkkjdpamaa.CSpecB Go.Proofs.Ytjbhbkkkjdpamaa.CSpecC
set_option linter.unusedVariables false
set_option maxRecDepth 100000

def formC : CM := ⟨0, 0, 5, [], []⟩
/-- What CpuStep answers. -/
def fullC (l : List CellD) (m : CM) : CM := if cpuOkB l m.p m.c m.d m.st m.os then goC l m else formC
/-- What CpuRun answers. -/
def allC (l : List CellD) (n : Int) : CM := if imageB l 100 && decide (0 ≤ n) && decide (n ≤ 200) then runC l n.toNat zeroC else formC
theorem full_bad {l : List CellD} {n : Int} (h : imageB l 100 = false ∨ n < 0 ∨ 200 < n) : allC l n = formC := by
  unfold allC
  rw [if_neg]
  intro e
  simp only [Bool.and_eq_true, decide_eq_true_iff] at e
  rcases h with h | h | h
  · rw [e.1.1] at h; cases h
  · omega
  · omega
theorem full_ok {l : List CellD} {q : Nat} (h : imageB l 100 = true) (hq : q ≤ 200) : allC l q = runC l q zeroC := by
  unfold allC
  rw [h, decide_eq_true (show (0 : Int) ≤ q by omega), decide_eq_true (show (q : Int) ≤ 200 by omega)]
  rfl
def RunEnd (w : World) (l : List CellD) (n : Int) (e : Ending) (w' : World) : Prop := ∃ sv ov, e = .returned (.agg (aggC (allC l n) sv ov)) ∧ OwnC w w' sv ov (allC l n)
theorem ok_inv {l : List CellD} {m : CM} (h : cpuOkB l m.p m.c m.d m.st m.os = true) : imageB l 100 = true ∧ InvC l m := by
  obtain ⟨h1, h2, h3, h4⟩ := cpu_parts h
  obtain ⟨r1, r2, r3, r4, r5, r6⟩ := rest_parts h3
  exact ⟨h1, ⟨h2, h4, by omega, r2⟩⟩
theorem own_base {W0 W1 w : World} {sv ov : Value} {m : CM} (h : OwnC W1 w sv ov m) (hb : Below W0.heap.size W0 W1) : OwnC W0 w sv ov m := by
  have hz := hb.size
  refine ⟨?_, ?_, h.2.2.1, bl_trans hb h.2.2.2⟩
  · obtain ⟨h0, h1 | ⟨g, cap, cur, hv, hB, hr⟩⟩ := h.1
    · exact ⟨h0, .inl h1⟩
    · exact ⟨h0, .inr ⟨g, cap, cur, hv, by omega, hr⟩⟩
  · obtain ⟨h0, h1 | ⟨g, cap, cur, hv, hB, hr⟩⟩ := h.2.1
    · exact ⟨h0, .inl h1⟩
    · exact ⟨h0, .inr ⟨g, cap, cur, hv, by omega, hr⟩⟩
theorem own_nil {W0 w : World} (hb : Below W0.heap.size W0 w) (p c d : Int) : OwnC W0 w (.slice none 0 0) (.slice none 0 0) ⟨p, c, d, [], []⟩ := ⟨⟨rfl, .inl ⟨rfl, rfl⟩⟩, ⟨rfl, .inl ⟨rfl, rfl⟩⟩, .inl rfl, hb⟩
theorem run_stop {l : List CellD} {q : Nat} {m : CM} : ∀ {k : Nat}, k ≤ q → (runC l k m).d ≠ 0 → runC l q m = runC l k m := by
  intro k hk hd
  obtain ⟨j, rfl⟩ : ∃ j, q = k + j := ⟨q - k, by omega⟩
  have e : ∀ (a b : Nat) (x : CM), runC l (a + b) x = runC l b (runC l a x) := by
    intro a
    induction a with
    | zero => intro b x; rw [Nat.zero_add]; rfl
    | succ a ih => intro b x; rw [Nat.add_right_comm]; exact ih b (goC l x)
  rw [e, run_doneC hd]
theorem five_set {w : World} {N : Nat} {u0 u1 u2 u3 u4 v0 v1 v2 v3 v4 : Value} {t : TypeId} (h : w.heap[N]? = some (.cells #[u0, u1, u2, u3, u4] t)) : (((((w.setCell ⟨N, 0, none⟩ v0).setCell ⟨N, 1, none⟩ v1).setCell ⟨N, 2, none⟩ v2).setCell ⟨N, 3, none⟩ v3).setCell ⟨N, 4, none⟩ v4).heap[N]? = some (.cells #[v0, v1, v2, v3, v4] t) :=
  eq_cells (block_setCell (block_setCell (block_setCell (block_setCell (block_setCell h _) _) _) _) _) (by simp)
/-- What the loop of CpuRun keeps. -/
def SLoopC (W0 : World) (N : Nat) (l : List CellD) (q : Nat) (i : Value) (w : World) : Prop :=
  ∃ (k : Nat) (m : CM) (sa oa : Option Addr) (sc oc : Nat), k ≤ q ∧ i = .int .i64 k ∧ Hid (m = runC l k zeroC) ∧ w.heap[N]? = some (.cells (aggC m (.slice sa m.st.length sc) (.slice oa m.os.length oc)) 60) ∧ OwnC W0 w (.slice sa m.st.length sc) (.slice oa m.os.length oc) m
set_option maxHeartbeats 8000000 in
theorem specCpuStep_any (a : Option Addr) (cap : Nat) (l : List CellD) (m : CM) (sa oa : Option Addr) (sc oc : Nat) (w : World) (hcap : l.length ≤ cap) (hcm : cap ≤ maxLen) (hR : CellRow w a l) (h1 : m.st.length ≤ sc) (h2 : sc ≤ maxLen) (h3 : m.os.length ≤ oc) (h4 : oc ≤ maxLen) (hl1 : m.st.length ≤ 1048576) (hl2 : m.os.length ≤ 1048576) (hs : NumRow w sa m.st) (ho : NumRow w oa m.os) :
    Calls Try.prog 29 #[.slice a l.length cap, .agg (aggC m (.slice sa m.st.length sc) (.slice oa m.os.length oc))] w fun e w' => ∃ sv ov, e = .returned (.agg (aggC (fullC l m) sv ov)) ∧ OwnC w w' sv ov (fullC l m) := by
  have ha : Below w.heap.size w ((w.alloc (.cells #[.int .i64 m.p, .int .i64 m.c, .slice sa m.st.length sc, .slice oa m.os.length oc, .int .i64 m.d] 60)).alloc (.cells #[.int .i64 0, .int .i64 0, .slice none 0 0, .slice none 0 0, .int .i64 0] 60)) := below_alloc2 _ _ _
  have HB : Hid (((w.alloc (.cells #[.int .i64 m.p, .int .i64 m.c, .slice sa m.st.length sc, .slice oa m.os.length oc, .int .i64 m.d] 60)).alloc (.cells #[.int .i64 0, .int .i64 0, .slice none 0 0, .slice none 0 0, .int .i64 0] 60)).heap[w.heap.size]? = some (.cells #[.int .i64 m.p, .int .i64 m.c, .slice sa m.st.length sc, .slice oa m.os.length oc, .int .i64 m.d] 60)) := box_below (new_block w _) (below_alloc1 _ _)
  have HN : Hid (((w.alloc (.cells #[.int .i64 m.p, .int .i64 m.c, .slice sa m.st.length sc, .slice oa m.os.length oc, .int .i64 m.d] 60)).alloc (.cells #[.int .i64 0, .int .i64 0, .slice none 0 0, .slice none 0 0, .int .i64 0] 60)).heap[w.heap.size + 1]? = some (.cells #[.int .i64 0, .int .i64 0, .slice none 0 0, .slice none 0 0, .int .i64 0] 60)) := res5 w _ _ _ _ _ _ _
  have HX := hide (And.intro hR (And.intro hs ho))
  have HA := hide ha
  clear hR hs ho ha
  unfold aggC
  cases hok : cpuOkB l m.p m.c m.d m.st m.os
  · have em : fullC l m = formC := by unfold fullC; rw [hok]; rfl
    rw [em]
    go_enter Try.func29, Try.ntmps29
    go_wp2_with fail
    refine (specCpuOk_any a cap l m.p m.c m.d _ _ _ _ m.st m.os _ hcap hcm ((unhide HX).1.below (unhide HA)) h1 h2 h3 h4 ((unhide HX).2.1.below (unhide HA)) ((unhide HX).2.2.below (unhide HA))).mono ?_
    rw [hok]
    rintro e w1 ⟨rfl, hb1⟩
    have hr := box_below (unhide HN) hb1
    have xr := box5 hr
    have HM1 : Hid (OffAt w1 (w.heap.size + 1)) := off_of hr
    have HW := hide (own_nil (bl_trans (unhide HA) hb1) 0 0 5)
    clear hr hb1 em HX HA HB HN
    go_wp2_with fail
    refine bodyPost_ret (v := .agg (aggC formC (.slice none 0 0) (.slice none 0 0))) (by simp [results, Try.results29, go_sem, aggC, formC, xr]) rfl ⟨_, _, rfl, ?_⟩
    repeat (with_reducible refine OwnC.set ?_ (by (repeat (with_reducible refine OffAt.set ?_)); exact unhide HM1) (by omega))
    exact unhide HW
  · obtain ⟨hkp, hv⟩ := ok_inv hok
    have em : fullC l m = goC l m := by unfold fullC; rw [hok]; rfl
    rw [em]
    by_cases hd : m.d = 0
    · have eg : goC l m = stepC l m := by unfold goC; rw [if_pos hd]
      rw [eg]
      have HV := hide hv
      clear em eg hv
      obtain ⟨p, c, d, st, os⟩ := m
      obtain rfl : d = 0 := hd
      simp only at *
      go_enter Try.func29, Try.ntmps29
      go_wp2_with fail
      refine (specCpuOk_any a cap l p c 0 _ _ _ _ st os _ hcap hcm ((unhide HX).1.below (unhide HA)) h1 h2 h3 h4 ((unhide HX).2.1.below (unhide HA)) ((unhide HX).2.2.below (unhide HA))).mono ?_
      rw [hok]
      rintro e w1 ⟨rfl, hb1⟩
      have HA1 := hide (bl_trans (unhide HA) hb1)
      have HR1 := hide (box_below (unhide HN) hb1)
      have xb := box5 (box_below (unhide HB) hb1)
      clear hb1 HA HB HN
      go_wp2_with fail
      refine (l8Copy_any (⟨p, c, 0, st, os⟩ : CM) sa oa sc oc _ hl1 hl2 ((unhide HX).2.1.below (unhide HA1)) ((unhide HX).2.2.below (unhide HA1))).mono ?_
      rintro e w2 ⟨sv2, ov2, rfl, hO2⟩
      have HO2 := hide hO2
      clear hO2 xb
      go_wp2_with fail
      refine (l8Step_any w1 a cap l 100 (⟨p, c, 0, st, os⟩ : CM) sv2 ov2 _ hcap hcm ((unhide HX).1.below (unhide HA1)) hkp (unhide HV) (unhide HO2)).mono ?_
      rintro e w3 ⟨sv3, ov3, rfl, hO3, hK3, hz3⟩
      have hi := step_invC hkp (unhide HV)
      generalize hmd : stepC l (⟨p, c, 0, st, os⟩ : CM) = m3 at *
      obtain ⟨sa3, sc3, rfl, _, _⟩ := int_form hO3.1
      obtain ⟨oa3, oc3, rfl, _, _⟩ := int_form hO3.2.1
      have HO3 := hide hO3
      have HMD := hide hmd
      have hi1 := hi.sl
      have hi2 := hi.ol
      clear hO3 hK3 hz3 HO2 hmd hi
      go_wp2_with fail
      refine (l8Copy_any m3 sa3 oa3 sc3 oc3 _ (by omega) (by omega) (int_row (unhide HO3).1) (int_row (unhide HO3).2.1)).mono ?_
      rintro e w4 ⟨sv4, ov4, rfl, hO4⟩
      have hB4 := bl_trans (unhide HA1) (bl_trans (unhide HO3).2.2.2 hO4.2.2.2)
      have hr := box_below (box_below (unhide HR1) (unhide HO3).2.2.2) hO4.2.2.2
      have xr := box5 hr
      have HM1 : Hid (OffAt w4 (w.heap.size + 1)) := off_of hr
      obtain ⟨sa4, sc4, rfl, _, _⟩ := int_form hO4.1
      obtain ⟨oa4, oc4, rfl, _, _⟩ := int_form hO4.2.1
      have HW := hide (own_base hO4 (bl_trans (unhide HA1) (unhide HO3).2.2.2))
      clear hr hO4 HO3 HR1 HA1 hB4
      unfold aggC
      go_wp2_with fail
      refine bodyPost_ret (v := .agg (aggC m3 (.slice sa4 m3.st.length sc4) (.slice oa4 m3.os.length oc4))) (by simp [results, Try.results29, go_sem, aggC, xr]) rfl ?_
      show ∃ sv ov, _ = Ending.returned (.agg (aggC (stepC l (⟨p, c, 0, st, os⟩ : CM)) sv ov)) ∧ OwnC w _ sv ov (stepC l (⟨p, c, 0, st, os⟩ : CM))
      rw [unhide HMD]
      refine ⟨_, _, rfl, ?_⟩
      repeat (with_reducible refine OwnC.set ?_ (by (repeat (with_reducible refine OffAt.set ?_)); exact unhide HM1) (by omega))
      exact unhide HW
    · have eg : goC l m = m := by unfold goC; rw [if_neg hd]
      rw [eg]
      go_enter Try.func29, Try.ntmps29
      go_wp2_with fail
      refine (specCpuOk_any a cap l m.p m.c m.d _ _ _ _ m.st m.os _ hcap hcm ((unhide HX).1.below (unhide HA)) h1 h2 h3 h4 ((unhide HX).2.1.below (unhide HA)) ((unhide HX).2.2.below (unhide HA))).mono ?_
      rw [hok]
      rintro e w1 ⟨rfl, hb1⟩
      have HA1 := hide (bl_trans (unhide HA) hb1)
      have HR1 := hide (box_below (unhide HN) hb1)
      have xb := box5 (box_below (unhide HB) hb1)
      clear hb1 em HA HB HN eg hv
      go_wp2_with fail
      refine (l8Copy_any m sa oa sc oc _ hl1 hl2 ((unhide HX).2.1.below (unhide HA1)) ((unhide HX).2.2.below (unhide HA1))).mono ?_
      rintro e w4 ⟨sv4, ov4, rfl, hO4⟩
      have hr := box_below (unhide HR1) hO4.2.2.2
      have xr := box5 hr
      have HM1 : Hid (OffAt w4 (w.heap.size + 1)) := off_of hr
      obtain ⟨sa4, sc4, rfl, _, _⟩ := int_form hO4.1
      obtain ⟨oa4, oc4, rfl, _, _⟩ := int_form hO4.2.1
      have HW := hide (own_base hO4 (unhide HA1))
      clear hr hO4 HR1 HA1 xb
      unfold aggC
      go_wp2_with fail
      refine bodyPost_ret (v := .agg (aggC m (.slice sa4 m.st.length sc4) (.slice oa4 m.os.length oc4))) (by simp [results, Try.results29, go_sem, aggC, xr]) rfl ⟨_, _, rfl, ?_⟩
      repeat (with_reducible refine OwnC.set ?_ (by (repeat (with_reducible refine OffAt.set ?_)); exact unhide HM1) (by omega))
      exact unhide HW
end Go.Proofs.Ytjbhbkkkjdpamaa.CSpecD
