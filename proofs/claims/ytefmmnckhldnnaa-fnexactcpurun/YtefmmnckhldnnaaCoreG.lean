/- The contracts of the program's CpuStep and CpuRun. -/
import Derived.Test.YtefmmnckhldnnaaCoreF
namespace Go.Proofs.Ytefmmnckhldnnaa.CoreG
open Go.ChangeShapes Go.WideShapes Go.ChangeAt Go.RowKit Go.Joins Go.WideMaps Go.Maps Go.Deep
open Go.Proofs.Ytefmmnckhldnnaa.Base Go.Proofs.Ytefmmnckhldnnaa.InsA Go.Proofs.Ytefmmnckhldnnaa.Keep Go.Proofs.Ytefmmnckhldnnaa.LayN Go.Proofs.Ytefmmnckhldnnaa.CellA Go.Proofs.Ytefmmnckhldnnaa.Mark Go.Proofs.Ytefmmnckhldnnaa.Sum Go.Proofs.Ytefmmnckhldnnaa.ImgD Go.Proofs.Ytefmmnckhldnnaa.ImgOk Go.Proofs.Ytefmmnckhldnnaa.RestOk Go.Proofs.Ytefmmnckhldnnaa.COkS Go.Proofs.Ytefmmnckhldnnaa.COkI Go.Proofs.Ytefmmnckhldnnaa.CSpec Go.Proofs.Ytefmmnckhldnnaa.CSpecB Go.Proofs.Ytefmmnckhldnnaa.CSpecC Go.Proofs.Ytefmmnckhldnnaa.CSpecD Go.Proofs.Ytefmmnckhldnnaa.CoreA Go.Proofs.Ytefmmnckhldnnaa.CoreB Go.Proofs.Ytefmmnckhldnnaa.CoreD Go.Proofs.Ytefmmnckhldnnaa.CoreE Go.Proofs.Ytefmmnckhldnnaa.CoreF
set_option linter.unusedVariables false
set_option maxRecDepth 100000

set_option maxHeartbeats 8000000 in
theorem implCpuStep_any (a : Option Addr) (cap : Nat) (l : List CellD) (m : CM) (sa oa : Option Addr) (sc oc : Nat) (w : World) (hcap : l.length ≤ cap) (hcm : cap ≤ maxLen) (hR : CellRow w a l) (h1 : m.st.length ≤ sc) (h2 : sc ≤ maxLen) (h3 : m.os.length ≤ oc) (h4 : oc ≤ maxLen) (hs : NumRow w sa m.st) (ho : NumRow w oa m.os) :
    Calls Try.prog 50 #[.slice a l.length cap, .agg (aggC m (.slice sa m.st.length sc) (.slice oa m.os.length oc))] w fun e w' => ∃ sv ov, e = .returned (.agg (aggC (fullC l m) sv ov)) ∧ OwnC w w' sv ov (fullC l m) := by
  have ha : Below w.heap.size w ((w.alloc (.cells #[.int .i64 m.p, .int .i64 m.c, .slice sa m.st.length sc, .slice oa m.os.length oc, .int .i64 m.d] 78)).alloc (.cells #[.int .i64 0, .int .i64 0, .slice none 0 0, .slice none 0 0, .int .i64 0] 78)) := below_alloc2 _ _ _
  have HB := hide (par5 w (.cells #[.int .i64 0, .int .i64 0, .slice none 0 0, .slice none 0 0, .int .i64 0] 78) (.int .i64 m.p) (.int .i64 m.c) (.slice sa m.st.length sc) (.slice oa m.os.length oc) (.int .i64 m.d) 78)
  have HN := hide (res5 w (.cells #[.int .i64 m.p, .int .i64 m.c, .slice sa m.st.length sc, .slice oa m.os.length oc, .int .i64 m.d] 78) (.int .i64 0) (.int .i64 0) (.slice none 0 0) (.slice none 0 0) (.int .i64 0) 78)
  have HX := hide (And.intro hR (And.intro hs ho))
  have HA := hide ha
  clear hR hs ho ha
  unfold aggC
  cases hok : cpuOkB l m.p m.c m.d m.st m.os
  · have em : fullC l m = formC := by unfold fullC; rw [hok]; rfl
    rw [em]
    go_enter Try.func50, Try.ntmps50
    go_wp2_with fail
    refine (implCpuOk_any a cap l m.p m.c m.d _ _ _ _ m.st m.os _ hcap hcm ((unhide HX).1.below (unhide HA)) h1 h2 h3 h4 ((unhide HX).2.1.below (unhide HA)) ((unhide HX).2.2.below (unhide HA))).mono ?_
    rw [hok]
    rintro e w1 ⟨rfl, hb1⟩
    have hr := box_below (unhide HN) hb1
    have xr := box5 hr
    have HM1 := hide (off_of hr)
    have HW := hide (own_nil (bl_trans (unhide HA) hb1) 0 0 5)
    clear hr hb1 em HX HA HB HN
    go_wp2_with fail
    refine bodyPost_ret (v := .agg (aggC formC (.slice none 0 0) (.slice none 0 0))) (by simp [results, Try.results50, go_sem, aggC, formC, xr]) rfl ⟨_, _, rfl, ?_⟩
    repeat (with_reducible refine OwnC.set ?_ (by (repeat (with_reducible refine OffAt.set ?_)); exact unhide HM1) (by omega))
    exact unhide HW
  · obtain ⟨hkp, hv⟩ := ok_inv hok
    have em : fullC l m = goC l m := by unfold fullC; rw [hok]; rfl
    rw [em]
    have hvg := go_invC hkp hv
    have hsl := hv.sl
    have hol := hv.ol
    have hgl := hvg.sl
    have hgo := hvg.ol
    have HV := hide hv
    have HKP := hide hkp
    clear hv hkp hvg em
    go_enter Try.func50, Try.ntmps50
    go_wp2_with fail
    refine (implCpuOk_any a cap l m.p m.c m.d _ _ _ _ m.st m.os _ hcap hcm ((unhide HX).1.below (unhide HA)) h1 h2 h3 h4 ((unhide HX).2.1.below (unhide HA)) ((unhide HX).2.2.below (unhide HA))).mono ?_
    rw [hok]
    rintro e w1 ⟨rfl, hb1⟩
    have HA1 := hide (bl_trans (unhide HA) hb1)
    have HR1 := hide (box_below (unhide HN) hb1)
    have xb := box5 (box_below (unhide HB) hb1)
    have hN1 : w.heap.size + 1 < w1.heap.size := (Array.getElem?_eq_some_iff.1 (unhide HR1)).1
    clear hb1 HA HB HN hok
    go_wp2_with fail
    refine (coreAt_any a cap l 100 m sa oa sc oc _ hcap hcm ((unhide HX).1.below (unhide HA1)) (unhide HKP) hsl hol ((unhide HX).2.1.below (unhide HA1)) ((unhide HX).2.2.below (unhide HA1))).mono ?_
    rintro e w2 ⟨R, rfl, hRle, hC2, hb2⟩
    have HC2 := hide hC2
    have HA2 := hide (bl_trans (unhide HA1) hb2)
    have HR2 := hide (box_below (unhide HR1) hb2)
    clear hC2 hb2 HA1 HR1 xb HX
    go_wp2_with fail
    refine (step_any R l 100 m _ (unhide HKP) (unhide HV) (unhide HC2)).mono ?_
    rintro e w3 ⟨rfl, hC3, hbut⟩
    have HC3 := hide hC3
    have HA3 := hide (But.down (unhide HA2) hbut (by omega))
    have HR3 := hide (hbut.box (unhide HR2) (by omega))
    clear hC3 hbut HA2 HR2 HC2
    go_wp2_with fail
    refine (cpu_any R l (goC l m) _ hgl hgo (unhide HC3)).mono ?_
    rintro e w4 ⟨sv4, ov4, rfl, hO4⟩
    have hr := box_below (unhide HR3) hO4.2.2.2
    have xr := box5 hr
    have HM1 := hide (off_of hr)
    obtain ⟨sa4, sc4, rfl, _, _⟩ := int_form hO4.1
    obtain ⟨oa4, oc4, rfl, _, _⟩ := int_form hO4.2.1
    have HW := hide (own_base hO4 (unhide HA3))
    clear hr hO4 HR3 HA3 HC3 hgl hgo
    generalize hme : goC l m = m3 at *
    have HME := hide hme
    clear hme
    unfold aggC
    go_wp2_with fail
    refine bodyPost_ret (v := .agg (aggC m3 (.slice sa4 m3.st.length sc4) (.slice oa4 m3.os.length oc4))) (by simp [results, Try.results50, go_sem, aggC, xr]) rfl ?_
    show ∃ sv ov, _ = Ending.returned (.agg (aggC (goC l m) sv ov)) ∧ OwnC w _ sv ov (goC l m)
    rw [unhide HME]
    refine ⟨_, _, rfl, ?_⟩
    repeat (with_reducible refine OwnC.set ?_ (by (repeat (with_reducible refine OffAt.set ?_)); exact unhide HM1) (by omega))
    exact unhide HW
set_option maxHeartbeats 8000000 in
theorem implCpuRun_any (a : Option Addr) (cap : Nat) (l : List CellD) (n : Int) (w : World) (hcap : l.length ≤ cap) (hcm : cap ≤ maxLen) (hR : CellRow w a l) :
    Calls Try.prog 55 #[.slice a l.length cap, .int .i64 n] w (RunEnd w l n) := by
  have HX := hide (hR.below (below_alloc1 w (.cells #[.int .i64 0, .int .i64 0, .slice none 0 0, .slice none 0 0, .int .i64 0] 78)))
  have HA := hide (below_alloc1 w (.cells #[.int .i64 0, .int .i64 0, .slice none 0 0, .slice none 0 0, .int .i64 0] 78))
  have HN := hide (new_block w (.cells #[.int .i64 0, .int .i64 0, .slice none 0 0, .slice none 0 0, .int .i64 0] 78))
  clear hR
  by_cases hbad : imageB l 100 = false ∨ n < 0 ∨ 200 < n
  · have em := full_bad hbad
    unfold RunEnd
    rw [em]
    clear em
    have fin : ∀ w1, Below (w.alloc (.cells #[.int .i64 0, .int .i64 0, .slice none 0 0, .slice none 0 0, .int .i64 0] 78)).heap.size (w.alloc (.cells #[.int .i64 0, .int .i64 0, .slice none 0 0, .slice none 0 0, .int .i64 0] 78)) w1 → w1.heap[w.heap.size]? = some (.cells #[.int .i64 0, .int .i64 0, .slice none 0 0, .slice none 0 0, .int .i64 0] 78) ∧ OwnC w w1 (.slice none 0 0) (.slice none 0 0) formC := fun w1 hb1 => ⟨box_below (unhide HN) hb1, own_nil (bl_trans (unhide HA) hb1) 0 0 5⟩
    have FIN := hide fin
    clear fin
    cases hok : imageB l 100
    · go_enter Try.func55, Try.ntmps55
      go_wp2_with fail
      refine (implImageOk_any a cap l 100 _ hcap hcm (unhide HX)).mono ?_
      rintro e w1 ⟨rfl, hb1⟩
      rw [hok]
      obtain ⟨hr, hw⟩ := unhide FIN w1 hb1
      have xr := box5 hr
      have HM1 := hide (off_of hr)
      have HW := hide hw
      clear hr hb1 HX HA HN hw FIN
      go_wp2_with fail
      refine bodyPost_ret (v := .agg (aggC formC (.slice none 0 0) (.slice none 0 0))) (by simp [results, Try.results55, go_sem, aggC, formC, xr]) rfl ⟨_, _, rfl, ?_⟩
      repeat (with_reducible refine OwnC.set ?_ (by (repeat (with_reducible refine OffAt.set ?_)); exact unhide HM1) (by omega))
      exact unhide HW
    · have hn : n < 0 ∨ ¬ n < 0 ∧ 200 < n := by rw [hok] at hbad; simp at hbad; omega
      clear hbad
      rcases hn with hn | ⟨hn0, hn⟩
      all_goals
        go_enter Try.func55, Try.ntmps55
        go_wp2_with fail
        refine (implImageOk_any a cap l 100 _ hcap hcm (unhide HX)).mono ?_
        rintro e w1 ⟨rfl, hb1⟩
        rw [hok]
        obtain ⟨hr, hw⟩ := unhide FIN w1 hb1
        have xr := box5 hr
        have HM1 := hide (off_of hr)
        have HW := hide hw
        clear hr hb1 HX HA HN hw FIN
        go_wp2_with fail
        refine bodyPost_ret (v := .agg (aggC formC (.slice none 0 0) (.slice none 0 0))) (by simp [results, Try.results55, go_sem, aggC, formC, xr]) rfl ⟨_, _, rfl, ?_⟩
        repeat (with_reducible refine OwnC.set ?_ (by (repeat (with_reducible refine OffAt.set ?_)); exact unhide HM1) (by omega))
        exact unhide HW
  · obtain ⟨hok, hn0, hn2⟩ : imageB l 100 = true ∧ 0 ≤ n ∧ n ≤ 200 := by
      cases hok : imageB l 100
      · exact absurd (.inl hok) hbad
      · exact ⟨rfl, by omega, by omega⟩
    clear hbad
    obtain ⟨q, rfl⟩ : ∃ q : Nat, n = q := ⟨n.toNat, (Int.toNat_of_nonneg hn0).symm⟩
    have hq : q ≤ 200 := by omega
    have em := full_ok (l := l) hok hq
    unfold RunEnd
    rw [em]
    clear em
    have HV : Hid (∀ k, InvC l (runC l k zeroC)) := fun k => run_invC hok k (zero_invC hok)
    have HOK := hide hok
    have hn1 : ¬ (q : Int) < 0 := by omega
    have hn3 : ¬ (200 : Int) < (q : Int) := by omega
    clear hn0 hn2
    go_enter Try.func55, Try.ntmps55
    go_wp2_with fail
    refine (implImageOk_any a cap l 100 _ hcap hcm (unhide HX)).mono ?_
    rintro e w1 ⟨rfl, hb1⟩
    rw [hok]
    have HA1 := hide (bl_trans (unhide HA) hb1)
    have HX1 := hide ((unhide HX).below hb1)
    have HR1 := hide (box_below (unhide HN) hb1)
    have hN1 : w.heap.size < w1.heap.size := (Array.getElem?_eq_some_iff.1 (unhide HR1)).1
    clear hb1 HA HN HX hok
    have hcore := coreAt_any a cap l 100 zeroC none none 0 0 w1 hcap hcm (unhide HX1) (unhide HOK) (Nat.zero_le _) (Nat.zero_le _) (.inl rfl) (.inl rfl)
    have HCORE : Hid (Calls Try.prog 99 #[.slice a l.length cap, .agg #[.int .i64 0, .int .i64 0, .slice none 0 0, .slice none 0 0, .int .i64 0]] w1 fun e w' => ∃ R, e = .returned (.pointer (some ⟨R, 0, none⟩)) ∧ w1.heap.size ≤ R ∧ CoreAt w' R l zeroC ∧ Below w1.heap.size w1 w') := hcore
    clear hcore
    go_wp2_with fail
    refine (unhide HCORE).mono ?_
    rintro e w2 ⟨R, rfl, hRle, hC2, hb2⟩
    have HS0 : Hid (CoreAt w2 R l (runC l 0 zeroC) ∧ w2.heap[w.heap.size]? = some (.cells #[.int .i64 0, .int .i64 0, .slice none 0 0, .slice none 0 0, .int .i64 0] 78) ∧ Below w.heap.size w w2) := ⟨hC2, box_below (unhide HR1) hb2, bl_trans (unhide HA1) hb2⟩
    clear hC2 hb2 HA1 HR1 HX1 HCORE
    go_wp2_with fail
    go_loopw [22] (fun i w' => ∃ k : Nat, k ≤ q ∧ i = .int .i64 k ∧ Hid (CoreAt w' R l (runC l k zeroC) ∧ w'.heap[w.heap.size]? = some (.cells #[.int .i64 0, .int .i64 0, .slice none 0 0, .slice none 0 0, .int .i64 0] 78) ∧ Below w.heap.size w w')) (fun i _ => q - (intOf i).toNat)
    case atStart => exact ⟨0, Nat.zero_le _, rfl, unhide HS0⟩
    case round =>
      obtain ⟨k, hk, rfl, HS⟩ := hrel
      clear HS0
      by_cases hkq : k < q
      · have hkq' : (k : Int) < (q : Int) := by omega
        go_wp2_with fail
        refine (step_any R l 100 (runC l k zeroC) _ (unhide HOK) (unhide HV k) (unhide HS).1).mono ?_
        rw [← runC_snoc]
        rintro e w3 ⟨rfl, hC3, hbut⟩
        have HS3 : Hid (CoreAt w3 R l (runC l (k + 1) zeroC) ∧ w3.heap[w.heap.size]? = some (.cells #[.int .i64 0, .int .i64 0, .slice none 0 0, .slice none 0 0, .int .i64 0] 78) ∧ Below w.heap.size w w3) := ⟨hC3, hbut.box (unhide HS).2.1 (by omega), But.down (unhide HS).2.2 hbut (by omega)⟩
        clear hC3 hbut HS
        go_wp2_with fail
        exact ⟨⟨k + 1, by omega, by go_num, unhide HS3⟩, by simp [intOf]; omega⟩
      · have hke : k = q := by omega
        subst hke
        have hkl2 : ¬ (k : Int) < (k : Int) := by omega
        have hgl := (unhide HV k).sl
        have hgo := (unhide HV k).ol
        go_wp2_with fail
        refine (cpu_any R l (runC l k zeroC) _ hgl hgo (unhide HS).1).mono ?_
        rintro e w4 ⟨sv4, ov4, rfl, hO4⟩
        have hr := box_below (unhide HS).2.1 hO4.2.2.2
        have xr := box5 hr
        have HM1 := hide (off_of hr)
        obtain ⟨sa4, sc4, rfl, _, _⟩ := int_form hO4.1
        obtain ⟨oa4, oc4, rfl, _, _⟩ := int_form hO4.2.1
        have HW := hide (own_base hO4 (unhide HS).2.2)
        clear hr hO4 HS hgl hgo HV
        generalize hme : runC l k zeroC = m3 at *
        have HME := hide hme
        clear hme
        unfold aggC
        go_wp2_with fail
        refine bodyPost_ret (v := .agg (aggC m3 (.slice sa4 m3.st.length sc4) (.slice oa4 m3.os.length oc4))) (by simp [results, Try.results55, go_sem, aggC, xr]) rfl ?_
        first
          | refine ⟨_, _, rfl, ?_⟩
          | (show ∃ sv ov, _ = Ending.returned (.agg (aggC (runC l k zeroC) sv ov)) ∧ OwnC w _ sv ov (runC l k zeroC); rw [unhide HME]; refine ⟨_, _, rfl, ?_⟩)
        repeat (with_reducible refine OwnC.set ?_ (by (repeat (with_reducible refine OffAt.set ?_)); exact unhide HM1) (by omega))
        exact unhide HW
end Go.Proofs.Ytefmmnckhldnnaa.CoreG
