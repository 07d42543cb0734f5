/- The contracts of the program's CpuStep and CpuRun. -/
import Derived.Test.YtjbhbkkkjdpamaaCoreF
namespace Go.Proofs.Ytjbhbkkkjdpamaa.CoreG
open Go.ChangeShapes Go.WideShapes Go.ChangeAt Go.RowKit Go.Joins Go.WideMaps Go.Maps Go.Deep
open Go.Proofs.Ytjbhbkkkjdpamaa.Base Go.Proofs.Ytjbhbkkkjdpamaa.InsA Go.Proofs.Ytjbhbkkkjdpamaa.Keep Go.Proofs.Ytjbhbkkkjdpamaa.LayN Go.Proofs.Ytjbhbkkkjdpamaa.CellA Go.Proofs.Ytjbhbkkkjdpamaa.Mark Go.Proofs.Ytjbhbkkkjdpamaa.Sum Go.Proofs.Ytjbhbkkkjdpamaa.ImgD Go.Proofs.Ytjbhbkkkjdpamaa.ImgOk Go.Proofs.Ytjbhbkkkjdpamaa.RestOk Go.Proofs.Ytjbhbkkkjdpamaa.COkS Go.Proofs.Ytjbhbkkkjdpamaa.COkI Go.Proofs.Ytjbhbkkkjdpamaa.CSpec Go.Proofs.Ytjbhbkkkjdpamaa.CSpecB Go.Proofs.Ytjbhbkkkjdpamaa.CSpecC Go.Proofs.Ytjbhbkkkjdpamaa.CSpecD Go.Proofs.Ytjbhbkkkjdpamaa.CoreA Go.Proofs.Ytjbhbkkkjdpamaa.CoreB Go.Proofs.Ytjbhbkkkjdpamaa.CoreD Go.Proofs.Ytjbhbkkkjdpamaa.CoreE Go.Proofs.Ytjbhbkkkjdpamaa.CoreF
set_option linter.unusedVariables false
set_option maxRecDepth 100000

set_option maxHeartbeats 8000000 in
theorem implCpuStep_any (a : Option Addr) (cap : Nat) (l : List CellD) (m : CM) (sa oa : Option Addr) (sc oc : Nat) (w : World) (hcap : l.length ≤ cap) (hcm : cap ≤ maxLen) (hR : CellRow w a l) (h1 : m.st.length ≤ sc) (h2 : sc ≤ maxLen) (h3 : m.os.length ≤ oc) (h4 : oc ≤ maxLen) (hs : NumRow w sa m.st) (ho : NumRow w oa m.os) :
    Calls Try.prog 32 #[.slice a l.length cap, .agg (aggC m (.slice sa m.st.length sc) (.slice oa m.os.length oc))] w fun e w' => ∃ sv ov, e = .returned (.agg (aggC (fullC l m) sv ov)) ∧ OwnC w w' sv ov (fullC l m) := by
  have ha : Below w.heap.size w ((w.alloc (.cells #[.int .i64 m.p, .int .i64 m.c, .slice sa m.st.length sc, .slice oa m.os.length oc, .int .i64 m.d] 60)).alloc (.cells #[.int .i64 0, .int .i64 0, .slice none 0 0, .slice none 0 0, .int .i64 0] 60)) := below_alloc2 _ _ _
  have HB := hide (par5 w (.cells #[.int .i64 0, .int .i64 0, .slice none 0 0, .slice none 0 0, .int .i64 0] 60) (.int .i64 m.p) (.int .i64 m.c) (.slice sa m.st.length sc) (.slice oa m.os.length oc) (.int .i64 m.d) 60)
  have HN := hide (res5 w (.cells #[.int .i64 m.p, .int .i64 m.c, .slice sa m.st.length sc, .slice oa m.os.length oc, .int .i64 m.d] 60) (.int .i64 0) (.int .i64 0) (.slice none 0 0) (.slice none 0 0) (.int .i64 0) 60)
  have HX := hide (And.intro hR (And.intro hs ho))
  have HA := hide ha
  clear hR hs ho ha
  unfold aggC
  cases hok : cpuOkB l m.p m.c m.d m.st m.os
  · have em : fullC l m = formC := by unfold fullC; rw [hok]; rfl
    rw [em]
    go_enter Try.func32, Try.ntmps32
    go_wp2_with fail
    refine (implCpuOk_any a cap l m.p m.c m.d _ _ _ _ m.st m.os _ hcap hcm ((unhide HX).1.below (unhide HA)) h1 h2 h3 h4 ((unhide HX).2.1.below (unhide HA)) ((unhide HX).2.2.below (unhide HA))).mono ?_
    rw [hok]
    rintro e w1 ⟨rfl, hb1⟩
    have hr := box_below (unhide HN) hb1
    have xr := box5 hr
    have HM1 := hide (off_of hr)
    have HW := hide (own_nil (bl_trans (unhide HA) hb1) 0 0 5)
    clear hr hb1 em HX HA HB HN
    go_wp2_with fail
    refine bodyPost_ret (v := .agg (aggC formC (.slice none 0 0) (.slice none 0 0))) (by simp [results, Try.results32, go_sem, aggC, formC, xr]) rfl ⟨_, _, rfl, ?_⟩
    repeat (with_reducible refine OwnC.set ?_ (by (repeat (with_reducible refine OffAt.set ?_)); exact unhide HM1) (by omega))
    exact unhide HW
  · obtain ⟨hkp, hv⟩ := ok_inv hok
    have em : fullC l m = goC l m := by unfold fullC; rw [hok]; rfl
    rw [em]
    have hvg := go_invC hkp hv
    have hsl := hv.sl
    have hol := hv.ol
    have hgl := hvg.sl
    have hgo := hvg.ol
    have HV := hide hv
    have HKP := hide hkp
    clear hv hkp hvg em
    go_enter Try.func32, Try.ntmps32
    go_wp2_with fail
    refine (implCpuOk_any a cap l m.p m.c m.d _ _ _ _ m.st m.os _ hcap hcm ((unhide HX).1.below (unhide HA)) h1 h2 h3 h4 ((unhide HX).2.1.below (unhide HA)) ((unhide HX).2.2.below (unhide HA))).mono ?_
    rw [hok]
    rintro e w1 ⟨rfl, hb1⟩
    have HA1 := hide (bl_trans (unhide HA) hb1)
    have HR1 := hide (box_below (unhide HN) hb1)
    have xb := box5 (box_below (unhide HB) hb1)
    have hN1 : w.heap.size + 1 < w1.heap.size := (Array.getElem?_eq_some_iff.1 (unhide HR1)).1
    clear hb1 HA HB HN hok
    go_wp2_with fail
    refine (coreAt_any a cap l 100 m sa oa sc oc _ hcap hcm ((unhide HX).1.below (unhide HA1)) (unhide HKP) hsl hol ((unhide HX).2.1.below (unhide HA1)) ((unhide HX).2.2.below (unhide HA1))).mono ?_
    rintro e w2 ⟨R, rfl, hRle, hC2, hb2⟩
    have HC2 := hide hC2
    have HA2 := hide (bl_trans (unhide HA1) hb2)
    have HR2 := hide (box_below (unhide HR1) hb2)
    clear hC2 hb2 HA1 HR1 xb HX
    go_wp2_with fail
    refine (step_any R l 100 m _ (unhide HKP) (unhide HV) (unhide HC2)).mono ?_
    rintro e w3 ⟨rfl, hC3, hbut⟩
    have HC3 := hide hC3
    have HA3 := hide (But.down (unhide HA2) hbut (by omega))
    have HR3 := hide (hbut.box (unhide HR2) (by omega))
    clear hC3 hbut HA2 HR2 HC2
    go_wp2_with fail
    refine (cpu_any R l (goC l m) _ hgl hgo (unhide HC3)).mono ?_
    rintro e w4 ⟨sv4, ov4, rfl, hO4⟩
    have hr := box_below (unhide HR3) hO4.2.2.2
    have xr := box5 hr
    have HM1 := hide (off_of hr)
    obtain ⟨sa4, sc4, rfl, _, _⟩ := int_form hO4.1
    obtain ⟨oa4, oc4, rfl, _, _⟩ := int_form hO4.2.1
    have HW := hide (own_base hO4 (unhide HA3))
    clear hr hO4 HR3 HA3 HC3 hgl hgo
    generalize hme : goC l m = m3 at *
    have HME := hide hme
    clear hme
    unfold aggC
    go_wp2_with fail
    refine bodyPost_ret (v := .agg (aggC m3 (.slice sa4 m3.st.length sc4) (.slice oa4 m3.os.length oc4))) (by simp [results, Try.results32, go_sem, aggC, xr]) rfl ?_
    show ∃ sv ov, _ = Ending.returned (.agg (aggC (goC l m) sv ov)) ∧ OwnC w _ sv ov (goC l m)
    rw [unhide HME]
    refine ⟨_, _, rfl, ?_⟩
    repeat (with_reducible refine OwnC.set ?_ (by (repeat (with_reducible refine OffAt.set ?_)); exact unhide HM1) (by omega))
    exact unhide HW
end Go.Proofs.Ytjbhbkkkjdpamaa.CoreG
