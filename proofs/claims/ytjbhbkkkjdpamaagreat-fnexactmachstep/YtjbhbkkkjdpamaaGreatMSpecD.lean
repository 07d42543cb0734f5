/- The contracts of the specification's MachStep and MachRun. -/
import Derived.Test.YtjbhbkkkjdpamaaGreatMCopy
import Derived.Test.YtjbhbkkkjdpamaaGreatMOkS
namespace Go.Proofs.YtjbhbkkkjdpamaaGreat.MSpecD
open Go.ChangeShapes Go.WideShapes Go.ChangeAt Go.RowKit Go.Joins Go.WideMaps Go.Maps Go.Deep
open Go.Proofs.YtjbhbkkkjdpamaaGreat.Base Go.Proofs.YtjbhbkkkjdpamaaGreat.InsA Go.Proofs.YtjbhbkkkjdpamaaGreat.Funs Go.Proofs.YtjbhbkkkjdpamaaGreat.Open Go.Proofs.YtjbhbkkkjdpamaaGreat.Keep Go.Proofs.YtjbhbkkkjdpamaaGreat.UnitS Go.Proofs.YtjbhbkkkjdpamaaGreat.UnitM Go.Proofs.YtjbhbkkkjdpamaaGreat.WantsI Go.Proofs.YtjbhbkkkjdpamaaGreat.Mach Go.Proofs.YtjbhbkkkjdpamaaGreat.Mark Go.Proofs.YtjbhbkkkjdpamaaGreat.Sum Go.Proofs.YtjbhbkkkjdpamaaGreat.KeepA Go.Proofs.YtjbhbkkkjdpamaaGreat.KeepD Go.Proofs.YtjbhbkkkjdpamaaGreat.MOk Go.Proofs.YtjbhbkkkjdpamaaGreat.MOkS Go.Proofs.YtjbhbkkkjdpamaaGreat.MD Go.Proofs.YtjbhbkkkjdpamaaGreat.MRun Go.Proofs.YtjbhbkkkjdpamaaGreat.MDeed Go.Proofs.YtjbhbkkkjdpamaaGreat.MSay Go.Proofs.YtjbhbkkkjdpamaaGreat.MSpec Go.Proofs.YtjbhbkkkjdpamaaGreat.MSpecB Go.Proofs.YtjbhbkkkjdpamaaGreat.MSpecC Go.Proofs.YtjbhbkkkjdpamaaGreat.MCopy
set_option linter.unusedVariables false
set_option maxRecDepth 100000

def badM : MD := ⟨0, 0, 0, 5, [], []⟩
def stepM (fs : List FunD) (m : MD) : MD := if machOkB fs m.f m.p m.c m.d m.st m.os then goM fs m else badM
def fullM (fs : List FunD) (n : Int) : MD := if keepOkB fs && decide (0 ≤ n) && decide (n ≤ 200) then runM fs n.toNat zeroM else badM
theorem ok_inv {fs : List FunD} {m : MD} (h : machOkB fs m.f m.p m.c m.d m.st m.os = true) : keepOkB fs = true ∧ Inv fs m := by
  unfold machOkB at h
  simp only [Bool.and_eq_true, decide_eq_true_iff] at h
  obtain ⟨⟨⟨⟨⟨⟨⟨⟨h1, h2⟩, h3⟩, h4⟩, h5⟩, h6⟩, h7⟩, h8⟩, h9⟩ := h
  exact ⟨h1, h2, fun s hs => by simpa using List.all_eq_true.1 h8 s hs, h4, h5⟩
theorem own_base {W0 W1 w : World} {sv ov : Value} {m : MD} (h : OwnM W1 w sv ov m) (hb : Below W0.heap.size W0 W1) : OwnM W0 w sv ov m := by
  have hz := hb.size
  refine ⟨?_, ?_, bl_trans hb h.2.2⟩
  · obtain ⟨h0, h1 | ⟨g, cap, cur, hv, hB, hr⟩⟩ := h.1
    · exact ⟨h0, .inl h1⟩
    · exact ⟨h0, .inr ⟨g, cap, cur, hv, by omega, hr⟩⟩
  · obtain ⟨h0, h1 | ⟨g, cap, cur, hv, hB, hr⟩⟩ := h.2.1
    · exact ⟨h0, .inl h1⟩
    · exact ⟨h0, .inr ⟨g, cap, cur, hv, by omega, hr⟩⟩
theorem own_nil {W0 w : World} (hb : Below W0.heap.size W0 w) (f p c d : Int) : OwnM W0 w (.slice none 0 0) (.slice none 0 0) ⟨f, p, c, d, [], []⟩ := ⟨⟨rfl, .inl ⟨rfl, rfl⟩⟩, ⟨rfl, .inl ⟨rfl, rfl⟩⟩, hb⟩
theorem sDo_any (W0 : World) (a : Option Addr) (cap : Nat) (fs : List FunD) (m : MD) (sv ov : Value) (w : World) (hok : keepOkB fs = true) (hcap : fs.length ≤ cap) (hcm : cap ≤ maxLen) (hF : FunRow W0 a fs) (hv : Inv fs m) (h : OwnM W0 w sv ov m) :
    Calls Tryz.prog 45 #[.slice a fs.length cap, .agg (aggM m sv ov)] w fun e w' => MEnd W0 w (doM fs m) e w' := by
  obtain ⟨k, j, hf0, hp0, hk, hj, ex⟩ := spot_is hv.here
  have hFw := hF.below h.2.2
  obtain ⟨b, off, rfl⟩ := hFw.get (by omega)
  obtain ⟨ai, ci, _, _, c2, _, g1, g2, g3⟩ := hFw.at hk
  obtain ⟨b', o', rfl⟩ := g3.get (by omega)
  obtain ⟨r0, r1, r2, hxs⟩ := g3.cells hj
  have hj10 := body_le hok hk
  obtain ⟨sa, sc, rfl, hs1, hs2⟩ := spot_form h.1
  obtain ⟨oa, oc, rfl, ho1, ho2⟩ := num_form h.2.1
  have eg : doM fs m = doX fs m fs[k].body[j] := by unfold doM; rw [ex]
  rw [eg]
  generalize fs[k].body[j] = x at *
  have hD : Do W0 b off cap b' o' fs k j fs[k].body.length ci m x sa oa sc oc w := ⟨hcap, hcm, hf0, hp0, hk, hj, by omega, g1, g2, hv.ol, hv.sl, hs1, hs2, ho1, ho2, hF, h, c2, r0, r1, r2, hxs⟩
  by_cases e1 : x.o = 1
  · have em : doX fs m x = sayM m := by unfold doX; rw [if_pos e1]
    rw [em]; exact do_say W0 b off cap b' o' fs k j _ ci m x sa oa sc oc w hD e1
  by_cases e2 : x.o = 2
  · have em : doX fs m x = { m with c := sumI m.c x.n, p := m.p + 1 } := by unfold doX; rw [if_neg e1, if_pos e2]
    rw [em]; exact do_add W0 b off cap b' o' fs k j _ ci m x sa oa sc oc w hD e2
  by_cases e3 : x.o = 3
  · have em : doX fs m x = callM fs m x.s := by unfold doX; rw [if_neg e1, if_neg e2, if_pos e3]
    rw [em]; exact do_call W0 b off cap b' o' fs k j _ ci m x sa oa sc oc w hD e3
  by_cases e4 : x.o = 4
  · have em : doX fs m x = MD.goTo fs m x.s := by unfold doX; rw [if_neg e1, if_neg e2, if_neg e3, if_pos e4]
    rw [em]; exact do_go W0 b off cap b' o' fs k j _ ci m x sa oa sc oc w hD e4
  by_cases e5 : x.o = 5
  · by_cases hc : 0 < m.c
    · have em : doX fs m x = MD.goTo fs m x.s := by unfold doX; rw [if_neg e1, if_neg e2, if_neg e3, if_neg e4, if_pos e5, if_pos hc]
      rw [em]; exact do_ifyes W0 b off cap b' o' fs k j _ ci m x sa oa sc oc w hD e5 hc
    · have em : doX fs m x = nextM m := by unfold doX; rw [if_neg e1, if_neg e2, if_neg e3, if_neg e4, if_pos e5, if_neg hc]
      rw [em]; exact do_ifno W0 b off cap b' o' fs k j _ ci m x sa oa sc oc w hD e5 hc
  by_cases e6 : x.o = 6
  · have em : doX fs m x = retM m := by unfold doX; rw [if_neg e1, if_neg e2, if_neg e3, if_neg e4, if_neg e5, if_pos e6]
    rw [em]; exact do_ret W0 b off cap b' o' fs k j _ ci m x sa oa sc oc w hD e6
  · have em : doX fs m x = { m with d := 1 } := by unfold doX; rw [if_neg e1, if_neg e2, if_neg e3, if_neg e4, if_neg e5, if_neg e6]
    rw [em]; exact do_end W0 b off cap b' o' fs k j _ ci m x sa oa sc oc w hD ⟨e1, e2, e3, e4, e5, e6⟩
set_option maxHeartbeats 4000000 in
theorem specStep_any (a : Option Addr) (cap : Nat) (fs : List FunD) (m : MD) (sa oa : Option Addr) (sc oc : Nat) (w : World) (hcap : fs.length ≤ cap) (hcm : cap ≤ maxLen) (hR : FunRow w a fs) (h1 : m.st.length ≤ sc) (h2 : sc ≤ maxLen) (h3 : m.os.length ≤ oc) (h4 : oc ≤ maxLen) (hl1 : m.st.length ≤ 1048576) (hl2 : m.os.length ≤ 1048576) (hs : SpotRow w sa m.st) (ho : NumRow w oa m.os) :
    Calls Tryz.prog 14 #[.slice a fs.length cap, .agg (aggM m (.slice sa m.st.length sc) (.slice oa m.os.length oc))] w fun e w' => ∃ sv ov, e = .returned (.agg (aggM (stepM fs m) sv ov)) ∧ OwnM w w' sv ov (stepM fs m) := by
  have ha : Below w.heap.size w ((w.alloc (.cells #[.int .i64 m.f, .int .i64 m.p, .int .i64 m.c, .slice sa m.st.length sc, .slice oa m.os.length oc, .int .i64 m.d] 47)).alloc (.cells #[.int .i64 0, .int .i64 0, .int .i64 0, .slice none 0 0, .slice none 0 0, .int .i64 0] 47)) := below_alloc2 _ _ _
  have HB : Hid (((w.alloc (.cells #[.int .i64 m.f, .int .i64 m.p, .int .i64 m.c, .slice sa m.st.length sc, .slice oa m.os.length oc, .int .i64 m.d] 47)).alloc (.cells #[.int .i64 0, .int .i64 0, .int .i64 0, .slice none 0 0, .slice none 0 0, .int .i64 0] 47)).heap[w.heap.size]? = some (.cells #[.int .i64 m.f, .int .i64 m.p, .int .i64 m.c, .slice sa m.st.length sc, .slice oa m.os.length oc, .int .i64 m.d] 47)) := box_below (new_block w _) (below_alloc1 _ _)
  have HN : Hid (((w.alloc (.cells #[.int .i64 m.f, .int .i64 m.p, .int .i64 m.c, .slice sa m.st.length sc, .slice oa m.os.length oc, .int .i64 m.d] 47)).alloc (.cells #[.int .i64 0, .int .i64 0, .int .i64 0, .slice none 0 0, .slice none 0 0, .int .i64 0] 47)).heap[w.heap.size + 1]? = some (.cells #[.int .i64 0, .int .i64 0, .int .i64 0, .slice none 0 0, .slice none 0 0, .int .i64 0] 47)) := res6 w _ _ _ _ _ _ _ _
  have HX := hide (And.intro hR (And.intro hs ho))
  have HA := hide ha
  clear hR hs ho ha
  unfold aggM
  cases hok : machOkB fs m.f m.p m.c m.d m.st m.os
  · have em : stepM fs m = badM := by unfold stepM; rw [hok]; rfl
    rw [em]
    go_enter Tryz.func14, Tryz.ntmps14
    go_wp2_with fail
    refine (specMachOk_any a cap fs m.f m.p m.c m.d _ _ _ _ m.st m.os _ hcap hcm ((unhide HX).1.below (unhide HA)) h1 h2 h3 h4 ((unhide HX).2.1.below (unhide HA)) ((unhide HX).2.2.below (unhide HA))).mono ?_
    rw [hok]
    rintro e w1 ⟨rfl, hb1⟩
    have hr := box_below (unhide HN) hb1
    have xr := box6 hr
    have HM1 : Hid (MachAt w1 (w.heap.size + 1)) := ⟨_, hr⟩
    have HW := hide (own_nil (bl_trans (unhide HA) hb1) 0 0 0 5)
    clear hr hb1 em HX HA HB HN
    go_wp2_with fail
    refine bodyPost_ret (v := .agg (aggM badM (.slice none 0 0) (.slice none 0 0))) (by simp [results, Tryz.results14, go_sem, aggM, badM, xr]) rfl ⟨_, _, rfl, ?_⟩
    repeat (with_reducible refine OwnM.set ?_ (by (repeat (with_reducible refine MachAt.set ?_)); exact unhide HM1) (by omega))
    exact unhide HW
  · obtain ⟨hkp, hv⟩ := ok_inv hok
    have em : stepM fs m = goM fs m := by unfold stepM; rw [hok]; rfl
    rw [em]
    by_cases hd : m.d = 0
    · have eg : goM fs m = doM fs m := by unfold goM; rw [if_pos hd]
      rw [eg]
      have HV := hide hv
      clear em eg hv
      obtain ⟨f, p, c, d, st, os⟩ := m
      obtain rfl : d = 0 := hd
      simp only at *
      go_enter Tryz.func14, Tryz.ntmps14
      go_wp2_with fail
      refine (specMachOk_any a cap fs f p c 0 _ _ _ _ st os _ hcap hcm ((unhide HX).1.below (unhide HA)) h1 h2 h3 h4 ((unhide HX).2.1.below (unhide HA)) ((unhide HX).2.2.below (unhide HA))).mono ?_
      rw [hok]
      rintro e w1 ⟨rfl, hb1⟩
      have HA1 := hide (bl_trans (unhide HA) hb1)
      have HR1 := hide (box_below (unhide HN) hb1)
      have xb := box6 (box_below (unhide HB) hb1)
      clear hb1 HA HB HN
      go_wp2_with fail
      refine (copy_any (⟨f, p, c, 0, st, os⟩ : MD) sa oa sc oc _ hl1 hl2 ((unhide HX).2.1.below (unhide HA1)) ((unhide HX).2.2.below (unhide HA1))).mono ?_
      rintro e w2 ⟨sv2, ov2, rfl, hO2⟩
      have HO2 := hide hO2
      clear hO2 xb
      go_wp2_with fail
      refine (sDo_any w1 a cap fs (⟨f, p, c, 0, st, os⟩ : MD) sv2 ov2 _ hkp hcap hcm ((unhide HX).1.below (unhide HA1)) (unhide HV) (unhide HO2)).mono ?_
      rintro e w3 ⟨sv3, ov3, rfl, hO3, hK3, hz3⟩
      have hi := do_inv hkp (unhide HV)
      generalize hmd : doM fs (⟨f, p, c, 0, st, os⟩ : MD) = m3 at *
      obtain ⟨sa3, sc3, rfl, _, _⟩ := spot_form hO3.1
      obtain ⟨oa3, oc3, rfl, _, _⟩ := num_form hO3.2.1
      have HO3 := hide hO3
      have HMD := hide hmd
      have hi1 := hi.sl
      have hi2 := hi.ol
      clear hO3 hK3 hz3 HO2 hmd hi
      go_wp2_with fail
      refine (copy_any m3 sa3 oa3 sc3 oc3 _ (by omega) (by omega) (spot_row (unhide HO3).1) (num_row (unhide HO3).2.1)).mono ?_
      rintro e w4 ⟨sv4, ov4, rfl, hO4⟩
      have hB4 := bl_trans (unhide HA1) (bl_trans (unhide HO3).2.2 hO4.2.2)
      have hr := box_below (box_below (unhide HR1) (unhide HO3).2.2) hO4.2.2
      have xr := box6 hr
      have HM1 : Hid (MachAt w4 (w.heap.size + 1)) := ⟨_, hr⟩
      obtain ⟨sa4, sc4, rfl, _, _⟩ := spot_form hO4.1
      obtain ⟨oa4, oc4, rfl, _, _⟩ := num_form hO4.2.1
      have HW := hide (own_base hO4 (bl_trans (unhide HA1) (unhide HO3).2.2))
      clear hr hO4 HO3 HR1 HA1 hB4
      unfold aggM
      go_wp2_with fail
      refine bodyPost_ret (v := .agg (aggM m3 (.slice sa4 m3.st.length sc4) (.slice oa4 m3.os.length oc4))) (by simp [results, Tryz.results14, go_sem, aggM, xr]) rfl ?_
      show ∃ sv ov, _ = Ending.returned (.agg (aggM (doM fs (⟨f, p, c, 0, st, os⟩ : MD)) sv ov)) ∧ OwnM w _ sv ov (doM fs (⟨f, p, c, 0, st, os⟩ : MD))
      rw [unhide HMD]
      refine ⟨_, _, rfl, ?_⟩
      repeat (with_reducible refine OwnM.set ?_ (by (repeat (with_reducible refine MachAt.set ?_)); exact unhide HM1) (by omega))
      exact unhide HW
    · have eg : goM fs m = m := by unfold goM; rw [if_neg hd]
      rw [eg]
      go_enter Tryz.func14, Tryz.ntmps14
      go_wp2_with fail
      refine (specMachOk_any a cap fs m.f m.p m.c m.d _ _ _ _ m.st m.os _ hcap hcm ((unhide HX).1.below (unhide HA)) h1 h2 h3 h4 ((unhide HX).2.1.below (unhide HA)) ((unhide HX).2.2.below (unhide HA))).mono ?_
      rw [hok]
      rintro e w1 ⟨rfl, hb1⟩
      have HA1 := hide (bl_trans (unhide HA) hb1)
      have HR1 := hide (box_below (unhide HN) hb1)
      have xb := box6 (box_below (unhide HB) hb1)
      clear hb1 em HA HB HN eg hv
      go_wp2_with fail
      refine (copy_any m sa oa sc oc _ hl1 hl2 ((unhide HX).2.1.below (unhide HA1)) ((unhide HX).2.2.below (unhide HA1))).mono ?_
      rintro e w4 ⟨sv4, ov4, rfl, hO4⟩
      have hr := box_below (unhide HR1) hO4.2.2
      have xr := box6 hr
      have HM1 : Hid (MachAt w4 (w.heap.size + 1)) := ⟨_, hr⟩
      obtain ⟨sa4, sc4, rfl, _, _⟩ := spot_form hO4.1
      obtain ⟨oa4, oc4, rfl, _, _⟩ := num_form hO4.2.1
      have HW := hide (own_base hO4 (unhide HA1))
      clear hr hO4 HR1 HA1 xb
      unfold aggM
      go_wp2_with fail
      refine bodyPost_ret (v := .agg (aggM m (.slice sa4 m.st.length sc4) (.slice oa4 m.os.length oc4))) (by simp [results, Tryz.results14, go_sem, aggM, xr]) rfl ⟨_, _, rfl, ?_⟩
      repeat (with_reducible refine OwnM.set ?_ (by (repeat (with_reducible refine MachAt.set ?_)); exact unhide HM1) (by omega))
      exact unhide HW
end Go.Proofs.YtjbhbkkkjdpamaaGreat.MSpecD
