/- The contracts of MachRun of both sides. -/
import Derived.Test.YtpcdafifblghiaaGreatMImplB
namespace Go.Proofs.YtpcdafifblghiaaGreat.MRunB
open Go.ChangeShapes Go.WideShapes Go.ChangeAt Go.RowKit Go.Joins Go.WideMaps Go.Maps Go.Deep
open Go.Proofs.YtpcdafifblghiaaGreat.Base Go.Proofs.YtpcdafifblghiaaGreat.InsA Go.Proofs.YtpcdafifblghiaaGreat.Funs Go.Proofs.YtpcdafifblghiaaGreat.Open Go.Proofs.YtpcdafifblghiaaGreat.Keep Go.Proofs.YtpcdafifblghiaaGreat.UnitS Go.Proofs.YtpcdafifblghiaaGreat.UnitM Go.Proofs.YtpcdafifblghiaaGreat.WantsI Go.Proofs.YtpcdafifblghiaaGreat.Mach Go.Proofs.YtpcdafifblghiaaGreat.Mark Go.Proofs.YtpcdafifblghiaaGreat.Sum Go.Proofs.YtpcdafifblghiaaGreat.KeepA Go.Proofs.YtpcdafifblghiaaGreat.KeepD Go.Proofs.YtpcdafifblghiaaGreat.MOk Go.Proofs.YtpcdafifblghiaaGreat.MOkI Go.Proofs.YtpcdafifblghiaaGreat.MD Go.Proofs.YtpcdafifblghiaaGreat.MRun Go.Proofs.YtpcdafifblghiaaGreat.MDeed Go.Proofs.YtpcdafifblghiaaGreat.MSay Go.Proofs.YtpcdafifblghiaaGreat.MSpec Go.Proofs.YtpcdafifblghiaaGreat.MSpecB Go.Proofs.YtpcdafifblghiaaGreat.MSpecC Go.Proofs.YtpcdafifblghiaaGreat.MCopy Go.Proofs.YtpcdafifblghiaaGreat.MSpecD Go.Proofs.YtpcdafifblghiaaGreat.MStepI Go.Proofs.YtpcdafifblghiaaGreat.MImpl Go.Proofs.YtpcdafifblghiaaGreat.MImplB
set_option linter.unusedVariables false
set_option maxRecDepth 100000

theorem full_bad {fs : List FunD} {n : Int} (h : keepOkB fs = false ∨ n < 0 ∨ 200 < n) : fullM fs n = badM := by
  unfold fullM
  have : (keepOkB fs && decide (0 ≤ n) && decide (n ≤ 200)) = false := by
    rcases h with h | h | h
    · rw [h]; rfl
    · rw [decide_eq_false (show ¬ 0 ≤ n by omega), Bool.and_false]; rfl
    · rw [decide_eq_false (show ¬ n ≤ 200 by omega), Bool.and_false]
  rw [this]; rfl
theorem full_ok {fs : List FunD} {n : Nat} (hok : keepOkB fs = true) (h : n ≤ 200) : fullM fs n = runM fs n zeroM := by
  unfold fullM
  rw [hok, decide_eq_true (show (0 : Int) ≤ n by omega), decide_eq_true (show (n : Int) ≤ 200 by omega)]
  rfl
theorem runM_add (fs : List FunD) : ∀ (k j : Nat) (m : MD), runM fs (k + j) m = runM fs j (runM fs k m)
  | 0, j, m => by rw [Nat.zero_add]; rfl
  | k + 1, j, m => by rw [Nat.add_right_comm]; exact runM_add fs k j (goM fs m)
theorem run_stop {fs : List FunD} {k n : Nat} (h : k ≤ n) (hd : (runM fs k zeroM).d ≠ 0) : runM fs n zeroM = runM fs k zeroM := by
  obtain ⟨j, rfl⟩ : ∃ j, n = k + j := ⟨n - k, by omega⟩
  rw [runM_add]
  exact run_done hd j
/-- What a call of MachRun leaves. -/
def FullEnd (w : World) (fs : List FunD) (n : Int) (e : Ending) (w' : World) : Prop := ∃ sv ov, e = .returned (.agg (aggM (fullM fs n) sv ov)) ∧ OwnM w w' sv ov (fullM fs n)
set_option maxHeartbeats 4000000 in
theorem implRun_any (a : Option Addr) (cap : Nat) (fs : List FunD) (n : Int) (w : World) (hcap : fs.length ≤ cap) (hcm : cap ≤ maxLen) (hR : FunRow w a fs) :
    Calls Tryz.prog 17 #[.slice a fs.length cap, .int .i64 n] w (FullEnd w fs n) := by
  have HX := hide (hR.below (below_alloc1 w (.cells #[.int .i64 0, .int .i64 0, .int .i64 0, .slice none 0 0, .slice none 0 0, .int .i64 0] 34)))
  have HA := hide (below_alloc1 w (.cells #[.int .i64 0, .int .i64 0, .int .i64 0, .slice none 0 0, .slice none 0 0, .int .i64 0] 34))
  have HN := hide (new_block w (.cells #[.int .i64 0, .int .i64 0, .int .i64 0, .slice none 0 0, .slice none 0 0, .int .i64 0] 34))
  clear hR
  by_cases hbad : keepOkB fs = false ∨ n < 0 ∨ 200 < n
  · have em := full_bad hbad
    unfold FullEnd
    rw [em]
    clear em
    cases hok : keepOkB fs
    · go_enter Tryz.func17, Tryz.ntmps17
      go_wp2_with fail
      refine (implKeepOk_any a cap fs _ hcap hcm (unhide HX)).mono ?_
      rintro e w1 ⟨rfl, hb1⟩
      rw [hok]
      have hr := box_below (unhide HN) hb1
      have xr := box6 hr
      have HM1 : Hid (MachAt w1 w.heap.size) := ⟨_, hr⟩
      have HW := hide (own_nil (bl_trans (unhide HA) hb1) 0 0 0 5)
      clear hr hb1 HX HA HN
      go_wp2_with fail
      refine bodyPost_ret (v := .agg (aggM badM (.slice none 0 0) (.slice none 0 0))) (by simp [results, Tryz.results17, go_sem, aggM, badM, xr]) rfl ⟨_, _, rfl, ?_⟩
      repeat (with_reducible refine OwnM.set ?_ (by (repeat (with_reducible refine MachAt.set ?_)); exact unhide HM1) (by omega))
      exact unhide HW
    · have hn : n < 0 ∨ ¬ n < 0 ∧ 200 < n := by rw [hok] at hbad; simp at hbad; omega
      clear hbad
      rcases hn with hn | ⟨hn0, hn⟩
      · go_enter Tryz.func17, Tryz.ntmps17
        go_wp2_with fail
        refine (implKeepOk_any a cap fs _ hcap hcm (unhide HX)).mono ?_
        rintro e w1 ⟨rfl, hb1⟩
        rw [hok]
        have hr := box_below (unhide HN) hb1
        have xr := box6 hr
        have HM1 : Hid (MachAt w1 w.heap.size) := ⟨_, hr⟩
        have HW := hide (own_nil (bl_trans (unhide HA) hb1) 0 0 0 5)
        clear hr hb1 HX HA HN
        go_wp2_with fail
        refine bodyPost_ret (v := .agg (aggM badM (.slice none 0 0) (.slice none 0 0))) (by simp [results, Tryz.results17, go_sem, aggM, badM, xr]) rfl ⟨_, _, rfl, ?_⟩
        repeat (with_reducible refine OwnM.set ?_ (by (repeat (with_reducible refine MachAt.set ?_)); exact unhide HM1) (by omega))
        exact unhide HW
      · go_enter Tryz.func17, Tryz.ntmps17
        go_wp2_with fail
        refine (implKeepOk_any a cap fs _ hcap hcm (unhide HX)).mono ?_
        rintro e w1 ⟨rfl, hb1⟩
        rw [hok]
        have hr := box_below (unhide HN) hb1
        have xr := box6 hr
        have HM1 : Hid (MachAt w1 w.heap.size) := ⟨_, hr⟩
        have HW := hide (own_nil (bl_trans (unhide HA) hb1) 0 0 0 5)
        clear hr hb1 HX HA HN
        go_wp2_with fail
        refine bodyPost_ret (v := .agg (aggM badM (.slice none 0 0) (.slice none 0 0))) (by simp [results, Tryz.results17, go_sem, aggM, badM, xr]) rfl ⟨_, _, rfl, ?_⟩
        repeat (with_reducible refine OwnM.set ?_ (by (repeat (with_reducible refine MachAt.set ?_)); exact unhide HM1) (by omega))
        exact unhide HW
  · obtain ⟨hok, hn0, hn2⟩ : keepOkB fs = true ∧ 0 ≤ n ∧ n ≤ 200 := by
      cases hok : keepOkB fs
      · exact absurd (.inl hok) hbad
      · exact ⟨rfl, by omega, by omega⟩
    clear hbad
    obtain ⟨q, rfl⟩ : ∃ q : Nat, n = q := ⟨n.toNat, (Int.toNat_of_nonneg hn0).symm⟩
    have hq : q ≤ 200 := by omega
    have em := full_ok (fs := fs) hok hq
    unfold FullEnd
    rw [em]
    clear em
    have h40 := (keep_parts hok).2.1
    have HV : Hid (∀ k, Inv fs (runM fs k zeroM)) := fun k => run_inv hok k (zero_inv hok)
    have HOK := hide hok
    have hn1 : ¬ (q : Int) < 0 := by omega
    have hn3 : ¬ (200 : Int) < (q : Int) := by omega
    clear hn0 hn2
    go_enter Tryz.func17, Tryz.ntmps17
    go_wp2_with fail
    refine (implKeepOk_any a cap fs _ hcap hcm (unhide HX)).mono ?_
    rintro e w1 ⟨rfl, hb1⟩
    rw [hok]
    have HA1 := hide (bl_trans (unhide HA) hb1)
    have HX1 := hide ((unhide HX).below hb1)
    have HR1 := hide (box_below (unhide HN) hb1)
    clear hb1 HA HN HX hok
    go_wp2_with fail
    refine (runnerAt_any a cap fs zeroM none none 0 0 _ hcap hcm h40 (unhide HX1) (by simp [zeroM]) (by simp [zeroM]) (by simp [zeroM]) (.inl rfl) (.inl rfl)).mono ?_
    rintro e w2 ⟨R, mb, rfl, hI2⟩
    have HI2 := hide hI2
    clear hI2
    go_wp2_with fail
    go_loopw [22] (fun i w' => ∃ k : Nat, k ≤ q ∧ i = .int .i64 k ∧ Hid (RunIs w1 w' R mb (.slice a fs.length cap) fs (runM fs k zeroM))) (fun i _ => q - (intOf i).toNat)
    case atStart => exact ⟨0, Nat.zero_le _, rfl, unhide HI2⟩
    case round =>
      obtain ⟨k, hk, rfl, HI⟩ := hrel
      clear HI2
      by_cases hkq : k < q
      · have hkq' : (k : Int) < (q : Int) := by omega
        go_wp2_with fail
        refine (step_any w1 R mb a cap fs (runM fs k zeroM) _ (unhide HOK) hcap hcm (unhide HX1) (unhide HV k) (unhide HI)).mono ?_
        rintro e w3 ⟨rfl, hI3⟩
        rw [← runM_snoc] at hI3
        have HI3 := hide hI3
        clear hI3 HI
        go_wp2_with fail
        exact ⟨⟨k + 1, by omega, by go_num, unhide HI3⟩, by simp [intOf]; omega⟩
      · have hkq' : ¬ (k : Int) < (q : Int) := by omega
        have hke : k = q := by omega
        rw [hke] at HI
        clear hke
        generalize hmd : runM fs q zeroM = m3 at *
        have HMD := hide hmd
        clear hmd
        go_wp2_with fail
        refine (mach_any w1 R mb _ fs m3 _ (unhide HI)).mono ?_
        rintro e w4 ⟨sv4, ov4, rfl, hO4⟩
        have hr := box_below (unhide HR1) hO4.2.2
        have xr := box6 hr
        have HM1 : Hid (MachAt w4 w.heap.size) := ⟨_, hr⟩
        obtain ⟨sa4, sc4, rfl, _, _⟩ := spot_form hO4.1
        obtain ⟨oa4, oc4, rfl, _, _⟩ := num_form hO4.2.1
        have HW := hide (own_base hO4 (unhide HA1))
        clear hr hO4 HI HR1 HA1
        unfold aggM
        go_wp2_with fail
        refine bodyPost_ret (v := .agg (aggM m3 (.slice sa4 m3.st.length sc4) (.slice oa4 m3.os.length oc4))) (by simp [results, Tryz.results17, go_sem, aggM, xr]) rfl ?_
        show ∃ sv ov, _ = Ending.returned (.agg (aggM (runM fs q zeroM) sv ov)) ∧ OwnM w _ sv ov (runM fs q zeroM)
        rw [unhide HMD]
        refine ⟨_, _, rfl, ?_⟩
        repeat (with_reducible refine OwnM.set ?_ (by (repeat (with_reducible refine MachAt.set ?_)); exact unhide HM1) (by omega))
        exact unhide HW
theorem six_set {w : World} {P : Nat} {t : TypeId} {v0 v1 v2 v3 v4 v5 u0 u1 u2 u3 u4 u5 : Value} (h : w.heap[P]? = some (.cells #[v0, v1, v2, v3, v4, v5] t)) : ((((((w.setCell ⟨P, 0, none⟩ u0).setCell ⟨P, 1, none⟩ u1).setCell ⟨P, 2, none⟩ u2).setCell ⟨P, 3, none⟩ u3).setCell ⟨P, 4, none⟩ u4).setCell ⟨P, 5, none⟩ u5).heap[P]? = some (.cells #[u0, u1, u2, u3, u4, u5] t) := by
  have h0 := block_setCell (i := 0) h u0
  have h1 := block_setCell (i := 1) h0 u1
  have h2 := block_setCell (i := 2) h1 u2
  have h3 := block_setCell (i := 3) h2 u3
  have h4 := block_setCell (i := 4) h3 u4
  have h5 := block_setCell (i := 5) h4 u5
  simpa using h5
/-- What stands along the way of the specification's run. -/
def SLoopM (W0 : World) (P : Nat) (fs : List FunD) (q : Nat) (i : Value) (w' : World) : Prop := ∃ (k : Nat) (m : MD) (sa oa : Option Addr) (sc oc : Nat), k ≤ q ∧ i = .int .i64 k ∧ Hid (m = runM fs k zeroM) ∧ w'.heap[P]? = some (.cells (aggM m (.slice sa m.st.length sc) (.slice oa m.os.length oc)) 34) ∧ Hid (OwnM W0 w' (.slice sa m.st.length sc) (.slice oa m.os.length oc) m)
set_option maxHeartbeats 4000000 in
theorem specRun_any (a : Option Addr) (cap : Nat) (fs : List FunD) (n : Int) (w : World) (hcap : fs.length ≤ cap) (hcm : cap ≤ maxLen) (hR : FunRow w a fs) :
    Calls Tryz.prog 16 #[.slice a fs.length cap, .int .i64 n] w (FullEnd w fs n) := by
  have HX := hide (hR.below (below_alloc1 w (.cells #[.int .i64 0, .int .i64 0, .int .i64 0, .slice none 0 0, .slice none 0 0, .int .i64 0] 34)))
  have HA := hide (below_alloc1 w (.cells #[.int .i64 0, .int .i64 0, .int .i64 0, .slice none 0 0, .slice none 0 0, .int .i64 0] 34))
  have HN := hide (new_block w (.cells #[.int .i64 0, .int .i64 0, .int .i64 0, .slice none 0 0, .slice none 0 0, .int .i64 0] 34))
  clear hR
  by_cases hbad : keepOkB fs = false ∨ n < 0 ∨ 200 < n
  · have em := full_bad hbad
    unfold FullEnd
    rw [em]
    clear em
    cases hok : keepOkB fs
    · go_enter Tryz.func16, Tryz.ntmps16
      go_wp2_with fail
      refine (specKeepOk_any a cap fs _ hcap hcm (unhide HX)).mono ?_
      rintro e w1 ⟨rfl, hb1⟩
      rw [hok]
      have hr := box_below (unhide HN) hb1
      have xr := box6 hr
      have HM1 : Hid (MachAt w1 w.heap.size) := ⟨_, hr⟩
      have HW := hide (own_nil (bl_trans (unhide HA) hb1) 0 0 0 5)
      clear hr hb1 HX HA HN
      go_wp2_with fail
      refine bodyPost_ret (v := .agg (aggM badM (.slice none 0 0) (.slice none 0 0))) (by simp [results, Tryz.results16, go_sem, aggM, badM, xr]) rfl ⟨_, _, rfl, ?_⟩
      repeat (with_reducible refine OwnM.set ?_ (by (repeat (with_reducible refine MachAt.set ?_)); exact unhide HM1) (by omega))
      exact unhide HW
    · have hn : n < 0 ∨ ¬ n < 0 ∧ 200 < n := by rw [hok] at hbad; simp at hbad; omega
      clear hbad
      rcases hn with hn | ⟨hn0, hn⟩
      · go_enter Tryz.func16, Tryz.ntmps16
        go_wp2_with fail
        refine (specKeepOk_any a cap fs _ hcap hcm (unhide HX)).mono ?_
        rintro e w1 ⟨rfl, hb1⟩
        rw [hok]
        have hr := box_below (unhide HN) hb1
        have xr := box6 hr
        have HM1 : Hid (MachAt w1 w.heap.size) := ⟨_, hr⟩
        have HW := hide (own_nil (bl_trans (unhide HA) hb1) 0 0 0 5)
        clear hr hb1 HX HA HN
        go_wp2_with fail
        refine bodyPost_ret (v := .agg (aggM badM (.slice none 0 0) (.slice none 0 0))) (by simp [results, Tryz.results16, go_sem, aggM, badM, xr]) rfl ⟨_, _, rfl, ?_⟩
        repeat (with_reducible refine OwnM.set ?_ (by (repeat (with_reducible refine MachAt.set ?_)); exact unhide HM1) (by omega))
        exact unhide HW
      · go_enter Tryz.func16, Tryz.ntmps16
        go_wp2_with fail
        refine (specKeepOk_any a cap fs _ hcap hcm (unhide HX)).mono ?_
        rintro e w1 ⟨rfl, hb1⟩
        rw [hok]
        have hr := box_below (unhide HN) hb1
        have xr := box6 hr
        have HM1 : Hid (MachAt w1 w.heap.size) := ⟨_, hr⟩
        have HW := hide (own_nil (bl_trans (unhide HA) hb1) 0 0 0 5)
        clear hr hb1 HX HA HN
        go_wp2_with fail
        refine bodyPost_ret (v := .agg (aggM badM (.slice none 0 0) (.slice none 0 0))) (by simp [results, Tryz.results16, go_sem, aggM, badM, xr]) rfl ⟨_, _, rfl, ?_⟩
        repeat (with_reducible refine OwnM.set ?_ (by (repeat (with_reducible refine MachAt.set ?_)); exact unhide HM1) (by omega))
        exact unhide HW
  · obtain ⟨hok, hn0, hn2⟩ : keepOkB fs = true ∧ 0 ≤ n ∧ n ≤ 200 := by
      cases hok : keepOkB fs
      · exact absurd (.inl hok) hbad
      · exact ⟨rfl, by omega, by omega⟩
    clear hbad
    obtain ⟨q, rfl⟩ : ∃ q : Nat, n = q := ⟨n.toNat, (Int.toNat_of_nonneg hn0).symm⟩
    have hq : q ≤ 200 := by omega
    have em := full_ok (fs := fs) hok hq
    unfold FullEnd
    rw [em]
    clear em
    have HV : Hid (∀ k, Inv fs (runM fs k zeroM)) := fun k => run_inv hok k (zero_inv hok)
    have HOK := hide hok
    have hn1 : ¬ (q : Int) < 0 := by omega
    have hn3 : ¬ (200 : Int) < (q : Int) := by omega
    clear hn0 hn2
    go_enter Tryz.func16, Tryz.ntmps16
    go_wp2_with fail
    refine (specKeepOk_any a cap fs _ hcap hcm (unhide HX)).mono ?_
    rintro e w1 ⟨rfl, hb1⟩
    rw [hok]
    have HA1 := hide (bl_trans (unhide HA) hb1)
    have HX1 := hide ((unhide HX).below hb1)
    have HR1 := hide (box_below (unhide HN) hb1)
    have HS0 : Hid (SLoopM w1 w1.heap.size fs q (.int .i64 0) (w1.alloc (.cells #[.int .i64 0, .int .i64 0, .int .i64 0, .slice none 0 0, .slice none 0 0, .int .i64 0] 34))) := ⟨0, zeroM, none, none, 0, 0, Nat.zero_le _, rfl, rfl, new_block w1 _, own_nil (below_alloc1 _ _) 0 0 0 0⟩
    have hsz1 := hb1.size
    rw [World.size_alloc] at hsz1
    clear hb1 HA HN HX hok
    go_wp2_with fail
    go_loopw [6] (fun i w' => SLoopM w1 w1.heap.size fs q i w') (fun i _ => q - (intOf i).toNat)
    case atStart => exact unhide HS0
    case round =>
      obtain ⟨k, m, sa, oa, sc, oc, hk, rfl, HM, hP, HO⟩ := hrel
      clear HS0
      have HVM := hide (unhide HV k)
      rw [← unhide HM] at HVM
      obtain ⟨f, p, c, d, st, os⟩ := m
      have hsl : st.length ≤ 5 := (unhide HVM).sl
      have hol : os.length ≤ 30 := (unhide HVM).ol
      unfold aggM at hP
      simp only at hP HO
      have xp := box6 hP
      have HP := hide hP
      clear hP
      by_cases hkq : k < q
      · have hkq' : (k : Int) < (q : Int) := by omega
        by_cases hd : d = 0
        · subst hd
          have HG : Hid (runM fs (k + 1) zeroM = doM fs ⟨f, p, c, 0, st, os⟩) := by
            show _ = _
            rw [runM_snoc, ← unhide HM]
            unfold goM
            rw [if_pos rfl]
          go_wp2_with fail
          refine (sDo_any w1 a cap fs (⟨f, p, c, 0, st, os⟩ : MD) _ _ _ (unhide HOK) hcap hcm (unhide HX1) (unhide HVM) (unhide HO)).mono ?_
          rintro e w3 ⟨sv3, ov3, rfl, hO3, hK3, hz3⟩
          have hP3 := hK3 _ _ _ (unhide HP) (by decide) (by decide)
          generalize hmd : doM fs (⟨f, p, c, 0, st, os⟩ : MD) = m3 at *
          obtain ⟨sa3, sc3, rfl, _, _⟩ := spot_form hO3.1
          obtain ⟨oa3, oc3, rfl, _, _⟩ := num_form hO3.2.1
          have HM3 : Hid (MachAt w3 w1.heap.size) := ⟨_, hP3⟩
          have xp3 := box6 hP3
          have HP3 := hide hP3
          have HO3 := hide hO3
          have HNEW : Hid (∀ w', w' = ((((((w3.setCell ⟨w1.heap.size, 0, none⟩ (.int .i64 m3.f)).setCell ⟨w1.heap.size, 1, none⟩ (.int .i64 m3.p)).setCell ⟨w1.heap.size, 2, none⟩ (.int .i64 m3.c)).setCell ⟨w1.heap.size, 3, none⟩ (.slice sa3 m3.st.length sc3)).setCell ⟨w1.heap.size, 4, none⟩ (.slice oa3 m3.os.length oc3)).setCell ⟨w1.heap.size, 5, none⟩ (.int .i64 m3.d)) → SLoopM w1 w1.heap.size fs q (.int .i64 ((k + 1 : Nat) : Int)) w') := by
            intro w' e
            subst e
            refine ⟨k + 1, m3, sa3, oa3, sc3, oc3, by omega, rfl, (unhide HG).symm, six_set hP3, ?_⟩
            show OwnM _ _ _ _ _
            repeat (with_reducible refine OwnM.set ?_ (by (repeat (with_reducible refine MachAt.set ?_)); exact unhide HM3) (by omega))
            exact hO3
          clear hO3 hK3 hz3 hP3 hmd xp HG HM HO HP
          unfold aggM
          go_wp2_with fail
          exact ⟨by have h := unhide HNEW _ rfl; first | exact h | simpa using h, by simp [intOf]; omega⟩
        · have HE : Hid (runM fs q zeroM = ⟨f, p, c, d, st, os⟩) := by
            show _ = _
            rw [run_stop hk (by rw [← unhide HM]; exact hd), ← unhide HM]
          have HG0 := hide hk
          clear HP HM HG0 HVM
          go_wp2_with fail
          refine (copy_any (⟨f, p, c, d, st, os⟩ : MD) sa oa sc oc _ (by show st.length ≤ 1048576; omega) (by show os.length ≤ 1048576; omega) (spot_row (unhide HO).1) (num_row (unhide HO).2.1)).mono ?_
          rintro e w4 ⟨sv4, ov4, rfl, hO4⟩
          have hB4 := bl_trans (unhide HA1) (bl_trans (unhide HO).2.2 hO4.2.2)
          have hr := box_below (box_below (unhide HR1) (unhide HO).2.2) hO4.2.2
          have xr := box6 hr
          have HM1 : Hid (MachAt w4 w.heap.size) := ⟨_, hr⟩
          obtain ⟨sa4, sc4, rfl, _, _⟩ := spot_form hO4.1
          obtain ⟨oa4, oc4, rfl, _, _⟩ := num_form hO4.2.1
          have HW := hide (own_base hO4 (bl_trans (unhide HA1) (unhide HO).2.2))
          clear hr hO4 HO HR1 HA1 hB4
          unfold aggM
          simp only
          go_wp2_with fail
          refine bodyPost_ret (v := .agg (aggM (⟨f, p, c, d, st, os⟩ : MD) (.slice sa4 st.length sc4) (.slice oa4 os.length oc4))) (by simp [results, Tryz.results16, go_sem, aggM, xr]) rfl ?_
          show ∃ sv ov, _ = Ending.returned (.agg (aggM (runM fs q zeroM) sv ov)) ∧ OwnM w _ sv ov (runM fs q zeroM)
          rw [unhide HE]
          refine ⟨_, _, rfl, ?_⟩
          repeat (with_reducible refine OwnM.set ?_ (by (repeat (with_reducible refine MachAt.set ?_)); exact unhide HM1) (by omega))
          exact unhide HW
      · have hkq' : ¬ (k : Int) < (q : Int) := by omega
        have hke : k = q := by omega
        have HE : Hid (runM fs q zeroM = ⟨f, p, c, d, st, os⟩) := by
          show _ = _
          rw [← hke, ← unhide HM]
        have HG0 := hide hk
        clear hke
        clear HP HM HG0 HVM
        go_wp2_with fail
        refine (copy_any (⟨f, p, c, d, st, os⟩ : MD) sa oa sc oc _ (by show st.length ≤ 1048576; omega) (by show os.length ≤ 1048576; omega) (spot_row (unhide HO).1) (num_row (unhide HO).2.1)).mono ?_
        rintro e w4 ⟨sv4, ov4, rfl, hO4⟩
        have hB4 := bl_trans (unhide HA1) (bl_trans (unhide HO).2.2 hO4.2.2)
        have hr := box_below (box_below (unhide HR1) (unhide HO).2.2) hO4.2.2
        have xr := box6 hr
        have HM1 : Hid (MachAt w4 w.heap.size) := ⟨_, hr⟩
        obtain ⟨sa4, sc4, rfl, _, _⟩ := spot_form hO4.1
        obtain ⟨oa4, oc4, rfl, _, _⟩ := num_form hO4.2.1
        have HW := hide (own_base hO4 (bl_trans (unhide HA1) (unhide HO).2.2))
        clear hr hO4 HO HR1 HA1 hB4
        unfold aggM
        simp only
        go_wp2_with fail
        refine bodyPost_ret (v := .agg (aggM (⟨f, p, c, d, st, os⟩ : MD) (.slice sa4 st.length sc4) (.slice oa4 os.length oc4))) (by simp [results, Tryz.results16, go_sem, aggM, xr]) rfl ?_
        show ∃ sv ov, _ = Ending.returned (.agg (aggM (runM fs q zeroM) sv ov)) ∧ OwnM w _ sv ov (runM fs q zeroM)
        rw [unhide HE]
        refine ⟨_, _, rfl, ?_⟩
        repeat (with_reducible refine OwnM.set ?_ (by (repeat (with_reducible refine MachAt.set ?_)); exact unhide HM1) (by omega))
        exact unhide HW
end Go.Proofs.YtpcdafifblghiaaGreat.MRunB
