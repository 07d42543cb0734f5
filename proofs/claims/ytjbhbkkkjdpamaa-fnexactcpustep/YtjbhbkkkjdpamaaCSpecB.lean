/- The contracts of the specification's l8Over, l8Call, l8Do, l8Step: one step of a machine of an image (written by mk_cspecb.py). -/
import Derived.Test.YtjbhbkkkjdpamaaCSpec
import Derived.Test.YtjbhbkkkjdpamaaImgOk
import Derived.Deep.RegionHeld3
import Derived.Deep.QuietTactic
import Derived.BigQuiet
namespace Go.Proofs.Ytjbhbkkkjdpamaa.CSpecB
open Go.ChangeShapes Go.WideShapes Go.ChangeAt Go.RowKit Go.Joins Go.WideMaps Go.Maps Go.Deep
open Go.Proofs.Ytjbhbkkkjdpamaa.Base Go.Proofs.Ytjbhbkkkjdpamaa.InsA Go.Proofs.Ytjbhbkkkjdpamaa.Keep Go.Proofs.Ytjbhbkkkjdpamaa.LayN Go.Proofs.Ytjbhbkkkjdpamaa.CellA Go.Proofs.Ytjbhbkkkjdpamaa.Sum Go.Proofs.Ytjbhbkkkjdpamaa.ImgD Go.Proofs.Ytjbhbkkkjdpamaa.ImgOk Go.Proofs.Ytjbhbkkkjdpamaa.CSpec
set_option linter.unusedVariables false
set_option maxRecDepth 100000

set_option maxHeartbeats 1000000 in
theorem l8Over_any (a : Option Addr) (cap : Nat) (l : List CellD) (q : Int) (w : World) (hcap : l.length ≤ cap) (hcm : cap ≤ maxLen) (hq : IsPl l q) (hR : CellRow w a l) :
    Calls Try.prog 112 #[.slice a l.length cap, .int .i64 q] w fun e w' => e = .returned (.int .i64 (overI l q)) ∧ w' = w := by
  obtain ⟨hq0, hq1⟩ := hq
  obtain ⟨b, off, rfl⟩ := hR.get (by omega)
  obtain ⟨c0, c1⟩ := row_at hR hq0 hq1
  have hll : (l.length : Int) ≤ 9223372036854775807 := by unfold maxLen at hcm; omega
  clear hR
  by_cases h8 : (cellOf l q).f = 8
  · have HE : Hid (overI l q = (cellOf l q).p) := by show _ = _; unfold overI; rw [if_pos h8]
    rw [h8] at c0
    generalize (cellOf l q).p = x at *
    clear h8
    obtain ⟨k, rfl⟩ : ∃ k : Nat, q = k := ⟨q.toNat, by omega⟩
    simp only [Int.toNat_natCast] at c0 c1
    go_enter Try.func112, Try.ntmps112
    go_wp2_with fail
    go_ret
    exact ⟨ret_int (unhide HE).symm, rfl⟩
  · have HE : Hid (overI l q = q) := over_over h8
    generalize (cellOf l q).f = x at *
    clear c1
    obtain ⟨k, rfl⟩ : ∃ k : Nat, q = k := ⟨q.toNat, by omega⟩
    simp only [Int.toNat_natCast] at c0
    go_enter Try.func112, Try.ntmps112
    go_wp2_with fail
    go_ret
    exact ⟨ret_int (unhide HE).symm, rfl⟩
theorem res5 (w : World) (o : Obj) (v0 v1 v2 v3 v4 : Value) (t : TypeId) : ((w.alloc o).alloc (.cells #[v0, v1, v2, v3, v4] t)).heap[w.heap.size + 1]? = some (.cells #[v0, v1, v2, v3, v4] t) := by
  have := new_block (w.alloc o) (.cells #[v0, v1, v2, v3, v4] t)
  simpa [World.size_alloc] using this
theorem par5 (w : World) (o2 : Obj) (v0 v1 v2 v3 v4 : Value) (t : TypeId) : ((w.alloc (.cells #[v0, v1, v2, v3, v4] t)).alloc o2).heap[w.heap.size]? = some (.cells #[v0, v1, v2, v3, v4] t) := box_below (new_block w _) (below_alloc1 _ o2)
theorem off_of {w : World} {N : Nat} {C : Array Value} (h : w.heap[N]? = some (Obj.cells C 60)) : OffAt w N := ⟨C, _, h, by decide⟩
/-- A call of a place. -/
def callQ (l : List CellD) (m : CM) (q : Int) : CM := if 5 ≤ m.st.length then { m with d := 2 } else { m with st := m.st ++ [m.p + 1], p := overI l q }
theorem callQ_is (l : List CellD) (m : CM) (n : Int) : callC l m n = callQ l m (m.p + n) := rfl
set_option maxHeartbeats 8000000 in
theorem l8Call_any (W0 : World) (a : Option Addr) (cap : Nat) (l : List CellD) (m : CM) (sv ov : Value) (q : Int) (w : World) (hcap : l.length ≤ cap) (hcm : cap ≤ maxLen) (hF : CellRow W0 a l) (hp0 : 0 ≤ m.p) (hp1 : m.p ≤ 1000) (hq : IsPl l q) (hl : m.st.length ≤ 5) (h : OwnC W0 w sv ov m) :
    Calls Try.prog 145 #[.slice a l.length cap, .agg (aggC m sv ov), .int .i64 q] w fun e w' => CEnd W0 w (callQ l m q) e w' := by
  unfold callQ
  have hsz := h.2.2.2.size
  obtain ⟨sa, sc, rfl, hs1, hs2⟩ := int_form h.1
  obtain ⟨oa, oc, rfl, ho1, ho2⟩ := int_form h.2.1
  unfold aggC
  by_cases h5 : 5 ≤ m.st.length
  · rw [if_pos h5]
    have h5' : (5 : Int) ≤ (m.st.length : Int) := by omega
    have HO := hide h
    clear h h5 hF
    go_enter Try.func145, Try.ntmps145
    go_wp2_with fail
    refine bodyPost_ret (v := .agg (aggC { m with d := 2 } (.slice sa m.st.length sc) (.slice oa m.os.length oc))) (by simp [results, Try.results145, go_sem, aggC]) rfl ⟨_, _, rfl, (unhide HO).below (below_alloc2 _ _ _), Keeps.of (below_alloc2 _ _ _), by simp; omega⟩
  · rw [if_neg h5]
    have h5' : ¬ (5 : Int) ≤ (m.st.length : Int) := by omega
    have ha := below_alloc2 w (.cells #[.int .i64 m.p, .int .i64 m.c, .slice sa m.st.length sc, .slice oa m.os.length oc, .int .i64 m.d] 60) (.cells #[.int .i64 0, .int .i64 0, .slice none 0 0, .slice none 0 0, .int .i64 0] 60)
    obtain ⟨a1, c1, w1, hrun, hO1, hK1, hz1⟩ := st_put (h.below ha) hl (m.p + 1) 23
    have hb := hK1 _ _ _ (par5 w (.cells #[.int .i64 0, .int .i64 0, .slice none 0 0, .slice none 0 0, .int .i64 0] 60) (.int .i64 m.p) (.int .i64 m.c) (.slice sa m.st.length sc) (.slice oa m.os.length oc) (.int .i64 m.d) 60) (by decide)
    have hr := hK1 _ _ _ (res5 w (.cells #[.int .i64 m.p, .int .i64 m.c, .slice sa m.st.length sc, .slice oa m.os.length oc, .int .i64 m.d] 60) (.int .i64 0) (.int .i64 0) (.slice none 0 0) (.slice none 0 0) (.int .i64 0) 60) (by decide)
    have HK := hide ((Keeps.of ha).trans hK1)
    have HM0 := hide (off_of hb)
    have HM1 := hide (off_of hr)
    have HO := hide hO1
    have HF := hide hF
    simp only [World.size_alloc] at hrun
    have HRUN := hide hrun
    have xb := box5 hb
    have xr := box5 hr
    have HXB := hide hb
    have HXR := hide hr
    simp only [World.size_alloc] at hz1
    clear h ha hrun hO1 hK1 hb hr h5 hF
    go_enter Try.func145, Try.ntmps145
    go_wp2_with (at_builtin; refine Lib.wpList_append_run _ rfl _ _ _ _ rfl _ _ rfl rfl _ _ (unhide HRUN) ?_)
    clear xb xr HRUN
    have HO2 : Hid (OwnC W0 (w1.setCell ⟨w.heap.size, 2, none⟩ (.slice a1 (m.st.length + 1) c1)) (.slice a1 (m.st.length + 1) c1) (.slice oa m.os.length oc) { m with st := m.st ++ [m.p + 1] }) := OwnC.set (unhide HO) (unhide HM0) (by omega)
    have HB2 : Hid ((w1.setCell ⟨w.heap.size, 2, none⟩ (.slice a1 (m.st.length + 1) c1)).heap[w.heap.size]? = some (.cells #[.int .i64 m.p, .int .i64 m.c, .slice a1 (m.st.length + 1) c1, .slice oa m.os.length oc, .int .i64 m.d] 60)) := block_setCell (unhide HXB) _
    have HR2 : Hid ((w1.setCell ⟨w.heap.size, 2, none⟩ (.slice a1 (m.st.length + 1) c1)).heap[w.heap.size + 1]? = some (.cells #[.int .i64 0, .int .i64 0, .slice none 0 0, .slice none 0 0, .int .i64 0] 60)) := set_other (unhide HXR) (by omega)
    have HK2 : Hid (Keeps w (w1.setCell ⟨w.heap.size, 2, none⟩ (.slice a1 (m.st.length + 1) c1))) := (unhide HK).set (by omega)
    have hz2 : w.heap.size + 1 + 1 ≤ (w1.setCell ⟨w.heap.size, 2, none⟩ (.slice a1 (m.st.length + 1) c1)).heap.size := by simpa using hz1
    generalize w1.setCell ⟨w.heap.size, 2, none⟩ (.slice a1 (m.st.length + 1) c1) = w2 at *
    clear HO HXB HXR HK HM0 HM1
    refine (l8Over_any a cap l q _ hcap hcm hq ((unhide HF).below (unhide HO2).2.2.2)).mono ?_
    rintro e w3 ⟨rfl, rfl⟩
    have HO3 := HO2
    have hb := unhide HB2
    have hr := unhide HR2
    have HK3 := HK2
    have HM0 := hide (off_of hb)
    have HM1 := hide (off_of hr)
    have xb := box5 hb
    have xr := box5 hr
    clear hb hr HO2 HB2 HR2 HK2
    go_wp2_with fail
    refine bodyPost_ret (v := .agg (aggC { m with st := m.st ++ [m.p + 1], p := overI l q } (.slice a1 (m.st.length + 1) c1) (.slice oa m.os.length oc))) (by simp [results, Try.results145, go_sem, aggC, xr]) rfl ⟨_, _, rfl, ?_, ?_, ?_⟩
    · have hO2 : OwnC W0 w3 (.slice a1 (m.st.length + 1) c1) (.slice oa m.os.length oc) { m with st := m.st ++ [m.p + 1], p := overI l q } := unhide HO3
      repeat (with_reducible refine OwnC.set ?_ (by (repeat (with_reducible refine OffAt.set ?_)); first | exact unhide HM0 | exact unhide HM1) (by omega))
      exact hO2
    · repeat (with_reducible refine Keeps.set ?_ (by omega))
      exact unhide HK3
    · simp; omega
set_option maxHeartbeats 8000000 in
theorem do_full (W0 : World) (a : Option Addr) (cap : Nat) (l : List CellD) (m : CM) (sv ov : Value) (w : World) (hcap : l.length ≤ cap) (hcm : cap ≤ maxLen) (hl8 : l.length ≤ 800) (hF : CellRow W0 a l) (hp : IsPl l m.p) (hsl : m.st.length ≤ 5) (hol : m.os.length ≤ 30) (xp : Int) (hx : cellOf l m.p = ⟨1, xp⟩) (h30 : 30 ≤ m.os.length) (h : OwnC W0 w sv ov m) :
    Calls Try.prog 113 #[.slice a l.length cap, .agg (aggC m sv ov)] w fun e w' => CEnd W0 w ({ m with d := 4 }) e w' := by
  have hsz := h.2.2.2.size
  obtain ⟨sa, sc, rfl, hs1, hs2⟩ := int_form h.1
  obtain ⟨oa, oc, rfl, ho1, ho2⟩ := int_form h.2.1
  unfold aggC
  obtain ⟨hp0, hp1⟩ := hp
  have hlz : (l.length : Int) ≤ 800 := by omega
  have hp2 : m.p ≤ 1000 := by omega
  have hsl' : (m.st.length : Int) ≤ 5 := by omega
  have hol' : (m.os.length : Int) ≤ 30 := by omega
  obtain ⟨b, off, rfl⟩ := hF.get (by omega)
  have ha2 := below_alloc2 w (.cells #[.int .i64 m.p, .int .i64 m.c, .slice sa m.st.length sc, .slice oa m.os.length oc, .int .i64 m.d] 60) (.cells #[.int .i64 0, .int .i64 0, .slice none 0 0, .slice none 0 0, .int .i64 0] 60)
  obtain ⟨c0, c1⟩ := row_at (hF.below (bl_trans h.2.2.2 ha2)) hp0 hp1
  rw [hx] at c0 c1
  dsimp only at c0 c1
  have ha := below_alloc3 w (.cells #[.int .i64 m.p, .int .i64 m.c, .slice sa m.st.length sc, .slice oa m.os.length oc, .int .i64 m.d] 60) (.cells #[.int .i64 0, .int .i64 0, .slice none 0 0, .slice none 0 0, .int .i64 0] 60) (.cells #[.int .i64 1, .int .i64 xp] 85)
  have HB := hide (box_below (par5 w (.cells #[.int .i64 0, .int .i64 0, .slice none 0 0, .slice none 0 0, .int .i64 0] 60) (.int .i64 m.p) (.int .i64 m.c) (.slice sa m.st.length sc) (.slice oa m.os.length oc) (.int .i64 m.d) 60) (below_alloc1 _ (.cells #[.int .i64 1, .int .i64 xp] 85)))
  have HR := hide (box_below (res5 w (.cells #[.int .i64 m.p, .int .i64 m.c, .slice sa m.st.length sc, .slice oa m.os.length oc, .int .i64 m.d] 60) (.int .i64 0) (.int .i64 0) (.slice none 0 0) (.slice none 0 0) (.int .i64 0) 60) (below_alloc1 _ (.cells #[.int .i64 1, .int .i64 xp] 85)))
  have HO := hide (h.below ha)
  have HO0 := hide h
  have HK := hide (Keeps.of ha)
  have HF := hide hF
  clear h ha ha2 hF hx
  obtain ⟨mp, mc, md, st, os⟩ := m
  dsimp only at *
  obtain ⟨k, rfl⟩ : ∃ k : Nat, mp = k := ⟨mp.toNat, by omega⟩
  simp only [Int.toNat_natCast] at c0 c1
  have h30' : (30 : Int) ≤ (os.length : Int) := by omega
  go_enter Try.func113, Try.ntmps113
  go_wp2_with fail
  refine bodyPost_ret (v := .agg (aggC (⟨(k : Int), mc, 4, st, os⟩ : CM) (.slice sa st.length sc) (.slice oa os.length oc))) (by simp [results, Try.results113, go_sem, aggC]) rfl ⟨_, _, rfl, ?_, Keeps.of (below_alloc3 _ _ _ _), by simp; omega⟩
  exact OwnC.below (m := (⟨(k : Int), mc, 4, st, os⟩ : CM)) (by exact unhide HO0) (below_alloc3 _ _ _ _)

set_option maxHeartbeats 8000000 in
theorem do_say (W0 : World) (a : Option Addr) (cap : Nat) (l : List CellD) (m : CM) (sv ov : Value) (w : World) (hcap : l.length ≤ cap) (hcm : cap ≤ maxLen) (hl8 : l.length ≤ 800) (hF : CellRow W0 a l) (hp : IsPl l m.p) (hsl : m.st.length ≤ 5) (hol : m.os.length ≤ 30) (xp : Int) (hx : cellOf l m.p = ⟨1, xp⟩) (h30 : ¬ 30 ≤ m.os.length) (hN : IsPl l (m.p + 1)) (h : OwnC W0 w sv ov m) :
    Calls Try.prog 113 #[.slice a l.length cap, .agg (aggC m sv ov)] w fun e w' => CEnd W0 w ({ m with os := m.os ++ [m.c], p := overI l (m.p + 1) }) e w' := by
  have hsz := h.2.2.2.size
  obtain ⟨sa, sc, rfl, hs1, hs2⟩ := int_form h.1
  obtain ⟨oa, oc, rfl, ho1, ho2⟩ := int_form h.2.1
  unfold aggC
  obtain ⟨hp0, hp1⟩ := hp
  have hlz : (l.length : Int) ≤ 800 := by omega
  have hp2 : m.p ≤ 1000 := by omega
  have hsl' : (m.st.length : Int) ≤ 5 := by omega
  have hol' : (m.os.length : Int) ≤ 30 := by omega
  obtain ⟨b, off, rfl⟩ := hF.get (by omega)
  have ha2 := below_alloc2 w (.cells #[.int .i64 m.p, .int .i64 m.c, .slice sa m.st.length sc, .slice oa m.os.length oc, .int .i64 m.d] 60) (.cells #[.int .i64 0, .int .i64 0, .slice none 0 0, .slice none 0 0, .int .i64 0] 60)
  obtain ⟨c0, c1⟩ := row_at (hF.below (bl_trans h.2.2.2 ha2)) hp0 hp1
  rw [hx] at c0 c1
  dsimp only at c0 c1
  have ha := below_alloc3 w (.cells #[.int .i64 m.p, .int .i64 m.c, .slice sa m.st.length sc, .slice oa m.os.length oc, .int .i64 m.d] 60) (.cells #[.int .i64 0, .int .i64 0, .slice none 0 0, .slice none 0 0, .int .i64 0] 60) (.cells #[.int .i64 1, .int .i64 xp] 85)
  have HB := hide (box_below (par5 w (.cells #[.int .i64 0, .int .i64 0, .slice none 0 0, .slice none 0 0, .int .i64 0] 60) (.int .i64 m.p) (.int .i64 m.c) (.slice sa m.st.length sc) (.slice oa m.os.length oc) (.int .i64 m.d) 60) (below_alloc1 _ (.cells #[.int .i64 1, .int .i64 xp] 85)))
  have HR := hide (box_below (res5 w (.cells #[.int .i64 m.p, .int .i64 m.c, .slice sa m.st.length sc, .slice oa m.os.length oc, .int .i64 m.d] 60) (.int .i64 0) (.int .i64 0) (.slice none 0 0) (.slice none 0 0) (.int .i64 0) 60) (below_alloc1 _ (.cells #[.int .i64 1, .int .i64 xp] 85)))
  have HO := hide (h.below ha)
  have HO0 := hide h
  have HK := hide (Keeps.of ha)
  have HF := hide hF
  clear h ha ha2 hF hx
  obtain ⟨mp, mc, md, st, os⟩ := m
  dsimp only at *
  obtain ⟨k, rfl⟩ : ∃ k : Nat, mp = k := ⟨mp.toNat, by omega⟩
  simp only [Int.toNat_natCast] at c0 c1
  have h30' : ¬ (30 : Int) ≤ (os.length : Int) := by omega
  obtain ⟨a1, c1', w1, hrun, hO1, hK1, hz1⟩ := os_put (unhide HO) hol mc 23
  have hb := hK1 _ _ _ (unhide HB) (by decide)
  have hr := hK1 _ _ _ (unhide HR) (by decide)
  have HK1 := hide ((unhide HK).trans hK1)
  have HM0 := hide (off_of hb)
  have HM1 := hide (off_of hr)
  have HO1 := hide hO1
  simp only [World.size_alloc] at hrun hz1
  have HRUN := hide hrun
  have xb := box5 hb
  have xr := box5 hr
  have HXB := hide hb
  have HXR := hide hr
  clear hrun hO1 hK1 hb hr h30 HO HK HB HR
  go_enter Try.func113, Try.ntmps113
  go_wp2_with (at_builtin; refine Lib.wpList_append_run _ rfl _ _ _ _ rfl _ _ rfl rfl _ _ (unhide HRUN) ?_)
  clear xb xr HRUN
  have HO3 : Hid (OwnC W0 (w1.setCell ⟨w.heap.size, 3, none⟩ (.slice a1 (os.length + 1) c1')) (.slice sa st.length sc) (.slice a1 (os.length + 1) c1') (⟨(k : Int), mc, md, st, os ++ [mc]⟩ : CM)) := OwnC.set (unhide HO1) (unhide HM0) (by omega)
  have hb := hide (show (w1.setCell ⟨w.heap.size, 3, none⟩ (.slice a1 (os.length + 1) c1')).heap[w.heap.size]? = some (.cells #[.int .i64 (k : Int), .int .i64 mc, .slice sa st.length sc, .slice a1 (os.length + 1) c1', .int .i64 md] 60) from block_setCell (unhide HXB) _)
  have hr := hide (show (w1.setCell ⟨w.heap.size, 3, none⟩ (.slice a1 (os.length + 1) c1')).heap[w.heap.size + 1]? = some (.cells #[.int .i64 0, .int .i64 0, .slice none 0 0, .slice none 0 0, .int .i64 0] 60) from set_other (unhide HXR) (by omega))
  have HK3 : Hid (Keeps w (w1.setCell ⟨w.heap.size, 3, none⟩ (.slice a1 (os.length + 1) c1'))) := (unhide HK1).set (by omega)
  have hz2 : w.heap.size + 1 + 1 + 1 ≤ (w1.setCell ⟨w.heap.size, 3, none⟩ (.slice a1 (os.length + 1) c1')).heap.size := by simpa using hz1
  generalize w1.setCell ⟨w.heap.size, 3, none⟩ (.slice a1 (os.length + 1) c1') = w2 at *
  clear HO1 HXB HXR HK1 HM0 HM1
  have xb := box5 (unhide hb)
  have xr := box5 (unhide hr)
  have HM0 := hide (off_of (unhide hb))
  have HM1 := hide (off_of (unhide hr))
  refine (l8Over_any (some ⟨b, off, none⟩) cap l _ _ hcap hcm hN ((unhide HF).below (unhide HO3).2.2.2)).mono ?_
  rintro e w3 ⟨rfl, rfl⟩
  clear hb hr
  go_wp2_with fail
  refine bodyPost_ret (v := .agg (aggC (⟨overI l ((k : Int) + 1), mc, md, st, os ++ [mc]⟩ : CM) (.slice sa st.length sc) (.slice a1 (os.length + 1) c1'))) (by simp [results, Try.results113, go_sem, aggC, xr]) rfl ⟨_, _, rfl, ?_, ?_, ?_⟩
  · have hO2 : OwnC W0 w3 (.slice sa st.length sc) (.slice a1 (os.length + 1) c1') (⟨overI l ((k : Int) + 1), mc, md, st, os ++ [mc]⟩ : CM) := unhide HO3
    repeat (with_reducible refine OwnC.set ?_ (by (repeat (with_reducible refine OffAt.set ?_)); first | exact unhide HM0 | exact unhide HM1) (by omega))
    exact hO2
  · repeat (with_reducible refine Keeps.set ?_ (by omega))
    exact unhide HK3
  · simp; omega

set_option maxHeartbeats 8000000 in
theorem do_add (W0 : World) (a : Option Addr) (cap : Nat) (l : List CellD) (m : CM) (sv ov : Value) (w : World) (hcap : l.length ≤ cap) (hcm : cap ≤ maxLen) (hl8 : l.length ≤ 800) (hF : CellRow W0 a l) (hp : IsPl l m.p) (hsl : m.st.length ≤ 5) (hol : m.os.length ≤ 30) (xp : Int) (hx : cellOf l m.p = ⟨2, xp⟩) (hN : IsPl l (m.p + 1)) (h : OwnC W0 w sv ov m) :
    Calls Try.prog 113 #[.slice a l.length cap, .agg (aggC m sv ov)] w fun e w' => CEnd W0 w ({ m with c := sumI m.c xp, p := overI l (m.p + 1) }) e w' := by
  have hsz := h.2.2.2.size
  obtain ⟨sa, sc, rfl, hs1, hs2⟩ := int_form h.1
  obtain ⟨oa, oc, rfl, ho1, ho2⟩ := int_form h.2.1
  unfold aggC
  obtain ⟨hp0, hp1⟩ := hp
  have hlz : (l.length : Int) ≤ 800 := by omega
  have hp2 : m.p ≤ 1000 := by omega
  have hsl' : (m.st.length : Int) ≤ 5 := by omega
  have hol' : (m.os.length : Int) ≤ 30 := by omega
  obtain ⟨b, off, rfl⟩ := hF.get (by omega)
  have ha2 := below_alloc2 w (.cells #[.int .i64 m.p, .int .i64 m.c, .slice sa m.st.length sc, .slice oa m.os.length oc, .int .i64 m.d] 60) (.cells #[.int .i64 0, .int .i64 0, .slice none 0 0, .slice none 0 0, .int .i64 0] 60)
  obtain ⟨c0, c1⟩ := row_at (hF.below (bl_trans h.2.2.2 ha2)) hp0 hp1
  rw [hx] at c0 c1
  dsimp only at c0 c1
  have ha := below_alloc3 w (.cells #[.int .i64 m.p, .int .i64 m.c, .slice sa m.st.length sc, .slice oa m.os.length oc, .int .i64 m.d] 60) (.cells #[.int .i64 0, .int .i64 0, .slice none 0 0, .slice none 0 0, .int .i64 0] 60) (.cells #[.int .i64 2, .int .i64 xp] 85)
  have HB := hide (box_below (par5 w (.cells #[.int .i64 0, .int .i64 0, .slice none 0 0, .slice none 0 0, .int .i64 0] 60) (.int .i64 m.p) (.int .i64 m.c) (.slice sa m.st.length sc) (.slice oa m.os.length oc) (.int .i64 m.d) 60) (below_alloc1 _ (.cells #[.int .i64 2, .int .i64 xp] 85)))
  have HR := hide (box_below (res5 w (.cells #[.int .i64 m.p, .int .i64 m.c, .slice sa m.st.length sc, .slice oa m.os.length oc, .int .i64 m.d] 60) (.int .i64 0) (.int .i64 0) (.slice none 0 0) (.slice none 0 0) (.int .i64 0) 60) (below_alloc1 _ (.cells #[.int .i64 2, .int .i64 xp] 85)))
  have HO := hide (h.below ha)
  have HO0 := hide h
  have HK := hide (Keeps.of ha)
  have HF := hide hF
  clear h ha ha2 hF hx
  obtain ⟨mp, mc, md, st, os⟩ := m
  dsimp only at *
  obtain ⟨k, rfl⟩ : ∃ k : Nat, mp = k := ⟨mp.toNat, by omega⟩
  simp only [Int.toNat_natCast] at c0 c1
  go_enter Try.func113, Try.ntmps113
  go_wp2_with fail
  refine (specInsSum_any mc xp _).mono ?_
  rintro e w2 ⟨rfl, rfl⟩
  go_wp2_with fail
  refine (l8Over_any (some ⟨b, off, none⟩) cap l _ _ hcap hcm hN ((unhide HF).below (bl_trans (unhide HO0).2.2.2 (below_alloc3 _ _ _ _)))).mono ?_
  rintro e w3 ⟨rfl, rfl⟩
  go_wp2_with fail
  refine bodyPost_ret (v := .agg (aggC (⟨overI l ((k : Int) + 1), sumI mc xp, md, st, os⟩ : CM) (.slice sa st.length sc) (.slice oa os.length oc))) (by simp [results, Try.results113, go_sem, aggC]) rfl ⟨_, _, rfl, ?_, Keeps.of (below_alloc3 _ _ _ _), by simp; omega⟩
  exact OwnC.below (m := (⟨overI l ((k : Int) + 1), sumI mc xp, md, st, os⟩ : CM)) (by exact unhide HO0) (below_alloc3 _ _ _ _)

set_option maxHeartbeats 8000000 in
theorem do_go (W0 : World) (a : Option Addr) (cap : Nat) (l : List CellD) (m : CM) (sv ov : Value) (w : World) (hcap : l.length ≤ cap) (hcm : cap ≤ maxLen) (hl8 : l.length ≤ 800) (hF : CellRow W0 a l) (hp : IsPl l m.p) (hsl : m.st.length ≤ 5) (hol : m.os.length ≤ 30) (xp : Int) (hx : cellOf l m.p = ⟨4, xp⟩) (hxp : -1000 ≤ xp ∧ xp ≤ 1000) (hQ : IsPl l (m.p + xp)) (h : OwnC W0 w sv ov m) :
    Calls Try.prog 113 #[.slice a l.length cap, .agg (aggC m sv ov)] w fun e w' => CEnd W0 w ({ m with p := overI l (m.p + xp) }) e w' := by
  have hsz := h.2.2.2.size
  obtain ⟨sa, sc, rfl, hs1, hs2⟩ := int_form h.1
  obtain ⟨oa, oc, rfl, ho1, ho2⟩ := int_form h.2.1
  unfold aggC
  obtain ⟨hp0, hp1⟩ := hp
  have hlz : (l.length : Int) ≤ 800 := by omega
  have hp2 : m.p ≤ 1000 := by omega
  have hsl' : (m.st.length : Int) ≤ 5 := by omega
  have hol' : (m.os.length : Int) ≤ 30 := by omega
  obtain ⟨b, off, rfl⟩ := hF.get (by omega)
  have ha2 := below_alloc2 w (.cells #[.int .i64 m.p, .int .i64 m.c, .slice sa m.st.length sc, .slice oa m.os.length oc, .int .i64 m.d] 60) (.cells #[.int .i64 0, .int .i64 0, .slice none 0 0, .slice none 0 0, .int .i64 0] 60)
  obtain ⟨c0, c1⟩ := row_at (hF.below (bl_trans h.2.2.2 ha2)) hp0 hp1
  rw [hx] at c0 c1
  dsimp only at c0 c1
  have ha := below_alloc3 w (.cells #[.int .i64 m.p, .int .i64 m.c, .slice sa m.st.length sc, .slice oa m.os.length oc, .int .i64 m.d] 60) (.cells #[.int .i64 0, .int .i64 0, .slice none 0 0, .slice none 0 0, .int .i64 0] 60) (.cells #[.int .i64 4, .int .i64 xp] 85)
  have HB := hide (box_below (par5 w (.cells #[.int .i64 0, .int .i64 0, .slice none 0 0, .slice none 0 0, .int .i64 0] 60) (.int .i64 m.p) (.int .i64 m.c) (.slice sa m.st.length sc) (.slice oa m.os.length oc) (.int .i64 m.d) 60) (below_alloc1 _ (.cells #[.int .i64 4, .int .i64 xp] 85)))
  have HR := hide (box_below (res5 w (.cells #[.int .i64 m.p, .int .i64 m.c, .slice sa m.st.length sc, .slice oa m.os.length oc, .int .i64 m.d] 60) (.int .i64 0) (.int .i64 0) (.slice none 0 0) (.slice none 0 0) (.int .i64 0) 60) (below_alloc1 _ (.cells #[.int .i64 4, .int .i64 xp] 85)))
  have HO := hide (h.below ha)
  have HO0 := hide h
  have HK := hide (Keeps.of ha)
  have HF := hide hF
  clear h ha ha2 hF hx
  obtain ⟨mp, mc, md, st, os⟩ := m
  dsimp only at *
  obtain ⟨k, rfl⟩ : ∃ k : Nat, mp = k := ⟨mp.toNat, by omega⟩
  simp only [Int.toNat_natCast] at c0 c1
  obtain ⟨hx0, hx1⟩ := hxp
  go_enter Try.func113, Try.ntmps113
  go_wp2_with fail
  refine (l8Over_any (some ⟨b, off, none⟩) cap l _ _ hcap hcm hQ ((unhide HF).below (bl_trans (unhide HO0).2.2.2 (below_alloc3 _ _ _ _)))).mono ?_
  rintro e w3 ⟨rfl, rfl⟩
  go_wp2_with fail
  refine bodyPost_ret (v := .agg (aggC (⟨overI l ((k : Int) + xp), mc, md, st, os⟩ : CM) (.slice sa st.length sc) (.slice oa os.length oc))) (by simp [results, Try.results113, go_sem, aggC]) rfl ⟨_, _, rfl, ?_, Keeps.of (below_alloc3 _ _ _ _), by simp; omega⟩
  exact OwnC.below (m := (⟨overI l ((k : Int) + xp), mc, md, st, os⟩ : CM)) (by exact unhide HO0) (below_alloc3 _ _ _ _)

set_option maxHeartbeats 8000000 in
theorem do_if (W0 : World) (a : Option Addr) (cap : Nat) (l : List CellD) (m : CM) (sv ov : Value) (w : World) (hcap : l.length ≤ cap) (hcm : cap ≤ maxLen) (hl8 : l.length ≤ 800) (hF : CellRow W0 a l) (hp : IsPl l m.p) (hsl : m.st.length ≤ 5) (hol : m.os.length ≤ 30) (xp : Int) (hx : cellOf l m.p = ⟨5, xp⟩) (hc : 0 < m.c) (hxp : -1000 ≤ xp ∧ xp ≤ 1000) (hQ : IsPl l (m.p + xp)) (h : OwnC W0 w sv ov m) :
    Calls Try.prog 113 #[.slice a l.length cap, .agg (aggC m sv ov)] w fun e w' => CEnd W0 w ({ m with p := overI l (m.p + xp) }) e w' := by
  have hsz := h.2.2.2.size
  obtain ⟨sa, sc, rfl, hs1, hs2⟩ := int_form h.1
  obtain ⟨oa, oc, rfl, ho1, ho2⟩ := int_form h.2.1
  unfold aggC
  obtain ⟨hp0, hp1⟩ := hp
  have hlz : (l.length : Int) ≤ 800 := by omega
  have hp2 : m.p ≤ 1000 := by omega
  have hsl' : (m.st.length : Int) ≤ 5 := by omega
  have hol' : (m.os.length : Int) ≤ 30 := by omega
  obtain ⟨b, off, rfl⟩ := hF.get (by omega)
  have ha2 := below_alloc2 w (.cells #[.int .i64 m.p, .int .i64 m.c, .slice sa m.st.length sc, .slice oa m.os.length oc, .int .i64 m.d] 60) (.cells #[.int .i64 0, .int .i64 0, .slice none 0 0, .slice none 0 0, .int .i64 0] 60)
  obtain ⟨c0, c1⟩ := row_at (hF.below (bl_trans h.2.2.2 ha2)) hp0 hp1
  rw [hx] at c0 c1
  dsimp only at c0 c1
  have ha := below_alloc3 w (.cells #[.int .i64 m.p, .int .i64 m.c, .slice sa m.st.length sc, .slice oa m.os.length oc, .int .i64 m.d] 60) (.cells #[.int .i64 0, .int .i64 0, .slice none 0 0, .slice none 0 0, .int .i64 0] 60) (.cells #[.int .i64 5, .int .i64 xp] 85)
  have HB := hide (box_below (par5 w (.cells #[.int .i64 0, .int .i64 0, .slice none 0 0, .slice none 0 0, .int .i64 0] 60) (.int .i64 m.p) (.int .i64 m.c) (.slice sa m.st.length sc) (.slice oa m.os.length oc) (.int .i64 m.d) 60) (below_alloc1 _ (.cells #[.int .i64 5, .int .i64 xp] 85)))
  have HR := hide (box_below (res5 w (.cells #[.int .i64 m.p, .int .i64 m.c, .slice sa m.st.length sc, .slice oa m.os.length oc, .int .i64 m.d] 60) (.int .i64 0) (.int .i64 0) (.slice none 0 0) (.slice none 0 0) (.int .i64 0) 60) (below_alloc1 _ (.cells #[.int .i64 5, .int .i64 xp] 85)))
  have HO := hide (h.below ha)
  have HO0 := hide h
  have HK := hide (Keeps.of ha)
  have HF := hide hF
  clear h ha ha2 hF hx
  obtain ⟨mp, mc, md, st, os⟩ := m
  dsimp only at *
  obtain ⟨k, rfl⟩ : ∃ k : Nat, mp = k := ⟨mp.toNat, by omega⟩
  simp only [Int.toNat_natCast] at c0 c1
  obtain ⟨hx0, hx1⟩ := hxp
  go_enter Try.func113, Try.ntmps113
  go_wp2_with fail
  refine (l8Over_any (some ⟨b, off, none⟩) cap l _ _ hcap hcm hQ ((unhide HF).below (bl_trans (unhide HO0).2.2.2 (below_alloc3 _ _ _ _)))).mono ?_
  rintro e w3 ⟨rfl, rfl⟩
  go_wp2_with fail
  refine bodyPost_ret (v := .agg (aggC (⟨overI l ((k : Int) + xp), mc, md, st, os⟩ : CM) (.slice sa st.length sc) (.slice oa os.length oc))) (by simp [results, Try.results113, go_sem, aggC]) rfl ⟨_, _, rfl, ?_, Keeps.of (below_alloc3 _ _ _ _), by simp; omega⟩
  exact OwnC.below (m := (⟨overI l ((k : Int) + xp), mc, md, st, os⟩ : CM)) (by exact unhide HO0) (below_alloc3 _ _ _ _)

set_option maxHeartbeats 8000000 in
theorem do_not (W0 : World) (a : Option Addr) (cap : Nat) (l : List CellD) (m : CM) (sv ov : Value) (w : World) (hcap : l.length ≤ cap) (hcm : cap ≤ maxLen) (hl8 : l.length ≤ 800) (hF : CellRow W0 a l) (hp : IsPl l m.p) (hsl : m.st.length ≤ 5) (hol : m.os.length ≤ 30) (xp : Int) (hx : cellOf l m.p = ⟨5, xp⟩) (hc : ¬ 0 < m.c) (hQ : IsPl l (m.p + 1)) (h : OwnC W0 w sv ov m) :
    Calls Try.prog 113 #[.slice a l.length cap, .agg (aggC m sv ov)] w fun e w' => CEnd W0 w ({ m with p := overI l (m.p + 1) }) e w' := by
  have hsz := h.2.2.2.size
  obtain ⟨sa, sc, rfl, hs1, hs2⟩ := int_form h.1
  obtain ⟨oa, oc, rfl, ho1, ho2⟩ := int_form h.2.1
  unfold aggC
  obtain ⟨hp0, hp1⟩ := hp
  have hlz : (l.length : Int) ≤ 800 := by omega
  have hp2 : m.p ≤ 1000 := by omega
  have hsl' : (m.st.length : Int) ≤ 5 := by omega
  have hol' : (m.os.length : Int) ≤ 30 := by omega
  obtain ⟨b, off, rfl⟩ := hF.get (by omega)
  have ha2 := below_alloc2 w (.cells #[.int .i64 m.p, .int .i64 m.c, .slice sa m.st.length sc, .slice oa m.os.length oc, .int .i64 m.d] 60) (.cells #[.int .i64 0, .int .i64 0, .slice none 0 0, .slice none 0 0, .int .i64 0] 60)
  obtain ⟨c0, c1⟩ := row_at (hF.below (bl_trans h.2.2.2 ha2)) hp0 hp1
  rw [hx] at c0 c1
  dsimp only at c0 c1
  have ha := below_alloc3 w (.cells #[.int .i64 m.p, .int .i64 m.c, .slice sa m.st.length sc, .slice oa m.os.length oc, .int .i64 m.d] 60) (.cells #[.int .i64 0, .int .i64 0, .slice none 0 0, .slice none 0 0, .int .i64 0] 60) (.cells #[.int .i64 5, .int .i64 xp] 85)
  have HB := hide (box_below (par5 w (.cells #[.int .i64 0, .int .i64 0, .slice none 0 0, .slice none 0 0, .int .i64 0] 60) (.int .i64 m.p) (.int .i64 m.c) (.slice sa m.st.length sc) (.slice oa m.os.length oc) (.int .i64 m.d) 60) (below_alloc1 _ (.cells #[.int .i64 5, .int .i64 xp] 85)))
  have HR := hide (box_below (res5 w (.cells #[.int .i64 m.p, .int .i64 m.c, .slice sa m.st.length sc, .slice oa m.os.length oc, .int .i64 m.d] 60) (.int .i64 0) (.int .i64 0) (.slice none 0 0) (.slice none 0 0) (.int .i64 0) 60) (below_alloc1 _ (.cells #[.int .i64 5, .int .i64 xp] 85)))
  have HO := hide (h.below ha)
  have HO0 := hide h
  have HK := hide (Keeps.of ha)
  have HF := hide hF
  clear h ha ha2 hF hx
  obtain ⟨mp, mc, md, st, os⟩ := m
  dsimp only at *
  obtain ⟨k, rfl⟩ : ∃ k : Nat, mp = k := ⟨mp.toNat, by omega⟩
  simp only [Int.toNat_natCast] at c0 c1
  go_enter Try.func113, Try.ntmps113
  go_wp2_with fail
  refine (l8Over_any (some ⟨b, off, none⟩) cap l _ _ hcap hcm hQ ((unhide HF).below (bl_trans (unhide HO0).2.2.2 (below_alloc3 _ _ _ _)))).mono ?_
  rintro e w3 ⟨rfl, rfl⟩
  go_wp2_with fail
  refine bodyPost_ret (v := .agg (aggC (⟨overI l ((k : Int) + 1), mc, md, st, os⟩ : CM) (.slice sa st.length sc) (.slice oa os.length oc))) (by simp [results, Try.results113, go_sem, aggC]) rfl ⟨_, _, rfl, ?_, Keeps.of (below_alloc3 _ _ _ _), by simp; omega⟩
  exact OwnC.below (m := (⟨overI l ((k : Int) + 1), mc, md, st, os⟩ : CM)) (by exact unhide HO0) (below_alloc3 _ _ _ _)

set_option maxHeartbeats 8000000 in
theorem do_call (W0 : World) (a : Option Addr) (cap : Nat) (l : List CellD) (m : CM) (sv ov : Value) (w : World) (hcap : l.length ≤ cap) (hcm : cap ≤ maxLen) (hl8 : l.length ≤ 800) (hF : CellRow W0 a l) (hp : IsPl l m.p) (hsl : m.st.length ≤ 5) (hol : m.os.length ≤ 30) (xp : Int) (hx : cellOf l m.p = ⟨3, xp⟩) (hxp : -1000 ≤ xp ∧ xp ≤ 1000) (hQ : IsPl l (m.p + xp)) (h : OwnC W0 w sv ov m) :
    Calls Try.prog 113 #[.slice a l.length cap, .agg (aggC m sv ov)] w fun e w' => CEnd W0 w (callC l m xp) e w' := by
  have hsz := h.2.2.2.size
  obtain ⟨sa, sc, rfl, hs1, hs2⟩ := int_form h.1
  obtain ⟨oa, oc, rfl, ho1, ho2⟩ := int_form h.2.1
  unfold aggC
  obtain ⟨hp0, hp1⟩ := hp
  have hlz : (l.length : Int) ≤ 800 := by omega
  have hp2 : m.p ≤ 1000 := by omega
  have hsl' : (m.st.length : Int) ≤ 5 := by omega
  have hol' : (m.os.length : Int) ≤ 30 := by omega
  obtain ⟨b, off, rfl⟩ := hF.get (by omega)
  have ha2 := below_alloc2 w (.cells #[.int .i64 m.p, .int .i64 m.c, .slice sa m.st.length sc, .slice oa m.os.length oc, .int .i64 m.d] 60) (.cells #[.int .i64 0, .int .i64 0, .slice none 0 0, .slice none 0 0, .int .i64 0] 60)
  obtain ⟨c0, c1⟩ := row_at (hF.below (bl_trans h.2.2.2 ha2)) hp0 hp1
  rw [hx] at c0 c1
  dsimp only at c0 c1
  have ha := below_alloc3 w (.cells #[.int .i64 m.p, .int .i64 m.c, .slice sa m.st.length sc, .slice oa m.os.length oc, .int .i64 m.d] 60) (.cells #[.int .i64 0, .int .i64 0, .slice none 0 0, .slice none 0 0, .int .i64 0] 60) (.cells #[.int .i64 3, .int .i64 xp] 85)
  have HB := hide (box_below (par5 w (.cells #[.int .i64 0, .int .i64 0, .slice none 0 0, .slice none 0 0, .int .i64 0] 60) (.int .i64 m.p) (.int .i64 m.c) (.slice sa m.st.length sc) (.slice oa m.os.length oc) (.int .i64 m.d) 60) (below_alloc1 _ (.cells #[.int .i64 3, .int .i64 xp] 85)))
  have HR := hide (box_below (res5 w (.cells #[.int .i64 m.p, .int .i64 m.c, .slice sa m.st.length sc, .slice oa m.os.length oc, .int .i64 m.d] 60) (.int .i64 0) (.int .i64 0) (.slice none 0 0) (.slice none 0 0) (.int .i64 0) 60) (below_alloc1 _ (.cells #[.int .i64 3, .int .i64 xp] 85)))
  have HO := hide (h.below ha)
  have HO0 := hide h
  have HK := hide (Keeps.of ha)
  have HF := hide hF
  clear h ha ha2 hF hx
  obtain ⟨mp, mc, md, st, os⟩ := m
  dsimp only at *
  obtain ⟨k, rfl⟩ : ∃ k : Nat, mp = k := ⟨mp.toNat, by omega⟩
  simp only [Int.toNat_natCast] at c0 c1
  obtain ⟨hx0, hx1⟩ := hxp
  go_enter Try.func113, Try.ntmps113
  go_wp2_with fail
  refine (l8Call_any W0 (some ⟨b, off, none⟩) cap l (⟨(k : Int), mc, md, st, os⟩ : CM) (.slice sa st.length sc) (.slice oa os.length oc) ((k : Int) + xp) _ hcap hcm (unhide HF) hp0 hp2 hQ hsl (unhide HO)).mono ?_
  rintro e w1 ⟨sv1, ov1, rfl, hO1, hK1, hz1⟩
  obtain ⟨sa1, sc1, rfl, _, _⟩ := int_form hO1.1
  obtain ⟨oa1, oc1, rfl, _, _⟩ := int_form hO1.2.1
  have hr := hK1 _ _ _ (unhide HR) (by decide)
  have xr := box5 hr
  have HM1 := hide (off_of hr)
  have HM0 := HM1
  have HO3 := hide hO1
  have HK3 := hide ((unhide HK).trans hK1)
  simp only [World.size_alloc] at hz1
  clear hr hO1 hK1 HO HK HB HR HO0
  generalize hme : callQ l (⟨(k : Int), mc, md, st, os⟩ : CM) ((k : Int) + xp) = m1 at *
  have HME := hide hme
  clear hme
  unfold aggC
  go_wp2_with fail
  refine bodyPost_ret (v := .agg (aggC m1 (.slice sa1 m1.st.length sc1) (.slice oa1 m1.os.length oc1))) (by simp [results, Try.results113, go_sem, aggC, xr]) rfl ?_
  show CEnd W0 w (callC l (⟨(k : Int), mc, md, st, os⟩ : CM) xp) _ _
  rw [callQ_is]
  show CEnd W0 w (callQ l (⟨(k : Int), mc, md, st, os⟩ : CM) ((k : Int) + xp)) _ _
  rw [unhide HME]
  refine ⟨_, _, rfl, ?_, ?_, ?_⟩
  · repeat (with_reducible refine OwnC.set ?_ (by (repeat (with_reducible refine OffAt.set ?_)); exact unhide HM1) (by omega))
    exact unhide HO3
  · repeat (with_reducible refine Keeps.set ?_ (by omega))
    exact unhide HK3
  · simp; omega
set_option maxHeartbeats 8000000 in
theorem do_off (W0 : World) (a : Option Addr) (cap : Nat) (l : List CellD) (m : CM) (sv ov : Value) (w : World) (hcap : l.length ≤ cap) (hcm : cap ≤ maxLen) (hl8 : l.length ≤ 800) (hF : CellRow W0 a l) (hp : IsPl l m.p) (hsl : m.st.length ≤ 5) (hol : m.os.length ≤ 30) (xp : Int) (hx : cellOf l m.p = ⟨6, xp⟩) (hn : m.st = []) (h : OwnC W0 w sv ov m) :
    Calls Try.prog 113 #[.slice a l.length cap, .agg (aggC m sv ov)] w fun e w' => CEnd W0 w ({ m with d := 3 }) e w' := by
  have hsz := h.2.2.2.size
  obtain ⟨sa, sc, rfl, hs1, hs2⟩ := int_form h.1
  obtain ⟨oa, oc, rfl, ho1, ho2⟩ := int_form h.2.1
  unfold aggC
  obtain ⟨hp0, hp1⟩ := hp
  have hlz : (l.length : Int) ≤ 800 := by omega
  have hp2 : m.p ≤ 1000 := by omega
  have hsl' : (m.st.length : Int) ≤ 5 := by omega
  have hol' : (m.os.length : Int) ≤ 30 := by omega
  obtain ⟨b, off, rfl⟩ := hF.get (by omega)
  have ha2 := below_alloc2 w (.cells #[.int .i64 m.p, .int .i64 m.c, .slice sa m.st.length sc, .slice oa m.os.length oc, .int .i64 m.d] 60) (.cells #[.int .i64 0, .int .i64 0, .slice none 0 0, .slice none 0 0, .int .i64 0] 60)
  obtain ⟨c0, c1⟩ := row_at (hF.below (bl_trans h.2.2.2 ha2)) hp0 hp1
  rw [hx] at c0 c1
  dsimp only at c0 c1
  have ha := below_alloc3 w (.cells #[.int .i64 m.p, .int .i64 m.c, .slice sa m.st.length sc, .slice oa m.os.length oc, .int .i64 m.d] 60) (.cells #[.int .i64 0, .int .i64 0, .slice none 0 0, .slice none 0 0, .int .i64 0] 60) (.cells #[.int .i64 6, .int .i64 xp] 85)
  have HB := hide (box_below (par5 w (.cells #[.int .i64 0, .int .i64 0, .slice none 0 0, .slice none 0 0, .int .i64 0] 60) (.int .i64 m.p) (.int .i64 m.c) (.slice sa m.st.length sc) (.slice oa m.os.length oc) (.int .i64 m.d) 60) (below_alloc1 _ (.cells #[.int .i64 6, .int .i64 xp] 85)))
  have HR := hide (box_below (res5 w (.cells #[.int .i64 m.p, .int .i64 m.c, .slice sa m.st.length sc, .slice oa m.os.length oc, .int .i64 m.d] 60) (.int .i64 0) (.int .i64 0) (.slice none 0 0) (.slice none 0 0) (.int .i64 0) 60) (below_alloc1 _ (.cells #[.int .i64 6, .int .i64 xp] 85)))
  have HO := hide (h.below ha)
  have HO0 := hide h
  have HK := hide (Keeps.of ha)
  have HF := hide hF
  clear h ha ha2 hF hx
  obtain ⟨mp, mc, md, st, os⟩ := m
  dsimp only at *
  obtain ⟨k, rfl⟩ : ∃ k : Nat, mp = k := ⟨mp.toNat, by omega⟩
  simp only [Int.toNat_natCast] at c0 c1
  subst hn
  simp only [List.length_nil] at c0 c1 HO HO0 HB HR hsl' ⊢
  go_enter Try.func113, Try.ntmps113
  go_wp2_with fail
  refine bodyPost_ret (v := .agg (aggC (⟨(k : Int), mc, 3, [], os⟩ : CM) (.slice sa 0 sc) (.slice oa os.length oc))) (by simp [results, Try.results113, go_sem, aggC]) rfl ⟨_, _, rfl, ?_, Keeps.of (below_alloc3 _ _ _ _), by simp; omega⟩
  exact OwnC.below (m := (⟨(k : Int), mc, 3, [], os⟩ : CM)) (by exact unhide HO0) (below_alloc3 _ _ _ _)

set_option maxHeartbeats 8000000 in
theorem do_ret (W0 : World) (a : Option Addr) (cap : Nat) (l : List CellD) (m : CM) (sv ov : Value) (w : World) (hcap : l.length ≤ cap) (hcm : cap ≤ maxLen) (hl8 : l.length ≤ 800) (hF : CellRow W0 a l) (hp : IsPl l m.p) (hsl : m.st.length ≤ 5) (hol : m.os.length ≤ 30) (xp : Int) (hx : cellOf l m.p = ⟨6, xp⟩) (s : Int) (r : List Int) (hn : m.st = r ++ [s]) (hQ : IsPl l s) (h : OwnC W0 w sv ov m) :
    Calls Try.prog 113 #[.slice a l.length cap, .agg (aggC m sv ov)] w fun e w' => CEnd W0 w ({ m with p := overI l s, st := r }) e w' := by
  have hsz := h.2.2.2.size
  obtain ⟨sa, sc, rfl, hs1, hs2⟩ := int_form h.1
  obtain ⟨oa, oc, rfl, ho1, ho2⟩ := int_form h.2.1
  unfold aggC
  obtain ⟨hp0, hp1⟩ := hp
  have hlz : (l.length : Int) ≤ 800 := by omega
  have hp2 : m.p ≤ 1000 := by omega
  have hsl' : (m.st.length : Int) ≤ 5 := by omega
  have hol' : (m.os.length : Int) ≤ 30 := by omega
  obtain ⟨b, off, rfl⟩ := hF.get (by omega)
  have ha2 := below_alloc2 w (.cells #[.int .i64 m.p, .int .i64 m.c, .slice sa m.st.length sc, .slice oa m.os.length oc, .int .i64 m.d] 60) (.cells #[.int .i64 0, .int .i64 0, .slice none 0 0, .slice none 0 0, .int .i64 0] 60)
  obtain ⟨c0, c1⟩ := row_at (hF.below (bl_trans h.2.2.2 ha2)) hp0 hp1
  rw [hx] at c0 c1
  dsimp only at c0 c1
  have ha := below_alloc3 w (.cells #[.int .i64 m.p, .int .i64 m.c, .slice sa m.st.length sc, .slice oa m.os.length oc, .int .i64 m.d] 60) (.cells #[.int .i64 0, .int .i64 0, .slice none 0 0, .slice none 0 0, .int .i64 0] 60) (.cells #[.int .i64 6, .int .i64 xp] 85)
  have HB := hide (box_below (par5 w (.cells #[.int .i64 0, .int .i64 0, .slice none 0 0, .slice none 0 0, .int .i64 0] 60) (.int .i64 m.p) (.int .i64 m.c) (.slice sa m.st.length sc) (.slice oa m.os.length oc) (.int .i64 m.d) 60) (below_alloc1 _ (.cells #[.int .i64 6, .int .i64 xp] 85)))
  have HR := hide (box_below (res5 w (.cells #[.int .i64 m.p, .int .i64 m.c, .slice sa m.st.length sc, .slice oa m.os.length oc, .int .i64 m.d] 60) (.int .i64 0) (.int .i64 0) (.slice none 0 0) (.slice none 0 0) (.int .i64 0) 60) (below_alloc1 _ (.cells #[.int .i64 6, .int .i64 xp] 85)))
  have HO := hide (h.below ha)
  have HO0 := hide h
  have HK := hide (Keeps.of ha)
  have HF := hide hF
  clear h ha ha2 hF hx
  obtain ⟨mp, mc, md, st, os⟩ := m
  dsimp only at *
  obtain ⟨k, rfl⟩ : ∃ k : Nat, mp = k := ⟨mp.toNat, by omega⟩
  simp only [Int.toNat_natCast] at c0 c1
  subst hn
  have hlen : (r ++ [s]).length = r.length + 1 := by simp
  have hrl : (r.length : Int) ≤ 5 := by rw [hlen] at hsl; omega
  have hrs : r.length ≤ sc := by rw [hlen] at hs1; omega
  have hsc : (r.length : Int) ≤ (sc : Int) := by omega
  obtain ⟨g, off2, hsa⟩ : ∃ g off2, sa = some ⟨g, off2, none⟩ := (int_row (unhide HO0).1).get (by show 0 < (r ++ [s]).length; omega)
  subst hsa
  obtain ⟨hoff, hT⟩ := int_take (k := r.length) (unhide HO0).1 (by show r.length ≤ (r ++ [s]).length; omega)
  subst hoff
  dsimp only at hT
  rw [List.take_left] at hT
  have HT := hide hT
  have s0 := ((int_row (unhide HO).1).cells (k := r.length) (by show r.length < (r ++ [s]).length; omega))
  dsimp only at s0
  rw [List.getElem_append_right (Nat.le_refl _)] at s0
  simp only [Nat.sub_self, List.getElem_cons_zero] at s0
  rw [Nat.zero_add] at s0
  rw [hlen] at s0 c0 c1 HO HO0 HB HR hsl' ⊢
  have hsl2 : ((r.length + 1 : Nat) : Int) - 1 = (r.length : Int) := by omega
  clear hT hlen hsl
  go_enter Try.func113, Try.ntmps113
  go_wp2_with fail
  refine (l8Over_any (some ⟨b, off, none⟩) cap l _ _ hcap hcm hQ ((unhide HF).below (bl_trans (unhide HO0).2.2.2 (below_alloc3 _ _ _ _)))).mono ?_
  rintro e w3 ⟨rfl, rfl⟩
  go_wp2_with fail
  refine bodyPost_ret (v := .agg (aggC (⟨overI l s, mc, md, r, os⟩ : CM) (.slice (some ⟨g, 0, none⟩) r.length sc) (.slice oa os.length oc))) (by simp [results, Try.results113, go_sem, aggC]) rfl ⟨_, _, rfl, ?_, Keeps.of (below_alloc3 _ _ _ _), by simp; omega⟩
  have h0 := unhide HO0
  exact OwnC.below (m := (⟨overI l s, mc, md, r, os⟩ : CM)) ⟨unhide HT, h0.2.1, h0.2.2.1, h0.2.2.2⟩ (below_alloc3 _ _ _ _)

set_option maxHeartbeats 8000000 in
theorem do_end (W0 : World) (a : Option Addr) (cap : Nat) (l : List CellD) (m : CM) (sv ov : Value) (w : World) (hcap : l.length ≤ cap) (hcm : cap ≤ maxLen) (hl8 : l.length ≤ 800) (hF : CellRow W0 a l) (hp : IsPl l m.p) (hsl : m.st.length ≤ 5) (hol : m.os.length ≤ 30) (xp : Int) (hx : cellOf l m.p = ⟨7, xp⟩)  (h : OwnC W0 w sv ov m) :
    Calls Try.prog 113 #[.slice a l.length cap, .agg (aggC m sv ov)] w fun e w' => CEnd W0 w ({ m with d := 1 }) e w' := by
  have hsz := h.2.2.2.size
  obtain ⟨sa, sc, rfl, hs1, hs2⟩ := int_form h.1
  obtain ⟨oa, oc, rfl, ho1, ho2⟩ := int_form h.2.1
  unfold aggC
  obtain ⟨hp0, hp1⟩ := hp
  have hlz : (l.length : Int) ≤ 800 := by omega
  have hp2 : m.p ≤ 1000 := by omega
  have hsl' : (m.st.length : Int) ≤ 5 := by omega
  have hol' : (m.os.length : Int) ≤ 30 := by omega
  obtain ⟨b, off, rfl⟩ := hF.get (by omega)
  have ha2 := below_alloc2 w (.cells #[.int .i64 m.p, .int .i64 m.c, .slice sa m.st.length sc, .slice oa m.os.length oc, .int .i64 m.d] 60) (.cells #[.int .i64 0, .int .i64 0, .slice none 0 0, .slice none 0 0, .int .i64 0] 60)
  obtain ⟨c0, c1⟩ := row_at (hF.below (bl_trans h.2.2.2 ha2)) hp0 hp1
  rw [hx] at c0 c1
  dsimp only at c0 c1
  have ha := below_alloc3 w (.cells #[.int .i64 m.p, .int .i64 m.c, .slice sa m.st.length sc, .slice oa m.os.length oc, .int .i64 m.d] 60) (.cells #[.int .i64 0, .int .i64 0, .slice none 0 0, .slice none 0 0, .int .i64 0] 60) (.cells #[.int .i64 7, .int .i64 xp] 85)
  have HB := hide (box_below (par5 w (.cells #[.int .i64 0, .int .i64 0, .slice none 0 0, .slice none 0 0, .int .i64 0] 60) (.int .i64 m.p) (.int .i64 m.c) (.slice sa m.st.length sc) (.slice oa m.os.length oc) (.int .i64 m.d) 60) (below_alloc1 _ (.cells #[.int .i64 7, .int .i64 xp] 85)))
  have HR := hide (box_below (res5 w (.cells #[.int .i64 m.p, .int .i64 m.c, .slice sa m.st.length sc, .slice oa m.os.length oc, .int .i64 m.d] 60) (.int .i64 0) (.int .i64 0) (.slice none 0 0) (.slice none 0 0) (.int .i64 0) 60) (below_alloc1 _ (.cells #[.int .i64 7, .int .i64 xp] 85)))
  have HO := hide (h.below ha)
  have HO0 := hide h
  have HK := hide (Keeps.of ha)
  have HF := hide hF
  clear h ha ha2 hF hx
  obtain ⟨mp, mc, md, st, os⟩ := m
  dsimp only at *
  obtain ⟨k, rfl⟩ : ∃ k : Nat, mp = k := ⟨mp.toNat, by omega⟩
  simp only [Int.toNat_natCast] at c0 c1
  go_enter Try.func113, Try.ntmps113
  go_wp2_with fail
  refine bodyPost_ret (v := .agg (aggC (⟨(k : Int), mc, 1, st, os⟩ : CM) (.slice sa st.length sc) (.slice oa os.length oc))) (by simp [results, Try.results113, go_sem, aggC]) rfl ⟨_, _, rfl, ?_, Keeps.of (below_alloc3 _ _ _ _), by simp; omega⟩
  exact OwnC.below (m := (⟨(k : Int), mc, 1, st, os⟩ : CM)) (by exact unhide HO0) (below_alloc3 _ _ _ _)

end Go.Proofs.Ytjbhbkkkjdpamaa.CSpecB
