/- The contract of the specification's l5Do: what one instruction does. -/
import Derived.Test.YtjbhbkkkjdpamaaGreatMSpecB
namespace Go.Proofs.YtjbhbkkkjdpamaaGreat.MSpecC
open Go.ChangeShapes Go.WideShapes Go.ChangeAt Go.RowKit Go.Joins Go.WideMaps Go.Maps
open Go.Proofs.YtjbhbkkkjdpamaaGreat.Base Go.Proofs.YtjbhbkkkjdpamaaGreat.InsA Go.Proofs.YtjbhbkkkjdpamaaGreat.Funs Go.Proofs.YtjbhbkkkjdpamaaGreat.Open Go.Proofs.YtjbhbkkkjdpamaaGreat.Keep Go.Proofs.YtjbhbkkkjdpamaaGreat.UnitS Go.Proofs.YtjbhbkkkjdpamaaGreat.UnitM Go.Proofs.YtjbhbkkkjdpamaaGreat.WantsI Go.Proofs.YtjbhbkkkjdpamaaGreat.Mach Go.Proofs.YtjbhbkkkjdpamaaGreat.Mark Go.Proofs.YtjbhbkkkjdpamaaGreat.Sum Go.Proofs.YtjbhbkkkjdpamaaGreat.KeepD Go.Proofs.YtjbhbkkkjdpamaaGreat.MOk Go.Proofs.YtjbhbkkkjdpamaaGreat.MD Go.Proofs.YtjbhbkkkjdpamaaGreat.MRun Go.Proofs.YtjbhbkkkjdpamaaGreat.MDeed Go.Proofs.YtjbhbkkkjdpamaaGreat.MSay Go.Proofs.YtjbhbkkkjdpamaaGreat.MSpec Go.Proofs.YtjbhbkkkjdpamaaGreat.MSpecB
set_option linter.unusedVariables false
set_option maxRecDepth 100000

/-- The premises of a walk of l5Do. -/
structure Do (W0 : World) (b off cap b' o' : Nat) (fs : List FunD) (k j n ci : Nat) (m : MD) (x : InsD) (sa oa : Option Addr) (sc oc : Nat) (w : World) : Prop where
  hcap : fs.length ≤ cap
  hcm : cap ≤ maxLen
  hf0 : m.f = (k : Int)
  hp0 : m.p = (j : Int)
  hk : k < fs.length
  hj : j < n
  hj10 : j < 10
  hnc : n ≤ ci
  hcc : ci ≤ maxLen
  hol : m.os.length ≤ 30
  hsl : m.st.length ≤ 5
  hs1 : m.st.length ≤ sc
  hs2 : sc ≤ maxLen
  ho1 : m.os.length ≤ oc
  ho2 : oc ≤ maxLen
  hF : FunRow W0 (some ⟨b, off, none⟩) fs
  hO : OwnM W0 w (.slice sa m.st.length sc) (.slice oa m.os.length oc) m
  c2 : w.cell? ⟨b, off + k * 3 + 2, none⟩ = some (.slice (some ⟨b', o', none⟩) n ci)
  r0 : w.cell? ⟨b', o' + j * 3, none⟩ = some (.int .i64 x.o)
  r1 : w.cell? ⟨b', o' + j * 3 + 1, none⟩ = some (.int .i64 x.n)
  r2 : w.cell? ⟨b', o' + j * 3 + 2, none⟩ = some (.string x.s)
  hxs : x.s.size ≤ maxLen
set_option maxHeartbeats 4000000 in
theorem do_say (W0 : World) (b off cap b' o' : Nat) (fs : List FunD) (k j n ci : Nat) (m : MD) (x : InsD) (sa oa : Option Addr) (sc oc : Nat) (w : World) (h : Do W0 b off cap b' o' fs k j n ci m x sa oa sc oc w) (ho : x.o = 1) :
    Calls Tryz.prog 45 #[.slice (some ⟨b, off, none⟩) fs.length cap, .agg (aggM m (.slice sa m.st.length sc) (.slice oa m.os.length oc))] w fun e w' => MEnd W0 w (sayM m) e w' := by
  obtain ⟨hcap, hcm, hf0, hp0, hk, hj, hj10, hnc, hcc, hol, hsl, hs1, hs2, ho1, ho2, hF, hO, c2, r0, r1, r2, hxs⟩ := h
  have hsz := hO.2.2.size
  have HF := hide hF
  have HCM := hide hcm
  unfold aggM
  have ha : Below w.heap.size w ((((w.alloc (.cells #[.int .i64 m.f, .int .i64 m.p, .int .i64 m.c, .slice sa m.st.length sc, .slice oa m.os.length oc, .int .i64 m.d] 47)).alloc (.cells #[.int .i64 0, .int .i64 0, .int .i64 0, .slice none 0 0, .slice none 0 0, .int .i64 0] 47)).alloc (.cells #[.int .i64 x.o, .int .i64 x.n, .string x.s] 110)).drew) := ((bl_alloc (below_alloc2 w _ _) _).drew)
  have HO := hide (hO.below ha)
  have HK := hide (Keeps.of ha)
  have HB : Hid (((((w.alloc (.cells #[.int .i64 m.f, .int .i64 m.p, .int .i64 m.c, .slice sa m.st.length sc, .slice oa m.os.length oc, .int .i64 m.d] 47)).alloc (.cells #[.int .i64 0, .int .i64 0, .int .i64 0, .slice none 0 0, .slice none 0 0, .int .i64 0] 47)).alloc (.cells #[.int .i64 x.o, .int .i64 x.n, .string x.s] 110)).drew).heap[w.heap.size]? = some (.cells #[.int .i64 m.f, .int .i64 m.p, .int .i64 m.c, .slice sa m.st.length sc, .slice oa m.os.length oc, .int .i64 m.d] 47)) := box_drew (box_below (box_below (new_block w _) (below_alloc1 _ _)) (below_alloc1 _ _))
  have HR : Hid (((((w.alloc (.cells #[.int .i64 m.f, .int .i64 m.p, .int .i64 m.c, .slice sa m.st.length sc, .slice oa m.os.length oc, .int .i64 m.d] 47)).alloc (.cells #[.int .i64 0, .int .i64 0, .int .i64 0, .slice none 0 0, .slice none 0 0, .int .i64 0] 47)).alloc (.cells #[.int .i64 x.o, .int .i64 x.n, .string x.s] 110)).drew).heap[w.heap.size + 1]? = some (.cells #[.int .i64 0, .int .i64 0, .int .i64 0, .slice none 0 0, .slice none 0 0, .int .i64 0] 47)) := box_drew (box_below (res6 w _ _ _ _ _ _ _ _) (below_alloc1 _ _))
  have hp : 0 ≤ m.p := by omega
  have hp2 : m.p ≤ 100 := by omega
  have c2c := (Stable.cell ⟨b, off + k * 3 + 2, none⟩ (.slice (some ⟨b', o', none⟩) n ci)).alloc ((Stable.cell ⟨b, off + k * 3 + 2, none⟩ (.slice (some ⟨b', o', none⟩) n ci)).1 _ _ (below_alloc2 w (.cells #[.int .i64 m.f, .int .i64 m.p, .int .i64 m.c, .slice sa m.st.length sc, .slice oa m.os.length oc, .int .i64 m.d] 47) (.cells #[.int .i64 0, .int .i64 0, .int .i64 0, .slice none 0 0, .slice none 0 0, .int .i64 0] 47)) c2) (.cells #[.int .i64 0, .int .i64 0, .string ⟨#[]⟩] 110)
  have r0c := (Stable.cell ⟨b', o' + j * 3, none⟩ (.int .i64 x.o)).alloc ((Stable.cell ⟨b', o' + j * 3, none⟩ (.int .i64 x.o)).1 _ _ (below_alloc2 w (.cells #[.int .i64 m.f, .int .i64 m.p, .int .i64 m.c, .slice sa m.st.length sc, .slice oa m.os.length oc, .int .i64 m.d] 47) (.cells #[.int .i64 0, .int .i64 0, .int .i64 0, .slice none 0 0, .slice none 0 0, .int .i64 0] 47)) r0) (.cells #[.int .i64 0, .int .i64 0, .string ⟨#[]⟩] 110)
  have r1c := (Stable.cell ⟨b', o' + j * 3 + 1, none⟩ (.int .i64 x.n)).alloc ((Stable.cell ⟨b', o' + j * 3 + 1, none⟩ (.int .i64 x.n)).1 _ _ (below_alloc2 w (.cells #[.int .i64 m.f, .int .i64 m.p, .int .i64 m.c, .slice sa m.st.length sc, .slice oa m.os.length oc, .int .i64 m.d] 47) (.cells #[.int .i64 0, .int .i64 0, .int .i64 0, .slice none 0 0, .slice none 0 0, .int .i64 0] 47)) r1) (.cells #[.int .i64 0, .int .i64 0, .string ⟨#[]⟩] 110)
  have r2c := (Stable.cell ⟨b', o' + j * 3 + 2, none⟩ (.string x.s)).alloc ((Stable.cell ⟨b', o' + j * 3 + 2, none⟩ (.string x.s)).1 _ _ (below_alloc2 w (.cells #[.int .i64 m.f, .int .i64 m.p, .int .i64 m.c, .slice sa m.st.length sc, .slice oa m.os.length oc, .int .i64 m.d] 47) (.cells #[.int .i64 0, .int .i64 0, .int .i64 0, .slice none 0 0, .slice none 0 0, .int .i64 0] 47)) r2) (.cells #[.int .i64 0, .int .i64 0, .string ⟨#[]⟩] 110)
  have hbl := World.block_lt_of_cell? w _ c2
  have hbl' := World.block_lt_of_cell? w _ r0
  simp only at hbl hbl'
  unfold maxLen at hcm hcc
  have hk' : (k : Int) < (fs.length : Int) := by omega
  have hj' : (j : Int) < (n : Int) := by omega
  have hk0 : (0 : Int) ≤ (k : Int) := by omega
  have hj0 : (0 : Int) ≤ (j : Int) := by omega
  have hjb : (j : Int) ≤ 100 := by omega
  have HF0 := hide hf0
  have HP0 := hide hp0
  clear hf0 hp0 hF hO ha
  obtain ⟨f, p, c, d, st, os⟩ := m
  obtain rfl : f = (k : Int) := unhide HF0
  obtain rfl : p = (j : Int) := unhide HP0
  clear HF0 HP0
  obtain ⟨xo, xn, xs⟩ := x
  simp only at *
  obtain rfl : xo = 1 := ho
  go_enter Tryz.func45, Tryz.ntmps45
  go_wp2_with fail
  go_region
  go_wp2_with fail
  refine (sSay_any W0 (⟨(k : Int), (j : Int), c, d, st, os⟩ : MD) _ _ _ hp hp2 hol (unhide HO)).mono ?_
  rintro e w1 ⟨sv1, ov1, rfl, hO1, hK1, hz1⟩
  obtain ⟨sa1, sc1, rfl, _, _⟩ := spot_form hO1.1
  obtain ⟨oa1, oc1, rfl, _, _⟩ := num_form hO1.2.1
  have hr := hK1 _ _ _ (unhide HR) (by decide) (by decide)
  have HM1 : Hid (MachAt w1 (w.heap.size + 1)) := ⟨_, hr⟩
  have xr := box6 hr
  have HO1 := hide hO1
  have HK1 := hide ((unhide HK).trans hK1)
  simp only [World.size_drew, World.size_alloc] at hz1
  clear hr hO1 hK1 HO HK HB HR
  generalize hme : sayM (⟨(k : Int), (j : Int), c, d, st, os⟩ : MD) = m1 at *
  have HME := hide hme
  clear hme
  unfold aggM
  go_wp2_with fail
  refine bodyPost_ret (v := .agg (aggM m1 (.slice sa1 m1.st.length sc1) (.slice oa1 m1.os.length oc1))) (by simp [results, Tryz.results45, go_sem, aggM, xr]) rfl ?_
  show MEnd W0 w (sayM (⟨(k : Int), (j : Int), c, d, st, os⟩ : MD)) _ _
  rw [unhide HME]
  refine ⟨_, _, rfl, ?_, ?_, ?_⟩
  · repeat (with_reducible refine OwnM.set ?_ (by (repeat (with_reducible refine MachAt.set ?_)); exact unhide HM1) (by omega))
    exact unhide HO1
  · repeat (with_reducible refine Keeps.set ?_ (by omega))
    exact unhide HK1
  · simp; omega

set_option maxHeartbeats 4000000 in
theorem do_call (W0 : World) (b off cap b' o' : Nat) (fs : List FunD) (k j n ci : Nat) (m : MD) (x : InsD) (sa oa : Option Addr) (sc oc : Nat) (w : World) (h : Do W0 b off cap b' o' fs k j n ci m x sa oa sc oc w) (ho : x.o = 3) :
    Calls Tryz.prog 45 #[.slice (some ⟨b, off, none⟩) fs.length cap, .agg (aggM m (.slice sa m.st.length sc) (.slice oa m.os.length oc))] w fun e w' => MEnd W0 w (callM fs m x.s) e w' := by
  obtain ⟨hcap, hcm, hf0, hp0, hk, hj, hj10, hnc, hcc, hol, hsl, hs1, hs2, ho1, ho2, hF, hO, c2, r0, r1, r2, hxs⟩ := h
  have hsz := hO.2.2.size
  have HF := hide hF
  have HCM := hide hcm
  unfold aggM
  have ha : Below w.heap.size w ((((w.alloc (.cells #[.int .i64 m.f, .int .i64 m.p, .int .i64 m.c, .slice sa m.st.length sc, .slice oa m.os.length oc, .int .i64 m.d] 47)).alloc (.cells #[.int .i64 0, .int .i64 0, .int .i64 0, .slice none 0 0, .slice none 0 0, .int .i64 0] 47)).alloc (.cells #[.int .i64 x.o, .int .i64 x.n, .string x.s] 110)).drew) := ((bl_alloc (below_alloc2 w _ _) _).drew)
  have HO := hide (hO.below ha)
  have HK := hide (Keeps.of ha)
  have HB : Hid (((((w.alloc (.cells #[.int .i64 m.f, .int .i64 m.p, .int .i64 m.c, .slice sa m.st.length sc, .slice oa m.os.length oc, .int .i64 m.d] 47)).alloc (.cells #[.int .i64 0, .int .i64 0, .int .i64 0, .slice none 0 0, .slice none 0 0, .int .i64 0] 47)).alloc (.cells #[.int .i64 x.o, .int .i64 x.n, .string x.s] 110)).drew).heap[w.heap.size]? = some (.cells #[.int .i64 m.f, .int .i64 m.p, .int .i64 m.c, .slice sa m.st.length sc, .slice oa m.os.length oc, .int .i64 m.d] 47)) := box_drew (box_below (box_below (new_block w _) (below_alloc1 _ _)) (below_alloc1 _ _))
  have HR : Hid (((((w.alloc (.cells #[.int .i64 m.f, .int .i64 m.p, .int .i64 m.c, .slice sa m.st.length sc, .slice oa m.os.length oc, .int .i64 m.d] 47)).alloc (.cells #[.int .i64 0, .int .i64 0, .int .i64 0, .slice none 0 0, .slice none 0 0, .int .i64 0] 47)).alloc (.cells #[.int .i64 x.o, .int .i64 x.n, .string x.s] 110)).drew).heap[w.heap.size + 1]? = some (.cells #[.int .i64 0, .int .i64 0, .int .i64 0, .slice none 0 0, .slice none 0 0, .int .i64 0] 47)) := box_drew (box_below (res6 w _ _ _ _ _ _ _ _) (below_alloc1 _ _))
  have hp : 0 ≤ m.p := by omega
  have hp2 : m.p ≤ 100 := by omega
  have c2c := (Stable.cell ⟨b, off + k * 3 + 2, none⟩ (.slice (some ⟨b', o', none⟩) n ci)).alloc ((Stable.cell ⟨b, off + k * 3 + 2, none⟩ (.slice (some ⟨b', o', none⟩) n ci)).1 _ _ (below_alloc2 w (.cells #[.int .i64 m.f, .int .i64 m.p, .int .i64 m.c, .slice sa m.st.length sc, .slice oa m.os.length oc, .int .i64 m.d] 47) (.cells #[.int .i64 0, .int .i64 0, .int .i64 0, .slice none 0 0, .slice none 0 0, .int .i64 0] 47)) c2) (.cells #[.int .i64 0, .int .i64 0, .string ⟨#[]⟩] 110)
  have r0c := (Stable.cell ⟨b', o' + j * 3, none⟩ (.int .i64 x.o)).alloc ((Stable.cell ⟨b', o' + j * 3, none⟩ (.int .i64 x.o)).1 _ _ (below_alloc2 w (.cells #[.int .i64 m.f, .int .i64 m.p, .int .i64 m.c, .slice sa m.st.length sc, .slice oa m.os.length oc, .int .i64 m.d] 47) (.cells #[.int .i64 0, .int .i64 0, .int .i64 0, .slice none 0 0, .slice none 0 0, .int .i64 0] 47)) r0) (.cells #[.int .i64 0, .int .i64 0, .string ⟨#[]⟩] 110)
  have r1c := (Stable.cell ⟨b', o' + j * 3 + 1, none⟩ (.int .i64 x.n)).alloc ((Stable.cell ⟨b', o' + j * 3 + 1, none⟩ (.int .i64 x.n)).1 _ _ (below_alloc2 w (.cells #[.int .i64 m.f, .int .i64 m.p, .int .i64 m.c, .slice sa m.st.length sc, .slice oa m.os.length oc, .int .i64 m.d] 47) (.cells #[.int .i64 0, .int .i64 0, .int .i64 0, .slice none 0 0, .slice none 0 0, .int .i64 0] 47)) r1) (.cells #[.int .i64 0, .int .i64 0, .string ⟨#[]⟩] 110)
  have r2c := (Stable.cell ⟨b', o' + j * 3 + 2, none⟩ (.string x.s)).alloc ((Stable.cell ⟨b', o' + j * 3 + 2, none⟩ (.string x.s)).1 _ _ (below_alloc2 w (.cells #[.int .i64 m.f, .int .i64 m.p, .int .i64 m.c, .slice sa m.st.length sc, .slice oa m.os.length oc, .int .i64 m.d] 47) (.cells #[.int .i64 0, .int .i64 0, .int .i64 0, .slice none 0 0, .slice none 0 0, .int .i64 0] 47)) r2) (.cells #[.int .i64 0, .int .i64 0, .string ⟨#[]⟩] 110)
  have hbl := World.block_lt_of_cell? w _ c2
  have hbl' := World.block_lt_of_cell? w _ r0
  simp only at hbl hbl'
  unfold maxLen at hcm hcc
  have hk' : (k : Int) < (fs.length : Int) := by omega
  have hj' : (j : Int) < (n : Int) := by omega
  have hk0 : (0 : Int) ≤ (k : Int) := by omega
  have hj0 : (0 : Int) ≤ (j : Int) := by omega
  have hjb : (j : Int) ≤ 100 := by omega
  have HF0 := hide hf0
  have HP0 := hide hp0
  clear hf0 hp0 hF hO ha
  obtain ⟨f, p, c, d, st, os⟩ := m
  obtain rfl : f = (k : Int) := unhide HF0
  obtain rfl : p = (j : Int) := unhide HP0
  clear HF0 HP0
  obtain ⟨xo, xn, xs⟩ := x
  simp only at *
  obtain rfl : xo = 3 := ho
  go_enter Tryz.func45, Tryz.ntmps45
  go_wp2_with fail
  go_region
  go_wp2_with fail
  refine (sCall_any W0 _ cap fs (⟨(k : Int), (j : Int), c, d, st, os⟩ : MD) _ _ xs _ hxs hcap (unhide HCM) (unhide HF) hp hp2 hsl (unhide HO)).mono ?_
  rintro e w1 ⟨sv1, ov1, rfl, hO1, hK1, hz1⟩
  obtain ⟨sa1, sc1, rfl, _, _⟩ := spot_form hO1.1
  obtain ⟨oa1, oc1, rfl, _, _⟩ := num_form hO1.2.1
  have hr := hK1 _ _ _ (unhide HR) (by decide) (by decide)
  have HM1 : Hid (MachAt w1 (w.heap.size + 1)) := ⟨_, hr⟩
  have xr := box6 hr
  have HO1 := hide hO1
  have HK1 := hide ((unhide HK).trans hK1)
  simp only [World.size_drew, World.size_alloc] at hz1
  clear hr hO1 hK1 HO HK HB HR
  generalize hme : callM fs (⟨(k : Int), (j : Int), c, d, st, os⟩ : MD) xs = m1 at *
  have HME := hide hme
  clear hme
  unfold aggM
  go_wp2_with fail
  refine bodyPost_ret (v := .agg (aggM m1 (.slice sa1 m1.st.length sc1) (.slice oa1 m1.os.length oc1))) (by simp [results, Tryz.results45, go_sem, aggM, xr]) rfl ?_
  show MEnd W0 w (callM fs (⟨(k : Int), (j : Int), c, d, st, os⟩ : MD) xs) _ _
  rw [unhide HME]
  refine ⟨_, _, rfl, ?_, ?_, ?_⟩
  · repeat (with_reducible refine OwnM.set ?_ (by (repeat (with_reducible refine MachAt.set ?_)); exact unhide HM1) (by omega))
    exact unhide HO1
  · repeat (with_reducible refine Keeps.set ?_ (by omega))
    exact unhide HK1
  · simp; omega

set_option maxHeartbeats 4000000 in
theorem do_ret (W0 : World) (b off cap b' o' : Nat) (fs : List FunD) (k j n ci : Nat) (m : MD) (x : InsD) (sa oa : Option Addr) (sc oc : Nat) (w : World) (h : Do W0 b off cap b' o' fs k j n ci m x sa oa sc oc w) (ho : x.o = 6) :
    Calls Tryz.prog 45 #[.slice (some ⟨b, off, none⟩) fs.length cap, .agg (aggM m (.slice sa m.st.length sc) (.slice oa m.os.length oc))] w fun e w' => MEnd W0 w (retM m) e w' := by
  obtain ⟨hcap, hcm, hf0, hp0, hk, hj, hj10, hnc, hcc, hol, hsl, hs1, hs2, ho1, ho2, hF, hO, c2, r0, r1, r2, hxs⟩ := h
  have hsz := hO.2.2.size
  have HF := hide hF
  have HCM := hide hcm
  unfold aggM
  have ha : Below w.heap.size w ((((w.alloc (.cells #[.int .i64 m.f, .int .i64 m.p, .int .i64 m.c, .slice sa m.st.length sc, .slice oa m.os.length oc, .int .i64 m.d] 47)).alloc (.cells #[.int .i64 0, .int .i64 0, .int .i64 0, .slice none 0 0, .slice none 0 0, .int .i64 0] 47)).alloc (.cells #[.int .i64 x.o, .int .i64 x.n, .string x.s] 110)).drew) := ((bl_alloc (below_alloc2 w _ _) _).drew)
  have HO := hide (hO.below ha)
  have HK := hide (Keeps.of ha)
  have HB : Hid (((((w.alloc (.cells #[.int .i64 m.f, .int .i64 m.p, .int .i64 m.c, .slice sa m.st.length sc, .slice oa m.os.length oc, .int .i64 m.d] 47)).alloc (.cells #[.int .i64 0, .int .i64 0, .int .i64 0, .slice none 0 0, .slice none 0 0, .int .i64 0] 47)).alloc (.cells #[.int .i64 x.o, .int .i64 x.n, .string x.s] 110)).drew).heap[w.heap.size]? = some (.cells #[.int .i64 m.f, .int .i64 m.p, .int .i64 m.c, .slice sa m.st.length sc, .slice oa m.os.length oc, .int .i64 m.d] 47)) := box_drew (box_below (box_below (new_block w _) (below_alloc1 _ _)) (below_alloc1 _ _))
  have HR : Hid (((((w.alloc (.cells #[.int .i64 m.f, .int .i64 m.p, .int .i64 m.c, .slice sa m.st.length sc, .slice oa m.os.length oc, .int .i64 m.d] 47)).alloc (.cells #[.int .i64 0, .int .i64 0, .int .i64 0, .slice none 0 0, .slice none 0 0, .int .i64 0] 47)).alloc (.cells #[.int .i64 x.o, .int .i64 x.n, .string x.s] 110)).drew).heap[w.heap.size + 1]? = some (.cells #[.int .i64 0, .int .i64 0, .int .i64 0, .slice none 0 0, .slice none 0 0, .int .i64 0] 47)) := box_drew (box_below (res6 w _ _ _ _ _ _ _ _) (below_alloc1 _ _))
  have hp : 0 ≤ m.p := by omega
  have hp2 : m.p ≤ 100 := by omega
  have c2c := (Stable.cell ⟨b, off + k * 3 + 2, none⟩ (.slice (some ⟨b', o', none⟩) n ci)).alloc ((Stable.cell ⟨b, off + k * 3 + 2, none⟩ (.slice (some ⟨b', o', none⟩) n ci)).1 _ _ (below_alloc2 w (.cells #[.int .i64 m.f, .int .i64 m.p, .int .i64 m.c, .slice sa m.st.length sc, .slice oa m.os.length oc, .int .i64 m.d] 47) (.cells #[.int .i64 0, .int .i64 0, .int .i64 0, .slice none 0 0, .slice none 0 0, .int .i64 0] 47)) c2) (.cells #[.int .i64 0, .int .i64 0, .string ⟨#[]⟩] 110)
  have r0c := (Stable.cell ⟨b', o' + j * 3, none⟩ (.int .i64 x.o)).alloc ((Stable.cell ⟨b', o' + j * 3, none⟩ (.int .i64 x.o)).1 _ _ (below_alloc2 w (.cells #[.int .i64 m.f, .int .i64 m.p, .int .i64 m.c, .slice sa m.st.length sc, .slice oa m.os.length oc, .int .i64 m.d] 47) (.cells #[.int .i64 0, .int .i64 0, .int .i64 0, .slice none 0 0, .slice none 0 0, .int .i64 0] 47)) r0) (.cells #[.int .i64 0, .int .i64 0, .string ⟨#[]⟩] 110)
  have r1c := (Stable.cell ⟨b', o' + j * 3 + 1, none⟩ (.int .i64 x.n)).alloc ((Stable.cell ⟨b', o' + j * 3 + 1, none⟩ (.int .i64 x.n)).1 _ _ (below_alloc2 w (.cells #[.int .i64 m.f, .int .i64 m.p, .int .i64 m.c, .slice sa m.st.length sc, .slice oa m.os.length oc, .int .i64 m.d] 47) (.cells #[.int .i64 0, .int .i64 0, .int .i64 0, .slice none 0 0, .slice none 0 0, .int .i64 0] 47)) r1) (.cells #[.int .i64 0, .int .i64 0, .string ⟨#[]⟩] 110)
  have r2c := (Stable.cell ⟨b', o' + j * 3 + 2, none⟩ (.string x.s)).alloc ((Stable.cell ⟨b', o' + j * 3 + 2, none⟩ (.string x.s)).1 _ _ (below_alloc2 w (.cells #[.int .i64 m.f, .int .i64 m.p, .int .i64 m.c, .slice sa m.st.length sc, .slice oa m.os.length oc, .int .i64 m.d] 47) (.cells #[.int .i64 0, .int .i64 0, .int .i64 0, .slice none 0 0, .slice none 0 0, .int .i64 0] 47)) r2) (.cells #[.int .i64 0, .int .i64 0, .string ⟨#[]⟩] 110)
  have hbl := World.block_lt_of_cell? w _ c2
  have hbl' := World.block_lt_of_cell? w _ r0
  simp only at hbl hbl'
  unfold maxLen at hcm hcc
  have hk' : (k : Int) < (fs.length : Int) := by omega
  have hj' : (j : Int) < (n : Int) := by omega
  have hk0 : (0 : Int) ≤ (k : Int) := by omega
  have hj0 : (0 : Int) ≤ (j : Int) := by omega
  have hjb : (j : Int) ≤ 100 := by omega
  have HF0 := hide hf0
  have HP0 := hide hp0
  clear hf0 hp0 hF hO ha
  obtain ⟨f, p, c, d, st, os⟩ := m
  obtain rfl : f = (k : Int) := unhide HF0
  obtain rfl : p = (j : Int) := unhide HP0
  clear HF0 HP0
  obtain ⟨xo, xn, xs⟩ := x
  simp only at *
  obtain rfl : xo = 6 := ho
  go_enter Tryz.func45, Tryz.ntmps45
  go_wp2_with fail
  go_region
  go_wp2_with fail
  refine (sRet_any W0 (⟨(k : Int), (j : Int), c, d, st, os⟩ : MD) _ _ _ hsl (unhide HO)).mono ?_
  rintro e w1 ⟨sv1, ov1, rfl, hO1, hK1, hz1⟩
  obtain ⟨sa1, sc1, rfl, _, _⟩ := spot_form hO1.1
  obtain ⟨oa1, oc1, rfl, _, _⟩ := num_form hO1.2.1
  have hr := hK1 _ _ _ (unhide HR) (by decide) (by decide)
  have HM1 : Hid (MachAt w1 (w.heap.size + 1)) := ⟨_, hr⟩
  have xr := box6 hr
  have HO1 := hide hO1
  have HK1 := hide ((unhide HK).trans hK1)
  simp only [World.size_drew, World.size_alloc] at hz1
  clear hr hO1 hK1 HO HK HB HR
  generalize hme : retM (⟨(k : Int), (j : Int), c, d, st, os⟩ : MD) = m1 at *
  have HME := hide hme
  clear hme
  unfold aggM
  go_wp2_with fail
  refine bodyPost_ret (v := .agg (aggM m1 (.slice sa1 m1.st.length sc1) (.slice oa1 m1.os.length oc1))) (by simp [results, Tryz.results45, go_sem, aggM, xr]) rfl ?_
  show MEnd W0 w (retM (⟨(k : Int), (j : Int), c, d, st, os⟩ : MD)) _ _
  rw [unhide HME]
  refine ⟨_, _, rfl, ?_, ?_, ?_⟩
  · repeat (with_reducible refine OwnM.set ?_ (by (repeat (with_reducible refine MachAt.set ?_)); exact unhide HM1) (by omega))
    exact unhide HO1
  · repeat (with_reducible refine Keeps.set ?_ (by omega))
    exact unhide HK1
  · simp; omega

set_option maxHeartbeats 4000000 in
theorem do_add (W0 : World) (b off cap b' o' : Nat) (fs : List FunD) (k j n ci : Nat) (m : MD) (x : InsD) (sa oa : Option Addr) (sc oc : Nat) (w : World) (h : Do W0 b off cap b' o' fs k j n ci m x sa oa sc oc w) (ho : x.o = 2) :
    Calls Tryz.prog 45 #[.slice (some ⟨b, off, none⟩) fs.length cap, .agg (aggM m (.slice sa m.st.length sc) (.slice oa m.os.length oc))] w fun e w' => MEnd W0 w ({ m with c := sumI m.c x.n, p := m.p + 1 }) e w' := by
  obtain ⟨hcap, hcm, hf0, hp0, hk, hj, hj10, hnc, hcc, hol, hsl, hs1, hs2, ho1, ho2, hF, hO, c2, r0, r1, r2, hxs⟩ := h
  have hsz := hO.2.2.size
  have HF := hide hF
  have HOW := hide hO
  have HCM := hide hcm
  unfold aggM
  have ha : Below w.heap.size w ((((w.alloc (.cells #[.int .i64 m.f, .int .i64 m.p, .int .i64 m.c, .slice sa m.st.length sc, .slice oa m.os.length oc, .int .i64 m.d] 47)).alloc (.cells #[.int .i64 0, .int .i64 0, .int .i64 0, .slice none 0 0, .slice none 0 0, .int .i64 0] 47)).alloc (.cells #[.int .i64 x.o, .int .i64 x.n, .string x.s] 110)).drew) := ((bl_alloc (below_alloc2 w _ _) _).drew)
  have HO := hide (hO.below ha)
  have HK := hide (Keeps.of ha)
  have HB : Hid (((((w.alloc (.cells #[.int .i64 m.f, .int .i64 m.p, .int .i64 m.c, .slice sa m.st.length sc, .slice oa m.os.length oc, .int .i64 m.d] 47)).alloc (.cells #[.int .i64 0, .int .i64 0, .int .i64 0, .slice none 0 0, .slice none 0 0, .int .i64 0] 47)).alloc (.cells #[.int .i64 x.o, .int .i64 x.n, .string x.s] 110)).drew).heap[w.heap.size]? = some (.cells #[.int .i64 m.f, .int .i64 m.p, .int .i64 m.c, .slice sa m.st.length sc, .slice oa m.os.length oc, .int .i64 m.d] 47)) := box_drew (box_below (box_below (new_block w _) (below_alloc1 _ _)) (below_alloc1 _ _))
  have HR : Hid (((((w.alloc (.cells #[.int .i64 m.f, .int .i64 m.p, .int .i64 m.c, .slice sa m.st.length sc, .slice oa m.os.length oc, .int .i64 m.d] 47)).alloc (.cells #[.int .i64 0, .int .i64 0, .int .i64 0, .slice none 0 0, .slice none 0 0, .int .i64 0] 47)).alloc (.cells #[.int .i64 x.o, .int .i64 x.n, .string x.s] 110)).drew).heap[w.heap.size + 1]? = some (.cells #[.int .i64 0, .int .i64 0, .int .i64 0, .slice none 0 0, .slice none 0 0, .int .i64 0] 47)) := box_drew (box_below (res6 w _ _ _ _ _ _ _ _) (below_alloc1 _ _))
  have hp : 0 ≤ m.p := by omega
  have hp2 : m.p ≤ 100 := by omega
  have c2c := (Stable.cell ⟨b, off + k * 3 + 2, none⟩ (.slice (some ⟨b', o', none⟩) n ci)).alloc ((Stable.cell ⟨b, off + k * 3 + 2, none⟩ (.slice (some ⟨b', o', none⟩) n ci)).1 _ _ (below_alloc2 w (.cells #[.int .i64 m.f, .int .i64 m.p, .int .i64 m.c, .slice sa m.st.length sc, .slice oa m.os.length oc, .int .i64 m.d] 47) (.cells #[.int .i64 0, .int .i64 0, .int .i64 0, .slice none 0 0, .slice none 0 0, .int .i64 0] 47)) c2) (.cells #[.int .i64 0, .int .i64 0, .string ⟨#[]⟩] 110)
  have r0c := (Stable.cell ⟨b', o' + j * 3, none⟩ (.int .i64 x.o)).alloc ((Stable.cell ⟨b', o' + j * 3, none⟩ (.int .i64 x.o)).1 _ _ (below_alloc2 w (.cells #[.int .i64 m.f, .int .i64 m.p, .int .i64 m.c, .slice sa m.st.length sc, .slice oa m.os.length oc, .int .i64 m.d] 47) (.cells #[.int .i64 0, .int .i64 0, .int .i64 0, .slice none 0 0, .slice none 0 0, .int .i64 0] 47)) r0) (.cells #[.int .i64 0, .int .i64 0, .string ⟨#[]⟩] 110)
  have r1c := (Stable.cell ⟨b', o' + j * 3 + 1, none⟩ (.int .i64 x.n)).alloc ((Stable.cell ⟨b', o' + j * 3 + 1, none⟩ (.int .i64 x.n)).1 _ _ (below_alloc2 w (.cells #[.int .i64 m.f, .int .i64 m.p, .int .i64 m.c, .slice sa m.st.length sc, .slice oa m.os.length oc, .int .i64 m.d] 47) (.cells #[.int .i64 0, .int .i64 0, .int .i64 0, .slice none 0 0, .slice none 0 0, .int .i64 0] 47)) r1) (.cells #[.int .i64 0, .int .i64 0, .string ⟨#[]⟩] 110)
  have r2c := (Stable.cell ⟨b', o' + j * 3 + 2, none⟩ (.string x.s)).alloc ((Stable.cell ⟨b', o' + j * 3 + 2, none⟩ (.string x.s)).1 _ _ (below_alloc2 w (.cells #[.int .i64 m.f, .int .i64 m.p, .int .i64 m.c, .slice sa m.st.length sc, .slice oa m.os.length oc, .int .i64 m.d] 47) (.cells #[.int .i64 0, .int .i64 0, .int .i64 0, .slice none 0 0, .slice none 0 0, .int .i64 0] 47)) r2) (.cells #[.int .i64 0, .int .i64 0, .string ⟨#[]⟩] 110)
  have hbl := World.block_lt_of_cell? w _ c2
  have hbl' := World.block_lt_of_cell? w _ r0
  simp only at hbl hbl'
  unfold maxLen at hcm hcc
  have hk' : (k : Int) < (fs.length : Int) := by omega
  have hj' : (j : Int) < (n : Int) := by omega
  have hk0 : (0 : Int) ≤ (k : Int) := by omega
  have hj0 : (0 : Int) ≤ (j : Int) := by omega
  have hjb : (j : Int) ≤ 100 := by omega
  have HF0 := hide hf0
  have HP0 := hide hp0
  clear hf0 hp0 hF hO ha
  obtain ⟨f, p, c, d, st, os⟩ := m
  obtain rfl : f = (k : Int) := unhide HF0
  obtain rfl : p = (j : Int) := unhide HP0
  clear HF0 HP0
  obtain ⟨xo, xn, xs⟩ := x
  simp only at *
  obtain rfl : xo = 2 := ho
  go_enter Tryz.func45, Tryz.ntmps45
  go_wp2_with fail
  go_region
  clear HO HK HB HR
  go_wp2_with (go_at_call 90; refine (specInsSum_any _ _ _).mono ?_; rintro e wk ⟨rfl, rfl⟩)
  refine bodyPost_ret (v := .agg (aggM (⟨(k : Int), (j : Int) + 1, sumI c xn, d, st, os⟩ : MD) (.slice sa st.length sc) (.slice oa os.length oc))) (by simp [results, Tryz.results45, go_sem, aggM]) rfl ⟨_, _, rfl, ?_, ?_, ?_⟩
  · exact OwnM.below (unhide HOW) ((bl_alloc (below_alloc2 w _ _) _).drew)
  · exact Keeps.of ((bl_alloc (below_alloc2 w _ _) _).drew)
  · simp; omega

set_option maxHeartbeats 4000000 in
theorem do_end (W0 : World) (b off cap b' o' : Nat) (fs : List FunD) (k j n ci : Nat) (m : MD) (x : InsD) (sa oa : Option Addr) (sc oc : Nat) (w : World) (h : Do W0 b off cap b' o' fs k j n ci m x sa oa sc oc w) (ho : ¬ x.o = 1 ∧ ¬ x.o = 2 ∧ ¬ x.o = 3 ∧ ¬ x.o = 4 ∧ ¬ x.o = 5 ∧ ¬ x.o = 6) :
    Calls Tryz.prog 45 #[.slice (some ⟨b, off, none⟩) fs.length cap, .agg (aggM m (.slice sa m.st.length sc) (.slice oa m.os.length oc))] w fun e w' => MEnd W0 w ({ m with d := 1 }) e w' := by
  obtain ⟨hcap, hcm, hf0, hp0, hk, hj, hj10, hnc, hcc, hol, hsl, hs1, hs2, ho1, ho2, hF, hO, c2, r0, r1, r2, hxs⟩ := h
  have hsz := hO.2.2.size
  have HF := hide hF
  have HOW := hide hO
  have HCM := hide hcm
  unfold aggM
  have ha : Below w.heap.size w ((((w.alloc (.cells #[.int .i64 m.f, .int .i64 m.p, .int .i64 m.c, .slice sa m.st.length sc, .slice oa m.os.length oc, .int .i64 m.d] 47)).alloc (.cells #[.int .i64 0, .int .i64 0, .int .i64 0, .slice none 0 0, .slice none 0 0, .int .i64 0] 47)).alloc (.cells #[.int .i64 x.o, .int .i64 x.n, .string x.s] 110)).drew) := ((bl_alloc (below_alloc2 w _ _) _).drew)
  have HO := hide (hO.below ha)
  have HK := hide (Keeps.of ha)
  have HB : Hid (((((w.alloc (.cells #[.int .i64 m.f, .int .i64 m.p, .int .i64 m.c, .slice sa m.st.length sc, .slice oa m.os.length oc, .int .i64 m.d] 47)).alloc (.cells #[.int .i64 0, .int .i64 0, .int .i64 0, .slice none 0 0, .slice none 0 0, .int .i64 0] 47)).alloc (.cells #[.int .i64 x.o, .int .i64 x.n, .string x.s] 110)).drew).heap[w.heap.size]? = some (.cells #[.int .i64 m.f, .int .i64 m.p, .int .i64 m.c, .slice sa m.st.length sc, .slice oa m.os.length oc, .int .i64 m.d] 47)) := box_drew (box_below (box_below (new_block w _) (below_alloc1 _ _)) (below_alloc1 _ _))
  have HR : Hid (((((w.alloc (.cells #[.int .i64 m.f, .int .i64 m.p, .int .i64 m.c, .slice sa m.st.length sc, .slice oa m.os.length oc, .int .i64 m.d] 47)).alloc (.cells #[.int .i64 0, .int .i64 0, .int .i64 0, .slice none 0 0, .slice none 0 0, .int .i64 0] 47)).alloc (.cells #[.int .i64 x.o, .int .i64 x.n, .string x.s] 110)).drew).heap[w.heap.size + 1]? = some (.cells #[.int .i64 0, .int .i64 0, .int .i64 0, .slice none 0 0, .slice none 0 0, .int .i64 0] 47)) := box_drew (box_below (res6 w _ _ _ _ _ _ _ _) (below_alloc1 _ _))
  have hp : 0 ≤ m.p := by omega
  have hp2 : m.p ≤ 100 := by omega
  have c2c := (Stable.cell ⟨b, off + k * 3 + 2, none⟩ (.slice (some ⟨b', o', none⟩) n ci)).alloc ((Stable.cell ⟨b, off + k * 3 + 2, none⟩ (.slice (some ⟨b', o', none⟩) n ci)).1 _ _ (below_alloc2 w (.cells #[.int .i64 m.f, .int .i64 m.p, .int .i64 m.c, .slice sa m.st.length sc, .slice oa m.os.length oc, .int .i64 m.d] 47) (.cells #[.int .i64 0, .int .i64 0, .int .i64 0, .slice none 0 0, .slice none 0 0, .int .i64 0] 47)) c2) (.cells #[.int .i64 0, .int .i64 0, .string ⟨#[]⟩] 110)
  have r0c := (Stable.cell ⟨b', o' + j * 3, none⟩ (.int .i64 x.o)).alloc ((Stable.cell ⟨b', o' + j * 3, none⟩ (.int .i64 x.o)).1 _ _ (below_alloc2 w (.cells #[.int .i64 m.f, .int .i64 m.p, .int .i64 m.c, .slice sa m.st.length sc, .slice oa m.os.length oc, .int .i64 m.d] 47) (.cells #[.int .i64 0, .int .i64 0, .int .i64 0, .slice none 0 0, .slice none 0 0, .int .i64 0] 47)) r0) (.cells #[.int .i64 0, .int .i64 0, .string ⟨#[]⟩] 110)
  have r1c := (Stable.cell ⟨b', o' + j * 3 + 1, none⟩ (.int .i64 x.n)).alloc ((Stable.cell ⟨b', o' + j * 3 + 1, none⟩ (.int .i64 x.n)).1 _ _ (below_alloc2 w (.cells #[.int .i64 m.f, .int .i64 m.p, .int .i64 m.c, .slice sa m.st.length sc, .slice oa m.os.length oc, .int .i64 m.d] 47) (.cells #[.int .i64 0, .int .i64 0, .int .i64 0, .slice none 0 0, .slice none 0 0, .int .i64 0] 47)) r1) (.cells #[.int .i64 0, .int .i64 0, .string ⟨#[]⟩] 110)
  have r2c := (Stable.cell ⟨b', o' + j * 3 + 2, none⟩ (.string x.s)).alloc ((Stable.cell ⟨b', o' + j * 3 + 2, none⟩ (.string x.s)).1 _ _ (below_alloc2 w (.cells #[.int .i64 m.f, .int .i64 m.p, .int .i64 m.c, .slice sa m.st.length sc, .slice oa m.os.length oc, .int .i64 m.d] 47) (.cells #[.int .i64 0, .int .i64 0, .int .i64 0, .slice none 0 0, .slice none 0 0, .int .i64 0] 47)) r2) (.cells #[.int .i64 0, .int .i64 0, .string ⟨#[]⟩] 110)
  have hbl := World.block_lt_of_cell? w _ c2
  have hbl' := World.block_lt_of_cell? w _ r0
  simp only at hbl hbl'
  unfold maxLen at hcm hcc
  have hk' : (k : Int) < (fs.length : Int) := by omega
  have hj' : (j : Int) < (n : Int) := by omega
  have hk0 : (0 : Int) ≤ (k : Int) := by omega
  have hj0 : (0 : Int) ≤ (j : Int) := by omega
  have hjb : (j : Int) ≤ 100 := by omega
  have HF0 := hide hf0
  have HP0 := hide hp0
  clear hf0 hp0 hF hO ha
  obtain ⟨f, p, c, d, st, os⟩ := m
  obtain rfl : f = (k : Int) := unhide HF0
  obtain rfl : p = (j : Int) := unhide HP0
  clear HF0 HP0
  obtain ⟨xo, xn, xs⟩ := x
  simp only at *
  obtain ⟨ho1_, ho2_, ho3_, ho4_, ho5_, ho6_⟩ := ho
  go_enter Tryz.func45, Tryz.ntmps45
  go_wp2_with fail
  go_region
  clear HO HK HB HR
  go_wp2_with (fail)
  refine bodyPost_ret (v := .agg (aggM (⟨(k : Int), (j : Int), c, 1, st, os⟩ : MD) (.slice sa st.length sc) (.slice oa os.length oc))) (by simp [results, Tryz.results45, go_sem, aggM]) rfl ⟨_, _, rfl, ?_, ?_, ?_⟩
  · exact OwnM.below (unhide HOW) ((bl_alloc (below_alloc2 w _ _) _).drew)
  · exact Keeps.of ((bl_alloc (below_alloc2 w _ _) _).drew)
  · simp; omega

set_option maxHeartbeats 4000000 in
theorem do_go (W0 : World) (b off cap b' o' : Nat) (fs : List FunD) (k j n ci : Nat) (m : MD) (x : InsD) (sa oa : Option Addr) (sc oc : Nat) (w : World) (h : Do W0 b off cap b' o' fs k j n ci m x sa oa sc oc w) (ho : x.o = 4) :
    Calls Tryz.prog 45 #[.slice (some ⟨b, off, none⟩) fs.length cap, .agg (aggM m (.slice sa m.st.length sc) (.slice oa m.os.length oc))] w fun e w' => MEnd W0 w (MD.goTo fs m x.s) e w' := by
  obtain ⟨hcap, hcm, hf0, hp0, hk, hj, hj10, hnc, hcc, hol, hsl, hs1, hs2, ho1, ho2, hF, hO, c2, r0, r1, r2, hxs⟩ := h
  have hsz := hO.2.2.size
  have HF := hide hF
  have HCM := hide hcm
  unfold aggM
  have ha : Below w.heap.size w ((((w.alloc (.cells #[.int .i64 m.f, .int .i64 m.p, .int .i64 m.c, .slice sa m.st.length sc, .slice oa m.os.length oc, .int .i64 m.d] 47)).alloc (.cells #[.int .i64 0, .int .i64 0, .int .i64 0, .slice none 0 0, .slice none 0 0, .int .i64 0] 47)).alloc (.cells #[.int .i64 x.o, .int .i64 x.n, .string x.s] 110)).drew) := ((bl_alloc (below_alloc2 w _ _) _).drew)
  have HO := hide (hO.below ha)
  have HK := hide (Keeps.of ha)
  have HB : Hid (((((w.alloc (.cells #[.int .i64 m.f, .int .i64 m.p, .int .i64 m.c, .slice sa m.st.length sc, .slice oa m.os.length oc, .int .i64 m.d] 47)).alloc (.cells #[.int .i64 0, .int .i64 0, .int .i64 0, .slice none 0 0, .slice none 0 0, .int .i64 0] 47)).alloc (.cells #[.int .i64 x.o, .int .i64 x.n, .string x.s] 110)).drew).heap[w.heap.size]? = some (.cells #[.int .i64 m.f, .int .i64 m.p, .int .i64 m.c, .slice sa m.st.length sc, .slice oa m.os.length oc, .int .i64 m.d] 47)) := box_drew (box_below (box_below (new_block w _) (below_alloc1 _ _)) (below_alloc1 _ _))
  have HR : Hid (((((w.alloc (.cells #[.int .i64 m.f, .int .i64 m.p, .int .i64 m.c, .slice sa m.st.length sc, .slice oa m.os.length oc, .int .i64 m.d] 47)).alloc (.cells #[.int .i64 0, .int .i64 0, .int .i64 0, .slice none 0 0, .slice none 0 0, .int .i64 0] 47)).alloc (.cells #[.int .i64 x.o, .int .i64 x.n, .string x.s] 110)).drew).heap[w.heap.size + 1]? = some (.cells #[.int .i64 0, .int .i64 0, .int .i64 0, .slice none 0 0, .slice none 0 0, .int .i64 0] 47)) := box_drew (box_below (res6 w _ _ _ _ _ _ _ _) (below_alloc1 _ _))
  have hp : 0 ≤ m.p := by omega
  have hp2 : m.p ≤ 100 := by omega
  have c2c := (Stable.cell ⟨b, off + k * 3 + 2, none⟩ (.slice (some ⟨b', o', none⟩) n ci)).alloc ((Stable.cell ⟨b, off + k * 3 + 2, none⟩ (.slice (some ⟨b', o', none⟩) n ci)).1 _ _ (below_alloc2 w (.cells #[.int .i64 m.f, .int .i64 m.p, .int .i64 m.c, .slice sa m.st.length sc, .slice oa m.os.length oc, .int .i64 m.d] 47) (.cells #[.int .i64 0, .int .i64 0, .int .i64 0, .slice none 0 0, .slice none 0 0, .int .i64 0] 47)) c2) (.cells #[.int .i64 0, .int .i64 0, .string ⟨#[]⟩] 110)
  have r0c := (Stable.cell ⟨b', o' + j * 3, none⟩ (.int .i64 x.o)).alloc ((Stable.cell ⟨b', o' + j * 3, none⟩ (.int .i64 x.o)).1 _ _ (below_alloc2 w (.cells #[.int .i64 m.f, .int .i64 m.p, .int .i64 m.c, .slice sa m.st.length sc, .slice oa m.os.length oc, .int .i64 m.d] 47) (.cells #[.int .i64 0, .int .i64 0, .int .i64 0, .slice none 0 0, .slice none 0 0, .int .i64 0] 47)) r0) (.cells #[.int .i64 0, .int .i64 0, .string ⟨#[]⟩] 110)
  have r1c := (Stable.cell ⟨b', o' + j * 3 + 1, none⟩ (.int .i64 x.n)).alloc ((Stable.cell ⟨b', o' + j * 3 + 1, none⟩ (.int .i64 x.n)).1 _ _ (below_alloc2 w (.cells #[.int .i64 m.f, .int .i64 m.p, .int .i64 m.c, .slice sa m.st.length sc, .slice oa m.os.length oc, .int .i64 m.d] 47) (.cells #[.int .i64 0, .int .i64 0, .int .i64 0, .slice none 0 0, .slice none 0 0, .int .i64 0] 47)) r1) (.cells #[.int .i64 0, .int .i64 0, .string ⟨#[]⟩] 110)
  have r2c := (Stable.cell ⟨b', o' + j * 3 + 2, none⟩ (.string x.s)).alloc ((Stable.cell ⟨b', o' + j * 3 + 2, none⟩ (.string x.s)).1 _ _ (below_alloc2 w (.cells #[.int .i64 m.f, .int .i64 m.p, .int .i64 m.c, .slice sa m.st.length sc, .slice oa m.os.length oc, .int .i64 m.d] 47) (.cells #[.int .i64 0, .int .i64 0, .int .i64 0, .slice none 0 0, .slice none 0 0, .int .i64 0] 47)) r2) (.cells #[.int .i64 0, .int .i64 0, .string ⟨#[]⟩] 110)
  have hbl := World.block_lt_of_cell? w _ c2
  have hbl' := World.block_lt_of_cell? w _ r0
  simp only at hbl hbl'
  unfold maxLen at hcm hcc
  have hk' : (k : Int) < (fs.length : Int) := by omega
  have hj' : (j : Int) < (n : Int) := by omega
  have hk0 : (0 : Int) ≤ (k : Int) := by omega
  have hj0 : (0 : Int) ≤ (j : Int) := by omega
  have hjb : (j : Int) ≤ 100 := by omega
  have HF0 := hide hf0
  have HP0 := hide hp0
  clear hf0 hp0 hF hO ha
  obtain ⟨f, p, c, d, st, os⟩ := m
  obtain rfl : f = (k : Int) := unhide HF0
  obtain rfl : p = (j : Int) := unhide HP0
  clear HF0 HP0
  obtain ⟨xo, xn, xs⟩ := x
  simp only at *
  obtain rfl : xo = 4 := ho
  go_enter Tryz.func45, Tryz.ntmps45
  go_wp2_with fail
  go_region
  go_wp2_with fail
  refine (specFind_any _ cap fs xs _ hxs hcap (unhide HCM) ((unhide HF).below (unhide HO).2.2)).mono ?_
  rintro e w1 ⟨rfl, hb1⟩
  have hb := box_below (unhide HB) hb1
  have hr := box_below (unhide HR) hb1
  have HM0 : Hid (MachAt w1 w.heap.size) := ⟨_, hb⟩
  have HM1 : Hid (MachAt w1 (w.heap.size + 1)) := ⟨_, hr⟩
  have xb := box6 hb
  have xr := box6 hr
  have HO1 := hide ((unhide HO).below hb1)
  have HK1 := hide ((unhide HK).trans (Keeps.of hb1))
  have hz1 := hb1.size
  simp only [World.size_drew, World.size_alloc] at hz1
  clear hb hr hb1 HO HK HB HR
  go_wp2_with fail
  refine bodyPost_ret (v := .agg (aggM (MD.goTo fs ⟨(k : Int), (j : Int), c, d, st, os⟩ xs) (.slice sa st.length sc) (.slice oa os.length oc))) (by simp [results, Tryz.results45, go_sem, aggM, MD.goTo, xr]) rfl ⟨_, _, rfl, ?_, ?_, ?_⟩
  · repeat (with_reducible refine OwnM.set ?_ (by (repeat (with_reducible refine MachAt.set ?_)); first | exact unhide HM0 | exact unhide HM1) (by omega))
    exact unhide HO1
  · repeat (with_reducible refine Keeps.set ?_ (by omega))
    exact unhide HK1
  · simp; omega

set_option maxHeartbeats 4000000 in
theorem do_ifyes (W0 : World) (b off cap b' o' : Nat) (fs : List FunD) (k j n ci : Nat) (m : MD) (x : InsD) (sa oa : Option Addr) (sc oc : Nat) (w : World) (h : Do W0 b off cap b' o' fs k j n ci m x sa oa sc oc w) (ho : x.o = 5) (hc : 0 < m.c) :
    Calls Tryz.prog 45 #[.slice (some ⟨b, off, none⟩) fs.length cap, .agg (aggM m (.slice sa m.st.length sc) (.slice oa m.os.length oc))] w fun e w' => MEnd W0 w (MD.goTo fs m x.s) e w' := by
  obtain ⟨hcap, hcm, hf0, hp0, hk, hj, hj10, hnc, hcc, hol, hsl, hs1, hs2, ho1, ho2, hF, hO, c2, r0, r1, r2, hxs⟩ := h
  have hsz := hO.2.2.size
  have HF := hide hF
  have HCM := hide hcm
  unfold aggM
  have ha : Below w.heap.size w ((((w.alloc (.cells #[.int .i64 m.f, .int .i64 m.p, .int .i64 m.c, .slice sa m.st.length sc, .slice oa m.os.length oc, .int .i64 m.d] 47)).alloc (.cells #[.int .i64 0, .int .i64 0, .int .i64 0, .slice none 0 0, .slice none 0 0, .int .i64 0] 47)).alloc (.cells #[.int .i64 x.o, .int .i64 x.n, .string x.s] 110)).drew) := ((bl_alloc (below_alloc2 w _ _) _).drew)
  have HO := hide (hO.below ha)
  have HK := hide (Keeps.of ha)
  have HB : Hid (((((w.alloc (.cells #[.int .i64 m.f, .int .i64 m.p, .int .i64 m.c, .slice sa m.st.length sc, .slice oa m.os.length oc, .int .i64 m.d] 47)).alloc (.cells #[.int .i64 0, .int .i64 0, .int .i64 0, .slice none 0 0, .slice none 0 0, .int .i64 0] 47)).alloc (.cells #[.int .i64 x.o, .int .i64 x.n, .string x.s] 110)).drew).heap[w.heap.size]? = some (.cells #[.int .i64 m.f, .int .i64 m.p, .int .i64 m.c, .slice sa m.st.length sc, .slice oa m.os.length oc, .int .i64 m.d] 47)) := box_drew (box_below (box_below (new_block w _) (below_alloc1 _ _)) (below_alloc1 _ _))
  have HR : Hid (((((w.alloc (.cells #[.int .i64 m.f, .int .i64 m.p, .int .i64 m.c, .slice sa m.st.length sc, .slice oa m.os.length oc, .int .i64 m.d] 47)).alloc (.cells #[.int .i64 0, .int .i64 0, .int .i64 0, .slice none 0 0, .slice none 0 0, .int .i64 0] 47)).alloc (.cells #[.int .i64 x.o, .int .i64 x.n, .string x.s] 110)).drew).heap[w.heap.size + 1]? = some (.cells #[.int .i64 0, .int .i64 0, .int .i64 0, .slice none 0 0, .slice none 0 0, .int .i64 0] 47)) := box_drew (box_below (res6 w _ _ _ _ _ _ _ _) (below_alloc1 _ _))
  have hp : 0 ≤ m.p := by omega
  have hp2 : m.p ≤ 100 := by omega
  have c2c := (Stable.cell ⟨b, off + k * 3 + 2, none⟩ (.slice (some ⟨b', o', none⟩) n ci)).alloc ((Stable.cell ⟨b, off + k * 3 + 2, none⟩ (.slice (some ⟨b', o', none⟩) n ci)).1 _ _ (below_alloc2 w (.cells #[.int .i64 m.f, .int .i64 m.p, .int .i64 m.c, .slice sa m.st.length sc, .slice oa m.os.length oc, .int .i64 m.d] 47) (.cells #[.int .i64 0, .int .i64 0, .int .i64 0, .slice none 0 0, .slice none 0 0, .int .i64 0] 47)) c2) (.cells #[.int .i64 0, .int .i64 0, .string ⟨#[]⟩] 110)
  have r0c := (Stable.cell ⟨b', o' + j * 3, none⟩ (.int .i64 x.o)).alloc ((Stable.cell ⟨b', o' + j * 3, none⟩ (.int .i64 x.o)).1 _ _ (below_alloc2 w (.cells #[.int .i64 m.f, .int .i64 m.p, .int .i64 m.c, .slice sa m.st.length sc, .slice oa m.os.length oc, .int .i64 m.d] 47) (.cells #[.int .i64 0, .int .i64 0, .int .i64 0, .slice none 0 0, .slice none 0 0, .int .i64 0] 47)) r0) (.cells #[.int .i64 0, .int .i64 0, .string ⟨#[]⟩] 110)
  have r1c := (Stable.cell ⟨b', o' + j * 3 + 1, none⟩ (.int .i64 x.n)).alloc ((Stable.cell ⟨b', o' + j * 3 + 1, none⟩ (.int .i64 x.n)).1 _ _ (below_alloc2 w (.cells #[.int .i64 m.f, .int .i64 m.p, .int .i64 m.c, .slice sa m.st.length sc, .slice oa m.os.length oc, .int .i64 m.d] 47) (.cells #[.int .i64 0, .int .i64 0, .int .i64 0, .slice none 0 0, .slice none 0 0, .int .i64 0] 47)) r1) (.cells #[.int .i64 0, .int .i64 0, .string ⟨#[]⟩] 110)
  have r2c := (Stable.cell ⟨b', o' + j * 3 + 2, none⟩ (.string x.s)).alloc ((Stable.cell ⟨b', o' + j * 3 + 2, none⟩ (.string x.s)).1 _ _ (below_alloc2 w (.cells #[.int .i64 m.f, .int .i64 m.p, .int .i64 m.c, .slice sa m.st.length sc, .slice oa m.os.length oc, .int .i64 m.d] 47) (.cells #[.int .i64 0, .int .i64 0, .int .i64 0, .slice none 0 0, .slice none 0 0, .int .i64 0] 47)) r2) (.cells #[.int .i64 0, .int .i64 0, .string ⟨#[]⟩] 110)
  have hbl := World.block_lt_of_cell? w _ c2
  have hbl' := World.block_lt_of_cell? w _ r0
  simp only at hbl hbl'
  unfold maxLen at hcm hcc
  have hk' : (k : Int) < (fs.length : Int) := by omega
  have hj' : (j : Int) < (n : Int) := by omega
  have hk0 : (0 : Int) ≤ (k : Int) := by omega
  have hj0 : (0 : Int) ≤ (j : Int) := by omega
  have hjb : (j : Int) ≤ 100 := by omega
  have HF0 := hide hf0
  have HP0 := hide hp0
  clear hf0 hp0 hF hO ha
  obtain ⟨f, p, c, d, st, os⟩ := m
  obtain rfl : f = (k : Int) := unhide HF0
  obtain rfl : p = (j : Int) := unhide HP0
  clear HF0 HP0
  obtain ⟨xo, xn, xs⟩ := x
  simp only at *
  obtain rfl : xo = 5 := ho
  go_enter Tryz.func45, Tryz.ntmps45
  go_wp2_with fail
  go_region
  go_wp2_with fail
  refine (specFind_any _ cap fs xs _ hxs hcap (unhide HCM) ((unhide HF).below (unhide HO).2.2)).mono ?_
  rintro e w1 ⟨rfl, hb1⟩
  have hb := box_below (unhide HB) hb1
  have hr := box_below (unhide HR) hb1
  have HM0 : Hid (MachAt w1 w.heap.size) := ⟨_, hb⟩
  have HM1 : Hid (MachAt w1 (w.heap.size + 1)) := ⟨_, hr⟩
  have xb := box6 hb
  have xr := box6 hr
  have HO1 := hide ((unhide HO).below hb1)
  have HK1 := hide ((unhide HK).trans (Keeps.of hb1))
  have hz1 := hb1.size
  simp only [World.size_drew, World.size_alloc] at hz1
  clear hb hr hb1 HO HK HB HR
  go_wp2_with fail
  refine bodyPost_ret (v := .agg (aggM (MD.goTo fs ⟨(k : Int), (j : Int), c, d, st, os⟩ xs) (.slice sa st.length sc) (.slice oa os.length oc))) (by simp [results, Tryz.results45, go_sem, aggM, MD.goTo, xr]) rfl ⟨_, _, rfl, ?_, ?_, ?_⟩
  · repeat (with_reducible refine OwnM.set ?_ (by (repeat (with_reducible refine MachAt.set ?_)); first | exact unhide HM0 | exact unhide HM1) (by omega))
    exact unhide HO1
  · repeat (with_reducible refine Keeps.set ?_ (by omega))
    exact unhide HK1
  · simp; omega

set_option maxHeartbeats 4000000 in
theorem do_ifno (W0 : World) (b off cap b' o' : Nat) (fs : List FunD) (k j n ci : Nat) (m : MD) (x : InsD) (sa oa : Option Addr) (sc oc : Nat) (w : World) (h : Do W0 b off cap b' o' fs k j n ci m x sa oa sc oc w) (ho : x.o = 5) (hc : ¬ 0 < m.c) :
    Calls Tryz.prog 45 #[.slice (some ⟨b, off, none⟩) fs.length cap, .agg (aggM m (.slice sa m.st.length sc) (.slice oa m.os.length oc))] w fun e w' => MEnd W0 w (nextM m) e w' := by
  obtain ⟨hcap, hcm, hf0, hp0, hk, hj, hj10, hnc, hcc, hol, hsl, hs1, hs2, ho1, ho2, hF, hO, c2, r0, r1, r2, hxs⟩ := h
  have hsz := hO.2.2.size
  have HF := hide hF
  have HOW := hide hO
  have HCM := hide hcm
  unfold aggM
  have ha : Below w.heap.size w ((((w.alloc (.cells #[.int .i64 m.f, .int .i64 m.p, .int .i64 m.c, .slice sa m.st.length sc, .slice oa m.os.length oc, .int .i64 m.d] 47)).alloc (.cells #[.int .i64 0, .int .i64 0, .int .i64 0, .slice none 0 0, .slice none 0 0, .int .i64 0] 47)).alloc (.cells #[.int .i64 x.o, .int .i64 x.n, .string x.s] 110)).drew) := ((bl_alloc (below_alloc2 w _ _) _).drew)
  have HO := hide (hO.below ha)
  have HK := hide (Keeps.of ha)
  have HB : Hid (((((w.alloc (.cells #[.int .i64 m.f, .int .i64 m.p, .int .i64 m.c, .slice sa m.st.length sc, .slice oa m.os.length oc, .int .i64 m.d] 47)).alloc (.cells #[.int .i64 0, .int .i64 0, .int .i64 0, .slice none 0 0, .slice none 0 0, .int .i64 0] 47)).alloc (.cells #[.int .i64 x.o, .int .i64 x.n, .string x.s] 110)).drew).heap[w.heap.size]? = some (.cells #[.int .i64 m.f, .int .i64 m.p, .int .i64 m.c, .slice sa m.st.length sc, .slice oa m.os.length oc, .int .i64 m.d] 47)) := box_drew (box_below (box_below (new_block w _) (below_alloc1 _ _)) (below_alloc1 _ _))
  have HR : Hid (((((w.alloc (.cells #[.int .i64 m.f, .int .i64 m.p, .int .i64 m.c, .slice sa m.st.length sc, .slice oa m.os.length oc, .int .i64 m.d] 47)).alloc (.cells #[.int .i64 0, .int .i64 0, .int .i64 0, .slice none 0 0, .slice none 0 0, .int .i64 0] 47)).alloc (.cells #[.int .i64 x.o, .int .i64 x.n, .string x.s] 110)).drew).heap[w.heap.size + 1]? = some (.cells #[.int .i64 0, .int .i64 0, .int .i64 0, .slice none 0 0, .slice none 0 0, .int .i64 0] 47)) := box_drew (box_below (res6 w _ _ _ _ _ _ _ _) (below_alloc1 _ _))
  have hp : 0 ≤ m.p := by omega
  have hp2 : m.p ≤ 100 := by omega
  have c2c := (Stable.cell ⟨b, off + k * 3 + 2, none⟩ (.slice (some ⟨b', o', none⟩) n ci)).alloc ((Stable.cell ⟨b, off + k * 3 + 2, none⟩ (.slice (some ⟨b', o', none⟩) n ci)).1 _ _ (below_alloc2 w (.cells #[.int .i64 m.f, .int .i64 m.p, .int .i64 m.c, .slice sa m.st.length sc, .slice oa m.os.length oc, .int .i64 m.d] 47) (.cells #[.int .i64 0, .int .i64 0, .int .i64 0, .slice none 0 0, .slice none 0 0, .int .i64 0] 47)) c2) (.cells #[.int .i64 0, .int .i64 0, .string ⟨#[]⟩] 110)
  have r0c := (Stable.cell ⟨b', o' + j * 3, none⟩ (.int .i64 x.o)).alloc ((Stable.cell ⟨b', o' + j * 3, none⟩ (.int .i64 x.o)).1 _ _ (below_alloc2 w (.cells #[.int .i64 m.f, .int .i64 m.p, .int .i64 m.c, .slice sa m.st.length sc, .slice oa m.os.length oc, .int .i64 m.d] 47) (.cells #[.int .i64 0, .int .i64 0, .int .i64 0, .slice none 0 0, .slice none 0 0, .int .i64 0] 47)) r0) (.cells #[.int .i64 0, .int .i64 0, .string ⟨#[]⟩] 110)
  have r1c := (Stable.cell ⟨b', o' + j * 3 + 1, none⟩ (.int .i64 x.n)).alloc ((Stable.cell ⟨b', o' + j * 3 + 1, none⟩ (.int .i64 x.n)).1 _ _ (below_alloc2 w (.cells #[.int .i64 m.f, .int .i64 m.p, .int .i64 m.c, .slice sa m.st.length sc, .slice oa m.os.length oc, .int .i64 m.d] 47) (.cells #[.int .i64 0, .int .i64 0, .int .i64 0, .slice none 0 0, .slice none 0 0, .int .i64 0] 47)) r1) (.cells #[.int .i64 0, .int .i64 0, .string ⟨#[]⟩] 110)
  have r2c := (Stable.cell ⟨b', o' + j * 3 + 2, none⟩ (.string x.s)).alloc ((Stable.cell ⟨b', o' + j * 3 + 2, none⟩ (.string x.s)).1 _ _ (below_alloc2 w (.cells #[.int .i64 m.f, .int .i64 m.p, .int .i64 m.c, .slice sa m.st.length sc, .slice oa m.os.length oc, .int .i64 m.d] 47) (.cells #[.int .i64 0, .int .i64 0, .int .i64 0, .slice none 0 0, .slice none 0 0, .int .i64 0] 47)) r2) (.cells #[.int .i64 0, .int .i64 0, .string ⟨#[]⟩] 110)
  have hbl := World.block_lt_of_cell? w _ c2
  have hbl' := World.block_lt_of_cell? w _ r0
  simp only at hbl hbl'
  unfold maxLen at hcm hcc
  have hk' : (k : Int) < (fs.length : Int) := by omega
  have hj' : (j : Int) < (n : Int) := by omega
  have hk0 : (0 : Int) ≤ (k : Int) := by omega
  have hj0 : (0 : Int) ≤ (j : Int) := by omega
  have hjb : (j : Int) ≤ 100 := by omega
  have HF0 := hide hf0
  have HP0 := hide hp0
  clear hf0 hp0 hF hO ha
  obtain ⟨f, p, c, d, st, os⟩ := m
  obtain rfl : f = (k : Int) := unhide HF0
  obtain rfl : p = (j : Int) := unhide HP0
  clear HF0 HP0
  obtain ⟨xo, xn, xs⟩ := x
  simp only at *
  obtain rfl : xo = 5 := ho
  go_enter Tryz.func45, Tryz.ntmps45
  go_wp2_with fail
  go_region
  clear HO HK HB HR
  go_wp2_with (fail)
  refine bodyPost_ret (v := .agg (aggM (⟨(k : Int), (j : Int) + 1, c, d, st, os⟩ : MD) (.slice sa st.length sc) (.slice oa os.length oc))) (by simp [results, Tryz.results45, go_sem, aggM]) rfl ⟨_, _, rfl, ?_, ?_, ?_⟩
  · exact OwnM.below (unhide HOW) ((bl_alloc (below_alloc2 w _ _) _).drew)
  · exact Keeps.of ((bl_alloc (below_alloc2 w _ _) _).drew)
  · simp; omega

end Go.Proofs.YtjbhbkkkjdpamaaGreat.MSpecC
