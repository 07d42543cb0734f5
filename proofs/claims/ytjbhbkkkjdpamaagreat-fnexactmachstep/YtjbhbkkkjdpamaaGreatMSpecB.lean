/- The contracts of the specification's instructions: say, call, return. -/
import Derived.Test.YtjbhbkkkjdpamaaGreatMSpec
import Derived.Lib.AppendZeros
namespace Go.Proofs.YtjbhbkkkjdpamaaGreat.MSpecB
open Go.ChangeShapes Go.WideShapes Go.ChangeAt Go.RowKit Go.Joins Go.WideMaps Go.Maps
open Go.Proofs.YtjbhbkkkjdpamaaGreat.Base Go.Proofs.YtjbhbkkkjdpamaaGreat.InsA Go.Proofs.YtjbhbkkkjdpamaaGreat.Funs Go.Proofs.YtjbhbkkkjdpamaaGreat.Open Go.Proofs.YtjbhbkkkjdpamaaGreat.Keep Go.Proofs.YtjbhbkkkjdpamaaGreat.UnitS Go.Proofs.YtjbhbkkkjdpamaaGreat.UnitM Go.Proofs.YtjbhbkkkjdpamaaGreat.WantsI Go.Proofs.YtjbhbkkkjdpamaaGreat.Mach Go.Proofs.YtjbhbkkkjdpamaaGreat.Mark Go.Proofs.YtjbhbkkkjdpamaaGreat.Sum Go.Proofs.YtjbhbkkkjdpamaaGreat.MOk Go.Proofs.YtjbhbkkkjdpamaaGreat.MD Go.Proofs.YtjbhbkkkjdpamaaGreat.MRun Go.Proofs.YtjbhbkkkjdpamaaGreat.MDeed Go.Proofs.YtjbhbkkkjdpamaaGreat.MSay Go.Proofs.YtjbhbkkkjdpamaaGreat.MSpec
set_option linter.unusedVariables false
set_option maxRecDepth 100000

/-- What an instruction of the specification leaves. -/
def MEnd (W0 w : World) (m : MD) (e : Ending) (w' : World) : Prop := ∃ sv ov, e = .returned (.agg (aggM m sv ov)) ∧ OwnM W0 w' sv ov m ∧ Keeps w w' ∧ w.heap.size ≤ w'.heap.size
theorem zeroMach : (#[.int .i64 0, .int .i64 0, .int .i64 0, .slice none 0 0, .slice none 0 0, .int .i64 0] : Array Value).size = 6 := rfl
theorem res6 (w : World) (o : Obj) (v0 v1 v2 v3 v4 v5 : Value) (t : TypeId) : ((w.alloc o).alloc (.cells #[v0, v1, v2, v3, v4, v5] t)).heap[w.heap.size + 1]? = some (.cells #[v0, v1, v2, v3, v4, v5] t) := by
  have := new_block (w.alloc o) (.cells #[v0, v1, v2, v3, v4, v5] t)
  simpa [World.size_alloc] using this
set_option maxHeartbeats 4000000 in
theorem sSay_any (W0 : World) (m : MD) (sv ov : Value) (w : World) (hp : 0 ≤ m.p) (hp2 : m.p ≤ 100) (hl : m.os.length ≤ 30) (h : OwnM W0 w sv ov m) :
    Calls Tryz.prog 89 #[.agg (aggM m sv ov)] w fun e w' => MEnd W0 w (sayM m) e w' := by
  have hsz := h.2.2.size
  obtain ⟨sa, sc, rfl, hs1, hs2⟩ := spot_form h.1
  obtain ⟨oa, oc, rfl, ho1, ho2⟩ := num_form h.2.1
  unfold aggM
  by_cases h30 : 30 ≤ m.os.length
  · have em : sayM m = { m with d := 4 } := by unfold sayM; rw [if_pos h30]
    rw [em]
    have h30' : (30 : Int) ≤ (m.os.length : Int) := by omega
    have HO := hide h
    clear h h30 em
    go_enter Tryz.func89, Tryz.ntmps89
    go_wp2_with fail
    refine bodyPost_ret (v := .agg (aggM { m with d := 4 } (.slice sa m.st.length sc) (.slice oa m.os.length oc))) (by simp [results, Tryz.results89, go_sem, aggM]) rfl ⟨_, _, rfl, (unhide HO).below (below_alloc2 _ _ _), Keeps.of (below_alloc2 _ _ _), by simp; omega⟩
  · have em : sayM m = { m with os := m.os ++ [m.c], p := m.p + 1 } := by unfold sayM; rw [if_neg h30]
    rw [em]
    have h30' : ¬ (30 : Int) ≤ (m.os.length : Int) := by omega
    have ha := below_alloc2 w (.cells #[.int .i64 m.f, .int .i64 m.p, .int .i64 m.c, .slice sa m.st.length sc, .slice oa m.os.length oc, .int .i64 m.d] 47) (.cells #[.int .i64 0, .int .i64 0, .int .i64 0, .slice none 0 0, .slice none 0 0, .int .i64 0] 47)
    obtain ⟨a1, c1, w1, hrun, hO1, hK1, hz1⟩ := num_put (h.below ha) hl 24
    have hb := hK1 _ _ _ (box_below (new_block w (.cells #[.int .i64 m.f, .int .i64 m.p, .int .i64 m.c, .slice sa m.st.length sc, .slice oa m.os.length oc, .int .i64 m.d] 47)) (below_alloc1 _ (.cells #[.int .i64 0, .int .i64 0, .int .i64 0, .slice none 0 0, .slice none 0 0, .int .i64 0] 47))) (by decide) (by decide)
    have hr := hK1 _ _ _ (res6 w (.cells #[.int .i64 m.f, .int .i64 m.p, .int .i64 m.c, .slice sa m.st.length sc, .slice oa m.os.length oc, .int .i64 m.d] 47) (.int .i64 0) (.int .i64 0) (.int .i64 0) (.slice none 0 0) (.slice none 0 0) (.int .i64 0) 47) (by decide) (by decide)
    have HK := hide ((Keeps.of ha).trans hK1)
    have HM0 : Hid (MachAt w1 w.heap.size) := ⟨_, hb⟩
    have HM1 : Hid (MachAt w1 (w.heap.size + 1)) := ⟨_, hr⟩
    have HO := hide hO1
    simp only [World.size_alloc] at hrun
    have HRUN := hide hrun
    have xb := box6 hb
    have xr := box6 hr
    simp only [World.size_alloc] at hz1
    clear h ha hrun hO1 hK1 hb hr em h30
    go_enter Tryz.func89, Tryz.ntmps89
    go_wp2_with (at_builtin; refine Lib.wpList_append_run _ rfl _ _ _ _ rfl _ _ rfl rfl _ _ (unhide HRUN) ?_)
    refine bodyPost_ret (v := .agg (aggM { m with os := m.os ++ [m.c], p := m.p + 1 } (.slice sa m.st.length sc) (.slice a1 (m.os.length + 1) c1))) (by simp [results, Tryz.results89, go_sem, aggM, xr]) rfl ⟨_, _, rfl, ?_, ?_, ?_⟩
    · have hO2 : OwnM W0 w1 (.slice sa m.st.length sc) (.slice a1 (m.os.length + 1) c1) { m with os := m.os ++ [m.c], p := m.p + 1 } := unhide HO
      repeat (with_reducible refine OwnM.set ?_ (by (repeat (with_reducible refine MachAt.set ?_)); first | exact unhide HM0 | exact unhide HM1) (by omega))
      exact hO2
    · repeat (with_reducible refine Keeps.set ?_ (by omega))
      exact unhide HK
    · simp; omega
set_option maxHeartbeats 4000000 in
theorem sCall_any (W0 : World) (a : Option Addr) (cap : Nat) (fs : List FunD) (m : MD) (sv ov : Value) (s : ByteArray) (w : World) (hs : s.size ≤ maxLen) (hcap : fs.length ≤ cap) (hcm : cap ≤ maxLen) (hF : FunRow W0 a fs) (hp : 0 ≤ m.p) (hp2 : m.p ≤ 100) (hl : m.st.length ≤ 5) (h : OwnM W0 w sv ov m) :
    Calls Tryz.prog 91 #[.slice a fs.length cap, .agg (aggM m sv ov), .string s] w fun e w' => MEnd W0 w (callM fs m s) e w' := by
  have hsz := h.2.2.size
  obtain ⟨sa, sc, rfl, hs1, hs2⟩ := spot_form h.1
  obtain ⟨oa, oc, rfl, ho1, ho2⟩ := num_form h.2.1
  unfold aggM
  by_cases h5 : 5 ≤ m.st.length
  · have em : callM fs m s = { m with d := 2 } := by unfold callM; rw [if_pos h5]
    rw [em]
    have h5' : (5 : Int) ≤ (m.st.length : Int) := by omega
    have HO := hide h
    clear h h5 em hF
    go_enter Tryz.func91, Tryz.ntmps91
    go_wp2_with fail
    refine bodyPost_ret (v := .agg (aggM { m with d := 2 } (.slice sa m.st.length sc) (.slice oa m.os.length oc))) (by simp [results, Tryz.results91, go_sem, aggM]) rfl ⟨_, _, rfl, (unhide HO).below (below_alloc2 _ _ _), Keeps.of (below_alloc2 _ _ _), by simp; omega⟩
  · have em : callM fs m s = { m with st := m.st ++ [⟨m.f, m.p + 1⟩], f := findI fs s, p := 0 } := by unfold callM; rw [if_neg h5]
    rw [em]
    have h5' : ¬ (5 : Int) ≤ (m.st.length : Int) := by omega
    have ha := below_alloc2 w (.cells #[.int .i64 m.f, .int .i64 m.p, .int .i64 m.c, .slice sa m.st.length sc, .slice oa m.os.length oc, .int .i64 m.d] 47) (.cells #[.int .i64 0, .int .i64 0, .int .i64 0, .slice none 0 0, .slice none 0 0, .int .i64 0] 47)
    obtain ⟨a1, c1, w1, hrun, hO1, hK1, hz1⟩ := spot_put (h.below ha) hl ⟨m.f, m.p + 1⟩ 45
    have hb := hK1 _ _ _ (box_below (new_block w (.cells #[.int .i64 m.f, .int .i64 m.p, .int .i64 m.c, .slice sa m.st.length sc, .slice oa m.os.length oc, .int .i64 m.d] 47)) (below_alloc1 _ (.cells #[.int .i64 0, .int .i64 0, .int .i64 0, .slice none 0 0, .slice none 0 0, .int .i64 0] 47))) (by decide) (by decide)
    have hr := hK1 _ _ _ (res6 w (.cells #[.int .i64 m.f, .int .i64 m.p, .int .i64 m.c, .slice sa m.st.length sc, .slice oa m.os.length oc, .int .i64 m.d] 47) (.int .i64 0) (.int .i64 0) (.int .i64 0) (.slice none 0 0) (.slice none 0 0) (.int .i64 0) 47) (by decide) (by decide)
    have HK := hide ((Keeps.of ha).trans hK1)
    have HM0 : Hid (MachAt w1 w.heap.size) := ⟨_, hb⟩
    have HM1 : Hid (MachAt w1 (w.heap.size + 1)) := ⟨_, hr⟩
    have HO := hide hO1
    have HF := hide hF
    simp only [World.size_alloc] at hrun
    have HRUN := hide hrun
    have xb := box6 hb
    have xr := box6 hr
    have HXB := hide hb
    have HXR := hide hr
    simp only [World.size_alloc] at hz1
    clear h ha hrun hO1 hK1 hb hr em h5 hF
    go_enter Tryz.func91, Tryz.ntmps91
    go_wp2_with (at_builtin; refine Lib.wpList_append_run _ rfl _ _ _ _ rfl _ _ rfl rfl _ _ (unhide HRUN) ?_)
    clear xb xr HRUN
    have HO2 : Hid (OwnM W0 (w1.setCell ⟨w.heap.size, 3, none⟩ (.slice a1 (m.st.length + 1) c1)) (.slice a1 (m.st.length + 1) c1) (.slice oa m.os.length oc) { m with st := m.st ++ [⟨m.f, m.p + 1⟩] }) := OwnM.set (unhide HO) (unhide HM0) (by omega)
    have HB2 : Hid ((w1.setCell ⟨w.heap.size, 3, none⟩ (.slice a1 (m.st.length + 1) c1)).heap[w.heap.size]? = some (.cells #[.int .i64 m.f, .int .i64 m.p, .int .i64 m.c, .slice a1 (m.st.length + 1) c1, .slice oa m.os.length oc, .int .i64 m.d] 47)) := block_setCell (unhide HXB) _
    have HR2 : Hid ((w1.setCell ⟨w.heap.size, 3, none⟩ (.slice a1 (m.st.length + 1) c1)).heap[w.heap.size + 1]? = some (.cells #[.int .i64 0, .int .i64 0, .int .i64 0, .slice none 0 0, .slice none 0 0, .int .i64 0] 47)) := set_other (unhide HXR) (by omega)
    have HK2 : Hid (Keeps w (w1.setCell ⟨w.heap.size, 3, none⟩ (.slice a1 (m.st.length + 1) c1))) := (unhide HK).set (by omega)
    have hz2 : w.heap.size + 1 + 1 ≤ (w1.setCell ⟨w.heap.size, 3, none⟩ (.slice a1 (m.st.length + 1) c1)).heap.size := by simpa using hz1
    generalize w1.setCell ⟨w.heap.size, 3, none⟩ (.slice a1 (m.st.length + 1) c1) = w2 at *
    clear HO HXB HXR HK HM0 HM1
    refine (specFind_any a cap fs s _ hs hcap hcm ((unhide HF).below (unhide HO2).2.2)).mono ?_
    rintro e w3 ⟨rfl, hb3⟩
    have HO3 := hide ((unhide HO2).below hb3)
    have hb := box_below (unhide HB2) hb3
    have hr := box_below (unhide HR2) hb3
    have HK3 := hide ((unhide HK2).trans (Keeps.of hb3))
    have HM0 : Hid (MachAt w3 w.heap.size) := ⟨_, hb⟩
    have HM1 : Hid (MachAt w3 (w.heap.size + 1)) := ⟨_, hr⟩
    have xb := box6 hb
    have xr := box6 hr
    have hz3 := Nat.le_trans hz2 hb3.size
    clear hb hr hb3 HO2 HB2 HR2 HK2
    go_wp2_with fail
    refine bodyPost_ret (v := .agg (aggM { m with st := m.st ++ [⟨m.f, m.p + 1⟩], f := findI fs s, p := 0 } (.slice a1 (m.st.length + 1) c1) (.slice oa m.os.length oc))) (by simp [results, Tryz.results91, go_sem, aggM, xr]) rfl ⟨_, _, rfl, ?_, ?_, ?_⟩
    · have hO2 : OwnM W0 w3 (.slice a1 (m.st.length + 1) c1) (.slice oa m.os.length oc) { m with st := m.st ++ [⟨m.f, m.p + 1⟩], f := findI fs s, p := 0 } := unhide HO3
      repeat (with_reducible refine OwnM.set ?_ (by (repeat (with_reducible refine MachAt.set ?_)); first | exact unhide HM0 | exact unhide HM1) (by omega))
      exact hO2
    · repeat (with_reducible refine Keeps.set ?_ (by omega))
      exact unhide HK3
    · simp; omega
theorem flat_at (st : List SpotD) (i : Nat) (hi : i < st.length) : (flatS st)[i * 2]? = some (.int .i64 st[i].f) ∧ (flatS st)[i * 2 + 1]? = some (.int .i64 st[i].p) := by
  induction st generalizing i with
  | nil => simp at hi
  | cons x r ih =>
    cases i with
    | zero => exact ⟨rfl, rfl⟩
    | succ i =>
      have h := ih i (by simpa using hi)
      have e : flatS (x :: r) = .int .i64 x.f :: .int .i64 x.p :: flatS r := rfl
      rw [e, show (i + 1) * 2 = i * 2 + 1 + 1 by omega]
      simpa using h
theorem spot_row {w : World} {B : Nat} {a : Option Addr} {n c : Nat} {st : List SpotD} (h : SpotOwn w B (.slice a n c) st) : SpotRow w a st := by
  obtain ⟨_, ⟨e, h0⟩ | ⟨g, cap, cur, e, hB, hg, hn, hm, hs, ht⟩⟩ := h
  · exact .inl (List.length_eq_zero_iff.1 h0)
  · simp only [Value.slice.injEq] at e
    obtain ⟨rfl, _, _⟩ := e
    refine .inr ⟨g, 0, rfl, fun i hi => ?_⟩
    obtain ⟨h1, h2⟩ := flat_at st i hi
    rw [← ht, List.getElem?_take_of_lt (by omega)] at h1 h2
    rw [Nat.zero_add, cell_of_block hg, cell_of_block hg]
    exact ⟨by simpa using h1, by simpa using h2⟩
theorem num_row {w : World} {B : Nat} {a : Option Addr} {n c : Nat} {os : List Int} (h : NumOwn w B (.slice a n c) os) : NumRow w a os := by
  obtain ⟨_, ⟨e, h0⟩ | ⟨g, cap, cur, e, hB, hg, hn, hm, hs, ht⟩⟩ := h
  · exact .inl (List.length_eq_zero_iff.1 h0)
  · simp only [Value.slice.injEq] at e
    obtain ⟨rfl, _, _⟩ := e
    refine .inr ⟨g, 0, rfl, fun i hi => ?_⟩
    have h1 : (os.map (Value.int .i64))[i]? = some (.int .i64 os[i]) := by simp [hi]
    rw [← ht, List.getElem?_take_of_lt (by omega)] at h1
    rw [Nat.zero_add, cell_of_block hg]
    simpa using h1
theorem spot_take {w : World} {B g off n c k : Nat} {st : List SpotD} (h : SpotOwn w B (.slice (some ⟨g, off, none⟩) n c) st) (hk : k ≤ st.length) : off = 0 ∧ SpotOwn w B (.slice (some ⟨g, off, none⟩) k c) (st.take k) := by
  obtain ⟨h0, ⟨e, _⟩ | ⟨g', cap, cur, e, hB, hg, hn, hm, hs, ht⟩⟩ := h
  · simp at e
  · simp only [Value.slice.injEq, Option.some.injEq, Addr.mk.injEq] at e
    obtain ⟨⟨rfl, rfl, _⟩, _, rfl⟩ := e
    have hl : (st.take k).length = k := by rw [List.length_take]; omega
    refine ⟨rfl, by rw [flat_len], .inr ⟨g, c, cur, by rw [hl], hB, hg, by omega, hm, hs, ?_⟩⟩
    have e1 : flatS st = flatS (st.take k) ++ flatS (st.drop k) := by rw [← flat_append, List.take_append_drop]
    have e2 : cur.toList.take ((st.take k).length * 2) = (cur.toList.take (st.length * 2)).take ((st.take k).length * 2) := by rw [List.take_take, Nat.min_eq_left (by omega)]
    rw [e2, ht, e1, ← flat_len (st.take k), List.take_left]
set_option maxHeartbeats 4000000 in
theorem sRet_any (W0 : World) (m : MD) (sv ov : Value) (w : World) (hl : m.st.length ≤ 5) (h : OwnM W0 w sv ov m) :
    Calls Tryz.prog 92 #[.agg (aggM m sv ov)] w fun e w' => MEnd W0 w (retM m) e w' := by
  have hsz := h.2.2.size
  obtain ⟨sa, sc, rfl, hs1, hs2⟩ := spot_form h.1
  obtain ⟨oa, oc, rfl, ho1, ho2⟩ := num_form h.2.1
  unfold aggM
  unfold maxLen at hs2
  by_cases h0 : m.st.length = 0
  · have em : retM m = { m with d := 3 } := by unfold retM; rw [List.length_eq_zero_iff.1 h0]; rfl
    rw [em]
    have h0' : (m.st.length : Int) = 0 := by omega
    have HO := hide h
    clear h em
    rw [h0] at *
    go_enter Tryz.func92, Tryz.ntmps92
    go_wp2_with fail
    refine bodyPost_ret (v := .agg (aggM { m with d := 3 } (.slice sa 0 sc) (.slice oa m.os.length oc))) (by simp [results, Tryz.results92, go_sem, aggM]) rfl ⟨_, _, rfl, (unhide HO).below (below_alloc2 _ _ _), Keeps.of (below_alloc2 _ _ _), by simp; omega⟩
  · obtain ⟨k, hk⟩ : ∃ k, m.st.length = k + 1 := ⟨m.st.length - 1, by omega⟩
    have hkl : k < m.st.length := by omega
    have hrow := spot_row h.1
    obtain ⟨g, off, rfl⟩ := hrow.get (by omega)
    obtain ⟨rfl, htk⟩ := spot_take h.1 (show k ≤ m.st.length by omega)
    have em : retM m = { m with f := m.st[k].f, p := m.st[k].p, st := m.st.take k } := by
      unfold retM
      have e : m.st.getLast? = some m.st[k] := by rw [List.getLast?_eq_getElem?, hk]; simp
      rw [e]
      simp only [List.dropLast_eq_take, hk, Nat.add_sub_cancel]
    rw [em]
    have hlt : (m.st.take k).length = k := by rw [List.length_take]; omega
    obtain ⟨c0, c1⟩ := hrow.cells hkl
    rw [Nat.zero_add] at c0 c1
    have HO : Hid (OwnM W0 w (.slice (some ⟨g, 0, none⟩) k sc) (.slice oa m.os.length oc) { m with f := m.st[k].f, p := m.st[k].p, st := m.st.take k }) := ⟨htk, h.2.1, h.2.2⟩
    clear h hrow htk em h0
    generalize m.st[k] = y at *
    have hg : g < w.heap.size := World.block_lt_of_cell? w _ c0
    have hk0 : (0 : Int) ≤ (k : Int) := by omega
    have hk5 : (k : Int) ≤ 4 := by omega
    have hks : (k : Int) ≤ (sc : Int) := by omega
    rw [hk] at *
    go_enter Tryz.func92, Tryz.ntmps92
    go_wp2_with fail
    refine bodyPost_ret (v := .agg (aggM { m with f := y.f, p := y.p, st := m.st.take k } (.slice (some ⟨g, 0, none⟩) k sc) (.slice oa m.os.length oc))) (by simp [results, Tryz.results92, go_sem, aggM]) rfl ⟨_, _, rfl, (unhide HO).below (below_alloc2 _ _ _), Keeps.of (below_alloc2 _ _ _), by simp; omega⟩
end Go.Proofs.YtjbhbkkkjdpamaaGreat.MSpecB
