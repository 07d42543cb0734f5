/- The contracts of the program's runner: which deed an instruction is, and one step. -/
import Derived.Test.YtjbhbkkkjdpamaaGreatMSay
import Derived.Handy
namespace Go.Proofs.YtjbhbkkkjdpamaaGreat.MStepI
open Go.ChangeShapes Go.WideShapes Go.ChangeAt Go.RowKit Go.Joins Go.WideMaps Go.Maps
open Go.Proofs.YtjbhbkkkjdpamaaGreat.Base Go.Proofs.YtjbhbkkkjdpamaaGreat.InsA Go.Proofs.YtjbhbkkkjdpamaaGreat.Funs Go.Proofs.YtjbhbkkkjdpamaaGreat.Open Go.Proofs.YtjbhbkkkjdpamaaGreat.Keep Go.Proofs.YtjbhbkkkjdpamaaGreat.UnitS Go.Proofs.YtjbhbkkkjdpamaaGreat.UnitM Go.Proofs.YtjbhbkkkjdpamaaGreat.WantsI Go.Proofs.YtjbhbkkkjdpamaaGreat.Mach Go.Proofs.YtjbhbkkkjdpamaaGreat.Mark Go.Proofs.YtjbhbkkkjdpamaaGreat.Sum Go.Proofs.YtjbhbkkkjdpamaaGreat.MOk Go.Proofs.YtjbhbkkkjdpamaaGreat.MD Go.Proofs.YtjbhbkkkjdpamaaGreat.MRun Go.Proofs.YtjbhbkkkjdpamaaGreat.MDeed Go.Proofs.YtjbhbkkkjdpamaaGreat.MSay Go.Proofs.YtjbhbkkkjdpamaaGreat.KeepD
set_option linter.unusedVariables false
set_option maxRecDepth 100000

def deedV (x : InsD) : Value :=
  if x.o = 1 then .iface 171 (.agg #[])
  else if x.o = 2 then .iface 173 (.agg #[.int .i64 x.n])
  else if x.o = 3 then .iface 175 (.agg #[.string x.s])
  else if x.o = 4 then .iface 176 (.agg #[.string x.s])
  else if x.o = 5 then .iface 177 (.agg #[.string x.s])
  else if x.o = 6 then .iface 178 (.agg #[])
  else .iface 179 (.agg #[])
set_option maxHeartbeats 2000000 in
theorem deedOf_any (x : InsD) (w : World) :
    Calls Tryz.prog 96 #[.agg #[.int .i64 x.o, .int .i64 x.n, .string x.s]] w fun e w' => e = .returned (deedV x) ∧ Below w.heap.size w w' := by
  go_enter Tryz.func96, Tryz.ntmps96
  go_wp2
  all_goals (go_ret; exact ⟨by simp_all [deedV], below_alloc1 _ _⟩)
theorem facts {W0 w : World} {R mb : Nat} {pv : Value} {fs : List FunD} {m : MD} (h : RunIs W0 w R mb pv fs m) : w.cell? ⟨R, 2, none⟩ = some (.int .i64 m.f) ∧ w.cell? ⟨R, 3, none⟩ = some (.int .i64 m.p) ∧ w.cell? ⟨R, 17, none⟩ = some (.int .i64 m.d) ∧ w.frozen? ⟨R, 2, none⟩ = false ∧ w.frozen? ⟨R, 3, none⟩ = false ∧ w.frozen? ⟨R, 17, none⟩ = false := by
  obtain ⟨xs, ov, h1, -⟩ := h
  exact ⟨h1.cell 2 rfl, h1.cell 3 rfl, h1.cell 17 (spots_at h1.1 _ _ _ _ _ _ _ _).2.2, h1.thaw 2, h1.thaw 3, h1.thaw 17⟩
/-- The place and the end, written. -/
theorem seat {W0 w : World} {R mb : Nat} {pv : Value} {fs : List FunD} {m m1 : MD} (h : RunIs W0 w R mb pv fs (holdM m m1)) : RunIs W0 (((w.setCell ⟨R, 2, none⟩ (.int .i64 m1.f)).setCell ⟨R, 3, none⟩ (.int .i64 m1.p)).setCell ⟨R, 17, none⟩ (.int .i64 m1.d)) R mb pv fs m1 := by
  obtain ⟨xs, ov, h1, h2, h3, h4, h5, h6, h7, h8⟩ := h
  refine RunIs.turn (m := holdM m m1) (m' := m1) (xs' := xs) h1 h4 h5 h6 h7 h8 ((((But.refl R w).set _ _).set _ _).set _ _) ?_ h2 h3 rfl
  obtain ⟨x0, x1, x2, x3, x4, rfl⟩ := five h1.1
  exact ⟨rfl, eq_cells (block_setCell (block_setCell (block_setCell h1.2 _) _) _) rfl⟩
set_option maxHeartbeats 8000000 in
theorem step_do (W0 : World) (R mb : Nat) (b off cap : Nat) (fs : List FunD) (k j : Nat) (m m1 : MD) (x : InsD) (T : TypeId) (v : Value) (K : Nat) (ai : Option Addr) (n ci : Nat) (w : World) (hcap : fs.length ≤ cap) (hcm : cap ≤ maxLen) (hf0 : m.f = (k : Int)) (hp0 : m.p = (j : Int)) (hd0 : m.d = 0) (hk : k < fs.length) (hj : j < n) (hnc : n ≤ ci) (hcc : ci ≤ maxLen) (hdv : deedV x = .iface T v) (hm : ∀ w, (method 357 T v "loop.example/stepstone/impl.do").run Tryz.prog w = .ok (K, v) w) (hcf : ∀ args w, (callFunc K args).run Tryz.prog w = .ok (.enter K args) w)
    (hcall : ∀ w1, RunIs W0 w1 R mb (.slice (some ⟨b, off, none⟩) fs.length cap) fs m → Calls Tryz.prog K #[v, .pointer (some ⟨R, 0, none⟩)] w1 fun e w' => e = .returned (tellM m1) ∧ RunIs W0 w' R mb (.slice (some ⟨b, off, none⟩) fs.length cap) fs (holdM m m1))
    (h : RunIs W0 w R mb (.slice (some ⟨b, off, none⟩) fs.length cap) fs m) (g2 : w.cell? ⟨b, off + k * 3 + 2, none⟩ = some (.slice ai n ci)) (g3 : ∃ b' o', ai = some ⟨b', o', none⟩ ∧ w.cell? ⟨b', o' + j * 3, none⟩ = some (.int .i64 x.o) ∧ w.cell? ⟨b', o' + j * 3 + 1, none⟩ = some (.int .i64 x.n) ∧ w.cell? ⟨b', o' + j * 3 + 2, none⟩ = some (.string x.s)) :
    Calls Tryz.prog 52 #[.pointer (some ⟨R, 0, none⟩)] w fun e w' => e = .returned (.tuple #[]) ∧ RunIs W0 w' R mb (.slice (some ⟨b, off, none⟩) fs.length cap) fs m1 := by
  obtain ⟨b', o', rfl, r0, r1, r2⟩ := g3
  have HI := hide h.drew
  obtain ⟨xs, ov, h1, -⟩ := h
  have hR : R < w.heap.size := (Array.getElem?_eq_some_iff.1 h1.2).1
  have q0 := h1.cell 0 rfl
  have q2 := h1.cell 2 rfl
  have q3 := h1.cell 3 rfl
  have q17 := h1.cell 17 (spots_at h1.1 _ _ _ _ _ _ _ _).2.2
  rw [hf0] at q2
  rw [hp0] at q3
  rw [hd0] at q17
  have HDV := hide hdv
  have HM := hide hm
  have HF := hide hcf
  have HC : Hid (∀ w1, RunIs W0 w1 R mb (.slice (some ⟨b, off, none⟩) fs.length cap) fs m → Calls Tryz.prog K #[v, .pointer (some ⟨R, 0, none⟩)] w1 fun e w' => e = .returned (.tuple #[.agg #[.int .i64 m1.f, .int .i64 m1.p], .int .i64 m1.d]) ∧ RunIs W0 w' R mb (.slice (some ⟨b, off, none⟩) fs.length cap) fs (holdM m m1)) := hcall
  unfold maxLen at hcm hcc
  have hk' : (k : Int) < (fs.length : Int) := by omega
  have hj' : (j : Int) < (n : Int) := by omega
  have hk0 : (0 : Int) ≤ (k : Int) := by omega
  have hj0 : (0 : Int) ≤ (j : Int) := by omega
  clear h1 hf0 hp0 hd0 hdv hcall hm hcf
  go_enter Tryz.func52, Tryz.ntmps52
  go_wp2_with fail
  go_region_with (first
    | (go_at_call 96; refine (deedOf_any x _).mono ?_; rw [unhide HDV]; rintro e w1 ⟨rfl, hb1⟩)
    | (rw [unhide HM]; go_simp; rw [unhide HF, Oper.upon_enter]; refine (unhide HC _ ((unhide HI).below hb1)).mono ?_; rintro e w2 ⟨rfl, hI2⟩; obtain ⟨f2, f3, f17, u2, u3, u17⟩ := facts hI2))
  all_goals
    clear f2 f3 f17 u2 u3 u17 hb1 HC HM HF HDV q0 q2 q3 q17 r0 r1 r2 g2
    go_wp2_with fail
    go_end0
    exact ⟨rfl, seat hI2⟩
theorem step_done (W0 : World) (R mb : Nat) (pv : Value) (fs : List FunD) (m : MD) (w : World) (hd : m.d ≠ 0) (h : RunIs W0 w R mb pv fs m) :
    Calls Tryz.prog 52 #[.pointer (some ⟨R, 0, none⟩)] w fun e w' => e = .returned (.tuple #[]) ∧ RunIs W0 w' R mb pv fs m := by
  have HI := hide h
  have q17 := (facts h).2.2.1
  clear h
  go_enter Tryz.func52, Tryz.ntmps52
  go_wp2_with fail
  go_end0
  exact ⟨rfl, unhide HI⟩
theorem meth_say (w : World) : (method 357 171 (.agg #[]) "loop.example/stepstone/impl.do").run Tryz.prog w = .ok (200, .agg #[]) w := by kernel_rfl
theorem meth_add (n : Int) (w : World) : (method 357 173 (.agg #[.int .i64 n]) "loop.example/stepstone/impl.do").run Tryz.prog w = .ok (202, .agg #[.int .i64 n]) w := by kernel_rfl
theorem meth_call (s : ByteArray) (w : World) : (method 357 175 (.agg #[.string s]) "loop.example/stepstone/impl.do").run Tryz.prog w = .ok (204, .agg #[.string s]) w := by kernel_rfl
theorem meth_go (s : ByteArray) (w : World) : (method 357 176 (.agg #[.string s]) "loop.example/stepstone/impl.do").run Tryz.prog w = .ok (206, .agg #[.string s]) w := by kernel_rfl
theorem meth_if (s : ByteArray) (w : World) : (method 357 177 (.agg #[.string s]) "loop.example/stepstone/impl.do").run Tryz.prog w = .ok (207, .agg #[.string s]) w := by kernel_rfl
theorem meth_ret (w : World) : (method 357 178 (.agg #[]) "loop.example/stepstone/impl.do").run Tryz.prog w = .ok (208, .agg #[]) w := by kernel_rfl
theorem meth_end (w : World) : (method 357 179 (.agg #[]) "loop.example/stepstone/impl.do").run Tryz.prog w = .ok (210, .agg #[]) w := by kernel_rfl
theorem ent_say (args : Array Value) (w : World) : (callFunc 200 args).run Tryz.prog w = .ok (.enter 200 args) w := by kernel_rfl
theorem ent_add (args : Array Value) (w : World) : (callFunc 202 args).run Tryz.prog w = .ok (.enter 202 args) w := by kernel_rfl
theorem ent_call (args : Array Value) (w : World) : (callFunc 204 args).run Tryz.prog w = .ok (.enter 204 args) w := by kernel_rfl
theorem ent_go (args : Array Value) (w : World) : (callFunc 206 args).run Tryz.prog w = .ok (.enter 206 args) w := by kernel_rfl
theorem ent_if (args : Array Value) (w : World) : (callFunc 207 args).run Tryz.prog w = .ok (.enter 207 args) w := by kernel_rfl
theorem ent_ret (args : Array Value) (w : World) : (callFunc 208 args).run Tryz.prog w = .ok (.enter 208 args) w := by kernel_rfl
theorem ent_end (args : Array Value) (w : World) : (callFunc 210 args).run Tryz.prog w = .ok (.enter 210 args) w := by kernel_rfl
/-- One step of a runner. -/
theorem step_any (W0 : World) (R mb : Nat) (a : Option Addr) (cap : Nat) (fs : List FunD) (m : MD) (w : World) (hok : keepOkB fs = true) (hcap : fs.length ≤ cap) (hcm : cap ≤ maxLen) (hF : FunRow W0 a fs) (hv : Inv fs m) (h : RunIs W0 w R mb (.slice a fs.length cap) fs m) :
    Calls Tryz.prog 52 #[.pointer (some ⟨R, 0, none⟩)] w fun e w' => e = .returned (.tuple #[]) ∧ RunIs W0 w' R mb (.slice a fs.length cap) fs (goM fs m) := by
  by_cases hd : m.d = 0
  · obtain ⟨k, j, hf0, hp0, hk, hj, ex⟩ := spot_is hv.here
    have hB : Below W0.heap.size W0 w := by obtain ⟨_, _, _, _, _, _, _, _, _, h8⟩ := h; exact h8
    have hFw := hF.below hB
    obtain ⟨b, off, rfl⟩ := hFw.get (by omega)
    obtain ⟨ai, ci, _, _, c2, _, g1, g2, g3⟩ := hFw.at hk
    obtain ⟨b', o', rfl⟩ := g3.get (by omega)
    obtain ⟨r0, r1, r2, hxs⟩ := g3.cells hj
    have hj10 := body_le hok hk
    have hfd : refsB fs[k].body[j].o = true → 0 ≤ findI fs fs[k].body[j].s := ref_found hok hk hj
    have hp : 0 ≤ m.p := by omega
    have hp2 : m.p ≤ 100 := by omega
    have hol := hv.ol
    have eg : goM fs m = doX fs m fs[k].body[j] := by unfold goM; rw [if_pos hd]; unfold doM; rw [ex]
    rw [eg]
    generalize fs[k].body[j] = x at *
    by_cases e1 : x.o = 1
    · have em : doX fs m x = sayM m := by unfold doX; rw [if_pos e1]
      rw [em]
      exact step_do W0 R mb b off cap fs k j m _ x 171 (.agg #[]) _ _ _ ci w hcap hcm hf0 hp0 hd hk hj g1 g2 (by simp [deedV, e1]) meth_say ent_say (fun w1 h1 => say_any W0 R mb _ fs m w1 hd hp hp2 hol h1) h c2 ⟨b', o', rfl, r0, r1, r2⟩
    by_cases e2 : x.o = 2
    · have em : doX fs m x = { m with c := sumI m.c x.n, p := m.p + 1 } := by unfold doX; rw [if_neg e1, if_pos e2]
      rw [em]
      exact step_do W0 R mb b off cap fs k j m _ x 173 (.agg #[.int .i64 x.n]) _ _ _ ci w hcap hcm hf0 hp0 hd hk hj g1 g2 (by simp [deedV, e2]) (meth_add x.n) ent_add (fun w1 h1 => add_any W0 R mb _ fs m x.n w1 hd hp hp2 h1) h c2 ⟨b', o', rfl, r0, r1, r2⟩
    by_cases e3 : x.o = 3
    · have em : doX fs m x = callM fs m x.s := by unfold doX; rw [if_neg e1, if_neg e2, if_pos e3]
      rw [em]
      exact step_do W0 R mb b off cap fs k j m _ x 175 (.agg #[.string x.s]) _ _ _ ci w hcap hcm hf0 hp0 hd hk hj g1 g2 (by simp [deedV, e3]) (meth_call x.s) ent_call (fun w1 h1 => call_any W0 R mb _ fs m x.s w1 hd hp hp2 hxs (hfd (by rw [e3]; rfl)) h1) h c2 ⟨b', o', rfl, r0, r1, r2⟩
    by_cases e4 : x.o = 4
    · have em : doX fs m x = MD.goTo fs m x.s := by unfold doX; rw [if_neg e1, if_neg e2, if_neg e3, if_pos e4]
      rw [em]
      exact step_do W0 R mb b off cap fs k j m _ x 176 (.agg #[.string x.s]) _ _ _ ci w hcap hcm hf0 hp0 hd hk hj g1 g2 (by simp [deedV, e4]) (meth_go x.s) ent_go (fun w1 h1 => go_any W0 R mb _ fs m x.s w1 hd hxs (hfd (by rw [e4]; rfl)) h1) h c2 ⟨b', o', rfl, r0, r1, r2⟩
    by_cases e5 : x.o = 5
    · have em : doX fs m x = (if 0 < m.c then MD.goTo fs m x.s else nextM m) := by unfold doX; rw [if_neg e1, if_neg e2, if_neg e3, if_neg e4, if_pos e5]
      rw [em]
      exact step_do W0 R mb b off cap fs k j m _ x 177 (.agg #[.string x.s]) _ _ _ ci w hcap hcm hf0 hp0 hd hk hj g1 g2 (by simp [deedV, e5]) (meth_if x.s) ent_if (fun w1 h1 => if_any W0 R mb _ fs m x.s w1 hd hp hp2 hxs (hfd (by rw [e5]; rfl)) h1) h c2 ⟨b', o', rfl, r0, r1, r2⟩
    by_cases e6 : x.o = 6
    · have em : doX fs m x = retM m := by unfold doX; rw [if_neg e1, if_neg e2, if_neg e3, if_neg e4, if_neg e5, if_pos e6]
      rw [em]
      exact step_do W0 R mb b off cap fs k j m _ x 178 (.agg #[]) _ _ _ ci w hcap hcm hf0 hp0 hd hk hj g1 g2 (by simp [deedV, e6]) meth_ret ent_ret (fun w1 h1 => ret_any W0 R mb _ fs m w1 hd h1) h c2 ⟨b', o', rfl, r0, r1, r2⟩
    · have em : doX fs m x = { m with d := 1 } := by unfold doX; rw [if_neg e1, if_neg e2, if_neg e3, if_neg e4, if_neg e5, if_neg e6]
      rw [em]
      exact step_do W0 R mb b off cap fs k j m _ x 179 (.agg #[]) _ _ _ ci w hcap hcm hf0 hp0 hd hk hj g1 g2 (by simp [deedV, e1, e2, e3, e4, e5, e6]) meth_end ent_end (fun w1 h1 => end_any W0 R mb _ fs m w1 h1) h c2 ⟨b', o', rfl, r0, r1, r2⟩
  · have eg : goM fs m = m := by unfold goM; rw [if_neg hd]
    rw [eg]
    exact step_done W0 R mb _ fs m w hd h
end Go.Proofs.YtjbhbkkkjdpamaaGreat.MStepI
