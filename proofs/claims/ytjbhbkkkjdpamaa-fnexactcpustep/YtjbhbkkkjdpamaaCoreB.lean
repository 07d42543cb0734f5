/- The contract of the program's do: an instruction of an image (written by mk_coreb.py). -/
import Derived.Test.YtjbhbkkkjdpamaaCoreA
import Derived.Deep.RegionHeld3
import Derived.Deep.QuietTactic
import Derived.BigQuiet
import Derived.RegionTactic
import Derived.BigRegion
import Derived.Deep.RegionWith
namespace Go.Proofs.Ytjbhbkkkjdpamaa.CoreB
open Go.ChangeShapes Go.WideShapes Go.ChangeAt Go.RowKit Go.Joins Go.WideMaps Go.Maps Go.Deep
open Go.Proofs.Ytjbhbkkkjdpamaa.Base Go.Proofs.Ytjbhbkkkjdpamaa.InsA Go.Proofs.Ytjbhbkkkjdpamaa.Keep Go.Proofs.Ytjbhbkkkjdpamaa.LayN Go.Proofs.Ytjbhbkkkjdpamaa.CellA Go.Proofs.Ytjbhbkkkjdpamaa.Mark Go.Proofs.Ytjbhbkkkjdpamaa.Sum Go.Proofs.Ytjbhbkkkjdpamaa.ImgD Go.Proofs.Ytjbhbkkkjdpamaa.ImgOk Go.Proofs.Ytjbhbkkkjdpamaa.RestOk Go.Proofs.Ytjbhbkkkjdpamaa.COkS Go.Proofs.Ytjbhbkkkjdpamaa.CSpec Go.Proofs.Ytjbhbkkkjdpamaa.CoreA
set_option linter.unusedVariables false
set_option maxRecDepth 100000

/-- What an instruction leaves, stones being not yet stepped over. -/
def rawC (m : CM) (x : CellD) : CM :=
  if x.f = 1 then (if 30 ≤ m.os.length then { m with d := 4 } else { m with os := m.os ++ [m.c], p := m.p + 1 })
  else if x.f = 2 then { m with c := sumI m.c x.p, p := m.p + 1 }
  else if x.f = 3 then (if 5 ≤ m.st.length then { m with d := 2 } else { m with st := m.st ++ [m.p + 1], p := m.p + x.p })
  else if x.f = 4 then { m with p := m.p + x.p }
  else if x.f = 5 then (if 0 < m.c then { m with p := m.p + x.p } else { m with p := m.p + 1 })
  else if x.f = 6 then (match m.st.getLast? with
    | none => { m with d := 3 }
    | some s => { m with p := s, st := m.st.dropLast })
  else { m with d := 1 }
theorem do_raw {l : List CellD} {m : CM} (x : CellD) (h8 : (cellOf l m.p).f ≠ 8) : doC l m x = { rawC m x with p := overI l (rawC m x).p } := by
  have e : ({ m with p := overI l m.p } : CM) = m := by rw [over_over h8]
  have e2 (d : Int) : ({ m with p := overI l m.p, d := d } : CM) = { m with d := d } := by rw [over_over h8]
  unfold doC rawC
  split
  · unfold sayC; split
    · exact (e2 4).symm
    · rfl
  split
  · rfl
  split
  · unfold callC; split
    · exact (e2 2).symm
    · rfl
  split
  · rfl
  split
  · split <;> rfl
  split
  · unfold retC
    cases hg : m.st.getLast? with
    | none => simp only; exact (e2 3).symm
    | some s => rfl
  · exact (e2 1).symm
/-- What do leaves in the machine's memory. -/
def holdC (m m1 : CM) : CM := { m1 with p := m.p, d := m.d }
def DoEnd (w : World) (R : Nat) (l : List CellD) (m m1 : CM) (e : Ending) (w' : World) : Prop := e = .returned (.tuple #[.int .i64 m1.p, .int .i64 m1.d]) ∧ CoreAt w' R l (holdC m m1) ∧ But R w w'
theorem but_drew {R : Nat} {w : World} (n : Nat) : But R w (w.drewN n) := (But.refl R w).below (bl_drewN (Below.refl _ _) n)
set_option maxHeartbeats 8000000 in
theorem cdo_end (R : Nat) (l : List CellD) (m : CM) (w : World) (hl8 : l.length ≤ 800) (hp : IsPl l m.p) (hsl : m.st.length ≤ 5) (hol : m.os.length ≤ 30) (hd : m.d = 0) (xp : Int) (hxp : -1000 ≤ xp ∧ xp ≤ 1000)  (h : CoreAt w R l m) :
    Calls Try.prog 118 #[.pointer (some ⟨R, 0, none⟩), .int .i32 (packI ⟨7, xp⟩)] w (DoEnd w R l m ({ m with d := 1 })) := by
  obtain ⟨_, x800, x801, xst, x807, xos, x838, x839, xall, xfr⟩ := h.cells
  have HC := hide h
  have HST := hide xst
  have HOS := hide xos
  have hfit : fits ⟨7, xp⟩ := ⟨hxp.1, hxp.2, (by show (0 : Int) ≤ 7; decide), (by show (7 : Int) ≤ 8; decide)⟩
  have HO := op_any _ hfit
  have HN := n_any _ hfit
  have HNC : ∀ w, Calls Try.prog 147 #[.int .i32 (packI ⟨7, xp⟩)] w fun e w' => e = .returned (.int .i64 xp) ∧ w' = w := HN
  generalize packI ⟨7, xp⟩ = pk at *
  obtain ⟨hp0, hp1⟩ := hp
  obtain ⟨hx0, hx1⟩ := hxp
  have hlz : (l.length : Int) ≤ 800 := by omega
  have hp2 : m.p ≤ 1000 := by omega
  have hsl' : (m.st.length : Int) ≤ 5 := by omega
  have hol' : (m.os.length : Int) ≤ 30 := by omega
  clear h hfit xst xos HN
  obtain ⟨mp, mc, md, st, os⟩ := m
  dsimp only at *
  subst hd
  go_enter Try.func118, Try.ntmps118
  go_wp2_with fail
  go_quiet ((go_at_call 147; exact Calls.quiet_of_same (HNC _)))
  go_wp2_with fail
  refine (HO _).mono ?_
  rintro e w1 ⟨rfl, rfl⟩
  go_wp2_with fail
  refine bodyPost_ret (v := .tuple #[.int .i64 (mp), .int .i64 1]) (by simp [results, Try.results118, go_sem]) rfl ⟨rfl, by first | exact unhide HC | exact (unhide HC).drew, (by first | exact But.refl _ _ | exact but_drew _ | exact but_drew 1)⟩

set_option maxHeartbeats 8000000 in
theorem cdo_go (R : Nat) (l : List CellD) (m : CM) (w : World) (hl8 : l.length ≤ 800) (hp : IsPl l m.p) (hsl : m.st.length ≤ 5) (hol : m.os.length ≤ 30) (hd : m.d = 0) (xp : Int) (hxp : -1000 ≤ xp ∧ xp ≤ 1000)  (h : CoreAt w R l m) :
    Calls Try.prog 118 #[.pointer (some ⟨R, 0, none⟩), .int .i32 (packI ⟨4, xp⟩)] w (DoEnd w R l m ({ m with p := m.p + xp })) := by
  obtain ⟨_, x800, x801, xst, x807, xos, x838, x839, xall, xfr⟩ := h.cells
  have HC := hide h
  have HST := hide xst
  have HOS := hide xos
  have hfit : fits ⟨4, xp⟩ := ⟨hxp.1, hxp.2, (by show (0 : Int) ≤ 4; decide), (by show (4 : Int) ≤ 8; decide)⟩
  have HO := op_any _ hfit
  have HN := n_any _ hfit
  have HNC : ∀ w, Calls Try.prog 147 #[.int .i32 (packI ⟨4, xp⟩)] w fun e w' => e = .returned (.int .i64 xp) ∧ w' = w := HN
  generalize packI ⟨4, xp⟩ = pk at *
  obtain ⟨hp0, hp1⟩ := hp
  obtain ⟨hx0, hx1⟩ := hxp
  have hlz : (l.length : Int) ≤ 800 := by omega
  have hp2 : m.p ≤ 1000 := by omega
  have hsl' : (m.st.length : Int) ≤ 5 := by omega
  have hol' : (m.os.length : Int) ≤ 30 := by omega
  clear h hfit xst xos HN
  obtain ⟨mp, mc, md, st, os⟩ := m
  dsimp only at *
  subst hd
  go_enter Try.func118, Try.ntmps118
  go_wp2_with fail
  go_quiet ((go_at_call 147; exact Calls.quiet_of_same (HNC _)))
  go_wp2_with fail
  refine (HO _).mono ?_
  rintro e w1 ⟨rfl, rfl⟩
  go_wp2_with fail
  refine bodyPost_ret (v := .tuple #[.int .i64 (mp + xp), .int .i64 0]) (by simp [results, Try.results118, go_sem]) rfl ⟨rfl, by first | exact unhide HC | exact (unhide HC).drew, (by first | exact But.refl _ _ | exact but_drew _ | exact but_drew 1)⟩

set_option maxHeartbeats 8000000 in
theorem cdo_if (R : Nat) (l : List CellD) (m : CM) (w : World) (hl8 : l.length ≤ 800) (hp : IsPl l m.p) (hsl : m.st.length ≤ 5) (hol : m.os.length ≤ 30) (hd : m.d = 0) (xp : Int) (hxp : -1000 ≤ xp ∧ xp ≤ 1000) (hc : 0 < m.c) (h : CoreAt w R l m) :
    Calls Try.prog 118 #[.pointer (some ⟨R, 0, none⟩), .int .i32 (packI ⟨5, xp⟩)] w (DoEnd w R l m ({ m with p := m.p + xp })) := by
  obtain ⟨_, x800, x801, xst, x807, xos, x838, x839, xall, xfr⟩ := h.cells
  have HC := hide h
  have HST := hide xst
  have HOS := hide xos
  have hfit : fits ⟨5, xp⟩ := ⟨hxp.1, hxp.2, (by show (0 : Int) ≤ 5; decide), (by show (5 : Int) ≤ 8; decide)⟩
  have HO := op_any _ hfit
  have HN := n_any _ hfit
  have HNC : ∀ w, Calls Try.prog 147 #[.int .i32 (packI ⟨5, xp⟩)] w fun e w' => e = .returned (.int .i64 xp) ∧ w' = w := HN
  generalize packI ⟨5, xp⟩ = pk at *
  obtain ⟨hp0, hp1⟩ := hp
  obtain ⟨hx0, hx1⟩ := hxp
  have hlz : (l.length : Int) ≤ 800 := by omega
  have hp2 : m.p ≤ 1000 := by omega
  have hsl' : (m.st.length : Int) ≤ 5 := by omega
  have hol' : (m.os.length : Int) ≤ 30 := by omega
  clear h hfit xst xos HN
  obtain ⟨mp, mc, md, st, os⟩ := m
  dsimp only at *
  subst hd
  go_enter Try.func118, Try.ntmps118
  go_wp2_with fail
  go_quiet ((go_at_call 147; exact Calls.quiet_of_same (HNC _)))
  go_wp2_with fail
  refine (HO _).mono ?_
  rintro e w1 ⟨rfl, rfl⟩
  go_wp2_with fail
  refine bodyPost_ret (v := .tuple #[.int .i64 (mp + xp), .int .i64 0]) (by simp [results, Try.results118, go_sem]) rfl ⟨rfl, by first | exact unhide HC | exact (unhide HC).drew, (by first | exact But.refl _ _ | exact but_drew _ | exact but_drew 1)⟩

set_option maxHeartbeats 8000000 in
theorem cdo_not (R : Nat) (l : List CellD) (m : CM) (w : World) (hl8 : l.length ≤ 800) (hp : IsPl l m.p) (hsl : m.st.length ≤ 5) (hol : m.os.length ≤ 30) (hd : m.d = 0) (xp : Int) (hxp : -1000 ≤ xp ∧ xp ≤ 1000) (hc : ¬ 0 < m.c) (h : CoreAt w R l m) :
    Calls Try.prog 118 #[.pointer (some ⟨R, 0, none⟩), .int .i32 (packI ⟨5, xp⟩)] w (DoEnd w R l m ({ m with p := m.p + 1 })) := by
  obtain ⟨_, x800, x801, xst, x807, xos, x838, x839, xall, xfr⟩ := h.cells
  have HC := hide h
  have HST := hide xst
  have HOS := hide xos
  have hfit : fits ⟨5, xp⟩ := ⟨hxp.1, hxp.2, (by show (0 : Int) ≤ 5; decide), (by show (5 : Int) ≤ 8; decide)⟩
  have HO := op_any _ hfit
  have HN := n_any _ hfit
  have HNC : ∀ w, Calls Try.prog 147 #[.int .i32 (packI ⟨5, xp⟩)] w fun e w' => e = .returned (.int .i64 xp) ∧ w' = w := HN
  generalize packI ⟨5, xp⟩ = pk at *
  obtain ⟨hp0, hp1⟩ := hp
  obtain ⟨hx0, hx1⟩ := hxp
  have hlz : (l.length : Int) ≤ 800 := by omega
  have hp2 : m.p ≤ 1000 := by omega
  have hsl' : (m.st.length : Int) ≤ 5 := by omega
  have hol' : (m.os.length : Int) ≤ 30 := by omega
  clear h hfit xst xos HN
  obtain ⟨mp, mc, md, st, os⟩ := m
  dsimp only at *
  subst hd
  go_enter Try.func118, Try.ntmps118
  go_wp2_with fail
  go_quiet ((go_at_call 147; exact Calls.quiet_of_same (HNC _)))
  go_wp2_with fail
  refine (HO _).mono ?_
  rintro e w1 ⟨rfl, rfl⟩
  go_wp2_with fail
  refine bodyPost_ret (v := .tuple #[.int .i64 (mp + 1), .int .i64 0]) (by simp [results, Try.results118, go_sem]) rfl ⟨rfl, by first | exact unhide HC | exact (unhide HC).drew, (by first | exact But.refl _ _ | exact but_drew _ | exact but_drew 1)⟩

set_option maxHeartbeats 8000000 in
theorem cdo_full (R : Nat) (l : List CellD) (m : CM) (w : World) (hl8 : l.length ≤ 800) (hp : IsPl l m.p) (hsl : m.st.length ≤ 5) (hol : m.os.length ≤ 30) (hd : m.d = 0) (xp : Int) (hxp : -1000 ≤ xp ∧ xp ≤ 1000) (h30 : m.os.length = 30) (h : CoreAt w R l m) :
    Calls Try.prog 118 #[.pointer (some ⟨R, 0, none⟩), .int .i32 (packI ⟨1, xp⟩)] w (DoEnd w R l m ({ m with d := 4 })) := by
  obtain ⟨_, x800, x801, xst, x807, xos, x838, x839, xall, xfr⟩ := h.cells
  have HC := hide h
  have HST := hide xst
  have HOS := hide xos
  have hfit : fits ⟨1, xp⟩ := ⟨hxp.1, hxp.2, (by show (0 : Int) ≤ 1; decide), (by show (1 : Int) ≤ 8; decide)⟩
  have HO := op_any _ hfit
  have HN := n_any _ hfit
  have HNC : ∀ w, Calls Try.prog 147 #[.int .i32 (packI ⟨1, xp⟩)] w fun e w' => e = .returned (.int .i64 xp) ∧ w' = w := HN
  generalize packI ⟨1, xp⟩ = pk at *
  obtain ⟨hp0, hp1⟩ := hp
  obtain ⟨hx0, hx1⟩ := hxp
  have hlz : (l.length : Int) ≤ 800 := by omega
  have hp2 : m.p ≤ 1000 := by omega
  have hsl' : (m.st.length : Int) ≤ 5 := by omega
  have hol' : (m.os.length : Int) ≤ 30 := by omega
  clear h hfit xst xos HN
  obtain ⟨mp, mc, md, st, os⟩ := m
  dsimp only at *
  subst hd
  have h30' : (os.length : Int) = 30 := by omega
  rw [h30'] at x838
  go_enter Try.func118, Try.ntmps118
  go_wp2_with fail
  go_quiet ((go_at_call 147; exact Calls.quiet_of_same (HNC _)))
  go_wp2_with fail
  refine (HO _).mono ?_
  rintro e w1 ⟨rfl, rfl⟩
  go_wp2_with fail
  refine bodyPost_ret (v := .tuple #[.int .i64 (mp), .int .i64 4]) (by simp [results, Try.results118, go_sem]) rfl ⟨rfl, by first | exact unhide HC | exact (unhide HC).drew, (by first | exact But.refl _ _ | exact but_drew _ | exact but_drew 1)⟩

set_option maxHeartbeats 8000000 in
theorem cdo_deep (R : Nat) (l : List CellD) (m : CM) (w : World) (hl8 : l.length ≤ 800) (hp : IsPl l m.p) (hsl : m.st.length ≤ 5) (hol : m.os.length ≤ 30) (hd : m.d = 0) (xp : Int) (hxp : -1000 ≤ xp ∧ xp ≤ 1000) (h5 : m.st.length = 5) (h : CoreAt w R l m) :
    Calls Try.prog 118 #[.pointer (some ⟨R, 0, none⟩), .int .i32 (packI ⟨3, xp⟩)] w (DoEnd w R l m ({ m with d := 2 })) := by
  obtain ⟨_, x800, x801, xst, x807, xos, x838, x839, xall, xfr⟩ := h.cells
  have HC := hide h
  have HST := hide xst
  have HOS := hide xos
  have hfit : fits ⟨3, xp⟩ := ⟨hxp.1, hxp.2, (by show (0 : Int) ≤ 3; decide), (by show (3 : Int) ≤ 8; decide)⟩
  have HO := op_any _ hfit
  have HN := n_any _ hfit
  have HNC : ∀ w, Calls Try.prog 147 #[.int .i32 (packI ⟨3, xp⟩)] w fun e w' => e = .returned (.int .i64 xp) ∧ w' = w := HN
  generalize packI ⟨3, xp⟩ = pk at *
  obtain ⟨hp0, hp1⟩ := hp
  obtain ⟨hx0, hx1⟩ := hxp
  have hlz : (l.length : Int) ≤ 800 := by omega
  have hp2 : m.p ≤ 1000 := by omega
  have hsl' : (m.st.length : Int) ≤ 5 := by omega
  have hol' : (m.os.length : Int) ≤ 30 := by omega
  clear h hfit xst xos HN
  obtain ⟨mp, mc, md, st, os⟩ := m
  dsimp only at *
  subst hd
  have h5' : (st.length : Int) = 5 := by omega
  rw [h5'] at x807
  go_enter Try.func118, Try.ntmps118
  go_wp2_with fail
  go_quiet ((go_at_call 147; exact Calls.quiet_of_same (HNC _)))
  go_wp2_with fail
  refine (HO _).mono ?_
  rintro e w1 ⟨rfl, rfl⟩
  go_wp2_with fail
  refine bodyPost_ret (v := .tuple #[.int .i64 (mp), .int .i64 2]) (by simp [results, Try.results118, go_sem]) rfl ⟨rfl, by first | exact unhide HC | exact (unhide HC).drew, (by first | exact But.refl _ _ | exact but_drew _ | exact but_drew 1)⟩

set_option maxHeartbeats 8000000 in
theorem cdo_off (R : Nat) (l : List CellD) (m : CM) (w : World) (hl8 : l.length ≤ 800) (hp : IsPl l m.p) (hsl : m.st.length ≤ 5) (hol : m.os.length ≤ 30) (hd : m.d = 0) (xp : Int) (hxp : -1000 ≤ xp ∧ xp ≤ 1000) (hn : m.st = []) (h : CoreAt w R l m) :
    Calls Try.prog 118 #[.pointer (some ⟨R, 0, none⟩), .int .i32 (packI ⟨6, xp⟩)] w (DoEnd w R l m ({ m with d := 3 })) := by
  obtain ⟨_, x800, x801, xst, x807, xos, x838, x839, xall, xfr⟩ := h.cells
  have HC := hide h
  have HST := hide xst
  have HOS := hide xos
  have hfit : fits ⟨6, xp⟩ := ⟨hxp.1, hxp.2, (by show (0 : Int) ≤ 6; decide), (by show (6 : Int) ≤ 8; decide)⟩
  have HO := op_any _ hfit
  have HN := n_any _ hfit
  have HNC : ∀ w, Calls Try.prog 147 #[.int .i32 (packI ⟨6, xp⟩)] w fun e w' => e = .returned (.int .i64 xp) ∧ w' = w := HN
  generalize packI ⟨6, xp⟩ = pk at *
  obtain ⟨hp0, hp1⟩ := hp
  obtain ⟨hx0, hx1⟩ := hxp
  have hlz : (l.length : Int) ≤ 800 := by omega
  have hp2 : m.p ≤ 1000 := by omega
  have hsl' : (m.st.length : Int) ≤ 5 := by omega
  have hol' : (m.os.length : Int) ≤ 30 := by omega
  clear h hfit xst xos HN
  obtain ⟨mp, mc, md, st, os⟩ := m
  dsimp only at *
  subst hd
  subst hn
  simp only [List.length_nil, Int.ofNat_zero] at x807
  have x807' : w.cell? ⟨R, 807, none⟩ = some (.int .i64 0) := x807
  clear x807
  go_enter Try.func118, Try.ntmps118
  go_wp2_with fail
  go_quiet ((go_at_call 147; exact Calls.quiet_of_same (HNC _)))
  go_wp2_with fail
  refine (HO _).mono ?_
  rintro e w1 ⟨rfl, rfl⟩
  go_wp2_with fail
  refine bodyPost_ret (v := .tuple #[.int .i64 (mp), .int .i64 3]) (by simp [results, Try.results118, go_sem]) rfl ⟨rfl, by first | exact unhide HC | exact (unhide HC).drew, (by first | exact But.refl _ _ | exact but_drew _ | exact but_drew 1)⟩

set_option maxHeartbeats 8000000 in
theorem cdo_say (R : Nat) (l : List CellD) (m : CM) (w : World) (hl8 : l.length ≤ 800) (hp : IsPl l m.p) (hsl : m.st.length ≤ 5) (hol : m.os.length ≤ 30) (hd : m.d = 0) (xp : Int) (hxp : -1000 ≤ xp ∧ xp ≤ 1000) (h30 : m.os.length < 30) (h : CoreAt w R l m) :
    Calls Try.prog 118 #[.pointer (some ⟨R, 0, none⟩), .int .i32 (packI ⟨1, xp⟩)] w (DoEnd w R l m ({ m with os := m.os ++ [m.c], p := m.p + 1 })) := by
  obtain ⟨_, x800, x801, xst, x807, xos, x838, x839, xall, xfr⟩ := h.cells
  have HC := hide h
  have HST := hide xst
  have HOS := hide xos
  have hfit : fits ⟨1, xp⟩ := ⟨hxp.1, hxp.2, (by show (0 : Int) ≤ 1; decide), (by show (1 : Int) ≤ 8; decide)⟩
  have HO := op_any _ hfit
  have HN := n_any _ hfit
  have HNC : ∀ w, Calls Try.prog 147 #[.int .i32 (packI ⟨1, xp⟩)] w fun e w' => e = .returned (.int .i64 xp) ∧ w' = w := HN
  generalize packI ⟨1, xp⟩ = pk at *
  obtain ⟨hp0, hp1⟩ := hp
  obtain ⟨hx0, hx1⟩ := hxp
  have hlz : (l.length : Int) ≤ 800 := by omega
  have hp2 : m.p ≤ 1000 := by omega
  have hsl' : (m.st.length : Int) ≤ 5 := by omega
  have hol' : (m.os.length : Int) ≤ 30 := by omega
  clear h hfit xst xos HN
  obtain ⟨mp, mc, md, st, os⟩ := m
  dsimp only at *
  subst hd
  have h30' : ¬ (os.length : Int) = 30 := by omega
  have h30b : (os.length : Int) < 30 := by omega
  obtain ⟨v0, y0⟩ := xall (808 + os.length) (by omega)
  have g0 := xfr (808 + os.length)
  have g1 := xfr 838
  have HC2 := hide ((unhide HC).set2 (j := 808 + os.length) (v := .int .i64 mc) (k := 838) (u := .int .i64 (os.length + 1 : Int)) (fun C hC => hC.say (m := ⟨mp, mc, 0, st, os⟩) hl8 hsl h30 mc))
  clear HC xall xfr
  go_enter Try.func118, Try.ntmps118
  go_wp2_with fail
  go_quiet ((go_at_call 147; exact Calls.quiet_of_same (HNC _)))
  go_wp2_with fail
  refine (HO _).mono ?_
  rintro e w1 ⟨rfl, rfl⟩
  go_wp2_with fail
  go_region
  go_wp2_with fail
  refine bodyPost_ret (v := .tuple #[.int .i64 (mp + 1), .int .i64 0]) (by simp [results, Try.results118, go_sem]) rfl ⟨rfl, ?_, ?_⟩
  · exact unhide HC2
  · exact ((but_drew _).set _ _).set _ _

set_option maxHeartbeats 8000000 in
theorem cdo_add (R : Nat) (l : List CellD) (m : CM) (w : World) (hl8 : l.length ≤ 800) (hp : IsPl l m.p) (hsl : m.st.length ≤ 5) (hol : m.os.length ≤ 30) (hd : m.d = 0) (xp : Int) (hxp : -1000 ≤ xp ∧ xp ≤ 1000)  (h : CoreAt w R l m) :
    Calls Try.prog 118 #[.pointer (some ⟨R, 0, none⟩), .int .i32 (packI ⟨2, xp⟩)] w (DoEnd w R l m ({ m with c := sumI m.c xp, p := m.p + 1 })) := by
  obtain ⟨_, x800, x801, xst, x807, xos, x838, x839, xall, xfr⟩ := h.cells
  have HC := hide h
  have HST := hide xst
  have HOS := hide xos
  have hfit : fits ⟨2, xp⟩ := ⟨hxp.1, hxp.2, (by show (0 : Int) ≤ 2; decide), (by show (2 : Int) ≤ 8; decide)⟩
  have HO := op_any _ hfit
  have HN := n_any _ hfit
  have HNC : ∀ w, Calls Try.prog 147 #[.int .i32 (packI ⟨2, xp⟩)] w fun e w' => e = .returned (.int .i64 xp) ∧ w' = w := HN
  generalize packI ⟨2, xp⟩ = pk at *
  obtain ⟨hp0, hp1⟩ := hp
  obtain ⟨hx0, hx1⟩ := hxp
  have hlz : (l.length : Int) ≤ 800 := by omega
  have hp2 : m.p ≤ 1000 := by omega
  have hsl' : (m.st.length : Int) ≤ 5 := by omega
  have hol' : (m.os.length : Int) ≤ 30 := by omega
  clear h hfit xst xos HN
  obtain ⟨mp, mc, md, st, os⟩ := m
  dsimp only at *
  subst hd
  have g0 := xfr 801
  have HC2 := hide ((unhide HC).set (j := 801) (v := .int .i64 (sumI mc xp)) (fun C hC => hC.accset (m := ⟨mp, mc, 0, st, os⟩) hl8 hsl hol (sumI mc xp)))
  clear HC xall xfr
  go_enter Try.func118, Try.ntmps118
  go_wp2_with fail
  go_quiet ((go_at_call 147; exact Calls.quiet_of_same (HNC _)))
  go_wp2_with fail
  refine (HO _).mono ?_
  rintro e w1 ⟨rfl, rfl⟩
  go_wp2_with fail
  go_region_with (first | (go_at_call 147; refine (HNC _).mono ?_; rintro e wk ⟨rfl, rfl⟩) | (go_at_call 148; refine (implInsSum_any _ _ _).mono ?_; rintro e wk ⟨rfl, rfl⟩))
  all_goals (go_wp2_with fail)
  all_goals (refine bodyPost_ret (v := .tuple #[.int .i64 (mp + 1), .int .i64 0]) (by simp [results, Try.results118, go_sem]) rfl ⟨rfl, ?_, ?_⟩)
  all_goals first | exact unhide HC2 | exact (but_drew _).set _ _

set_option maxHeartbeats 8000000 in
theorem cdo_call (R : Nat) (l : List CellD) (m : CM) (w : World) (hl8 : l.length ≤ 800) (hp : IsPl l m.p) (hsl : m.st.length ≤ 5) (hol : m.os.length ≤ 30) (hd : m.d = 0) (xp : Int) (hxp : -1000 ≤ xp ∧ xp ≤ 1000) (h5 : m.st.length < 5) (h : CoreAt w R l m) :
    Calls Try.prog 118 #[.pointer (some ⟨R, 0, none⟩), .int .i32 (packI ⟨3, xp⟩)] w (DoEnd w R l m ({ m with st := m.st ++ [m.p + 1], p := m.p + xp })) := by
  obtain ⟨_, x800, x801, xst, x807, xos, x838, x839, xall, xfr⟩ := h.cells
  have HC := hide h
  have HST := hide xst
  have HOS := hide xos
  have hfit : fits ⟨3, xp⟩ := ⟨hxp.1, hxp.2, (by show (0 : Int) ≤ 3; decide), (by show (3 : Int) ≤ 8; decide)⟩
  have HO := op_any _ hfit
  have HN := n_any _ hfit
  have HNC : ∀ w, Calls Try.prog 147 #[.int .i32 (packI ⟨3, xp⟩)] w fun e w' => e = .returned (.int .i64 xp) ∧ w' = w := HN
  generalize packI ⟨3, xp⟩ = pk at *
  obtain ⟨hp0, hp1⟩ := hp
  obtain ⟨hx0, hx1⟩ := hxp
  have hlz : (l.length : Int) ≤ 800 := by omega
  have hp2 : m.p ≤ 1000 := by omega
  have hsl' : (m.st.length : Int) ≤ 5 := by omega
  have hol' : (m.os.length : Int) ≤ 30 := by omega
  clear h hfit xst xos HN
  obtain ⟨mp, mc, md, st, os⟩ := m
  dsimp only at *
  subst hd
  have h5' : ¬ (st.length : Int) = 5 := by omega
  have h5b : (st.length : Int) < 5 := by omega
  obtain ⟨v0, y0⟩ := xall (802 + st.length) (by omega)
  have g0 := xfr (802 + st.length)
  have g1 := xfr 807
  have HC2 := hide ((unhide HC).set2 (j := 802 + st.length) (v := .int .i64 (mp + 1)) (k := 807) (u := .int .i64 (st.length + 1 : Int)) (fun C hC => hC.push (m := ⟨mp, mc, 0, st, os⟩) hl8 h5 hol (mp + 1)))
  clear HC xall xfr
  go_enter Try.func118, Try.ntmps118
  go_wp2_with fail
  go_quiet ((go_at_call 147; exact Calls.quiet_of_same (HNC _)))
  go_wp2_with fail
  refine (HO _).mono ?_
  rintro e w1 ⟨rfl, rfl⟩
  go_wp2_with fail
  go_region
  go_wp2_with fail
  refine bodyPost_ret (v := .tuple #[.int .i64 (mp + xp), .int .i64 0]) (by simp [results, Try.results118, go_sem]) rfl ⟨rfl, ?_, ?_⟩
  · exact unhide HC2
  · exact ((but_drew _).set _ _).set _ _

set_option maxHeartbeats 8000000 in
theorem cdo_ret (R : Nat) (l : List CellD) (m : CM) (w : World) (hl8 : l.length ≤ 800) (hp : IsPl l m.p) (hsl : m.st.length ≤ 5) (hol : m.os.length ≤ 30) (hd : m.d = 0) (xp : Int) (hxp : -1000 ≤ xp ∧ xp ≤ 1000) (r : List Int) (s : Int) (hn : m.st = r ++ [s]) (h : CoreAt w R l m) :
    Calls Try.prog 118 #[.pointer (some ⟨R, 0, none⟩), .int .i32 (packI ⟨6, xp⟩)] w (DoEnd w R l m ({ m with p := s, st := r })) := by
  obtain ⟨_, x800, x801, xst, x807, xos, x838, x839, xall, xfr⟩ := h.cells
  have HC := hide h
  have HST := hide xst
  have HOS := hide xos
  have hfit : fits ⟨6, xp⟩ := ⟨hxp.1, hxp.2, (by show (0 : Int) ≤ 6; decide), (by show (6 : Int) ≤ 8; decide)⟩
  have HO := op_any _ hfit
  have HN := n_any _ hfit
  have HNC : ∀ w, Calls Try.prog 147 #[.int .i32 (packI ⟨6, xp⟩)] w fun e w' => e = .returned (.int .i64 xp) ∧ w' = w := HN
  generalize packI ⟨6, xp⟩ = pk at *
  obtain ⟨hp0, hp1⟩ := hp
  obtain ⟨hx0, hx1⟩ := hxp
  have hlz : (l.length : Int) ≤ 800 := by omega
  have hp2 : m.p ≤ 1000 := by omega
  have hsl' : (m.st.length : Int) ≤ 5 := by omega
  have hol' : (m.os.length : Int) ≤ 30 := by omega
  clear h hfit xst xos HN
  obtain ⟨mp, mc, md, st, os⟩ := m
  dsimp only at *
  subst hd
  have hlen : st.length = r.length + 1 := by rw [hn]; simp
  have hsm : (st.length : Int) - 1 = (r.length : Int) := by omega
  have hnz : ¬ (st.length : Int) = 0 := by omega
  have hrl : (r.length : Int) < 5 := by omega
  have g1 := xfr 807
  have hs0 : w.cell? ⟨R, 802 + r.length, none⟩ = some (.int .i64 s) := by
    have := unhide HST r.length (by omega)
    rw [this]
    congr 2
    simp [hn]
  have HC2 : Hid (∀ n, CoreAt ((w.drewN n).setCell ⟨R, 807, none⟩ (.int .i64 (r.length : Int))) R l ⟨mp, mc, 0, r, os⟩) := fun n => CoreAt.set (w := w.drewN n) (j := 807) (v := .int .i64 (r.length : Int)) (by exact unhide HC) (fun C hC => hC.pop (m := ⟨mp, mc, 0, st, os⟩) hl8 hn hsl hol)
  have HST2 : Hid (∀ n, ((w.drewN n).setCell ⟨R, 807, none⟩ (.int .i64 (r.length : Int))).cell? ⟨R, 802 + r.length, none⟩ = some (.int .i64 s)) := fun n => by
    obtain ⟨C, h1, h2⟩ := unhide HC
    have h1' : (w.drewN n).heap[R]? = some (Obj.cells C 158) := h1
    rw [cell_of_block (block_setCell h1' _), Array.getElem?_setIfInBounds_ne (by omega)]
    have := cell_of_block (i := 802 + r.length) h1
    rw [← this]; exact hs0
  clear HC xall xfr hs0 hn HST hlen
  go_enter Try.func118, Try.ntmps118
  go_wp2_with fail
  go_quiet ((go_at_call 147; exact Calls.quiet_of_same (HNC _)))
  go_wp2_with fail
  refine (HO _).mono ?_
  rintro e w1 ⟨rfl, rfl⟩
  go_wp2_with fail
  have HCn := hide (unhide HC2 nq)
  have hs2 := unhide HST2 nq
  have hs3 := (unhide HCn).cells.2.2.2.2.1
  dsimp only at hs3
  clear HC2 HST2
  generalize hw2 : (w.drewN nq).setCell ⟨R, 807, none⟩ (.int .i64 (r.length : Int)) = w2 at *
  go_quiet (fail)
  go_wp2_with fail
  refine bodyPost_ret (v := .tuple #[.int .i64 s, .int .i64 0]) (by simp [results, Try.results118, go_sem]) rfl ⟨rfl, ?_, ?_⟩
  · exact unhide HCn
  · subst hw2; exact ((but_drew _).set _ _).below (bl_drewN (Below.refl _ _) _)

end Go.Proofs.Ytjbhbkkkjdpamaa.CoreB
