/- The contract of the program's step. -/
import Derived.Test.YtjbhbkkkjdpamaaCoreB
import Derived.Deep.RegionWith
namespace Go.Proofs.Ytjbhbkkkjdpamaa.CoreD
open Go.ChangeShapes Go.WideShapes Go.ChangeAt Go.RowKit Go.Joins Go.WideMaps Go.Maps Go.Deep
open Go.Proofs.Ytjbhbkkkjdpamaa.Base Go.Proofs.Ytjbhbkkkjdpamaa.InsA Go.Proofs.Ytjbhbkkkjdpamaa.Keep Go.Proofs.Ytjbhbkkkjdpamaa.LayN Go.Proofs.Ytjbhbkkkjdpamaa.CellA Go.Proofs.Ytjbhbkkkjdpamaa.Mark Go.Proofs.Ytjbhbkkkjdpamaa.Sum Go.Proofs.Ytjbhbkkkjdpamaa.ImgD Go.Proofs.Ytjbhbkkkjdpamaa.ImgOk Go.Proofs.Ytjbhbkkkjdpamaa.RestOk Go.Proofs.Ytjbhbkkkjdpamaa.COkS Go.Proofs.Ytjbhbkkkjdpamaa.CSpec Go.Proofs.Ytjbhbkkkjdpamaa.CoreA Go.Proofs.Ytjbhbkkkjdpamaa.CoreB
set_option linter.unusedVariables false
set_option maxRecDepth 100000

theorem cdo_any (R : Nat) (l : List CellD) (r0 : Int) (m : CM) (w : World) (hok : imageB l r0 = true) (hinv : InvC l m) (h8 : (cellOf l m.p).f ≠ 8) (hd : m.d = 0) (h : CoreAt w R l m) :
    Calls Try.prog 118 #[.pointer (some ⟨R, 0, none⟩), .int .i32 (packI (cellOf l m.p))] w (DoEnd w R l m (rawC m (cellOf l m.p))) := by
  have hsm := cell_small hok hinv.here
  have hl8 := (head_parts (image_parts hok).1).2.1
  have hp := hinv.here
  have hsl := hinv.sl
  have hol := hinv.ol
  generalize cellOf l m.p = x at *
  obtain ⟨f, xp⟩ := x
  dsimp only at *
  have hxp : -1000 ≤ xp ∧ xp ≤ 1000 := ⟨hsm.1, hsm.2.1⟩
  have hf : f = 1 ∨ f = 2 ∨ f = 3 ∨ f = 4 ∨ f = 5 ∨ f = 6 ∨ f = 7 := by omega
  rcases hf with rfl | rfl | rfl | rfl | rfl | rfl | rfl
  · by_cases h30 : 30 ≤ m.os.length
    · have e : rawC m ⟨1, xp⟩ = { m with d := 4 } := by simp [rawC, h30]
      rw [e]; exact cdo_full R l m w hl8 hp hsl hol hd xp hxp (by omega) h
    · have e : rawC m ⟨1, xp⟩ = { m with os := m.os ++ [m.c], p := m.p + 1 } := by simp [rawC, h30]
      rw [e]; exact cdo_say R l m w hl8 hp hsl hol hd xp hxp (by omega) h
  · have e : rawC m ⟨2, xp⟩ = { m with c := sumI m.c xp, p := m.p + 1 } := by simp [rawC]
    rw [e]; exact cdo_add R l m w hl8 hp hsl hol hd xp hxp h
  · by_cases h5 : 5 ≤ m.st.length
    · have e : rawC m ⟨3, xp⟩ = { m with d := 2 } := by simp [rawC, h5]
      rw [e]; exact cdo_deep R l m w hl8 hp hsl hol hd xp hxp (by omega) h
    · have e : rawC m ⟨3, xp⟩ = { m with st := m.st ++ [m.p + 1], p := m.p + xp } := by simp [rawC, h5]
      rw [e]; exact cdo_call R l m w hl8 hp hsl hol hd xp hxp (by omega) h
  · have e : rawC m ⟨4, xp⟩ = { m with p := m.p + xp } := by simp [rawC]
    rw [e]; exact cdo_go R l m w hl8 hp hsl hol hd xp hxp h
  · by_cases hc : 0 < m.c
    · have e : rawC m ⟨5, xp⟩ = { m with p := m.p + xp } := by simp [rawC, hc]
      rw [e]; exact cdo_if R l m w hl8 hp hsl hol hd xp hxp hc h
    · have e : rawC m ⟨5, xp⟩ = { m with p := m.p + 1 } := by simp [rawC, hc]
      rw [e]; exact cdo_not R l m w hl8 hp hsl hol hd xp hxp hc h
  · rcases List.eq_nil_or_concat m.st with hn | ⟨r, s, hn⟩
    · have e : rawC m ⟨6, xp⟩ = { m with d := 3 } := by simp [rawC, hn]
      rw [e]; exact cdo_off R l m w hl8 hp hsl hol hd xp hxp hn h
    · rw [List.concat_eq_append] at hn
      have e : rawC m ⟨6, xp⟩ = { m with p := s, st := r } := by simp [rawC, hn]
      rw [e]; exact cdo_ret R l m w hl8 hp hsl hol hd xp hxp r s hn h
  · have e : rawC m ⟨7, xp⟩ = { m with d := 1 } := by simp [rawC]
    rw [e]; exact cdo_end R l m w hl8 hp hsl hol hd xp hxp h
/-- An instruction's next place is one of the image. -/
theorem raw_in {l : List CellD} {r0 : Int} (hok : imageB l r0 = true) {m : CM} (hinv : InvC l m) (h8 : (cellOf l m.p).f ≠ 8) : IsPl l (rawC m (cellOf l m.p)).p := by
  have hR : refsB (cellOf l m.p).f = true → IsPl l (m.p + (cellOf l m.p).p) := fun hr => refs_in hok hinv.here hr
  have hN : lastB (cellOf l m.p).f = false → IsPl l (m.p + 1) := fun hl => next_in hok hinv.here hl h8
  have hp := hinv.here
  have hst := hinv.st
  generalize cellOf l m.p = x at *
  unfold rawC
  split
  · rename_i ho
    split
    · exact hp
    · exact hN (by rw [ho]; rfl)
  split
  · rename_i ho; exact hN (by rw [ho]; rfl)
  split
  · rename_i ho
    split
    · exact hp
    · exact hR (by rw [ho]; rfl)
  split
  · rename_i ho; exact hR (by rw [ho]; rfl)
  split
  · rename_i ho
    split
    · exact hR (by rw [ho]; rfl)
    · exact hN (by rw [ho]; rfl)
  split
  · cases hg : m.st.getLast? with
    | none => exact hp
    | some s => exact hst s (List.mem_of_getLast? hg)
  · exact hp
theorem raw_short {l : List CellD} {m : CM} (h : InvC l m) (x : CellD) : (rawC m x).st.length ≤ 5 ∧ (rawC m x).os.length ≤ 30 := by
  have h1 := h.sl
  have h2 := h.ol
  unfold rawC
  split
  · split
    · exact ⟨h1, h2⟩
    · exact ⟨h1, by simp; omega⟩
  split
  · exact ⟨h1, h2⟩
  split
  · split
    · exact ⟨h1, h2⟩
    · exact ⟨by simp; omega, h2⟩
  split
  · exact ⟨h1, h2⟩
  split
  · split <;> exact ⟨h1, h2⟩
  split
  · cases hg : m.st.getLast? with
    | none => exact ⟨h1, h2⟩
    | some s => exact ⟨by simp; omega, h2⟩
  · exact ⟨h1, h2⟩
def StepEnd (w : World) (R : Nat) (l : List CellD) (m1 : CM) (e : Ending) (w' : World) : Prop := e = .returned (.tuple #[]) ∧ CoreAt w' R l m1 ∧ But R w w'
set_option maxHeartbeats 8000000 in
theorem step_any (R : Nat) (l : List CellD) (r0 : Int) (m : CM) (w : World) (hok : imageB l r0 = true) (hinv : InvC l m) (h : CoreAt w R l m) :
    Calls Try.prog 75 #[.pointer (some ⟨R, 0, none⟩)] w (StepEnd w R l (goC l m)) := by
  obtain ⟨_, x800, _, _, _, _, _, x839, _, xfr⟩ := h.cells
  have g0 := xfr 800
  have HC := hide h
  by_cases hd : m.d = 0
  rotate_left
  · have e : goC l m = m := by unfold goC; rw [if_neg hd]
    rw [e]
    clear h xfr
    go_enter Try.func75, Try.ntmps75
    go_wp2_with fail
    refine bodyPost_ret (v := .tuple #[]) (by simp [results, Try.results75, go_sem]) rfl ⟨rfl, unhide HC, But.refl _ _⟩
  have e : goC l m = stepC l m := by unfold goC; rw [if_pos hd]
  rw [e]
  clear e
  have hl8 := (head_parts (image_parts hok).1).2.1
  have hov := over_in hok hinv.here
  have HIN : Hid (InvC l (overM l m)) := over_inv hok hinv
  have HRI : Hid (IsPl l (rawC (overM l m) (cellOf l (overM l m).p)).p) := raw_in (m := overM l m) hok (over_inv hok hinv) hov.2
  have HSD : Hid (stepC l m = { rawC (overM l m) (cellOf l (overM l m).p) with p := overI l (rawC (overM l m) (cellOf l (overM l m).p)).p }) := do_raw (m := overM l m) _ hov.2
  have HC1 : Hid (CoreAt (w.setCell ⟨R, 800, none⟩ (.int .i64 (overI l m.p))) R l (overM l m)) := h.set (fun C hC => hC.pcset hl8 hinv.sl hinv.ol _)
  have HB1 : Hid (But R w (w.setCell ⟨R, 800, none⟩ (.int .i64 (overI l m.p)))) := (But.refl R w).set _ _
  have HOK := hide hok
  have HI := hide hinv
  have HOV := hide hov
  rw [hd] at x839
  have hpl := hinv.here
  clear h xfr hov hinv
  go_enter Try.func75, Try.ntmps75
  go_wp2_with fail
  refine (overStone_any R l r0 m m.p w (unhide HOK) hpl (unhide HC)).mono ?_
  rintro e w1 ⟨rfl, rfl⟩
  go_wp2_with fail
  generalize hw1 : w1.setCell ⟨R, 800, none⟩ (.int .i64 (overI l m.p)) = w2 at *
  clear x800 x839 g0 HC
  have hfit := (unhide HOV).1
  obtain ⟨k, hk0, hk⟩ := isPl_nat hfit
  obtain ⟨q, hq⟩ : ∃ q, (rawC (overM l m) (cellOf l (overM l m).p)).p = q := ⟨_, rfl⟩
  obtain ⟨dd, hdd⟩ : ∃ dd, (rawC (overM l m) (cellOf l (overM l m).p)).d = dd := ⟨_, rfl⟩
  have HDO : Hid (∀ W, CoreAt W R l (overM l m) → Calls Try.prog 118 #[.pointer (some ⟨R, 0, none⟩), .int .i32 (packI (cellOf l (overI l m.p)))] W (fun e w' => e = .returned (.tuple #[.int .i64 q, .int .i64 dd]) ∧ (CoreAt w' R l (holdC (overM l m) (rawC (overM l m) (cellOf l (overM l m).p))) ∧ But R W w'))) := fun W hW => by
    refine Calls.mono (cdo_any R l r0 (overM l m) W (unhide HOK) (unhide HIN) (unhide HOV).2 hd hW) ?_
    rintro e w' ⟨rfl, h1, h2⟩
    rw [hq, hdd]
    exact ⟨rfl, h1, h2⟩
  have HFIN : Hid (∀ w', CoreAt w' R l (holdC (overM l m) (rawC (overM l m) (cellOf l (overM l m).p))) → CoreAt ((w'.setCell ⟨R, 800, none⟩ (.int .i64 q)).setCell ⟨R, 839, none⟩ (.int .i64 dd)) R l (rawC (overM l m) (cellOf l (overM l m).p)) ∧ CoreAt ((w'.setCell ⟨R, 839, none⟩ (.int .i64 dd)).setCell ⟨R, 800, none⟩ (.int .i64 q)) R l (rawC (overM l m) (cellOf l (overM l m).p))) := fun w' hw => by
    have hri := raw_short (m := overM l m) (unhide HIN) (cellOf l (overM l m).p)
    have e : rawC (overM l m) (cellOf l (overM l m).p) = { holdC (overM l m) (rawC (overM l m) (cellOf l (overM l m).p)) with p := q, d := dd } := by rw [← hq, ← hdd]; rfl
    rw [e]
    exact ⟨CoreAt.set2 hw (fun C hC => (hC.pcset hl8 hri.1 hri.2 q).codeset hl8 hri.1 hri.2 dd), CoreAt.set2 hw (fun C hC => (hC.codeset hl8 hri.1 hri.2 dd).pcset hl8 hri.1 hri.2 q)⟩
  have HSD2 : Hid (stepC l m = { rawC (overM l m) (cellOf l (overM l m).p) with p := overI l q }) := by show _ = _; rw [unhide HSD, hq]
  have HQ : Hid (IsPl l q) := by have := unhide HRI; rw [hq] at this; exact this
  obtain ⟨xpl, y800, _, _, _, _, _, y839, _, yfr⟩ := (unhide HC1).cells
  have y0 := xpl k hk
  rw [← cellOf_at hk, ← hk0] at y0
  have y8 : w2.cell? ⟨R, 800, none⟩ = some (.int .i64 (k : Int)) := by rw [← hk0]; exact y800
  have hkz : (k : Int) < 800 := by omega
  have HRAW := hide (raw_short (m := overM l m) (unhide HIN) (cellOf l (overM l m).p))
  clear xpl y800 y839 yfr hfit hpl HRI HSD HI hw1 hk
  rw [hk0] at *
  generalize packI (cellOf l (k : Int)) = pk at *
  have HMP := hide hq
  generalize rawC (overM l m) (cellOf l (overM l m).p) = m1 at *
  clear hk0 hq hdd hd HIN HOV
  generalize holdC (overM l m) m1 = mh at *
  have HCD : Hid (CoreAt w2.drew R l (overM l m)) := unhide HC1
  have HBD : Hid (But R w1 w2.drew) := (unhide HB1).below (Below.refl _ _).drew
  clear HC1 HB1
  go_region_with (go_at_call 118; refine (unhide HDO _ (unhide HCD)).mono ?_; rintro e wk ⟨rfl, hck, hbk⟩; obtain ⟨_, z8, _, _, _, _, _, z9, _, zfr⟩ := hck.cells; have z0 := zfr 800; have z1 := zfr 839)
  have HW3 := hide ((unhide HFIN) wk hck).1
  have HB3 := hide ((((unhide HBD).trans hbk).set 800 (.int .i64 q)).set 839 (.int .i64 dd))
  clear hck hbk z8 z9 zfr z0 z1 y0 y8 HFIN HDO HCD HBD
  generalize (wk.setCell ⟨R, 800, none⟩ (.int .i64 q)).setCell ⟨R, 839, none⟩ (.int .i64 dd) = w3 at *
  have y := (unhide HW3).cells.2.1
  rw [unhide HMP] at y
  have z := (unhide HW3).cells.2.2.2.2.2.2.2.2.2 800
  go_wp2_with fail
  refine (overStone_any R l r0 m1 q _ (unhide HOK) (unhide HQ) (unhide HW3)).mono ?_
  rintro e w4 ⟨rfl, rfl⟩
  go_wp2_with fail
  refine bodyPost_ret (v := .tuple #[]) (by simp [results, Try.results75, go_sem]) rfl ⟨rfl, ?_, (unhide HB3).set _ _⟩
  rw [unhide HSD2]
  exact (unhide HW3).set (fun C hC => hC.pcset hl8 (unhide HRAW).1 (unhide HRAW).2 _)
end Go.Proofs.Ytjbhbkkkjdpamaa.CoreD
