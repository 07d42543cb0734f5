/- The contracts of the specification's l8Do, l8Step, l8Copy, CpuStep, CpuRun (written by mk_cspecc.py). -/
import Derived.Test.YtjbhbkkkjdpamaaCSpecB
import Derived.Test.YtjbhbkkkjdpamaaCOkS
namespace Go.Proofs.Ytjbhbkkkjdpamaa.CSpecC
open Go.ChangeShapes Go.WideShapes Go.ChangeAt Go.RowKit Go.Joins Go.WideMaps Go.Maps Go.Deep
open Go.Proofs.Ytjbhbkkkjdpamaa.Base Go.Proofs.Ytjbhbkkkjdpamaa.InsA Go.Proofs.Ytjbhbkkkjdpamaa.Keep Go.Proofs.Ytjbhbkkkjdpamaa.LayN Go.Proofs.Ytjbhbkkkjdpamaa.CellA Go.Proofs.Ytjbhbkkkjdpamaa.Sum Go.Proofs.Ytjbhbkkkjdpamaa.ImgD Go.Proofs.Ytjbhbkkkjdpamaa.ImgOk Go.Proofs.Ytjbhbkkkjdpamaa.RestOk Go.Proofs.Ytjbhbkkkjdpamaa.COkS Go.Proofs.Ytjbhbkkkjdpamaa.CSpec Go.Proofs.Ytjbhbkkkjdpamaa.CSpecB
set_option linter.unusedVariables false
set_option maxRecDepth 100000

theorem l8Do_any (W0 : World) (a : Option Addr) (cap : Nat) (l : List CellD) (r0 : Int) (m : CM) (sv ov : Value) (w : World) (hcap : l.length ≤ cap) (hcm : cap ≤ maxLen) (hF : CellRow W0 a l) (hok : imageB l r0 = true) (hinv : InvC l m) (h8 : (cellOf l m.p).f ≠ 8) (h : OwnC W0 w sv ov m) :
    Calls Try.prog 113 #[.slice a l.length cap, .agg (aggC m sv ov)] w fun e w' => CEnd W0 w (doC l m (cellOf l m.p)) e w' := by
  have hsm := cell_small hok hinv.here
  have hR : refsB (cellOf l m.p).f = true → IsPl l (m.p + (cellOf l m.p).p) := fun hr => refs_in hok hinv.here hr
  have hN : lastB (cellOf l m.p).f = false → IsPl l (m.p + 1) := fun hl => next_in hok hinv.here hl h8
  have hl8 := (head_parts (image_parts hok).1).2.1
  have hp := hinv.here
  have hsl := hinv.sl
  have hol := hinv.ol
  generalize hx : cellOf l m.p = x at *
  obtain ⟨f, xp⟩ := x
  dsimp only at *
  have hf : f = 1 ∨ f = 2 ∨ f = 3 ∨ f = 4 ∨ f = 5 ∨ f = 6 ∨ f = 7 := by omega
  rcases hf with rfl | rfl | rfl | rfl | rfl | rfl | rfl
  · have e : doC l m ⟨1, xp⟩ = sayC l m := by simp [doC]
    rw [e]
    unfold sayC
    by_cases h30 : 30 ≤ m.os.length
    · rw [if_pos h30]; exact do_full W0 a cap l m sv ov w hcap hcm hl8 hF hp hsl hol xp hx h30 h
    · rw [if_neg h30]; exact do_say W0 a cap l m sv ov w hcap hcm hl8 hF hp hsl hol xp hx h30 (hN rfl) h
  · have e : doC l m ⟨2, xp⟩ = { m with c := sumI m.c xp, p := overI l (m.p + 1) } := by simp [doC]
    rw [e]; exact do_add W0 a cap l m sv ov w hcap hcm hl8 hF hp hsl hol xp hx (hN rfl) h
  · have e : doC l m ⟨3, xp⟩ = callC l m xp := by simp [doC]
    rw [e]; exact do_call W0 a cap l m sv ov w hcap hcm hl8 hF hp hsl hol xp hx ⟨hsm.1, hsm.2.1⟩ (hR rfl) h
  · have e : doC l m ⟨4, xp⟩ = { m with p := overI l (m.p + xp) } := by simp [doC, wayC]
    rw [e]; exact do_go W0 a cap l m sv ov w hcap hcm hl8 hF hp hsl hol xp hx ⟨hsm.1, hsm.2.1⟩ (hR rfl) h
  · by_cases hc : 0 < m.c
    · have e : doC l m ⟨5, xp⟩ = { m with p := overI l (m.p + xp) } := by simp [doC, wayC, hc]
      rw [e]; exact do_if W0 a cap l m sv ov w hcap hcm hl8 hF hp hsl hol xp hx hc ⟨hsm.1, hsm.2.1⟩ (hR rfl) h
    · have e : doC l m ⟨5, xp⟩ = { m with p := overI l (m.p + 1) } := by simp [doC, nextC, hc]
      rw [e]; exact do_not W0 a cap l m sv ov w hcap hcm hl8 hF hp hsl hol xp hx hc (hN rfl) h
  · have e : doC l m ⟨6, xp⟩ = retC l m := by simp [doC]
    rw [e]
    rcases List.eq_nil_or_concat m.st with hn | ⟨r, s, hn⟩
    · have e2 : retC l m = { m with d := 3 } := by unfold retC; rw [hn]; rfl
      rw [e2]; exact do_off W0 a cap l m sv ov w hcap hcm hl8 hF hp hsl hol xp hx hn h
    · rw [List.concat_eq_append] at hn
      have e2 : retC l m = { m with p := overI l s, st := r } := by unfold retC; rw [hn]; simp
      rw [e2]; exact do_ret W0 a cap l m sv ov w hcap hcm hl8 hF hp hsl hol xp hx s r hn (hinv.st s (by rw [hn]; simp)) h
  · have e : doC l m ⟨7, xp⟩ = { m with d := 1 } := by simp [doC]
    rw [e]; exact do_end W0 a cap l m sv ov w hcap hcm hl8 hF hp hsl hol xp hx h
set_option maxHeartbeats 4000000 in
theorem l8Step_any (W0 : World) (a : Option Addr) (cap : Nat) (l : List CellD) (r0 : Int) (m : CM) (sv ov : Value) (w : World) (hcap : l.length ≤ cap) (hcm : cap ≤ maxLen) (hF : CellRow W0 a l) (hok : imageB l r0 = true) (hinv : InvC l m) (h : OwnC W0 w sv ov m) :
    Calls Try.prog 71 #[.slice a l.length cap, .agg (aggC m sv ov)] w fun e w' => CEnd W0 w (stepC l m) e w' := by
  have hsz := h.2.2.2.size
  obtain ⟨sa, sc, rfl, hs1, hs2⟩ := int_form h.1
  obtain ⟨oa, oc, rfl, ho1, ho2⟩ := int_form h.2.1
  have HOV := hide (over_in hok hinv.here)
  have HIN : Hid (InvC l (overM l m)) := over_inv hok hinv
  have HF := hide hF
  have HOK := hide hok
  have hpl := hinv.here
  have HD : Hid (stepC l m = doC l (overM l m) (cellOf l (overM l m).p)) := rfl
  clear hF hok hinv
  have h2 : OwnC W0 ((w.alloc (.cells #[.int .i64 (overI l m.p), .int .i64 m.c, .slice sa m.st.length sc, .slice oa m.os.length oc, .int .i64 m.d] 60)).alloc (.cells #[.int .i64 0, .int .i64 0, .slice none 0 0, .slice none 0 0, .int .i64 0] 60)) (.slice sa m.st.length sc) (.slice oa m.os.length oc) (overM l m) := OwnC.below (m := overM l m) h (below_alloc2 _ _ _)
  have HO := hide h2
  have HO0 := hide h
  have HRES := hide (res5 w (.cells #[.int .i64 (overI l m.p), .int .i64 m.c, .slice sa m.st.length sc, .slice oa m.os.length oc, .int .i64 m.d] 60) (.int .i64 0) (.int .i64 0) (.slice none 0 0) (.slice none 0 0) (.int .i64 0) 60)
  have HK := hide (Keeps.of (below_alloc2 w (.cells #[.int .i64 (overI l m.p), .int .i64 m.c, .slice sa m.st.length sc, .slice oa m.os.length oc, .int .i64 m.d] 60) (.cells #[.int .i64 0, .int .i64 0, .slice none 0 0, .slice none 0 0, .int .i64 0] 60)))
  clear h h2
  unfold aggC
  go_enter Try.func71, Try.ntmps71
  go_wp2_with fail
  refine (l8Over_any a cap l m.p _ hcap hcm hpl ((unhide HF).below (bl_trans (unhide HO0).2.2.2 (below_alloc2 _ _ _)))).mono ?_
  rintro e w1 ⟨rfl, rfl⟩
  go_wp2_with fail
  refine (l8Do_any W0 a cap l r0 (overM l m) _ _ _ hcap hcm (unhide HF) (unhide HOK) (unhide HIN) (unhide HOV).2 (unhide HO)).mono ?_
  rw [← unhide HD]
  rintro e w2 ⟨sv1, ov1, rfl, hO1, hK1, hz1⟩
  obtain ⟨sa1, sc1, rfl, _, _⟩ := int_form hO1.1
  obtain ⟨oa1, oc1, rfl, _, _⟩ := int_form hO1.2.1
  have hr := hK1 _ _ _ (unhide HRES) (by decide)
  have xr := box5 hr
  have HM1 := hide (off_of hr)
  have HO3 := hide hO1
  have HK3 := hide ((unhide HK).trans hK1)
  simp only [World.size_alloc] at hz1
  clear hr hO1 hK1 HO HK HRES HO0
  generalize hme : stepC l m = m1 at *
  have HME := hide hme
  clear hme
  unfold aggC
  go_wp2_with fail
  refine bodyPost_ret (v := .agg (aggC m1 (.slice sa1 m1.st.length sc1) (.slice oa1 m1.os.length oc1))) (by simp [results, Try.results71, go_sem, aggC, xr]) rfl ?_
  show CEnd W0 w (stepC l m) _ _
  rw [unhide HME]
  refine ⟨_, _, rfl, ?_, ?_, ?_⟩
  · repeat (with_reducible refine OwnC.set ?_ (by (repeat (with_reducible refine OffAt.set ?_)); exact unhide HM1) (by omega))
    exact unhide HO3
  · repeat (with_reducible refine Keeps.set ?_ (by omega))
    exact unhide HK3
  · simp; omega
/-- A block for the answer. -/
def ResAt (w : World) (N : Nat) : Prop := ∃ v0 v1 v2 v3 v4, w.heap[N]? = some (.cells #[v0, v1, v2, v3, v4] 60)
theorem Stable.res (N : Nat) : Stable (fun w => ResAt w N) := ⟨fun w w' hb ⟨v0, v1, v2, v3, v4, h⟩ => ⟨v0, v1, v2, v3, v4, box_below h hb⟩, fun w h => h⟩
theorem cpu_ne {w : World} {row : Option Nat} {N : Nat} {C : Array Value} (hN : w.heap[N]? = some (.cells C 60)) (hv : ∀ g, row = some g → ∃ C, w.heap[g]? = some (Obj.cells C 3)) : row ≠ some N := fun e => by
  obtain ⟨C', hx⟩ := hv N e
  rw [hN] at hx; simp at hx
theorem copy_grown {w w1 w2 : World} {row : Option Nat} {v0 v1 v2 v3 v4 : Value} (h : w1.heap[w.heap.size]? = some (.cells #[v0, v1, v2, v3, v4] 60) ∧ ResAt w1 (w.heap.size + 1) ∧ Below w.heap.size w w1) (hg : w1.grownBy w2 row) (hv : ∀ g, row = some g → ∃ C, w1.heap[g]? = some (Obj.cells C 3)) (hrow : ∀ g, row = some g → w.heap.size ≤ g) :
    w2.heap[w.heap.size]? = some (.cells #[v0, v1, v2, v3, v4] 60) ∧ ResAt w2 (w.heap.size + 1) ∧ Below w.heap.size w w2 := by
  obtain ⟨h1, ⟨u0, u1, u2, u3, u4, h2⟩, h3⟩ := h
  exact ⟨grown_box hg h1 (cpu_ne h1 hv), ⟨u0, u1, u2, u3, u4, grown_box hg h2 (cpu_ne h2 hv)⟩, h3.grown hg h3.size hrow⟩
theorem S_of {w' : World} {N M : Nat} {W : World} {v0 v1 v2 v3 v4 : Value} (h : w'.heap[N]? = some (.cells #[v0, v1, v2, v3, v4] 60) ∧ ResAt w' M ∧ Below W.heap.size W w') : w'.cell? ⟨N, 0, none⟩ = some v0 ∧ w'.cell? ⟨N, 1, none⟩ = some v1 ∧ w'.cell? ⟨N, 2, none⟩ = some v2 ∧ w'.cell? ⟨N, 3, none⟩ = some v3 ∧ w'.cell? ⟨N, 4, none⟩ = some v4 ∧ w'.heap[N]? = some (.cells #[v0, v1, v2, v3, v4] 60) ∧ ResAt w' M ∧ Below W.heap.size W w' := by
  have x := (box5 h.1).1
  exact ⟨x.1, x.2.1, x.2.2.1, x.2.2.2.1, x.2.2.2.2, h.1, h.2.1, h.2.2⟩
/-- A row made anew lies apart from one that was there. -/
theorem apart_new {w : World} {B : Nat} {v u : Value} {xs : List Int} (h : IntOwn w B u xs) (hv : v.ownBlock = some w.heap.size) : Apart v u := by
  right
  rw [hv]
  intro e
  have := (int_block h _ e.symm).2.1
  omega
theorem apart_grown {w : World} {B : Nat} {v v' u : Value} {xs : List Int} (h : IntOwn w B u xs) (hap : Apart v u) (hv : v'.ownBlock = v.ownBlock ∨ v'.ownBlock = some w.heap.size) : Apart v' u := by
  rcases hv with e | e
  · unfold Apart; rw [e]; exact hap
  · exact apart_new h e
theorem made_block (w : World) : (Value.slice (some ⟨w.heap.size, 0, none⟩) 0 0).ownBlock = some w.heap.size := rfl
theorem eq_cells {w : World} {b : Nat} {C D : Array Value} {t : TypeId} (h : w.heap[b]? = some (.cells C t)) (e : C = D) : w.heap[b]? = some (.cells D t) := e ▸ h
set_option maxHeartbeats 8000000 in
theorem l8Copy_any (m : CM) (sa oa : Option Addr) (sc oc : Nat) (w : World) (hl1 : m.st.length ≤ 1048576) (hl2 : m.os.length ≤ 1048576) (hs : NumRow w sa m.st) (ho : NumRow w oa m.os) :
    Calls Try.prog 70 #[.agg (aggC m (.slice sa m.st.length sc) (.slice oa m.os.length oc))] w fun e w' => ∃ sv ov, e = .returned (.agg (aggC m sv ov)) ∧ OwnC w w' sv ov m := by
  unfold aggC
  have HS := hide hs
  have HN := hide ho
  clear hs ho
  have HSA : Hid (Stable (fun w' => w'.cell? ⟨w.heap.size, 0, none⟩ = some (.int .i64 m.p) ∧ w'.cell? ⟨w.heap.size, 1, none⟩ = some (.int .i64 m.c) ∧ w'.cell? ⟨w.heap.size, 2, none⟩ = some (.slice sa m.st.length sc) ∧ w'.cell? ⟨w.heap.size, 3, none⟩ = some (.slice oa m.os.length oc) ∧ w'.cell? ⟨w.heap.size, 4, none⟩ = some (.int .i64 m.d) ∧ w'.heap[w.heap.size]? = some (.cells #[.int .i64 m.p, .int .i64 m.c, .slice sa m.st.length sc, .slice oa m.os.length oc, .int .i64 m.d] 60) ∧ ResAt w' (w.heap.size + 1) ∧ Below w.heap.size w w')) := (Stable.cell _ _).and ((Stable.cell _ _).and ((Stable.cell _ _).and ((Stable.cell _ _).and ((Stable.cell _ _).and ((Stable.box _ _).and ((Stable.res _).and (Stable.below w)))))))
  have HS0 : Hid ((fun w' => w'.cell? ⟨w.heap.size, 0, none⟩ = some (.int .i64 m.p) ∧ w'.cell? ⟨w.heap.size, 1, none⟩ = some (.int .i64 m.c) ∧ w'.cell? ⟨w.heap.size, 2, none⟩ = some (.slice sa m.st.length sc) ∧ w'.cell? ⟨w.heap.size, 3, none⟩ = some (.slice oa m.os.length oc) ∧ w'.cell? ⟨w.heap.size, 4, none⟩ = some (.int .i64 m.d) ∧ w'.heap[w.heap.size]? = some (.cells #[.int .i64 m.p, .int .i64 m.c, .slice sa m.st.length sc, .slice oa m.os.length oc, .int .i64 m.d] 60) ∧ ResAt w' (w.heap.size + 1) ∧ Below w.heap.size w w') ((w.alloc (.cells #[.int .i64 m.p, .int .i64 m.c, .slice sa m.st.length sc, .slice oa m.os.length oc, .int .i64 m.d] 60)).alloc (.cells #[.int .i64 0, .int .i64 0, .slice none 0 0, .slice none 0 0, .int .i64 0] 60))) := S_of ⟨box_below (new_block w _) (below_alloc1 _ _), ⟨_, _, _, _, _, res5 w _ _ _ _ _ _ _⟩, below_alloc2 _ _ _⟩
  go_enter Try.func70, Try.ntmps70
  go_wp2_with fail
  refine wp_region_held_drew (S := (fun w' => w'.cell? ⟨w.heap.size, 0, none⟩ = some (.int .i64 m.p) ∧ w'.cell? ⟨w.heap.size, 1, none⟩ = some (.int .i64 m.c) ∧ w'.cell? ⟨w.heap.size, 2, none⟩ = some (.slice sa m.st.length sc) ∧ w'.cell? ⟨w.heap.size, 3, none⟩ = some (.slice oa m.os.length oc) ∧ w'.cell? ⟨w.heap.size, 4, none⟩ = some (.int .i64 m.d) ∧ w'.heap[w.heap.size]? = some (.cells #[.int .i64 m.p, .int .i64 m.c, .slice sa m.st.length sc, .slice oa m.os.length oc, .int .i64 m.d] 60) ∧ ResAt w' (w.heap.size + 1) ∧ Below w.heap.size w w')) (by kernel_rfl) ((unhide HSA).2 _ (unhide HS0)) (fun hHeld => ?_)
  refine wpAnyH_take (i := 0) (oi := { dst := some 3, op := Go.Op.fieldAddr 60 (Go.Operand.tmp 1) 0, type := 0, pos := "l8_image.go:171", after := #[], guard := none }) (v := ?v0_0) rfl (by kernel_rfl) (by kernel_rfl) (by kernel_rfl) (fun _ _ _ h => h) (Or.inl ⟨by rfl, ?y0_0⟩) (by assumption) ?r0_0
  case y0_0 => (intro w hSw; (try dsimp only at hSw); go_simp; try (with_reducible rfl))
  try simp only [Act.put, List.setIfInBounds_toArray, List.set_cons_zero, List.set_cons_succ]
  refine wpAnyH_take (i := 1) (oi := { dst := some 4, op := Go.Op.load 3 (Go.Operand.tmp 3), type := 3, pos := "l8_image.go:171", after := #[{ on := 0, ground := Go.Ground.data }], guard := none }) (v := ?v3_1) rfl (by kernel_rfl) (by kernel_rfl) (by kernel_rfl) (fun _ _ _ h => h) (Or.inl ⟨by rfl, ?y3_1⟩) (by assumption) ?r3_1
  case y3_1 => (intro w hSw; (try dsimp only at hSw); go_simp; try (with_reducible rfl))
  try simp only [Act.put, List.setIfInBounds_toArray, List.set_cons_zero, List.set_cons_succ]
  refine wpAnyH_take (i := 2) (oi := { dst := some 5, op := Go.Op.fieldAddr 60 (Go.Operand.tmp 1) 1, type := 0, pos := "l8_image.go:171", after := #[], guard := none }) (v := ?v6_2) rfl (by kernel_rfl) (by kernel_rfl) (by kernel_rfl) (fun _ _ _ h => h) (Or.inl ⟨by rfl, ?y6_2⟩) (by assumption) ?r6_2
  case y6_2 => (intro w hSw; (try dsimp only at hSw); go_simp; try (with_reducible rfl))
  try simp only [Act.put, List.setIfInBounds_toArray, List.set_cons_zero, List.set_cons_succ]
  refine wpAnyH_take (i := 3) (oi := { dst := some 6, op := Go.Op.load 3 (Go.Operand.tmp 5), type := 3, pos := "l8_image.go:171", after := #[{ on := 2, ground := Go.Ground.data }], guard := none }) (v := ?v9_3) rfl (by kernel_rfl) (by kernel_rfl) (by kernel_rfl) (fun _ _ _ h => h) (Or.inl ⟨by rfl, ?y9_3⟩) (by assumption) ?r9_3
  case y9_3 => (intro w hSw; (try dsimp only at hSw); go_simp; try (with_reducible rfl))
  try simp only [Act.put, List.setIfInBounds_toArray, List.set_cons_zero, List.set_cons_succ]
  refine wpAnyH_take (i := 5) (oi := { dst := some 8, op := Go.Op.fieldAddr 60 (Go.Operand.tmp 1) 2, type := 0, pos := "l8_image.go:171", after := #[], guard := none }) (v := ?v12_5) rfl (by kernel_rfl) (by kernel_rfl) (by kernel_rfl) (fun _ _ _ h => h) (Or.inl ⟨by rfl, ?y12_5⟩) (by assumption) ?r12_5
  case y12_5 => (intro w hSw; (try dsimp only at hSw); go_simp; try (with_reducible rfl))
  try simp only [Act.put, List.setIfInBounds_toArray, List.set_cons_zero, List.set_cons_succ]
  refine wpAnyH_take (i := 6) (oi := { dst := some 9, op := Go.Op.load 23 (Go.Operand.tmp 8), type := 23, pos := "l8_image.go:171", after := #[{ on := 5, ground := Go.Ground.data }], guard := none }) (v := ?v15_6) rfl (by kernel_rfl) (by kernel_rfl) (by kernel_rfl) (fun _ _ _ h => h) (Or.inl ⟨by rfl, ?y15_6⟩) (by assumption) ?r15_6
  case y15_6 => (intro w hSw; (try dsimp only at hSw); go_simp; try (with_reducible rfl))
  try simp only [Act.put, List.setIfInBounds_toArray, List.set_cons_zero, List.set_cons_succ]
  refine wpAnyH_take (i := 9) (oi := { dst := some 12, op := Go.Op.fieldAddr 60 (Go.Operand.tmp 1) 3, type := 0, pos := "l8_image.go:171", after := #[], guard := none }) (v := ?v18_9) rfl (by kernel_rfl) (by kernel_rfl) (by kernel_rfl) (fun _ _ _ h => h) (Or.inl ⟨by rfl, ?y18_9⟩) (by assumption) ?r18_9
  case y18_9 => (intro w hSw; (try dsimp only at hSw); go_simp; try (with_reducible rfl))
  try simp only [Act.put, List.setIfInBounds_toArray, List.set_cons_zero, List.set_cons_succ]
  refine wpAnyH_take (i := 10) (oi := { dst := some 13, op := Go.Op.load 23 (Go.Operand.tmp 12), type := 23, pos := "l8_image.go:171", after := #[{ on := 9, ground := Go.Ground.data }], guard := none }) (v := ?v21_10) rfl (by kernel_rfl) (by kernel_rfl) (by kernel_rfl) (fun _ _ _ h => h) (Or.inl ⟨by rfl, ?y21_10⟩) (by assumption) ?r21_10
  case y21_10 => (intro w hSw; (try dsimp only at hSw); go_simp; try (with_reducible rfl))
  try simp only [Act.put, List.setIfInBounds_toArray, List.set_cons_zero, List.set_cons_succ]
  refine wpAnyH_take (i := 12) (oi := { dst := some 15, op := Go.Op.fieldAddr 60 (Go.Operand.tmp 1) 4, type := 0, pos := "l8_image.go:171", after := #[], guard := none }) (v := ?v24_12) rfl (by kernel_rfl) (by kernel_rfl) (by kernel_rfl) (fun _ _ _ h => h) (Or.inl ⟨by rfl, ?y24_12⟩) (by assumption) ?r24_12
  case y24_12 => (intro w hSw; (try dsimp only at hSw); go_simp; try (with_reducible rfl))
  try simp only [Act.put, List.setIfInBounds_toArray, List.set_cons_zero, List.set_cons_succ]
  refine wpAnyH_take (i := 13) (oi := { dst := some 16, op := Go.Op.load 3 (Go.Operand.tmp 15), type := 3, pos := "l8_image.go:171", after := #[{ on := 12, ground := Go.Ground.data }], guard := none }) (v := ?v27_13) rfl (by kernel_rfl) (by kernel_rfl) (by kernel_rfl) (fun _ _ _ h => h) (Or.inl ⟨by rfl, ?y27_13⟩) (by assumption) ?r27_13
  case y27_13 => (intro w hSw; (try dsimp only at hSw); go_simp; try (with_reducible rfl))
  try simp only [Act.put, List.setIfInBounds_toArray, List.set_cons_zero, List.set_cons_succ]
  refine wpAnyH_ready (rs := [4, 8]) (by kernel_rfl) (by simp) ?_
  refine AllReadyH.cons (o := { dst := some 7, op := Go.Op.buildSlice 23 0 #[], type := 23, pos := "l8_image.go:171", after := #[], guard := none }) rfl (fun K hK => ?_) ?_
  · skip
    go_simp
    have hsz := hHeld.2.2.2.2.2.2.2.size
    have hP := int_made _ hsz
    replace hHeld := (unhide HSA).alloc hHeld (.cells #[] 3)
    refine hK.out _ _ hHeld (fun _ => ?_)
    clear hK K
    try simp only [Act.put, List.setIfInBounds_toArray, List.set_cons_zero, List.set_cons_succ]
    refine wpAnyH_ready (rs := [7, 8]) (by kernel_rfl) (by simp) ?_
    refine AllReadyH.cons (o := { dst := some 10, op := Go.Op.call { callee := Go.Callee.builtin Go.Builtin.append, args := #[Go.Operand.tmp 7, Go.Operand.tmp 9], argTypes := #[23, 23] }, type := 23, pos := "l8_image.go:171", after := #[{ on := 4, ground := Go.Ground.data }, { on := 6, ground := Go.Ground.data }], guard := none }) rfl (fun K hK => ?_) ?_
    · skip
      obtain ⟨a1, c1, w1, hrun, hO1, hg, hbk⟩ := ints_onto (ci := sc) hHeld.2.2.2.2.2.2.2.size hP ((unhide HS).below hHeld.2.2.2.2.2.2.2) hl1 23
      refine step_run rfl (.tmp 7) (.tmp 9) 23 23 rfl _ _ _ (by simp [Act.eval]) (by simp [Act.eval]) hrun ?_
      replace hHeld := S_of (copy_grown hHeld.2.2.2.2.2 hg (fun g hg' => (int_block hP g hg').2.2) (fun g hg' => (int_block hP g hg').1))
      clear hrun hg hbk hP
      refine hK.out _ _ hHeld (fun _ => ?_)
      clear hK K
      try simp only [Act.put, List.setIfInBounds_toArray, List.set_cons_zero, List.set_cons_succ]
      refine wpAnyH_ready (rs := [8]) (by kernel_rfl) (by simp) ?_
      refine AllReadyH.cons (o := { dst := some 11, op := Go.Op.buildSlice 23 0 #[], type := 23, pos := "l8_image.go:171", after := #[], guard := none }) rfl (fun K hK => ?_) AllReadyH.nil
      go_simp
      have hsz := hHeld.2.2.2.2.2.2.2.size
      have hQ := int_made _ hsz
      have hAP := apart_new hO1 (made_block _)
      replace hO1 := int_below hO1 (below_alloc1 _ (.cells #[] 3))
      replace hHeld := (unhide HSA).alloc hHeld (.cells #[] 3)
      refine hK.out _ _ hHeld (fun _ => ?_)
      clear hK K
      try simp only [Act.put, List.setIfInBounds_toArray, List.set_cons_zero, List.set_cons_succ]
      refine wpAnyH_ready (rs := [11]) (by kernel_rfl) (by simp) ?_
      refine AllReadyH.cons (o := { dst := some 14, op := Go.Op.call { callee := Go.Callee.builtin Go.Builtin.append, args := #[Go.Operand.tmp 11, Go.Operand.tmp 13], argTypes := #[23, 23] }, type := 23, pos := "l8_image.go:171", after := #[{ on := 8, ground := Go.Ground.data }, { on := 10, ground := Go.Ground.data }, { on := 7, ground := Go.Ground.chain }], guard := none }) rfl (fun K hK => ?_) AllReadyH.nil
      obtain ⟨a2, c2, w2, hrun, hO2, hg, hbk⟩ := ints_onto (ci := oc) hHeld.2.2.2.2.2.2.2.size hQ ((unhide HN).below hHeld.2.2.2.2.2.2.2) hl2 23
      refine step_run rfl (.tmp 11) (.tmp 13) 23 23 rfl _ _ _ (by simp [Act.eval]) (by simp [Act.eval]) hrun ?_
      have hAPx := hAP
      replace hAP := apart_grown hO1 hAPx hbk
      replace hO1 := int_kept hO1 hg hAPx.symm
      clear hAPx
      replace hHeld := S_of (copy_grown hHeld.2.2.2.2.2 hg (fun g hg' => (int_block hQ g hg').2.2) (fun g hg' => (int_block hQ g hg').1))
      clear hrun hg hbk hQ
      refine hK.out _ _ hHeld (fun _ => ?_)
      clear hK K
      try simp only [Act.put, List.setIfInBounds_toArray, List.set_cons_zero, List.set_cons_succ]
      refine wpAnyH_take (i := 14) (oi := { dst := some 17, op := Go.Op.build 60 #[(0, Go.Operand.tmp 4), (1, Go.Operand.tmp 6), (2, Go.Operand.tmp 10), (3, Go.Operand.tmp 14), (4, Go.Operand.tmp 16)], type := 60, pos := "l8_image.go:171", after := #[{ on := 1, ground := Go.Ground.data }, { on := 3, ground := Go.Ground.data }, { on := 7, ground := Go.Ground.data }, { on := 11, ground := Go.Ground.data }, { on := 13, ground := Go.Ground.data }], guard := none }) (v := ?v74_14) rfl (by kernel_rfl) (by kernel_rfl) (by kernel_rfl) (fun _ _ _ h => h) (Or.inl ⟨by rfl, ?y74_14⟩) (by assumption) ?r74_14
      case y74_14 => (intro w hSw; (try dsimp only at hSw); go_simp; try (with_reducible rfl))
      try simp only [Act.put, List.setIfInBounds_toArray, List.set_cons_zero, List.set_cons_succ]
      refine wpAnyH_ready (rs := [15]) (by kernel_rfl) (by simp) ?_
      refine AllReadyH.cons (o := { dst := none, op := Go.Op.store 60 (Go.Operand.tmp 2) (Go.Operand.tmp 17), type := 0, pos := "l8_image.go:171", after := #[{ on := 14, ground := Go.Ground.data }, { on := 11, ground := Go.Ground.chain }, { on := 0, ground := Go.Ground.phase }, { on := 1, ground := Go.Ground.phase }, { on := 2, ground := Go.Ground.phase }, { on := 3, ground := Go.Ground.phase }, { on := 4, ground := Go.Ground.phase }, { on := 5, ground := Go.Ground.phase }, { on := 6, ground := Go.Ground.phase }, { on := 7, ground := Go.Ground.phase }, { on := 8, ground := Go.Ground.phase }, { on := 9, ground := Go.Ground.phase }, { on := 10, ground := Go.Ground.phase }, { on := 11, ground := Go.Ground.phase }, { on := 12, ground := Go.Ground.phase }, { on := 13, ground := Go.Ground.phase }, { on := 14, ground := Go.Ground.phase }], guard := none }) rfl (fun K hK => ?_) AllReadyH.nil
      obtain ⟨u0, u1, u2, u3, u4, hres⟩ := hHeld.2.2.2.2.2.2.1
      have hrN := box5 hres
      have hwM : OwnC w w2 (.slice a1 m.st.length c1) (.slice a2 m.os.length c2) m := ⟨hO1, hO2, hAP.symm, hHeld.2.2.2.2.2.2.2⟩
      have hBOX := hHeld.2.2.2.2.2.1
      clear hO1 hO2
      go_simp
      refine hK.out _ _ (S_of ⟨?_, ⟨.int .i64 m.p, .int .i64 m.c, .slice a1 m.st.length c1, .slice a2 m.os.length c2, .int .i64 m.d, ?_⟩, ?_⟩) (fun _ => ?_)
      · repeat (with_reducible refine set_other ?_ (by omega))
        exact hBOX
      · exact eq_cells (block_setCell (block_setCell (block_setCell (block_setCell (block_setCell hres _) _) _) _) _) (by simp)
      · repeat (with_reducible refine Below.setCell ?_ (by show w.heap.size ≤ w.heap.size + 1; omega) _)
        exact hwM.2.2.2
      clear hK K hHeld
      try simp only [Act.put, List.setIfInBounds_toArray, List.set_cons_zero, List.set_cons_succ]
      refine wpAnyH_done (by kernel_rfl) ?_ _
      have HM1 := hide (off_of hres)
      have HWM := hide hwM
      clear hres hBOX hwM
      go_wp2_with fail
      refine bodyPost_ret (v := .agg (aggC m (.slice a1 m.st.length c1) (.slice a2 m.os.length c2))) (by simp [results, Try.results70, go_sem, aggC, hrN]) rfl ⟨_, _, rfl, ?_⟩
      repeat (with_reducible refine OwnC.set ?_ (by (repeat (with_reducible refine OffAt.set ?_)); exact unhide HM1) (by omega))
      exact unhide HWM
    refine AllReadyH.cons (o := { dst := some 11, op := Go.Op.buildSlice 23 0 #[], type := 23, pos := "l8_image.go:171", after := #[], guard := none }) rfl (fun K hK => ?_) AllReadyH.nil
    go_simp
    have hsz := hHeld.2.2.2.2.2.2.2.size
    have hQ := int_made _ hsz
    have hAP := apart_new hP (made_block _)
    replace hP := int_below hP (below_alloc1 _ (.cells #[] 3))
    replace hHeld := (unhide HSA).alloc hHeld (.cells #[] 3)
    refine hK.out _ _ hHeld (fun _ => ?_)
    clear hK K
    try simp only [Act.put, List.setIfInBounds_toArray, List.set_cons_zero, List.set_cons_succ]
    refine wpAnyH_ready (rs := [7]) (by kernel_rfl) (by simp) ?_
    refine AllReadyH.cons (o := { dst := some 10, op := Go.Op.call { callee := Go.Callee.builtin Go.Builtin.append, args := #[Go.Operand.tmp 7, Go.Operand.tmp 9], argTypes := #[23, 23] }, type := 23, pos := "l8_image.go:171", after := #[{ on := 4, ground := Go.Ground.data }, { on := 6, ground := Go.Ground.data }], guard := none }) rfl (fun K hK => ?_) AllReadyH.nil
    obtain ⟨a1, c1, w1, hrun, hO1, hg, hbk⟩ := ints_onto (ci := sc) hHeld.2.2.2.2.2.2.2.size hP ((unhide HS).below hHeld.2.2.2.2.2.2.2) hl1 23
    refine step_run rfl (.tmp 7) (.tmp 9) 23 23 rfl _ _ _ (by simp [Act.eval]) (by simp [Act.eval]) hrun ?_
    have hAPx := hAP.symm
    replace hAP := apart_grown hQ hAPx hbk
    replace hQ := int_kept hQ hg hAPx.symm
    clear hAPx
    replace hHeld := S_of (copy_grown hHeld.2.2.2.2.2 hg (fun g hg' => (int_block hP g hg').2.2) (fun g hg' => (int_block hP g hg').1))
    clear hrun hg hbk hP
    refine hK.out _ _ hHeld (fun _ => ?_)
    clear hK K
    try simp only [Act.put, List.setIfInBounds_toArray, List.set_cons_zero, List.set_cons_succ]
    refine wpAnyH_ready (rs := [11]) (by kernel_rfl) (by simp) ?_
    refine AllReadyH.cons (o := { dst := some 14, op := Go.Op.call { callee := Go.Callee.builtin Go.Builtin.append, args := #[Go.Operand.tmp 11, Go.Operand.tmp 13], argTypes := #[23, 23] }, type := 23, pos := "l8_image.go:171", after := #[{ on := 8, ground := Go.Ground.data }, { on := 10, ground := Go.Ground.data }, { on := 7, ground := Go.Ground.chain }], guard := none }) rfl (fun K hK => ?_) AllReadyH.nil
    obtain ⟨a2, c2, w2, hrun, hO2, hg, hbk⟩ := ints_onto (ci := oc) hHeld.2.2.2.2.2.2.2.size hQ ((unhide HN).below hHeld.2.2.2.2.2.2.2) hl2 23
    refine step_run rfl (.tmp 11) (.tmp 13) 23 23 rfl _ _ _ (by simp [Act.eval]) (by simp [Act.eval]) hrun ?_
    have hAPx := hAP.symm
    replace hAP := apart_grown hO1 hAPx hbk
    replace hO1 := int_kept hO1 hg hAPx.symm
    clear hAPx
    replace hHeld := S_of (copy_grown hHeld.2.2.2.2.2 hg (fun g hg' => (int_block hQ g hg').2.2) (fun g hg' => (int_block hQ g hg').1))
    clear hrun hg hbk hQ
    refine hK.out _ _ hHeld (fun _ => ?_)
    clear hK K
    try simp only [Act.put, List.setIfInBounds_toArray, List.set_cons_zero, List.set_cons_succ]
    refine wpAnyH_take (i := 14) (oi := { dst := some 17, op := Go.Op.build 60 #[(0, Go.Operand.tmp 4), (1, Go.Operand.tmp 6), (2, Go.Operand.tmp 10), (3, Go.Operand.tmp 14), (4, Go.Operand.tmp 16)], type := 60, pos := "l8_image.go:171", after := #[{ on := 1, ground := Go.Ground.data }, { on := 3, ground := Go.Ground.data }, { on := 7, ground := Go.Ground.data }, { on := 11, ground := Go.Ground.data }, { on := 13, ground := Go.Ground.data }], guard := none }) (v := ?v135_14) rfl (by kernel_rfl) (by kernel_rfl) (by kernel_rfl) (fun _ _ _ h => h) (Or.inl ⟨by rfl, ?y135_14⟩) (by assumption) ?r135_14
    case y135_14 => (intro w hSw; (try dsimp only at hSw); go_simp; try (with_reducible rfl))
    try simp only [Act.put, List.setIfInBounds_toArray, List.set_cons_zero, List.set_cons_succ]
    refine wpAnyH_ready (rs := [15]) (by kernel_rfl) (by simp) ?_
    refine AllReadyH.cons (o := { dst := none, op := Go.Op.store 60 (Go.Operand.tmp 2) (Go.Operand.tmp 17), type := 0, pos := "l8_image.go:171", after := #[{ on := 14, ground := Go.Ground.data }, { on := 11, ground := Go.Ground.chain }, { on := 0, ground := Go.Ground.phase }, { on := 1, ground := Go.Ground.phase }, { on := 2, ground := Go.Ground.phase }, { on := 3, ground := Go.Ground.phase }, { on := 4, ground := Go.Ground.phase }, { on := 5, ground := Go.Ground.phase }, { on := 6, ground := Go.Ground.phase }, { on := 7, ground := Go.Ground.phase }, { on := 8, ground := Go.Ground.phase }, { on := 9, ground := Go.Ground.phase }, { on := 10, ground := Go.Ground.phase }, { on := 11, ground := Go.Ground.phase }, { on := 12, ground := Go.Ground.phase }, { on := 13, ground := Go.Ground.phase }, { on := 14, ground := Go.Ground.phase }], guard := none }) rfl (fun K hK => ?_) AllReadyH.nil
    obtain ⟨u0, u1, u2, u3, u4, hres⟩ := hHeld.2.2.2.2.2.2.1
    have hrN := box5 hres
    have hwM : OwnC w w2 (.slice a1 m.st.length c1) (.slice a2 m.os.length c2) m := ⟨hO1, hO2, hAP.symm, hHeld.2.2.2.2.2.2.2⟩
    have hBOX := hHeld.2.2.2.2.2.1
    clear hO1 hO2
    go_simp
    refine hK.out _ _ (S_of ⟨?_, ⟨.int .i64 m.p, .int .i64 m.c, .slice a1 m.st.length c1, .slice a2 m.os.length c2, .int .i64 m.d, ?_⟩, ?_⟩) (fun _ => ?_)
    · repeat (with_reducible refine set_other ?_ (by omega))
      exact hBOX
    · exact eq_cells (block_setCell (block_setCell (block_setCell (block_setCell (block_setCell hres _) _) _) _) _) (by simp)
    · repeat (with_reducible refine Below.setCell ?_ (by show w.heap.size ≤ w.heap.size + 1; omega) _)
      exact hwM.2.2.2
    clear hK K hHeld
    try simp only [Act.put, List.setIfInBounds_toArray, List.set_cons_zero, List.set_cons_succ]
    refine wpAnyH_done (by kernel_rfl) ?_ _
    have HM1 := hide (off_of hres)
    have HWM := hide hwM
    clear hres hBOX hwM
    go_wp2_with fail
    refine bodyPost_ret (v := .agg (aggC m (.slice a1 m.st.length c1) (.slice a2 m.os.length c2))) (by simp [results, Try.results70, go_sem, aggC, hrN]) rfl ⟨_, _, rfl, ?_⟩
    repeat (with_reducible refine OwnC.set ?_ (by (repeat (with_reducible refine OffAt.set ?_)); exact unhide HM1) (by omega))
    exact unhide HWM
  refine AllReadyH.cons (o := { dst := some 11, op := Go.Op.buildSlice 23 0 #[], type := 23, pos := "l8_image.go:171", after := #[], guard := none }) rfl (fun K hK => ?_) AllReadyH.nil
  go_simp
  have hsz := hHeld.2.2.2.2.2.2.2.size
  have hQ := int_made _ hsz
  replace hHeld := (unhide HSA).alloc hHeld (.cells #[] 3)
  refine hK.out _ _ hHeld (fun _ => ?_)
  clear hK K
  try simp only [Act.put, List.setIfInBounds_toArray, List.set_cons_zero, List.set_cons_succ]
  refine wpAnyH_ready (rs := [4]) (by kernel_rfl) (by simp) ?_
  refine AllReadyH.cons (o := { dst := some 7, op := Go.Op.buildSlice 23 0 #[], type := 23, pos := "l8_image.go:171", after := #[], guard := none }) rfl (fun K hK => ?_) AllReadyH.nil
  go_simp
  have hsz := hHeld.2.2.2.2.2.2.2.size
  have hP := int_made _ hsz
  have hAP := apart_new hQ (made_block _)
  replace hQ := int_below hQ (below_alloc1 _ (.cells #[] 3))
  replace hHeld := (unhide HSA).alloc hHeld (.cells #[] 3)
  refine hK.out _ _ hHeld (fun _ => ?_)
  clear hK K
  try simp only [Act.put, List.setIfInBounds_toArray, List.set_cons_zero, List.set_cons_succ]
  refine wpAnyH_ready (rs := [7]) (by kernel_rfl) (by simp) ?_
  refine AllReadyH.cons (o := { dst := some 10, op := Go.Op.call { callee := Go.Callee.builtin Go.Builtin.append, args := #[Go.Operand.tmp 7, Go.Operand.tmp 9], argTypes := #[23, 23] }, type := 23, pos := "l8_image.go:171", after := #[{ on := 4, ground := Go.Ground.data }, { on := 6, ground := Go.Ground.data }], guard := none }) rfl (fun K hK => ?_) AllReadyH.nil
  obtain ⟨a1, c1, w1, hrun, hO1, hg, hbk⟩ := ints_onto (ci := sc) hHeld.2.2.2.2.2.2.2.size hP ((unhide HS).below hHeld.2.2.2.2.2.2.2) hl1 23
  refine step_run rfl (.tmp 7) (.tmp 9) 23 23 rfl _ _ _ (by simp [Act.eval]) (by simp [Act.eval]) hrun ?_
  have hAPx := hAP
  replace hAP := apart_grown hQ hAPx hbk
  replace hQ := int_kept hQ hg hAPx.symm
  clear hAPx
  replace hHeld := S_of (copy_grown hHeld.2.2.2.2.2 hg (fun g hg' => (int_block hP g hg').2.2) (fun g hg' => (int_block hP g hg').1))
  clear hrun hg hbk hP
  refine hK.out _ _ hHeld (fun _ => ?_)
  clear hK K
  try simp only [Act.put, List.setIfInBounds_toArray, List.set_cons_zero, List.set_cons_succ]
  refine wpAnyH_ready (rs := [11]) (by kernel_rfl) (by simp) ?_
  refine AllReadyH.cons (o := { dst := some 14, op := Go.Op.call { callee := Go.Callee.builtin Go.Builtin.append, args := #[Go.Operand.tmp 11, Go.Operand.tmp 13], argTypes := #[23, 23] }, type := 23, pos := "l8_image.go:171", after := #[{ on := 8, ground := Go.Ground.data }, { on := 10, ground := Go.Ground.data }, { on := 7, ground := Go.Ground.chain }], guard := none }) rfl (fun K hK => ?_) AllReadyH.nil
  obtain ⟨a2, c2, w2, hrun, hO2, hg, hbk⟩ := ints_onto (ci := oc) hHeld.2.2.2.2.2.2.2.size hQ ((unhide HN).below hHeld.2.2.2.2.2.2.2) hl2 23
  refine step_run rfl (.tmp 11) (.tmp 13) 23 23 rfl _ _ _ (by simp [Act.eval]) (by simp [Act.eval]) hrun ?_
  have hAPx := hAP.symm
  replace hAP := apart_grown hO1 hAPx hbk
  replace hO1 := int_kept hO1 hg hAPx.symm
  clear hAPx
  replace hHeld := S_of (copy_grown hHeld.2.2.2.2.2 hg (fun g hg' => (int_block hQ g hg').2.2) (fun g hg' => (int_block hQ g hg').1))
  clear hrun hg hbk hQ
  refine hK.out _ _ hHeld (fun _ => ?_)
  clear hK K
  try simp only [Act.put, List.setIfInBounds_toArray, List.set_cons_zero, List.set_cons_succ]
  refine wpAnyH_take (i := 14) (oi := { dst := some 17, op := Go.Op.build 60 #[(0, Go.Operand.tmp 4), (1, Go.Operand.tmp 6), (2, Go.Operand.tmp 10), (3, Go.Operand.tmp 14), (4, Go.Operand.tmp 16)], type := 60, pos := "l8_image.go:171", after := #[{ on := 1, ground := Go.Ground.data }, { on := 3, ground := Go.Ground.data }, { on := 7, ground := Go.Ground.data }, { on := 11, ground := Go.Ground.data }, { on := 13, ground := Go.Ground.data }], guard := none }) (v := ?v205_14) rfl (by kernel_rfl) (by kernel_rfl) (by kernel_rfl) (fun _ _ _ h => h) (Or.inl ⟨by rfl, ?y205_14⟩) (by assumption) ?r205_14
  case y205_14 => (intro w hSw; (try dsimp only at hSw); go_simp; try (with_reducible rfl))
  try simp only [Act.put, List.setIfInBounds_toArray, List.set_cons_zero, List.set_cons_succ]
  refine wpAnyH_ready (rs := [15]) (by kernel_rfl) (by simp) ?_
  refine AllReadyH.cons (o := { dst := none, op := Go.Op.store 60 (Go.Operand.tmp 2) (Go.Operand.tmp 17), type := 0, pos := "l8_image.go:171", after := #[{ on := 14, ground := Go.Ground.data }, { on := 11, ground := Go.Ground.chain }, { on := 0, ground := Go.Ground.phase }, { on := 1, ground := Go.Ground.phase }, { on := 2, ground := Go.Ground.phase }, { on := 3, ground := Go.Ground.phase }, { on := 4, ground := Go.Ground.phase }, { on := 5, ground := Go.Ground.phase }, { on := 6, ground := Go.Ground.phase }, { on := 7, ground := Go.Ground.phase }, { on := 8, ground := Go.Ground.phase }, { on := 9, ground := Go.Ground.phase }, { on := 10, ground := Go.Ground.phase }, { on := 11, ground := Go.Ground.phase }, { on := 12, ground := Go.Ground.phase }, { on := 13, ground := Go.Ground.phase }, { on := 14, ground := Go.Ground.phase }], guard := none }) rfl (fun K hK => ?_) AllReadyH.nil
  obtain ⟨u0, u1, u2, u3, u4, hres⟩ := hHeld.2.2.2.2.2.2.1
  have hrN := box5 hres
  have hwM : OwnC w w2 (.slice a1 m.st.length c1) (.slice a2 m.os.length c2) m := ⟨hO1, hO2, hAP.symm, hHeld.2.2.2.2.2.2.2⟩
  have hBOX := hHeld.2.2.2.2.2.1
  clear hO1 hO2
  go_simp
  refine hK.out _ _ (S_of ⟨?_, ⟨.int .i64 m.p, .int .i64 m.c, .slice a1 m.st.length c1, .slice a2 m.os.length c2, .int .i64 m.d, ?_⟩, ?_⟩) (fun _ => ?_)
  · repeat (with_reducible refine set_other ?_ (by omega))
    exact hBOX
  · exact eq_cells (block_setCell (block_setCell (block_setCell (block_setCell (block_setCell hres _) _) _) _) _) (by simp)
  · repeat (with_reducible refine Below.setCell ?_ (by show w.heap.size ≤ w.heap.size + 1; omega) _)
    exact hwM.2.2.2
  clear hK K hHeld
  try simp only [Act.put, List.setIfInBounds_toArray, List.set_cons_zero, List.set_cons_succ]
  refine wpAnyH_done (by kernel_rfl) ?_ _
  have HM1 := hide (off_of hres)
  have HWM := hide hwM
  clear hres hBOX hwM
  go_wp2_with fail
  refine bodyPost_ret (v := .agg (aggC m (.slice a1 m.st.length c1) (.slice a2 m.os.length c2))) (by simp [results, Try.results70, go_sem, aggC, hrN]) rfl ⟨_, _, rfl, ?_⟩
  repeat (with_reducible refine OwnC.set ?_ (by (repeat (with_reducible refine OffAt.set ?_)); exact unhide HM1) (by omega))
  exact unhide HWM
end Go.Proofs.Ytjbhbkkkjdpamaa.CSpecC
