/- The contracts of the draws of a program and how it is laid. -/
import Derived.Test.YthbbmookhcalkaaGreatDoorPk4f501f7b
namespace Go.Proofs.YthbbmookhcalkaaGreatDoor.DrawW
open Go.ChangeShapes Go.WideShapes Go.ChangeAt Go.RowKit Go.Joins Go.Deep
open Go.Proofs.YthbbmookhcalkaaGreatDoor.Base Go.Proofs.YthbbmookhcalkaaGreatDoor.InsA Go.Proofs.YthbbmookhcalkaaGreatDoor.Funs Go.Proofs.YthbbmookhcalkaaGreatDoor.Open Go.Proofs.YthbbmookhcalkaaGreatDoor.FunS Go.Proofs.YthbbmookhcalkaaGreatDoor.Keep Go.Proofs.YthbbmookhcalkaaGreatDoor.UnitS Go.Proofs.YthbbmookhcalkaaGreatDoor.Refs Go.Proofs.YthbbmookhcalkaaGreatDoor.LayN Go.Proofs.YthbbmookhcalkaaGreatDoor.LayA Go.Proofs.YthbbmookhcalkaaGreatDoor.KeepD Go.Proofs.YthbbmookhcalkaaGreatDoor.LayD Go.Proofs.YthbbmookhcalkaaGreatDoor.LayS Go.Proofs.YthbbmookhcalkaaGreatDoor.LayT Go.Proofs.YthbbmookhcalkaaGreatDoor.LayV Go.Proofs.YthbbmookhcalkaaGreatDoor.LayW Go.Proofs.YthbbmookhcalkaaGreatDoor.LayX Go.Proofs.YthbbmookhcalkaaGreatDoor.LayY Go.Proofs.YthbbmookhcalkaaGreatDoor.Rd Go.Proofs.YthbbmookhcalkaaGreatDoor.DrawIns Go.Proofs.YthbbmookhcalkaaGreatDoor.DrawP Go.Proofs.YthbbmookhcalkaaGreatDoor.DrawO Go.Proofs.YthbbmookhcalkaaGreatDoor.DrawM Go.Proofs.YthbbmookhcalkaaGreatDoor.DrawT
set_option linter.unusedVariables false
set_option maxRecDepth 100000

def SizeDrawn (w : World) (e : Ending) (w' : World) : Prop := ∃ a cap fs na sa nc sc zs st, e = .returned (.tuple #[.slice a fs.length cap, .agg #[.slice na zs.length nc, .slice sa st.length sc]]) ∧ LayMet w w' a cap fs na sa nc sc zs st ∧ (∀ S o, na = some ⟨S, o, none⟩ → w.heap.size < S) ∧ ∀ S o, sa = some ⟨S, o, none⟩ → w.heap.size < S
set_option maxHeartbeats 8000000 in
theorem drawLaySize_any (w : World) (a0 : Option Addr) (len0 cap0 : Nat) (hl0 : len0 ≤ cap0) (hm0 : cap0 ≤ maxLen) (hb0 : len0 = 0 ∨ ∃ b off, a0 = some ⟨b, off, none⟩ ∧ b < w.heap.size ∧ ∀ i, i < len0 → ∃ c : Nat, c < 256 ∧ w.cell? ⟨b, off + i, none⟩ = some (.int .u8 c)) :
    Calls Tryz.prog 54 #[.slice a0 len0 cap0] w (SizeDrawn w) := by
  have Hb := hide hb0
  clear hb0
  have hs0 : True := trivial
  go_enter Tryz.func54, Tryz.ntmps54
  go_wp2_with fail
  refine (open_any (w.alloc (.cells #[.slice none 0 0, .slice none 0 0] 47)) _ _ _ hl0 hm0 (bytes_alloc (unhide Hb) _)).mono ?_
  rintro e w1 ⟨rfl, hr, hb1, hz⟩
  have hB1 : Below w.heap.size w w1 := bl_trans (below_alloc1 _ _) hb1
  have hz0 : w1.heap[w.heap.size]? = some (.cells #[.slice none 0 0, .slice none 0 0] 47) := box_below (new_block w _) hb1
  simp only [World.size_alloc] at hr hz ⊢
  clear hb1 Hb
  have HR := hide hr
  clear hr
  go_wp2_with fail
  refine (drawn_any _ (w.heap.size + 1) 0 (unhide HR) (by omega)).mono ?_
  rintro e w2 ⟨a, cap, fs, na, sa, nc, sc, zs, st, rr, p, rfl, hr0, hr1, c1, c2, c3, HN, d1, d2, d3, d4, HTM, hF, hN, hT, hfar, hp, hrd, htu⟩
  have hB2 : Below w.heap.size w w2 := hB1.trans (htu.below (by omega) (by omega))
  replace hz0 := box_turns hz0 htu (by omega)
  have hLM : LM w w2 (w.heap.size + 1) p a fs na sa zs st := ⟨hrd, hB2, by omega, hF, hN, hT, hfar.out.1, hfar.out.2⟩
  have hLN : w2.heap.size ≠ (w.heap.size + 1) := Nat.ne_of_gt (rd_lt hrd)
  have hLR : (w.heap.size + 1) < w2.heap.size := rd_lt hrd
  clear hrd hB2 hF hN hT hfar htu hB1 hz HR
  go_upto_region 2 with fail
  replace hLM := (hLM.below (below_alloc1 w2 (.cells #[.slice na zs.length nc, .slice sa st.length sc] 47))).drew
  have hbx : (w2.alloc (.cells #[.slice na zs.length nc, .slice sa st.length sc] 47)).drew.heap[w2.heap.size]? = some (.cells #[.slice na zs.length nc, .slice sa st.length sc] 47) := new_block w2 (.cells #[.slice na zs.length nc, .slice sa st.length sc] 47)
  skip
  replace hz0 : (w2.alloc (.cells #[.slice na zs.length nc, .slice sa st.length sc] 47)).drew.heap[w.heap.size]? = some (.cells #[.slice none 0 0, .slice none 0 0] 47) := (show (w2.alloc (.cells #[.slice na zs.length nc, .slice sa st.length sc] 47)).heap[w.heap.size]? = some (.cells #[.slice none 0 0, .slice none 0 0] 47) from box_below hz0 (below_alloc1 w2 (.cells #[.slice na zs.length nc, .slice sa st.length sc] 47)))
  have hLne : w2.heap.size ≠ (w.heap.size + 1) := hLN
  have HST : Hid (Stable (fun w' => w'.cell? ⟨w2.heap.size, 0, none⟩ = some (.slice na zs.length nc) ∧ w'.cell? ⟨w2.heap.size, 1, none⟩ = some (.slice sa st.length sc))) := (Stable.cell _ _).and (Stable.cell _ _)
  have HQ : Hid ((w2.alloc (.cells #[.slice na zs.length nc, .slice sa st.length sc] 47)).cell? ⟨w2.heap.size, 0, none⟩ = some (.slice na zs.length nc) ∧ (w2.alloc (.cells #[.slice na zs.length nc, .slice sa st.length sc] 47)).cell? ⟨w2.heap.size, 1, none⟩ = some (.slice sa st.length sc)) := (box2 (new_block w2 (.cells #[.slice na zs.length nc, .slice sa st.length sc] 47))).1
  refine wp_region_held_drew (S := (fun w' => w'.cell? ⟨w2.heap.size, 0, none⟩ = some (.slice na zs.length nc) ∧ w'.cell? ⟨w2.heap.size, 1, none⟩ = some (.slice sa st.length sc))) (by kernel_rfl) ((unhide HST).2 _ (unhide HQ)) (fun hHeld => ?_)
  generalize (w2.alloc (.cells #[.slice na zs.length nc, .slice sa st.length sc] 47)).drew = wa at *
  refine wpAnyH_take (i := 0) (oi := { dst := some 14, op := Go.Op.move (Go.Operand.tmp 4), type := 23, pos := "l7_lay.go:244", after := #[], guard := none }) (v := ?v1_0) rfl (by kernel_rfl) (by kernel_rfl) (by kernel_rfl) (fun _ _ _ h => h) (Or.inl ⟨by rfl, ?y1_0⟩) (by assumption) ?r1_0
  case y1_0 => (intro w hSw; (try dsimp only at hSw); go_simp; try (with_reducible rfl))
  try simp only [Act.put, List.setIfInBounds_toArray, List.set_cons_zero, List.set_cons_succ]
  refine wpAnyH_take (i := 1) (oi := { dst := some 15, op := Go.Op.load 47 (Go.Operand.tmp 5), type := 47, pos := "l7_lay.go:244", after := #[{ on := 2, ground := Go.Ground.gcOnly Go.Departure.lateStores }], guard := none }) (v := ?v2_1) rfl (by kernel_rfl) (by kernel_rfl) (by kernel_rfl) (fun _ _ _ h => h) (Or.inl ⟨by rfl, ?y2_1⟩) (by assumption) ?r2_1
  case y2_1 => (intro w hSw; (try dsimp only at hSw); go_simp; try (with_reducible rfl))
  try simp only [Act.put, List.setIfInBounds_toArray, List.set_cons_zero, List.set_cons_succ]
  refine wpAnyH_take (i := 2) (oi := { dst := some 2, op := Go.Op.assign (Go.Operand.tmp 14), type := 23, pos := "l7_lay.go:244", after := #[{ on := 0, ground := Go.Ground.data }, { on := 0, ground := Go.Ground.phase }, { on := 1, ground := Go.Ground.textOnly Go.Departure.lateStores }], guard := none }) (v := ?v3_2) rfl (by kernel_rfl) (by kernel_rfl) (by kernel_rfl) (fun _ _ _ h => h) (Or.inl ⟨by rfl, ?y3_2⟩) (by assumption) ?r3_2
  case y3_2 => (intro w hSw; (try dsimp only at hSw); go_simp; try (with_reducible rfl))
  try simp only [Act.put, List.setIfInBounds_toArray, List.set_cons_zero, List.set_cons_succ]
  refine wpAnyH_ready (rs := [3]) (by kernel_rfl) (by simp) ?_
  refine AllReadyH.cons (o := { dst := none, op := Go.Op.store 47 (Go.Operand.tmp 3) (Go.Operand.tmp 15), type := 0, pos := "l7_lay.go:244", after := #[{ on := 1, ground := Go.Ground.data }, { on := 2, ground := Go.Ground.chain }, { on := 0, ground := Go.Ground.phase }, { on := 1, ground := Go.Ground.phase }, { on := 2, ground := Go.Ground.phase }], guard := none }) rfl (fun K hK => ?_) AllReadyH.nil
  have hrN := box2 hz0
  go_simp
  have hLE := hLM.done.put2 (H := w.heap.size) (v0 := .slice na zs.length nc) (v1 := .slice sa st.length sc) (by omega) (Nat.le_refl _) hz0 rfl rfl rfl
  replace hz0 : ((wa.setCell ⟨w.heap.size, 0, none⟩ (.slice na zs.length nc)).setCell ⟨w.heap.size, 1, none⟩ (.slice sa st.length sc)).heap[w.heap.size]? = some (.cells #[.slice na zs.length nc, .slice sa st.length sc] 47) := block_setCell (block_setCell hz0 _) _
  replace hbx : ((wa.setCell ⟨w.heap.size, 0, none⟩ (.slice na zs.length nc)).setCell ⟨w.heap.size, 1, none⟩ (.slice sa st.length sc)).heap[w2.heap.size]? = some (.cells #[.slice na zs.length nc, .slice sa st.length sc] 47) := set_other (set_other hbx (by omega)) (by omega)
  replace hHeld := (box2 hbx).1
  clear hrN hLM
  refine hK.out _ _ hHeld (fun _ => ?_)
  clear hK K
  try simp only [Act.put, List.setIfInBounds_toArray, List.set_cons_zero, List.set_cons_succ]
  generalize ((wa.setCell ⟨w.heap.size, 0, none⟩ (.slice na zs.length nc)).setCell ⟨w.heap.size, 1, none⟩ (.slice sa st.length sc)) = wz at *
  refine wpAnyH_done (by kernel_rfl) ?_ _
  go_wp2_with fail
  have hFb := box2 hz0
  exact bodyPost_ret (v := .tuple #[.slice a fs.length cap, .agg #[.slice na zs.length nc, .slice sa st.length sc]]) (by simp [results, Tryz.results54, go_sem, hFb]) rfl ⟨a, cap, fs, na, sa, nc, sc, zs, st, rfl, ⟨c1, c2, c3, HN.out, d1, d2, d3, d4, HTM.out, hLE.fr, hLE.nr, hLE.tr, hLE.bw⟩, (fun S o e => by have := hLE.fn S o e; omega), (fun S o e => by have := hLE.ft S o e; omega)⟩
set_option maxHeartbeats 8000000 in
theorem drawMapList_any (w : World) (a0 : Option Addr) (len0 cap0 : Nat) (hl0 : len0 ≤ cap0) (hm0 : cap0 ≤ maxLen) (hb0 : len0 = 0 ∨ ∃ b off, a0 = some ⟨b, off, none⟩ ∧ b < w.heap.size ∧ ∀ i, i < len0 → ∃ c : Nat, c < 256 ∧ w.cell? ⟨b, off + i, none⟩ = some (.int .u8 c)) :
    Calls Tryz.prog 21 #[.slice a0 len0 cap0] w (SizeDrawn w) := by
  have hbA := below_alloc1 w (.cells #[.slice none 0 0, .slice none 0 0] 47)
  have HB1 : Hid (len0 = 0 ∨ ∃ b off, a0 = some ⟨b, off, none⟩ ∧ b < (w.alloc (.cells #[.slice none 0 0, .slice none 0 0] 47)).heap.size ∧ ∀ i, i < len0 → ∃ c : Nat, c < 256 ∧ (w.alloc (.cells #[.slice none 0 0, .slice none 0 0] 47)).cell? ⟨b, off + i, none⟩ = some (.int .u8 c)) := by
    rcases hb0 with h | ⟨b, off, e, hb, hc⟩
    · exact .inl h
    · refine .inr ⟨b, off, e, by rw [World.size_alloc]; omega, fun i hi => ?_⟩
      obtain ⟨c, h1, h2⟩ := hc i hi
      exact ⟨c, h1, (hbA.cell (p := ⟨b, off + i, none⟩) (World.block_lt_of_cell? w _ h2)).trans h2⟩
  have hz := new_block w (.cells #[.slice none 0 0, .slice none 0 0] 47)
  clear hb0
  go_enter Tryz.func21, Tryz.ntmps21
  go_wp2_with fail
  refine (drawLaySize_any _ _ _ _ hl0 hm0 (unhide HB1)).mono ?_
  rintro e w1 ⟨a, cap, fs, na, sa, nc, sc, zs, st, rfl, hM, hfn, hft⟩
  have hz1 := box_below hz hM.bw
  rw [World.size_alloc] at hfn hft
  have hLE : LE w w1 (w.heap.size + 1) a fs na sa zs st := ⟨bl_trans hbA hM.bw, hM.fr, hM.nr, hM.tr, hfn, hft⟩
  have HLE := hide (hLE.put2 (H := w.heap.size) (v0 := .slice na zs.length nc) (v1 := .slice sa st.length sc) (by omega) (Nat.le_refl _) hz1 rfl rfl rfl)
  have HF : Hid (((w1.setCell ⟨w.heap.size, 0, none⟩ (.slice na zs.length nc)).setCell ⟨w.heap.size, 1, none⟩ (.slice sa st.length sc)).heap[w.heap.size]? = some (.cells #[.slice na zs.length nc, .slice sa st.length sc] 47)) := block_setCell (block_setCell hz1 _) _
  have hrN := box2 hz1
  have HM := hide hM
  have HFN := hide hfn
  have HFT := hide hft
  clear hz hz1 hLE hM hfn hft hbA
  go_wp2_with fail
  clear hrN
  generalize (w1.setCell ⟨w.heap.size, 0, none⟩ (.slice na zs.length nc)).setCell ⟨w.heap.size, 1, none⟩ (.slice sa st.length sc) = wz at *
  have hFb := box2 (unhide HF)
  have hM := unhide HM
  exact bodyPost_ret (v := .tuple #[.slice a fs.length cap, .agg #[.slice na zs.length nc, .slice sa st.length sc]]) (by simp [results, Tryz.results21, go_sem, hFb]) rfl ⟨a, cap, fs, na, sa, nc, sc, zs, st, rfl, ⟨hM.h1, hM.h2, hM.h3, hM.nm, hM.n1, hM.n2, hM.s1, hM.s2, hM.tm, (unhide HLE).fr, (unhide HLE).nr, (unhide HLE).tr, (unhide HLE).bw⟩, (fun S o e => by have := unhide HFN S o e; omega), (fun S o e => by have := unhide HFT S o e; omega)⟩
end Go.Proofs.YthbbmookhcalkaaGreatDoor.DrawW
