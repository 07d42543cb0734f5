/- For every slice of bytes the law FnLayStone answers true, and the bytes read afterwards as they did. No condition. -/
import Derived.Test.YtjbhbkkkjdpamaaPk3b7a8e77
import Derived.WalkKit
import Derived.ProofKit
import Derived.OpenShut
import Derived.ShutString
import Derived.ChangeOld
import Derived.Below
import Derived.Lib.SmallJoins
import Derived.BigQuiet
import Derived.Deep.QuietTactic
import Derived.Laws.StructEq
import Derived.Test.YtjbhbkkkjdpamaaFuns
import Derived.Test.YtjbhbkkkjdpamaaPkd23f725c
import Derived.Test.YtjbhbkkkjdpamaaPkbd957d2b
import Derived.Test.YtjbhbkkkjdpamaaRefs
import Derived.Test.YtjbhbkkkjdpamaaLayN
import Derived.Test.YtjbhbkkkjdpamaaLayA
import Derived.Test.YtjbhbkkkjdpamaaPk3b5fe753
import Derived.Test.YtjbhbkkkjdpamaaPkfad6cd44
import Derived.Test.YtjbhbkkkjdpamaaPkd8602864
import Derived.Test.YtjbhbkkkjdpamaaLayT
import Derived.Test.YtjbhbkkkjdpamaaLayV
import Derived.Test.YtjbhbkkkjdpamaaPk3f5361e2
import Derived.Test.YtjbhbkkkjdpamaaPk6dbd2828
import Derived.Test.YtjbhbkkkjdpamaaMapK
import Derived.Test.YtjbhbkkkjdpamaaRd
import Derived.Test.YtjbhbkkkjdpamaaPkc600f0e5
import Derived.Test.YtjbhbkkkjdpamaaDrawM
import Derived.Test.YtjbhbkkkjdpamaaDrawT
namespace Go.Proofs.Ytjbhbkkkjdpamaa.fnLayStone
open Go.ChangeShapes Go.WideShapes Go.ChangeAt Go.RowKit Go.Joins
open Go.ChangeMaps (open_string shut_string)
open Go.Proofs.Ytjbhbkkkjdpamaa.Base
open Go.Proofs.Ytjbhbkkkjdpamaa.Funs
open Go.Proofs.Ytjbhbkkkjdpamaa.Open
open Go.Proofs.Ytjbhbkkkjdpamaa.Keep
open Go.Proofs.Ytjbhbkkkjdpamaa.UnitS
open Go.Proofs.Ytjbhbkkkjdpamaa.Refs
open Go.Proofs.Ytjbhbkkkjdpamaa.LayN
open Go.Proofs.Ytjbhbkkkjdpamaa.LayA
open Go.Proofs.Ytjbhbkkkjdpamaa.KeepA
open Go.Proofs.Ytjbhbkkkjdpamaa.KeepD
open Go.Proofs.Ytjbhbkkkjdpamaa.LayD
open Go.Proofs.Ytjbhbkkkjdpamaa.LayS
open Go.Proofs.Ytjbhbkkkjdpamaa.LayT
open Go.Proofs.Ytjbhbkkkjdpamaa.LayV
open Go.Proofs.Ytjbhbkkkjdpamaa.LayO
open Go.Proofs.Ytjbhbkkkjdpamaa.MapD
open Go.Proofs.Ytjbhbkkkjdpamaa.MapK
open Go.Proofs.Ytjbhbkkkjdpamaa.Rd
open Go.Proofs.Ytjbhbkkkjdpamaa.DrawO
open Go.Proofs.Ytjbhbkkkjdpamaa.DrawM
open Go.Proofs.Ytjbhbkkkjdpamaa.DrawT
set_option linter.unusedVariables false
set_option maxRecDepth 100000
theorem own : ownKnob Try.prog.godebug = none := by kernel_rfl
theorem laidOut : laidOutB Try.prog = true := by kernel_rfl

theorem wf_small {x : Int} (h0 : -1000000000 ≤ x) (h1 : x ≤ 1000000000) : (Lit.int .i64 x).wf = true := by
  unfold Lit.wf
  rw [Bool.and_eq_true, decide_eq_true_iff, decide_eq_true_iff]
  exact ⟨by show -9223372036854775808 ≤ x; omega, by show x ≤ 9223372036854775807; omega⟩
theorem ml {n : Nat} (h : n ≤ 1048576) : n ≤ maxLen := by unfold maxLen; omega

set_option maxHeartbeats 8000000 in
theorem walk (a0 : Option Addr) (len cap0 : Nat) (bs : List Int) (W : World) (hrow : IsRow .u8 W a0 len cap0 bs) :
    Calls Try.prog 9 #[.slice a0 len cap0] W fun e w' => e = .returned (.bool true) ∧ Below W.heap.size W w' := by
  obtain ⟨hl, hm, hb⟩ := isRow_bytes hrow
  by_cases hlt : (1048576 : Int) < len
  · go_enter Try.func9, Try.ntmps9
    go_wp2
    go_ret
    exact ⟨rfl, Below.refl _ _⟩
  have Hb := hide hb
  clear hb hrow
  go_enter Try.func9, Try.ntmps9
  go_wp2_with fail
  refine (drawLayStone_any _ _ _ _ hl hm (unhide Hb)).mono ?_
  rintro e w1 ⟨a, cap, fs, na, sa, nc, sc, zs, st, ff, nn, rfl, q1, q2, q3, q4, hM⟩
  have hbA := below_alloc1 w1 (.cells #[.slice na zs.length nc, .slice sa st.length sc] 34)
  have HST : Hid (Stable (fun w' => w'.cell? ⟨w1.heap.size, 0, none⟩ = some (.slice na zs.length nc) ∧ w'.cell? ⟨w1.heap.size, 1, none⟩ = some (.slice sa st.length sc) ∧ w'.heap[w1.heap.size]? = some (.cells #[.slice na zs.length nc, .slice sa st.length sc] 34) ∧ FunRow w' a fs ∧ NumRow w' na zs ∧ TextsRow w' sa st ∧ Below W.heap.size W w')) := ((Stable.cell _ _).and ((Stable.cell _ _).and ((Stable.box _ _).and ((Stable.frow a fs).and ((Stable.nrow na zs).and ((Stable.tsrow sa st).and (Stable.below W)))))))
  have HS : Hid ((fun w' => w'.cell? ⟨w1.heap.size, 0, none⟩ = some (.slice na zs.length nc) ∧ w'.cell? ⟨w1.heap.size, 1, none⟩ = some (.slice sa st.length sc) ∧ w'.heap[w1.heap.size]? = some (.cells #[.slice na zs.length nc, .slice sa st.length sc] 34) ∧ FunRow w' a fs ∧ NumRow w' na zs ∧ TextsRow w' sa st ∧ Below W.heap.size W w') (w1.alloc (.cells #[.slice na zs.length nc, .slice sa st.length sc] 34))) := ⟨(box2 (new_block w1 (.cells #[.slice na zs.length nc, .slice sa st.length sc] 34))).1.1, (box2 (new_block w1 (.cells #[.slice na zs.length nc, .slice sa st.length sc] 34))).1.2, new_block w1 (.cells #[.slice na zs.length nc, .slice sa st.length sc] 34), hM.fr.below hbA, hM.nr.below hbA, hM.tr.below hbA, bl_trans hM.bw hbA⟩
  have HFT := hide hM.tm.few
  have c1 := hM.h1
  have c2 := hM.h2
  have c3 := hM.h3
  have d1 := hM.n1
  have d2 := hM.n2
  have d3 := hM.s1
  have d4 := hM.s2
  clear hM hbA
  have hwf : (Lit.int .i64 ff).wf = true := wf_small (by omega) (by omega)
  have hwn : (Lit.int .i64 nn).wf = true := wf_small (by omega) (by omega)
  have HIL := hide (fun (ff nn : Int) w' hf hn h1 h2 h3 => implLayStone_any a cap fs na sa nc sc zs st ff nn w' hf hn c1 c2 d1 d2 d3 d4 (unhide HFT) h1 h2 h3)
  have HSL := hide (fun w' h1 h2 h3 => specLayStone_any a cap fs na sa nc sc zs st ff nn w' hwf hwn c1 c2 d1 d2 d3 d4 (unhide HFT) h1 h2 h3)
  have HIZ := hide (fun w' h1 h2 h3 => implLaySize_any a cap fs na sa nc sc zs st w' c1 c2 d1 d2 d3 d4 (unhide HFT) h1 h2 h3)
  have HSZ := hide (fun w' h1 h2 h3 => specLaySize_any a cap fs na sa nc sc zs st w' c1 c2 d1 d2 d3 d4 (unhide HFT) h1 h2 h3)
  have hIL := unhide HIL ff nn (w1.alloc (.cells #[.slice na zs.length nc, .slice sa st.length sc] 34)) hwf hwn (unhide HS).2.2.2.1 (unhide HS).2.2.2.2.1 (unhide HS).2.2.2.2.2.1
  obtain ⟨mm, hmm⟩ : ∃ mm, stoneI fs zs st ff nn = mm := ⟨_, rfl⟩
  have HMM := hide hmm
  rw [hmm] at hIL HSL
  obtain ⟨zz, hzz⟩ : ∃ zz, sizeI fs zs st = zz := ⟨_, rfl⟩
  have HZZ := hide hzz
  rw [hzz] at HIZ HSZ
  clear hmm hzz hwf hwn
  have hX := box2 (unhide HS).2.2.1
  go_wp2_with fail
  refine hIL.mono ?_
  rintro e w2 ⟨rfl, hb2⟩
  have HS2 := hide ((unhide HST).1 _ _ hb2 (unhide HS))
  clear hb2 HS hIL hX
  go_upto_region 5 with fail
  refine wp_region_held_drew (S := (fun w' => w'.cell? ⟨w1.heap.size, 0, none⟩ = some (.slice na zs.length nc) ∧ w'.cell? ⟨w1.heap.size, 1, none⟩ = some (.slice sa st.length sc) ∧ w'.heap[w1.heap.size]? = some (.cells #[.slice na zs.length nc, .slice sa st.length sc] 34) ∧ FunRow w' a fs ∧ NumRow w' na zs ∧ TextsRow w' sa st ∧ Below W.heap.size W w')) (by kernel_rfl) ((unhide HST).2 _ (unhide HS2)) (fun hHeld => ?_)
  generalize w2.drew = wa at *
  refine wpAnyH_take (i := 0) (oi := { dst := some 26, op := Go.Op.move (Go.Operand.tmp 7), type := 3, pos := "laws.go:1208", after := #[], guard := none }) (v := ?v27_0) rfl (by kernel_rfl) (by kernel_rfl) (by kernel_rfl) (fun _ _ _ h => h) (Or.inl ⟨by rfl, ?y27_0⟩) (by assumption) ?r27_0
  case y27_0 => (intro w hSw; (try dsimp only at hSw); go_simp; try (with_reducible rfl))
  try simp only [Act.put, List.setIfInBounds_toArray, List.set_cons_zero, List.set_cons_succ]
  refine wpAnyH_take (i := 1) (oi := { dst := some 27, op := Go.Op.move (Go.Operand.tmp 3), type := 32, pos := "laws.go:1208", after := #[], guard := none }) (v := ?v28_1) rfl (by kernel_rfl) (by kernel_rfl) (by kernel_rfl) (fun _ _ _ h => h) (Or.inl ⟨by rfl, ?y28_1⟩) (by assumption) ?r28_1
  case y28_1 => (intro w hSw; (try dsimp only at hSw); go_simp; try (with_reducible rfl))
  try simp only [Act.put, List.setIfInBounds_toArray, List.set_cons_zero, List.set_cons_succ]
  refine wpAnyH_take (i := 2) (oi := { dst := some 28, op := Go.Op.load 34 (Go.Operand.tmp 4), type := 34, pos := "laws.go:1208", after := #[], guard := none }) (v := ?v29_2) rfl (by kernel_rfl) (by kernel_rfl) (by kernel_rfl) (fun _ _ _ h => h) (Or.inl ⟨by rfl, ?y29_2⟩) (by assumption) ?r29_2
  case y29_2 => (intro w hSw; (try dsimp only at hSw); go_simp; try (with_reducible rfl))
  try simp only [Act.put, List.setIfInBounds_toArray, List.set_cons_zero, List.set_cons_succ]
  refine wpAnyH_take (i := 3) (oi := { dst := some 29, op := Go.Op.move (Go.Operand.tmp 5), type := 3, pos := "laws.go:1208", after := #[], guard := none }) (v := ?v30_3) rfl (by kernel_rfl) (by kernel_rfl) (by kernel_rfl) (fun _ _ _ h => h) (Or.inl ⟨by rfl, ?y30_3⟩) (by assumption) ?r30_3
  case y30_3 => (intro w hSw; (try dsimp only at hSw); go_simp; try (with_reducible rfl))
  try simp only [Act.put, List.setIfInBounds_toArray, List.set_cons_zero, List.set_cons_succ]
  refine wpAnyH_take (i := 4) (oi := { dst := some 30, op := Go.Op.move (Go.Operand.tmp 6), type := 3, pos := "laws.go:1208", after := #[], guard := none }) (v := ?v31_4) rfl (by kernel_rfl) (by kernel_rfl) (by kernel_rfl) (fun _ _ _ h => h) (Or.inl ⟨by rfl, ?y31_4⟩) (by assumption) ?r31_4
  case y31_4 => (intro w hSw; (try dsimp only at hSw); go_simp; try (with_reducible rfl))
  try simp only [Act.put, List.setIfInBounds_toArray, List.set_cons_zero, List.set_cons_succ]
  refine wpAnyH_ready (rs := [5]) (by kernel_rfl) (by simp) ?_
  refine AllReadyH.cons (o := { dst := some 31, op := Go.Op.call { callee := Go.Callee.value (Go.Operand.func 43), args := #[Go.Operand.tmp 27, Go.Operand.tmp 28, Go.Operand.tmp 29, Go.Operand.tmp 30], argTypes := #[32, 34, 3, 3] }, type := 3, pos := "laws.go:1208", after := #[{ on := 1, ground := Go.Ground.data }, { on := 2, ground := Go.Ground.data }, { on := 3, ground := Go.Ground.data }, { on := 4, ground := Go.Ground.data }], guard := none }) rfl (fun K hK => ?_) AllReadyH.nil
  go_simp
  go_at_call 43
  refine (unhide HSL _ hHeld.2.2.2.1 hHeld.2.2.2.2.1 hHeld.2.2.2.2.2.1).mono ?_
  rintro e w3 ⟨rfl, hbk⟩
  replace hHeld := (unhide HST).1 _ _ hbk hHeld
  clear hbk
  go_wp2_with fail
  refine hK.out _ _ hHeld (fun _ => ?_)
  clear hK K
  try simp only [Act.put, List.setIfInBounds_toArray, List.set_cons_zero, List.set_cons_succ]
  refine wpAnyH_take (i := 6) (oi := { dst := some 32, op := Go.Op.binOp Go.BinOp.neq 3 (Go.Operand.tmp 26) (Go.Operand.tmp 31) 3, type := 4, pos := "laws.go:1208", after := #[{ on := 0, ground := Go.Ground.data }, { on := 5, ground := Go.Ground.data }], guard := none }) (v := ?v32_6) rfl (by kernel_rfl) (by kernel_rfl) (by kernel_rfl) (fun _ _ _ h => h) (Or.inl ⟨by rfl, ?y32_6⟩) (by assumption) ?r32_6
  case y32_6 => (intro w hSw; (try dsimp only at hSw); go_simp; try (with_reducible rfl))
  try simp only [Act.put, List.setIfInBounds_toArray, List.set_cons_zero, List.set_cons_succ]
  refine wpAnyH_take (i := 7) (oi := { dst := some 33, op := Go.Op.move (Go.Operand.tmp 32), type := 4, pos := "laws.go:1208", after := #[{ on := 6, ground := Go.Ground.data }, { on := 5, ground := Go.Ground.chain }], guard := none }) (v := ?v33_7) rfl (by kernel_rfl) (by kernel_rfl) (by kernel_rfl) (fun _ _ _ h => h) (Or.inl ⟨by rfl, ?y33_7⟩) (by assumption) ?r33_7
  case y33_7 => (intro w hSw; (try dsimp only at hSw); go_simp; try (with_reducible rfl))
  try simp only [Act.put, List.setIfInBounds_toArray, List.set_cons_zero, List.set_cons_succ]
  refine wpAnyH_take (i := 8) (oi := { dst := some 34, op := Go.Op.move (Go.Operand.tmp 3), type := 32, pos := "laws.go:1208", after := #[{ on := 7, ground := Go.Ground.guard }], guard := some (7, false) }) (v := ?v34_8) rfl (by kernel_rfl) (by kernel_rfl) (by kernel_rfl) (fun _ _ _ h => h) (Or.inl ⟨by rfl, ?y34_8⟩) (by assumption) ?r34_8
  case y34_8 => (intro w hSw; (try dsimp only at hSw); go_simp; try (with_reducible rfl))
  try simp only [Act.put, List.setIfInBounds_toArray, List.set_cons_zero, List.set_cons_succ]
  refine wpAnyH_take (i := 9) (oi := { dst := some 35, op := Go.Op.load 34 (Go.Operand.tmp 4), type := 34, pos := "laws.go:1208", after := #[{ on := 7, ground := Go.Ground.guard }], guard := some (7, false) }) (v := ?v35_9) rfl (by kernel_rfl) (by kernel_rfl) (by kernel_rfl) (fun _ _ _ h => h) (Or.inl ⟨by rfl, ?y35_9⟩) (by assumption) ?r35_9
  case y35_9 => (intro w hSw; (try dsimp only at hSw); go_simp; try (with_reducible rfl))
  try simp only [Act.put, List.setIfInBounds_toArray, List.set_cons_zero, List.set_cons_succ]
  refine wpAnyH_take (i := 11) (oi := { dst := some 37, op := Go.Op.move (Go.Operand.tmp 3), type := 32, pos := "laws.go:1208", after := #[{ on := 7, ground := Go.Ground.guard }], guard := some (7, false) }) (v := ?v36_11) rfl (by kernel_rfl) (by kernel_rfl) (by kernel_rfl) (fun _ _ _ h => h) (Or.inl ⟨by rfl, ?y36_11⟩) (by assumption) ?r36_11
  case y36_11 => (intro w hSw; (try dsimp only at hSw); go_simp; try (with_reducible rfl))
  try simp only [Act.put, List.setIfInBounds_toArray, List.set_cons_zero, List.set_cons_succ]
  refine wpAnyH_take (i := 12) (oi := { dst := some 38, op := Go.Op.load 34 (Go.Operand.tmp 4), type := 34, pos := "laws.go:1208", after := #[{ on := 7, ground := Go.Ground.guard }], guard := some (7, false) }) (v := ?v37_12) rfl (by kernel_rfl) (by kernel_rfl) (by kernel_rfl) (fun _ _ _ h => h) (Or.inl ⟨by rfl, ?y37_12⟩) (by assumption) ?r37_12
  case y37_12 => (intro w hSw; (try dsimp only at hSw); go_simp; try (with_reducible rfl))
  try simp only [Act.put, List.setIfInBounds_toArray, List.set_cons_zero, List.set_cons_succ]
  refine wpAnyH_ready (rs := [10]) (by kernel_rfl) (by simp) ?_
  refine AllReadyH.cons (o := { dst := some 36, op := Go.Op.call { callee := Go.Callee.value (Go.Operand.func 25), args := #[Go.Operand.tmp 34, Go.Operand.tmp 35], argTypes := #[32, 34] }, type := 3, pos := "laws.go:1208", after := #[{ on := 8, ground := Go.Ground.data }, { on := 9, ground := Go.Ground.data }, { on := 7, ground := Go.Ground.chain }, { on := 7, ground := Go.Ground.guard }], guard := some (7, false) }) rfl (fun K hK => ?_) AllReadyH.nil
  go_simp
  go_at_call 25
  refine (unhide HIZ _ hHeld.2.2.2.1 hHeld.2.2.2.2.1 hHeld.2.2.2.2.2.1).mono ?_
  rintro e w4 ⟨rfl, hbk⟩
  replace hHeld := (unhide HST).1 _ _ hbk hHeld
  clear hbk
  go_wp2_with fail
  refine hK.out _ _ hHeld (fun _ => ?_)
  clear hK K
  try simp only [Act.put, List.setIfInBounds_toArray, List.set_cons_zero, List.set_cons_succ]
  refine wpAnyH_ready (rs := [13]) (by kernel_rfl) (by simp) ?_
  refine AllReadyH.cons (o := { dst := some 39, op := Go.Op.call { callee := Go.Callee.value (Go.Operand.func 44), args := #[Go.Operand.tmp 37, Go.Operand.tmp 38], argTypes := #[32, 34] }, type := 3, pos := "laws.go:1208", after := #[{ on := 11, ground := Go.Ground.data }, { on := 12, ground := Go.Ground.data }, { on := 10, ground := Go.Ground.chain }, { on := 7, ground := Go.Ground.guard }], guard := some (7, false) }) rfl (fun K hK => ?_) AllReadyH.nil
  go_simp
  go_at_call 44
  refine (unhide HSZ _ hHeld.2.2.2.1 hHeld.2.2.2.2.1 hHeld.2.2.2.2.2.1).mono ?_
  rintro e w5 ⟨rfl, hbk⟩
  replace hHeld := (unhide HST).1 _ _ hbk hHeld
  clear hbk
  go_wp2_with fail
  refine hK.out _ _ hHeld (fun _ => ?_)
  clear hK K
  try simp only [Act.put, List.setIfInBounds_toArray, List.set_cons_zero, List.set_cons_succ]
  refine wpAnyH_take (i := 14) (oi := { dst := some 40, op := Go.Op.binOp Go.BinOp.neq 3 (Go.Operand.tmp 36) (Go.Operand.tmp 39) 3, type := 4, pos := "laws.go:1208", after := #[{ on := 10, ground := Go.Ground.data }, { on := 13, ground := Go.Ground.data }, { on := 7, ground := Go.Ground.guard }], guard := some (7, false) }) (v := ?v38_14) rfl (by kernel_rfl) (by kernel_rfl) (by kernel_rfl) (fun _ _ _ h => h) (Or.inl ⟨by rfl, ?y38_14⟩) (by assumption) ?r38_14
  case y38_14 => (intro w hSw; (try dsimp only at hSw); go_simp; try (with_reducible rfl))
  try simp only [Act.put, List.setIfInBounds_toArray, List.set_cons_zero, List.set_cons_succ]
  refine wpAnyH_take (i := 15) (oi := { dst := some 41, op := Go.Op.pick (Go.Operand.tmp 33) (Go.Operand.const (Go.Value.bool true)) (Go.Operand.tmp 40), type := 4, pos := "laws.go:1208", after := #[{ on := 7, ground := Go.Ground.data }, { on := 14, ground := Go.Ground.data }], guard := none }) (v := ?v39_15) rfl (by kernel_rfl) (by kernel_rfl) (by kernel_rfl) (fun _ _ _ h => h) (Or.inl ⟨by rfl, ?y39_15⟩) (by assumption) ?r39_15
  case y39_15 => (intro w hSw; (try dsimp only at hSw); go_simp; try (with_reducible rfl))
  try simp only [Act.put, List.setIfInBounds_toArray, List.set_cons_zero, List.set_cons_succ]
  refine wpAnyH_done (by kernel_rfl) ?_ _
  have HS5 := hide hHeld
  clear hHeld HS2 HSL HSZ
  have hX := box2 (unhide HS5).2.2.1
  go_wp2_with fail
  refine (unhide HIZ _ (unhide HS5).2.2.2.1 (unhide HS5).2.2.2.2.1 (unhide HS5).2.2.2.2.2.1).mono ?_
  rintro e w6 ⟨rfl, hb6⟩
  have HS6 := hide ((unhide HST).1 _ _ hb6 (unhide HS5))
  clear hX hb6 HS5
  by_cases h0 : (zz == 0) = true
  · have hf : formB fs zs st = false := by
      cases hf : formB fs zs st
      · rfl
      · have hz := unhide HZZ
        rw [size_yes hf] at hz
        have hk := (form_parts hf).1
        have := place_less (st := st) (lens_one hk) (show 0 < fs.length by have := (keep_parts hk).1; omega) (Nat.le_refl _)
        have : zz = 0 := by simpa using h0
        omega
    have hm1 : mm = -1 := by rw [← unhide HMM]; exact stone_no (.inl hf)
    subst hm1
    have hB := (unhide HS6).2.2.2.2.2.2
    go_wp2_with fail
    go_ret
    exact ⟨rfl, hB⟩
  have h0f : (zz == 0) = false := by simpa using h0
  have hf : formB fs zs st = true := by
    cases hf : formB fs zs st
    · have hz := unhide HZZ
      rw [size_no hf] at hz
      subst hz
      exact absurd rfl h0
    · rfl
  have HL := hide (lying_of hf (unhide HFT))
  have HFO := hide hf
  have HNF := hide (unhide HL).len
  have HSF := hide (unhide HL).2.2.1
  have HZP : Hid (zz = (place fs st fs.length : Int)) := by rw [← unhide HZZ]; exact size_yes hf
  have hlf : (fs.length : Int) ≤ 9223372036854775807 := by omega
  have hln : (zs.length : Int) ≤ 9223372036854775807 := by unfold maxLen at d2; omega
  have hls : (st.length : Int) ≤ 9223372036854775807 := by unfold maxLen at d4; omega
  have hn1 := (keep_parts (form_parts hf).1).1
  obtain ⟨nb, no, rfl⟩ := (unhide HS6).2.2.2.2.1.get (by have := unhide HNF; omega)
  obtain ⟨sb, so, rfl⟩ := (unhide HS6).2.2.2.2.2.1.get (by have := unhide HSF; omega)
  obtain ⟨fb, fo, rfl⟩ := (unhide HS6).2.2.2.1.get (by omega)
  clear h0 hf HZZ HMM
  have HST6 : Hid (Stable (fun w' => w'.cell? ⟨w1.heap.size, 0, none⟩ = some (.slice (some ⟨nb, no, none⟩) zs.length nc) ∧ w'.cell? ⟨w1.heap.size, 1, none⟩ = some (.slice (some ⟨sb, so, none⟩) st.length sc) ∧ w'.heap[w1.heap.size]? = some (.cells #[.slice (some ⟨nb, no, none⟩) zs.length nc, .slice (some ⟨sb, so, none⟩) st.length sc] 34) ∧ FunRow w' (some ⟨fb, fo, none⟩) fs ∧ NumRow w' (some ⟨nb, no, none⟩) zs ∧ TextsRow w' (some ⟨sb, so, none⟩) st ∧ Below W.heap.size W w')) := ((Stable.cell _ _).and ((Stable.cell _ _).and ((Stable.box _ _).and ((Stable.frow _ fs).and ((Stable.nrow _ zs).and ((Stable.tsrow _ st).and (Stable.below W)))))))
  go_wp2_with fail
  go_loopw [8, 9] (fun lst i w' => ∃ (k : Nat) (q : Int), k ≤ fs.length ∧ i = .int .i64 k ∧ lst = .int .i64 q ∧ Hid (q = (place fs st k : Int) - 1) ∧ -1 ≤ q ∧ q ≤ 100000000 ∧ Hid ((fun w' => w'.cell? ⟨w1.heap.size, 0, none⟩ = some (.slice (some ⟨nb, no, none⟩) zs.length nc) ∧ w'.cell? ⟨w1.heap.size, 1, none⟩ = some (.slice (some ⟨sb, so, none⟩) st.length sc) ∧ w'.heap[w1.heap.size]? = some (.cells #[.slice (some ⟨nb, no, none⟩) zs.length nc, .slice (some ⟨sb, so, none⟩) st.length sc] 34) ∧ FunRow w' (some ⟨fb, fo, none⟩) fs ∧ NumRow w' (some ⟨nb, no, none⟩) zs ∧ TextsRow w' (some ⟨sb, so, none⟩) st ∧ Below W.heap.size W w') w')) (fun _ i _ => fs.length - (intOf i).toNat)
  case atStart => exact ⟨0, -1, Nat.zero_le _, rfl, rfl, by show _ = _; simp [place], by omega, by omega, HS6⟩
  case round =>
    obtain ⟨k, q, hk, rfl, rfl, HQ, hq0, hq1, HS7⟩ := hrel
    clear HS6
    have hX := box2 (unhide HS7).2.2.1
    by_cases hkl : k < fs.length
    · have hkl' : (k : Int) < (fs.length : Int) := by omega
      have hkn : k < zs.length := by have := unhide HNF; omega
      have hks : k < st.length := by have := unhide HSF; omega
      have hkn' : (k : Int) < (zs.length : Int) := by omega
      have hks' : (k : Int) < (st.length : Int) := by omega
      have hk0 : (0 : Int) ≤ (k : Int) := by omega
      have n0 := (unhide HS7).2.2.2.2.1.cells hkn
      rw [(unhide HL).at hkn] at n0
      obtain ⟨fi, fc, f0, f1, f2, _, f4, f5, _⟩ := (unhide HS7).2.2.2.1.at hkl
      have hfl : fs[k].body.length ≤ 10 := (unhide HL).2.1 _ (List.getElem_mem _)
      have hsl := (unhide HL).2.2.2.2.2 st[k] (List.getElem_mem _)
      have hpb := (unhide HL).small (k + 1) (by omega)
      have HNX : Hid ((place fs st (k + 1) : Int) = (place fs st k : Int) + (fs[k].body.length : Int) + (st[k].length : Int)) := by
        show _ = _
        rw [place, lenAt_is hkl, stAt_is hks]
        omega
      rw [place, lenAt_is hkl, stAt_is hks] at hpb
      have HST2 : Hid (∀ j w', j < st[k].length → FunRow w' (some ⟨fb, fo, none⟩) fs → NumRow w' (some ⟨nb, no, none⟩) zs → TextsRow w' (some ⟨sb, so, none⟩) st → Calls Try.prog 41 #[.slice (some ⟨fb, fo, none⟩) fs.length cap, .agg #[.slice (some ⟨nb, no, none⟩) zs.length nc, .slice (some ⟨sb, so, none⟩) st.length sc], .int .i64 (k : Int), .int .i64 (j : Int)] w' fun e w'' => e = .returned (.int .i64 ((place fs st k : Int) + (fs[k].body.length : Int) + (j : Int))) ∧ Below w'.heap.size w' w'') := fun j w' hj h1 h2 h3 => by
        have h := unhide HIL (k : Int) (j : Int) w' (wf_small (by omega) (by omega)) (wf_small (by omega) (by omega)) h1 h2 h3
        rw [stone_yes (unhide HFO) hkl (by rw [stAt_is hks]; exact hj), lenAt_is hkl] at h
        rw [show ((place fs st k + fs[k].body.length + j : Nat) : Int) = (place fs st k : Int) + (fs[k].body.length : Int) + (j : Int) by omega] at h
        exact h
      have HTA : Hid (∀ w', TextsRow w' (some ⟨sb, so, none⟩) st → ∃ ai ci, w'.cell? ⟨sb, so + k, none⟩ = some (.slice ai st[k].length ci)) := fun w' h => by
        obtain ⟨ai, ci, t0, _⟩ := h.at hks
        exact ⟨ai, ci, t0⟩
      have hlast : ¬ (place fs st k : Int) ≤ q := by have := unhide HQ; omega
      generalize fs[k].body.length = fl at *
      generalize st[k].length = sl at *
      generalize place fs st k = pk at *
      go_wp2_with fail
      go_quiet (fail)
      go_wp2_with fail
      clear hX n0 f0 f1 f2 f4 f5
      go_loopw [8, 10] (fun lst i w' => ∃ (j : Nat) (q : Int), j ≤ sl ∧ i = .int .i64 j ∧ lst = .int .i64 q ∧ Hid (q = (pk : Int) + (fl : Int) + (j : Int) - 1) ∧ -1 ≤ q ∧ q ≤ 100000000 ∧ Hid ((fun w' => w'.cell? ⟨w1.heap.size, 0, none⟩ = some (.slice (some ⟨nb, no, none⟩) zs.length nc) ∧ w'.cell? ⟨w1.heap.size, 1, none⟩ = some (.slice (some ⟨sb, so, none⟩) st.length sc) ∧ w'.heap[w1.heap.size]? = some (.cells #[.slice (some ⟨nb, no, none⟩) zs.length nc, .slice (some ⟨sb, so, none⟩) st.length sc] 34) ∧ FunRow w' (some ⟨fb, fo, none⟩) fs ∧ NumRow w' (some ⟨nb, no, none⟩) zs ∧ TextsRow w' (some ⟨sb, so, none⟩) st ∧ Below W.heap.size W w') w')) (fun _ i _ => sl - (intOf i).toNat)
      case atStart => exact ⟨0, _, Nat.zero_le _, rfl, rfl, by show _ = _; omega, by omega, by omega, hide ((unhide HST6).1 _ _ (bl_drewN (Below.refl _ _) _) (unhide HS7))⟩
      case round =>
        obtain ⟨j, q', hj, rfl, rfl, HQ', hq0', hq1', HS8⟩ := hrel
        clear HS7
        have hX := box2 (unhide HS8).2.2.1
        obtain ⟨ai, ci, t0⟩ := unhide HTA _ (unhide HS8).2.2.2.2.2.1
        have hsl2 : (sl : Int) ≤ 9223372036854775807 := by omega
        by_cases hjl : j < sl
        · have hjl' : (j : Int) < (sl : Int) := by omega
          have hq2 := unhide HQ'
          go_wp2_with fail
          refine (unhide HST2 j _ hjl (unhide HS8).2.2.2.1 (unhide HS8).2.2.2.2.1 (unhide HS8).2.2.2.2.2.1).mono ?_
          rintro e w9 ⟨rfl, hb9⟩
          have HS9 := hide ((unhide HST6).1 _ _ hb9 (unhide HS8))
          have hw9 : IntKind.i64.wrap (q' + 1) = (pk : Int) + (fl : Int) + (j : Int) := by rw [IntKind.wrap_i64]; omega
          clear hX t0 hb9 HS8
          go_wp2_with fail
          exact ⟨⟨j + 1, _, by omega, by go_num, rfl, by show _ = _; omega, by omega, by omega, HS9⟩, by simp [intOf]; omega⟩
        · have hjl' : ¬ (j : Int) < (sl : Int) := by omega
          have hq2 := unhide HQ'
          have HQN : Hid (q' = (place fs st (k + 1) : Int) - 1) := by show _ = _; have := unhide HNX; omega
          clear hq2
          go_wp2_with fail
          exact ⟨⟨k + 1, q', by omega, by go_num, rfl, HQN, hq0', hq1', HS8⟩, by simp [intOf]; omega⟩
    · have hkl' : ¬ (k : Int) < (fs.length : Int) := by omega
      have hke : k = fs.length := by omega
      have hqz : q = zz - 1 := by have := unhide HQ; rw [hke] at this; rw [unhide HZP]; exact this
      have hzb : 0 ≤ zz ∧ zz ≤ 100000001 := by omega
      clear hke
      go_wp2_with fail
      refine (unhide HIZ _ (unhide HS7).2.2.2.1 (unhide HS7).2.2.2.2.1 (unhide HS7).2.2.2.2.2.1).mono ?_
      rintro e w9 ⟨rfl, hb9⟩
      have hB9 := ((unhide HST6).1 _ _ hb9 (unhide HS7)).2.2.2.2.2.2
      have hbq : (q == zz - 1) = true := by rw [hqz]; exact beq_self_eq_true _
      clear hX hb9 hqz
      go_wp2_with fail
      go_ret
      exact ⟨rfl, hB9⟩

set_option maxRecDepth 100000 in
theorem lifted (os : Os) (started : os.Started) (H : Type) (enc : TypeId × Value → H) :
    ReturnsInHanded {} Try.checked os 9 .any (Rows.fnLayStoneSpec.pre6 enc Try.prog Try.f9 Rows.fnLayStoneRow.domain false) (Rows.fnLayStoneSpec.post enc Try.prog Try.f9 false true false false) := by
  refine returnsInHanded_of_change (C := Try.checked) own started (by kernel_rfl) Try.func9
    (ChangeSpec.witness6 (enc := enc) (C := Try.checked) false ⟨#[], #[.slice none 0 0], []⟩ 8 (by kernel_rfl) (by kernel_rfl) (by kernel_rfl) (by kernel_rfl)) ?_
  intro W base args ds gs before hval0 hW hcnd _
  have hval : ∀ (j : Nat) t v, Try.f9.params[j]? = some t → args[j]? = some v → Value.okWide Try.prog W .any base t v := hval0
  have hW' := hW
  obtain ⟨p, q, hA0, hV, rfl, hfz, hnd⟩ := hW
  have hA : DataW.TrodAll enc Try.prog W 0 (fun _ => true) true Try.f9.params.toList args.toList ds p := hA0
  rw [Try.params9] at hA hval
  obtain ⟨v0, vs0, d0, ds0, p0, q0, hargs, rfl, rfl, h0, r0⟩ := trodAll_cons hA
  obtain ⟨rfl, rfl, rfl⟩ := trodAll_nil r0
  obtain rfl : args = #[v0] := by cases args; simp_all
  obtain ⟨rfl, rfl⟩ := trodVars_none hV
  have k0 := h0
  have lt0 : ∀ x ∈ p0, x.block < W.heap.size := by obtain ⟨m, hm⟩ := k0; exact DataW.trod_lt m _ _ _ hm
  obtain ⟨a0, len0, cap0, hv0⟩ := okWide_slice Try.underlying45 (hval 0 45 v0 rfl rfl)
  obtain ⟨z0, w0⟩ : ∃ zs, IsRow .u8 W a0 len0 cap0 zs := by
    subst hv0
    obtain ⟨fuel, hf⟩ := h0
    rcases open_ints Try.underlying45 Try.underlying5 (by kernel_rfl) hf with ⟨hcs, _⟩ | ⟨x, l, c, zs, hcs, _, hl, hm, hz, _, hcell, hwz⟩
    · simp [Value.cells] at hcs
      obtain ⟨rfl, rfl, rfl⟩ := hcs
      exact ⟨[], .inl ⟨rfl, rfl, rfl, rfl⟩⟩
    · simp [Value.cells] at hcs
      obtain ⟨rfl, rfl, rfl⟩ := hcs
      exact ⟨zs, .inr ⟨_, rfl, hl, hm, by simpa using hz, hcell, hwz⟩⟩
  clear hA0 hval0
  subst hv0
  refine (walk a0 len0 cap0 z0 W w0).mono fun e W' ⟨he, bel⟩ => ?_
  subst he
  exact ⟨_, rfl, _, _, _, [], _, [], hW', trodAll_mk1 (shut_bool Try.underlying4 _), (trodAll_cons_mk (Below.trod laidOut (by kernel_rfl) (of_decide_eq_true (by kernel_rfl)) k0 bel lt0) trodAll_mk0), rfl, bel.frame _, fun h => by cases h⟩

theorem proved : Rows.FnLayStoneSaid :=
  OpenClaim.holds_of_wide 9 Try.f9 rfl rfl rfl rfl rfl rfl rfl ⟨rfl, rfl, rfl, rfl, rfl⟩ rfl rfl rfl rfl rfl (by kernel_rfl) Try.func9 (by kernel_rfl)
    (of_decide_eq_true (by kernel_rfl)) (by unfold Func.isWrapper; first | (rw [if_pos (by decide +kernel)]; kernel_rfl) | (rw [if_neg (by decide +kernel)]; exact ⟨rfl, rfl⟩))
    (fun os started H enc _ => lifted os started H enc)
#print axioms proved
end Go.Proofs.Ytjbhbkkkjdpamaa.fnLayStone
