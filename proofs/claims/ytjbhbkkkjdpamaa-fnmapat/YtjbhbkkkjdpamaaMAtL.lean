/- For every slice of bytes the law FnMapAt answers true, and the bytes read afterwards as they did. No condition. -/
import Derived.Test.YtjbhbkkkjdpamaaPk3b7a8e77
import Derived.WalkKit
import Derived.ProofKit
import Derived.OpenShut
import Derived.ShutString
import Derived.ChangeOld
import Derived.Below
import Derived.Lib.SmallJoins
import Derived.Laws.StructEq
import Derived.Test.YtjbhbkkkjdpamaaFuns
import Derived.Test.YtjbhbkkkjdpamaaPkd23f725c
import Derived.Test.YtjbhbkkkjdpamaaPkbd957d2b
import Derived.Test.YtjbhbkkkjdpamaaRefs
import Derived.Test.YtjbhbkkkjdpamaaLayN
import Derived.Test.YtjbhbkkkjdpamaaLayA
import Derived.Test.YtjbhbkkkjdpamaaPk3b5fe753
import Derived.Test.YtjbhbkkkjdpamaaPkfad6cd44
import Derived.Test.YtjbhbkkkjdpamaaPkd8602864
import Derived.Test.YtjbhbkkkjdpamaaLayT
import Derived.Test.YtjbhbkkkjdpamaaLayV
import Derived.Test.YtjbhbkkkjdpamaaPk3f5361e2
import Derived.Test.YtjbhbkkkjdpamaaPk6dbd2828
import Derived.Test.YtjbhbkkkjdpamaaPkd8868971
import Derived.Test.YtjbhbkkkjdpamaaMapK
import Derived.Test.YtjbhbkkkjdpamaaRd
import Derived.Test.YtjbhbkkkjdpamaaPkc600f0e5
import Derived.Test.YtjbhbkkkjdpamaaDrawM
import Derived.Test.YtjbhbkkkjdpamaaDrawT
namespace Go.Proofs.Ytjbhbkkkjdpamaa.fnMapAt
open Go.ChangeShapes Go.WideShapes Go.ChangeAt Go.RowKit Go.Joins
open Go.ChangeMaps (open_string shut_string)
open Go.Proofs.Ytjbhbkkkjdpamaa.Base
open Go.Proofs.Ytjbhbkkkjdpamaa.Funs
open Go.Proofs.Ytjbhbkkkjdpamaa.Open
open Go.Proofs.Ytjbhbkkkjdpamaa.Keep
open Go.Proofs.Ytjbhbkkkjdpamaa.UnitS
open Go.Proofs.Ytjbhbkkkjdpamaa.Refs
open Go.Proofs.Ytjbhbkkkjdpamaa.LayN
open Go.Proofs.Ytjbhbkkkjdpamaa.LayA
open Go.Proofs.Ytjbhbkkkjdpamaa.KeepA
open Go.Proofs.Ytjbhbkkkjdpamaa.KeepD
open Go.Proofs.Ytjbhbkkkjdpamaa.LayD
open Go.Proofs.Ytjbhbkkkjdpamaa.LayS
open Go.Proofs.Ytjbhbkkkjdpamaa.LayT
open Go.Proofs.Ytjbhbkkkjdpamaa.LayV
open Go.Proofs.Ytjbhbkkkjdpamaa.LayO
open Go.Proofs.Ytjbhbkkkjdpamaa.MapD
open Go.Proofs.Ytjbhbkkkjdpamaa.MapA
open Go.Proofs.Ytjbhbkkkjdpamaa.MapS
open Go.Proofs.Ytjbhbkkkjdpamaa.MapI
open Go.Proofs.Ytjbhbkkkjdpamaa.MapJ
open Go.Proofs.Ytjbhbkkkjdpamaa.MapT
open Go.Proofs.Ytjbhbkkkjdpamaa.MapK
open Go.Proofs.Ytjbhbkkkjdpamaa.Rd
open Go.Proofs.Ytjbhbkkkjdpamaa.DrawO
open Go.Proofs.Ytjbhbkkkjdpamaa.DrawM
open Go.Proofs.Ytjbhbkkkjdpamaa.DrawT
set_option linter.unusedVariables false
set_option maxRecDepth 100000
theorem own : ownKnob Try.prog.godebug = none := by kernel_rfl
theorem laidOut : laidOutB Try.prog = true := by kernel_rfl

theorem wf_small {x : Int} (h0 : -1000000000 ≤ x) (h1 : x ≤ 1000000000) : (Lit.int .i64 x).wf = true := by
  unfold Lit.wf
  rw [Bool.and_eq_true, decide_eq_true_iff, decide_eq_true_iff]
  exact ⟨by show -9223372036854775808 ≤ x; omega, by show x ≤ 9223372036854775807; omega⟩
theorem ml {n : Nat} (h : n ≤ 1048576) : n ≤ maxLen := by unfold maxLen; omega
theorem spotE_at {fs : List FunD} {ns : List Int} {st : List (List ByteArray)} {k j : Nat} (hf : formB fs ns st = true) (hk : k < fs.length) (hj : j < fs[k].body.length) : spotE fs ns st ((place fs st k + j : Nat) : Int) = ((k : Int), (j : Int), true) := by
  rw [spotE_some (spotN_some hf hk (hit_iff.2 ⟨by omega, by rw [lenAt_is hk]; omega⟩))]
  simp
  omega
theorem at_less {fs : List FunD} {st : List (List ByteArray)} {k j : Nat} (hk : k < fs.length) (hj : j < fs[k].body.length) : place fs st k + j < place fs st fs.length := by
  have := place_mono (fs := fs) (st := st) (show k + 1 ≤ fs.length by omega)
  rw [place, lenAt_is hk] at this
  omega
set_option maxHeartbeats 8000000 in
theorem walk (a0 : Option Addr) (len cap0 : Nat) (bs : List Int) (W : World) (hrow : IsRow .u8 W a0 len cap0 bs) :
    Calls Try.prog 5 #[.slice a0 len cap0] W fun e w' => e = .returned (.bool true) ∧ Below W.heap.size W w' := by
  obtain ⟨hl, hm, hb⟩ := isRow_bytes hrow
  by_cases hlt : (1048576 : Int) < len
  · go_enter Try.func5, Try.ntmps5
    go_wp2
    go_ret
    exact ⟨rfl, Below.refl _ _⟩
  have Hb := hide hb
  clear hb hrow
  go_enter Try.func5, Try.ntmps5
  go_wp2_with fail
  refine (drawMapAt_any _ _ _ _ hl hm (unhide Hb)).mono ?_
  rintro e w1 ⟨a, cap, fs, na, sa, nc, sc, zs, st, ff, nn, rfl, q1, q2, q3, q4, hM⟩
  have hbA := below_alloc2 w1 (.cells #[.slice na zs.length nc, .slice sa st.length sc] 34) (.cells #[.int .i64 ff, .int .i64 nn] 36)
  have HF := hide (hM.fr.below hbA)
  have HN := hide (hM.nr.below hbA)
  have HT := hide (hM.tr.below hbA)
  have hB2 := bl_trans hM.bw hbA
  have HX := hide (box_below (new_block w1 (.cells #[.slice na zs.length nc, .slice sa st.length sc] 34)) (below_alloc1 _ (.cells #[.int .i64 ff, .int .i64 nn] 36)))
  have hY := new_block (w1.alloc (.cells #[.slice na zs.length nc, .slice sa st.length sc] 34)) (.cells #[.int .i64 ff, .int .i64 nn] 36)
  rw [World.size_alloc] at hY
  have HY := hide hY
  have HFT := hide hM.tm.few
  have c1 := hM.h1
  have c2 := hM.h2
  have c3 := hM.h3
  have d1 := hM.n1
  have d2 := hM.n2
  have d3 := hM.s1
  have d4 := hM.s2
  clear hM hbA hY
  have hX := box2 (unhide HX)
  have hY := box2 (unhide HY)
  go_wp2_with fail
  refine (implMapAt_any a cap fs na sa nc sc zs st ff nn _ c1 c2 d1 d2 d3 d4 (unhide HFT) (unhide HF) (unhide HN) (unhide HT)).mono ?_
  rintro e w2 ⟨rfl, hb2⟩
  replace HF := hide ((unhide HF).below hb2)
  replace HN := hide ((unhide HN).below hb2)
  replace HT := hide ((unhide HT).below hb2)
  replace HX := hide (box_below (unhide HX) hb2)
  replace HY := hide (box_below (unhide HY) hb2)
  replace hB2 := bl_trans hB2 hb2
  clear hX hY hb2
  have hX := box2 (unhide HX)
  have hY := box2 (unhide HY)
  obtain ⟨mm, hmm⟩ : ∃ mm, mapAtI fs zs st ff nn = mm := ⟨_, rfl⟩
  have HMM := hide hmm
  rw [hmm]
  clear hmm
  go_wp2_with fail
  refine (specMapAt_any a cap fs na sa nc sc zs st ff nn _ c1 c2 d1 d2 d3 d4 (unhide HFT) (unhide HF) (unhide HN) (unhide HT)).mono ?_
  rw [unhide HMM]
  rintro e w3 ⟨rfl, hb3⟩
  replace HF := hide ((unhide HF).below hb3)
  replace HN := hide ((unhide HN).below hb3)
  replace HT := hide ((unhide HT).below hb3)
  replace HX := hide (box_below (unhide HX) hb3)
  replace HY := hide (box_below (unhide HY) hb3)
  replace hB2 := bl_trans hB2 hb3
  clear hX hY hb3
  have hX := box2 (unhide HX)
  have hY := box2 (unhide HY)
  by_cases hok : formB fs zs st = true ∧ spotQ fs ff nn = true
  rotate_left
  · obtain rfl : mm = -1 := by
      rw [← unhide HMM]
      refine mapAt_no ?_
      cases h1 : formB fs zs st
      · exact .inl rfl
      · refine .inr ?_
        cases h2 : spotQ fs ff nn
        · rfl
        · exact absurd ⟨h1, h2⟩ hok
    go_wp2_with fail
    go_ret
    exact ⟨rfl, hB2⟩
  obtain ⟨hf, hs⟩ := hok
  obtain ⟨k, j, rfl, rfl, hk, hj⟩ := spotQ_parts hs
  have HL := hide (lying_of hf (unhide HFT))
  have hE1 := mapAt_yes hf hs
  rw [unhide HMM] at hE1
  subst hE1
  have hless := at_less (st := st) hk hj
  have hsm := (unhide HL).small fs.length (Nat.le_refl _)
  have hwf : (Lit.int .i64 ((place fs st k + j : Nat) : Int)).wf = true := wf_small (by omega) (by omega)
  have HSP := hide (spotE_at hf hk hj)
  have HSZ := hide (size_yes hf)
  have HIS := hide (fun w' h1 h2 h3 => implMapSpot_any a cap fs na sa nc sc zs st ((place fs st k + j : Nat) : Int) w' hwf c1 c2 d1 d2 d3 d4 (unhide HFT) h1 h2 h3)
  rw [unhide HSP] at HIS
  have HLS := hide (fun w' h1 h2 h3 => implLaySize_any a cap fs na sa nc sc zs st w' c1 c2 d1 d2 d3 d4 (unhide HFT) h1 h2 h3)
  rw [unhide HSZ] at HLS
  have hkn : k < zs.length := by rw [(unhide HL).len]; exact hk
  have hkn' : (k : Int) < (zs.length : Int) := by omega
  have hk0 : (0 : Int) ≤ (k : Int) := by omega
  have hln : (zs.length : Int) ≤ 9223372036854775807 := by unfold maxLen at d2; omega
  obtain ⟨nb, no, rfl⟩ := (unhide HN).get (by omega)
  have HV : Hid (∀ w', NumRow w' (some ⟨nb, no, none⟩) zs → w'.cell? ⟨nb, no + k, none⟩ = some (.int .i64 (place fs st k : Nat))) := fun w' h => by
    have n0 := h.cells hkn
    rw [(unhide HL).at hkn] at n0
    exact n0
  have hpk := (unhide HL).small k (by omega)
  have hjb : j < 10 := by have := (unhide HL).2.1 _ (List.getElem_mem hk); omega
  clear hwf hf hs hj HMM
  generalize place fs st fs.length = pt at *
  generalize place fs st k = pk at *
  obtain ⟨q, hq⟩ : ∃ q : Nat, pk + j = q := ⟨_, rfl⟩
  have hqe : (pk : Int) + (j : Int) = (q : Int) := by omega
  rw [hq] at HIS hless ⊢
  have HQ := hide hqe
  have hwq : IntKind.i64.wrap ((pk : Int) + (j : Int)) = (q : Int) := by rw [IntKind.wrap_i64]; omega
  clear hq hqe
  go_wp2_with fail
  refine (unhide HIS _ (unhide HF) (unhide HN) (unhide HT)).mono ?_
  rintro e w4 ⟨rfl, hb4⟩
  have hb5 := bl_trans hb4 (below_alloc1 w4 (.cells #[.int .i64 k, .int .i64 j] 36))
  have HZ := hide (new_block w4 (.cells #[.int .i64 k, .int .i64 j] 36))
  replace HF := hide ((unhide HF).below hb5)
  replace HN := hide ((unhide HN).below hb5)
  replace HT := hide ((unhide HT).below hb5)
  replace HX := hide (box_below (unhide HX) hb5)
  replace HY := hide (box_below (unhide HY) hb5)
  replace hB2 := bl_trans hB2 hb5
  clear hX hY hb4 hb5 q1 q2 q3 q4
  have n0 := unhide HV _ (unhide HN)
  go_upto_region 10 with fail
  have HST : Hid (Stable (fun w' => w'.cell? ⟨w4.heap.size, 0, none⟩ = some (.int .i64 k) ∧ w'.cell? ⟨w4.heap.size, 1, none⟩ = some (.int .i64 j) ∧ w'.cell? ⟨w1.heap.size + 1, 0, none⟩ = some (.int .i64 k) ∧ w'.cell? ⟨w1.heap.size + 1, 1, none⟩ = some (.int .i64 j) ∧ w'.cell? ⟨w1.heap.size, 0, none⟩ = some (.slice (some ⟨nb, no, none⟩) zs.length nc) ∧ w'.cell? ⟨w1.heap.size, 1, none⟩ = some (.slice sa st.length sc) ∧ w'.cell? ⟨nb, no + k, none⟩ = some (.int .i64 (pk : Nat)) ∧ FunRow w' a fs ∧ NumRow w' (some ⟨nb, no, none⟩) zs ∧ TextsRow w' sa st ∧ Below W.heap.size W w')) := ((Stable.cell _ _).and ((Stable.cell _ _).and ((Stable.cell _ _).and ((Stable.cell _ _).and ((Stable.cell _ _).and ((Stable.cell _ _).and ((Stable.cell _ _).and ((Stable.frow a fs).and ((Stable.nrow _ zs).and ((Stable.tsrow sa st).and (Stable.below W)))))))))))
  have HS : Hid ((fun w' => w'.cell? ⟨w4.heap.size, 0, none⟩ = some (.int .i64 k) ∧ w'.cell? ⟨w4.heap.size, 1, none⟩ = some (.int .i64 j) ∧ w'.cell? ⟨w1.heap.size + 1, 0, none⟩ = some (.int .i64 k) ∧ w'.cell? ⟨w1.heap.size + 1, 1, none⟩ = some (.int .i64 j) ∧ w'.cell? ⟨w1.heap.size, 0, none⟩ = some (.slice (some ⟨nb, no, none⟩) zs.length nc) ∧ w'.cell? ⟨w1.heap.size, 1, none⟩ = some (.slice sa st.length sc) ∧ w'.cell? ⟨nb, no + k, none⟩ = some (.int .i64 (pk : Nat)) ∧ FunRow w' a fs ∧ NumRow w' (some ⟨nb, no, none⟩) zs ∧ TextsRow w' sa st ∧ Below W.heap.size W w') (w4.alloc (.cells #[.int .i64 k, .int .i64 j] 36))) := ⟨(box2 (unhide HZ)).1.1, (box2 (unhide HZ)).1.2, (box2 (unhide HY)).1.1, (box2 (unhide HY)).1.2, (box2 (unhide HX)).1.1, (box2 (unhide HX)).1.2, n0, unhide HF, unhide HN, unhide HT, hB2⟩
  clear n0 hB2
  refine wp_region_held_drew (S := (fun w' => w'.cell? ⟨w4.heap.size, 0, none⟩ = some (.int .i64 k) ∧ w'.cell? ⟨w4.heap.size, 1, none⟩ = some (.int .i64 j) ∧ w'.cell? ⟨w1.heap.size + 1, 0, none⟩ = some (.int .i64 k) ∧ w'.cell? ⟨w1.heap.size + 1, 1, none⟩ = some (.int .i64 j) ∧ w'.cell? ⟨w1.heap.size, 0, none⟩ = some (.slice (some ⟨nb, no, none⟩) zs.length nc) ∧ w'.cell? ⟨w1.heap.size, 1, none⟩ = some (.slice sa st.length sc) ∧ w'.cell? ⟨nb, no + k, none⟩ = some (.int .i64 (pk : Nat)) ∧ FunRow w' a fs ∧ NumRow w' (some ⟨nb, no, none⟩) zs ∧ TextsRow w' sa st ∧ Below W.heap.size W w')) (by kernel_rfl) ((unhide HST).2 _ (unhide HS)) (fun hHeld => ?_)
  generalize (w4.alloc (.cells #[.int .i64 k, .int .i64 j] 36)).drew = wa at *
  refine wpAnyH_take (i := 0) (oi := { dst := some 39, op := Go.Op.move (Go.Operand.tmp 8), type := 4, pos := "laws.go:1660", after := #[], guard := none }) (v := ?v1_0) rfl (by kernel_rfl) (by kernel_rfl) (by kernel_rfl) (fun _ _ _ h => h) (Or.inl ⟨by rfl, ?y1_0⟩) (by assumption) ?r1_0
  case y1_0 => (intro w hSw; (try dsimp only at hSw); go_simp; try (with_reducible rfl))
  try simp only [Act.put, List.setIfInBounds_toArray, List.set_cons_zero, List.set_cons_succ]
  refine wpAnyH_take (i := 1) (oi := { dst := some 40, op := Go.Op.move (Go.Operand.tmp 39), type := 4, pos := "laws.go:1660", after := #[{ on := 0, ground := Go.Ground.data }], guard := none }) (v := ?v2_1) rfl (by kernel_rfl) (by kernel_rfl) (by kernel_rfl) (fun _ _ _ h => h) (Or.inl ⟨by rfl, ?y2_1⟩) (by assumption) ?r2_1
  case y2_1 => (intro w hSw; (try dsimp only at hSw); go_simp; try (with_reducible rfl))
  try simp only [Act.put, List.setIfInBounds_toArray, List.set_cons_zero, List.set_cons_succ]
  refine wpAnyH_take (i := 2) (oi := { dst := some 41, op := Go.Op.load 36 (Go.Operand.tmp 7), type := 36, pos := "laws.go:1660", after := #[{ on := 1, ground := Go.Ground.guard }], guard := some (1, true) }) (v := ?v3_2) rfl (by kernel_rfl) (by kernel_rfl) (by kernel_rfl) (fun _ _ _ h => h) (Or.inl ⟨by rfl, ?y3_2⟩) (by assumption) ?r3_2
  case y3_2 => (intro w hSw; (try dsimp only at hSw); go_simp; try (with_reducible rfl))
  try simp only [Act.put, List.setIfInBounds_toArray, List.set_cons_zero, List.set_cons_succ]
  refine wpAnyH_take (i := 3) (oi := { dst := some 42, op := Go.Op.load 36 (Go.Operand.tmp 5), type := 36, pos := "laws.go:1660", after := #[{ on := 1, ground := Go.Ground.guard }], guard := some (1, true) }) (v := ?v4_3) rfl (by kernel_rfl) (by kernel_rfl) (by kernel_rfl) (fun _ _ _ h => h) (Or.inl ⟨by rfl, ?y4_3⟩) (by assumption) ?r4_3
  case y4_3 => (intro w hSw; (try dsimp only at hSw); go_simp; try (with_reducible rfl))
  try simp only [Act.put, List.setIfInBounds_toArray, List.set_cons_zero, List.set_cons_succ]
  refine wpAnyH_take (i := 4) (oi := { dst := some 43, op := Go.Op.binOp Go.BinOp.eql 36 (Go.Operand.tmp 41) (Go.Operand.tmp 42) 36, type := 4, pos := "laws.go:1660", after := #[{ on := 2, ground := Go.Ground.data }, { on := 3, ground := Go.Ground.data }, { on := 1, ground := Go.Ground.guard }], guard := some (1, true) }) (v := ?v5_4) rfl (by kernel_rfl) (by kernel_rfl) (by kernel_rfl) (fun _ _ _ h => h) (Or.inl ⟨by rfl, ?y5_4⟩) (by assumption) ?r5_4
  case y5_4 => (intro w hSw; (try dsimp only at hSw); go_simp; try (with_reducible rfl))
  try simp only [Act.put, List.setIfInBounds_toArray, List.set_cons_zero, List.set_cons_succ]
  refine wpAnyH_take (i := 5) (oi := { dst := some 44, op := Go.Op.pick (Go.Operand.tmp 40) (Go.Operand.tmp 43) (Go.Operand.const (Go.Value.bool false)), type := 4, pos := "laws.go:1660", after := #[{ on := 1, ground := Go.Ground.data }, { on := 4, ground := Go.Ground.data }], guard := none }) (v := ?v6_5) rfl (by kernel_rfl) (by kernel_rfl) (by kernel_rfl) (fun _ _ _ h => h) (Or.inl ⟨by rfl, ?y6_5⟩) (by assumption) ?r6_5
  case y6_5 => (intro w hSw; (try dsimp only at hSw); go_simp; try (with_reducible rfl))
  try simp only [Act.put, List.setIfInBounds_toArray, List.set_cons_zero, List.set_cons_succ]
  refine wpAnyH_take (i := 6) (oi := { dst := some 45, op := Go.Op.move (Go.Operand.tmp 44), type := 4, pos := "laws.go:1660", after := #[{ on := 5, ground := Go.Ground.data }, { on := 1, ground := Go.Ground.chain }], guard := none }) (v := ?v7_6) rfl (by kernel_rfl) (by kernel_rfl) (by kernel_rfl) (fun _ _ _ h => h) (Or.inl ⟨by rfl, ?y7_6⟩) (by assumption) ?r7_6
  case y7_6 => (intro w hSw; (try dsimp only at hSw); go_simp; try (with_reducible rfl))
  try simp only [Act.put, List.setIfInBounds_toArray, List.set_cons_zero, List.set_cons_succ]
  refine wpAnyH_take (i := 7) (oi := { dst := some 46, op := Go.Op.move (Go.Operand.tmp 6), type := 3, pos := "laws.go:1660", after := #[{ on := 6, ground := Go.Ground.guard }], guard := some (6, true) }) (v := ?v8_7) rfl (by kernel_rfl) (by kernel_rfl) (by kernel_rfl) (fun _ _ _ h => h) (Or.inl ⟨by rfl, ?y8_7⟩) (by assumption) ?r8_7
  case y8_7 => (intro w hSw; (try dsimp only at hSw); go_simp; try (with_reducible rfl))
  try simp only [Act.put, List.setIfInBounds_toArray, List.set_cons_zero, List.set_cons_succ]
  refine wpAnyH_take (i := 8) (oi := { dst := some 47, op := Go.Op.fieldAddr 34 (Go.Operand.tmp 4) 0, type := 0, pos := "laws.go:1660", after := #[{ on := 6, ground := Go.Ground.guard }], guard := some (6, true) }) (v := ?v9_8) rfl (by kernel_rfl) (by kernel_rfl) (by kernel_rfl) (fun _ _ _ h => h) (Or.inl ⟨by rfl, ?y9_8⟩) (by assumption) ?r9_8
  case y9_8 => (intro w hSw; (try dsimp only at hSw); go_simp; try (with_reducible rfl))
  try simp only [Act.put, List.setIfInBounds_toArray, List.set_cons_zero, List.set_cons_succ]
  refine wpAnyH_take (i := 9) (oi := { dst := some 48, op := Go.Op.load 23 (Go.Operand.tmp 47), type := 23, pos := "laws.go:1660", after := #[{ on := 8, ground := Go.Ground.data }, { on := 6, ground := Go.Ground.guard }], guard := some (6, true) }) (v := ?v10_9) rfl (by kernel_rfl) (by kernel_rfl) (by kernel_rfl) (fun _ _ _ h => h) (Or.inl ⟨by rfl, ?y10_9⟩) (by assumption) ?r10_9
  case y10_9 => (intro w hSw; (try dsimp only at hSw); go_simp; try (with_reducible rfl))
  try simp only [Act.put, List.setIfInBounds_toArray, List.set_cons_zero, List.set_cons_succ]
  refine wpAnyH_take (i := 10) (oi := { dst := some 49, op := Go.Op.fieldAddr 36 (Go.Operand.tmp 5) 0, type := 0, pos := "laws.go:1660", after := #[{ on := 6, ground := Go.Ground.guard }], guard := some (6, true) }) (v := ?v11_10) rfl (by kernel_rfl) (by kernel_rfl) (by kernel_rfl) (fun _ _ _ h => h) (Or.inl ⟨by rfl, ?y11_10⟩) (by assumption) ?r11_10
  case y11_10 => (intro w hSw; (try dsimp only at hSw); go_simp; try (with_reducible rfl))
  try simp only [Act.put, List.setIfInBounds_toArray, List.set_cons_zero, List.set_cons_succ]
  refine wpAnyH_take (i := 11) (oi := { dst := some 50, op := Go.Op.load 3 (Go.Operand.tmp 49), type := 3, pos := "laws.go:1660", after := #[{ on := 10, ground := Go.Ground.data }, { on := 6, ground := Go.Ground.guard }], guard := some (6, true) }) (v := ?v12_11) rfl (by kernel_rfl) (by kernel_rfl) (by kernel_rfl) (fun _ _ _ h => h) (Or.inl ⟨by rfl, ?y12_11⟩) (by assumption) ?r12_11
  case y12_11 => (intro w hSw; (try dsimp only at hSw); go_simp; try (with_reducible rfl))
  try simp only [Act.put, List.setIfInBounds_toArray, List.set_cons_zero, List.set_cons_succ]
  refine wpAnyH_take (i := 12) (oi := { dst := some 51, op := Go.Op.indexAddr 23 (Go.Operand.tmp 48) (Go.Operand.tmp 50), type := 0, pos := "laws.go:1660", after := #[{ on := 9, ground := Go.Ground.data }, { on := 11, ground := Go.Ground.data }, { on := 6, ground := Go.Ground.guard }], guard := some (6, true) }) (v := ?v13_12) rfl (by kernel_rfl) (by kernel_rfl) (by kernel_rfl) (fun _ _ _ h => h) (Or.inl ⟨by rfl, ?y13_12⟩) (by assumption) ?r13_12
  case y13_12 => (intro w hSw; (try dsimp only at hSw); go_simp; try (with_reducible rfl))
  try simp only [Act.put, List.setIfInBounds_toArray, List.set_cons_zero, List.set_cons_succ]
  refine wpAnyH_take (i := 13) (oi := { dst := some 52, op := Go.Op.load 3 (Go.Operand.tmp 51), type := 3, pos := "laws.go:1660", after := #[{ on := 12, ground := Go.Ground.data }, { on := 6, ground := Go.Ground.guard }], guard := some (6, true) }) (v := ?v14_13) rfl (by kernel_rfl) (by kernel_rfl) (by kernel_rfl) (fun _ _ _ h => h) (Or.inl ⟨by rfl, ?y14_13⟩) (by assumption) ?r14_13
  case y14_13 => (intro w hSw; (try dsimp only at hSw); go_simp; try (with_reducible rfl))
  try simp only [Act.put, List.setIfInBounds_toArray, List.set_cons_zero, List.set_cons_succ]
  refine wpAnyH_take (i := 14) (oi := { dst := some 53, op := Go.Op.fieldAddr 36 (Go.Operand.tmp 5) 1, type := 0, pos := "laws.go:1660", after := #[{ on := 6, ground := Go.Ground.guard }], guard := some (6, true) }) (v := ?v15_14) rfl (by kernel_rfl) (by kernel_rfl) (by kernel_rfl) (fun _ _ _ h => h) (Or.inl ⟨by rfl, ?y15_14⟩) (by assumption) ?r15_14
  case y15_14 => (intro w hSw; (try dsimp only at hSw); go_simp; try (with_reducible rfl))
  try simp only [Act.put, List.setIfInBounds_toArray, List.set_cons_zero, List.set_cons_succ]
  refine wpAnyH_take (i := 15) (oi := { dst := some 54, op := Go.Op.load 3 (Go.Operand.tmp 53), type := 3, pos := "laws.go:1660", after := #[{ on := 14, ground := Go.Ground.data }, { on := 6, ground := Go.Ground.guard }], guard := some (6, true) }) (v := ?v16_15) rfl (by kernel_rfl) (by kernel_rfl) (by kernel_rfl) (fun _ _ _ h => h) (Or.inl ⟨by rfl, ?y16_15⟩) (by assumption) ?r16_15
  case y16_15 => (intro w hSw; (try dsimp only at hSw); go_simp; try (with_reducible rfl))
  try simp only [Act.put, List.setIfInBounds_toArray, List.set_cons_zero, List.set_cons_succ]
  refine wpAnyH_take (i := 16) (oi := { dst := some 55, op := Go.Op.binOp Go.BinOp.add 3 (Go.Operand.tmp 52) (Go.Operand.tmp 54) 3, type := 3, pos := "laws.go:1660", after := #[{ on := 13, ground := Go.Ground.data }, { on := 15, ground := Go.Ground.data }, { on := 6, ground := Go.Ground.guard }], guard := some (6, true) }) (v := ?v17_16) rfl (by kernel_rfl) (by kernel_rfl) (by kernel_rfl) (fun _ _ _ h => h) (Or.inl ⟨by rfl, ?y17_16⟩) (by assumption) ?r17_16
  case y17_16 => (intro w hSw; (try dsimp only at hSw); go_simp; try (with_reducible rfl))
  try simp only [Act.put, List.setIfInBounds_toArray, List.set_cons_zero, List.set_cons_succ]
  refine wpAnyH_take (i := 17) (oi := { dst := some 56, op := Go.Op.binOp Go.BinOp.eql 3 (Go.Operand.tmp 46) (Go.Operand.tmp 55) 3, type := 4, pos := "laws.go:1660", after := #[{ on := 7, ground := Go.Ground.data }, { on := 16, ground := Go.Ground.data }, { on := 6, ground := Go.Ground.guard }], guard := some (6, true) }) (v := ?v18_17) rfl (by kernel_rfl) (by kernel_rfl) (by kernel_rfl) (fun _ _ _ h => h) (Or.inl ⟨by rfl, ?y18_17⟩) (by assumption) ?r18_17
  case y18_17 => (intro w hSw; (try dsimp only at hSw); go_simp; try (with_reducible rfl))
  try simp only [Act.put, List.setIfInBounds_toArray, List.set_cons_zero, List.set_cons_succ]
  refine wpAnyH_take (i := 18) (oi := { dst := some 57, op := Go.Op.pick (Go.Operand.tmp 45) (Go.Operand.tmp 56) (Go.Operand.const (Go.Value.bool false)), type := 4, pos := "laws.go:1660", after := #[{ on := 6, ground := Go.Ground.data }, { on := 17, ground := Go.Ground.data }], guard := none }) (v := ?v19_18) rfl (by kernel_rfl) (by kernel_rfl) (by kernel_rfl) (fun _ _ _ h => h) (Or.inl ⟨by rfl, ?y19_18⟩) (by assumption) ?r19_18
  case y19_18 => (intro w hSw; (try dsimp only at hSw); go_simp; try (with_reducible rfl))
  try simp only [Act.put, List.setIfInBounds_toArray, List.set_cons_zero, List.set_cons_succ]
  refine wpAnyH_take (i := 19) (oi := { dst := some 58, op := Go.Op.move (Go.Operand.tmp 57), type := 4, pos := "laws.go:1660", after := #[{ on := 18, ground := Go.Ground.data }, { on := 6, ground := Go.Ground.chain }], guard := none }) (v := ?v20_19) rfl (by kernel_rfl) (by kernel_rfl) (by kernel_rfl) (fun _ _ _ h => h) (Or.inl ⟨by rfl, ?y20_19⟩) (by assumption) ?r20_19
  case y20_19 => (intro w hSw; (try dsimp only at hSw); go_simp; try (with_reducible rfl))
  try simp only [Act.put, List.setIfInBounds_toArray, List.set_cons_zero, List.set_cons_succ]
  refine wpAnyH_take (i := 20) (oi := { dst := some 59, op := Go.Op.move (Go.Operand.tmp 6), type := 3, pos := "laws.go:1660", after := #[{ on := 19, ground := Go.Ground.guard }], guard := some (19, true) }) (v := ?v21_20) rfl (by kernel_rfl) (by kernel_rfl) (by kernel_rfl) (fun _ _ _ h => h) (Or.inl ⟨by rfl, ?y21_20⟩) (by assumption) ?r21_20
  case y21_20 => (intro w hSw; (try dsimp only at hSw); go_simp; try (with_reducible rfl))
  try simp only [Act.put, List.setIfInBounds_toArray, List.set_cons_zero, List.set_cons_succ]
  refine wpAnyH_take (i := 21) (oi := { dst := some 60, op := Go.Op.move (Go.Operand.tmp 3), type := 32, pos := "laws.go:1660", after := #[{ on := 19, ground := Go.Ground.guard }], guard := some (19, true) }) (v := ?v22_21) rfl (by kernel_rfl) (by kernel_rfl) (by kernel_rfl) (fun _ _ _ h => h) (Or.inl ⟨by rfl, ?y22_21⟩) (by assumption) ?r22_21
  case y22_21 => (intro w hSw; (try dsimp only at hSw); go_simp; try (with_reducible rfl))
  try simp only [Act.put, List.setIfInBounds_toArray, List.set_cons_zero, List.set_cons_succ]
  refine wpAnyH_take (i := 22) (oi := { dst := some 61, op := Go.Op.load 34 (Go.Operand.tmp 4), type := 34, pos := "laws.go:1660", after := #[{ on := 19, ground := Go.Ground.guard }], guard := some (19, true) }) (v := ?v23_22) rfl (by kernel_rfl) (by kernel_rfl) (by kernel_rfl) (fun _ _ _ h => h) (Or.inl ⟨by rfl, ?y23_22⟩) (by assumption) ?r23_22
  case y23_22 => (intro w hSw; (try dsimp only at hSw); go_simp; try (with_reducible rfl))
  try simp only [Act.put, List.setIfInBounds_toArray, List.set_cons_zero, List.set_cons_succ]
  refine wpAnyH_ready (rs := [23]) (by kernel_rfl) (by simp) ?_
  refine AllReadyH.cons (o := { dst := some 62, op := Go.Op.call { callee := Go.Callee.value (Go.Operand.func 25), args := #[Go.Operand.tmp 60, Go.Operand.tmp 61], argTypes := #[32, 34] }, type := 3, pos := "laws.go:1660", after := #[{ on := 21, ground := Go.Ground.data }, { on := 22, ground := Go.Ground.data }, { on := 19, ground := Go.Ground.chain }, { on := 19, ground := Go.Ground.guard }], guard := some (19, true) }) rfl (fun K hK => ?_) AllReadyH.nil
  go_simp
  go_at_call 25
  refine (unhide HLS _ hHeld.2.2.2.2.2.2.2.1 hHeld.2.2.2.2.2.2.2.2.1 hHeld.2.2.2.2.2.2.2.2.2.1).mono ?_
  rintro e w5 ⟨rfl, hbk⟩
  replace hHeld := (unhide HST).1 _ _ hbk hHeld
  clear hbk
  go_wp2_with fail
  refine hK.out _ _ hHeld (fun _ => ?_)
  clear hK K
  try simp only [Act.put, List.setIfInBounds_toArray, List.set_cons_zero, List.set_cons_succ]
  refine wpAnyH_take (i := 24) (oi := { dst := some 63, op := Go.Op.binOp Go.BinOp.lss 3 (Go.Operand.tmp 59) (Go.Operand.tmp 62) 3, type := 4, pos := "laws.go:1660", after := #[{ on := 20, ground := Go.Ground.data }, { on := 23, ground := Go.Ground.data }, { on := 19, ground := Go.Ground.guard }], guard := some (19, true) }) (v := ?v24_24) rfl (by kernel_rfl) (by kernel_rfl) (by kernel_rfl) (fun _ _ _ h => h) (Or.inl ⟨by rfl, ?y24_24⟩) (by assumption) ?r24_24
  case y24_24 => (intro w hSw; (try dsimp only at hSw); go_simp; try (with_reducible rfl))
  try simp only [Act.put, List.setIfInBounds_toArray, List.set_cons_zero, List.set_cons_succ]
  refine wpAnyH_take (i := 25) (oi := { dst := some 64, op := Go.Op.pick (Go.Operand.tmp 58) (Go.Operand.tmp 63) (Go.Operand.const (Go.Value.bool false)), type := 4, pos := "laws.go:1660", after := #[{ on := 19, ground := Go.Ground.data }, { on := 24, ground := Go.Ground.data }], guard := none }) (v := ?v25_25) rfl (by kernel_rfl) (by kernel_rfl) (by kernel_rfl) (fun _ _ _ h => h) (Or.inl ⟨by rfl, ?y25_25⟩) (by assumption) ?r25_25
  case y25_25 => (intro w hSw; (try dsimp only at hSw); go_simp; try (with_reducible rfl))
  try simp only [Act.put, List.setIfInBounds_toArray, List.set_cons_zero, List.set_cons_succ]
  refine wpAnyH_take (i := 26) (oi := { dst := some 2, op := Go.Op.assign (Go.Operand.tmp 64), type := 4, pos := "laws.go:1660", after := #[{ on := 25, ground := Go.Ground.data }, { on := 23, ground := Go.Ground.chain }, { on := 0, ground := Go.Ground.phase }, { on := 1, ground := Go.Ground.phase }, { on := 2, ground := Go.Ground.phase }, { on := 3, ground := Go.Ground.phase }, { on := 4, ground := Go.Ground.phase }, { on := 5, ground := Go.Ground.phase }, { on := 6, ground := Go.Ground.phase }, { on := 7, ground := Go.Ground.phase }, { on := 8, ground := Go.Ground.phase }, { on := 9, ground := Go.Ground.phase }, { on := 10, ground := Go.Ground.phase }, { on := 11, ground := Go.Ground.phase }, { on := 12, ground := Go.Ground.phase }, { on := 13, ground := Go.Ground.phase }, { on := 14, ground := Go.Ground.phase }, { on := 15, ground := Go.Ground.phase }, { on := 16, ground := Go.Ground.phase }, { on := 17, ground := Go.Ground.phase }, { on := 18, ground := Go.Ground.phase }, { on := 19, ground := Go.Ground.phase }, { on := 20, ground := Go.Ground.phase }, { on := 21, ground := Go.Ground.phase }, { on := 22, ground := Go.Ground.phase }, { on := 23, ground := Go.Ground.phase }, { on := 24, ground := Go.Ground.phase }, { on := 25, ground := Go.Ground.phase }], guard := none }) (v := ?v26_26) rfl (by kernel_rfl) (by kernel_rfl) (by kernel_rfl) (fun _ _ _ h => h) (Or.inl ⟨by rfl, ?y26_26⟩) (by assumption) ?r26_26
  case y26_26 => (intro w hSw; (try dsimp only at hSw); go_simp; try (with_reducible rfl))
  try simp only [Act.put, List.setIfInBounds_toArray, List.set_cons_zero, List.set_cons_succ]
  refine wpAnyH_done (by kernel_rfl) ?_ _
  have hB9 := hHeld.2.2.2.2.2.2.2.2.2.2
  clear hHeld
  go_wp2_with fail
  go_ret
  exact ⟨rfl, hB9⟩

set_option maxRecDepth 100000 in
theorem lifted (os : Os) (started : os.Started) (H : Type) (enc : TypeId × Value → H) :
    ReturnsInHanded {} Try.checked os 5 .any (Rows.fnMapAtSpec.pre6 enc Try.prog Try.f5 Rows.fnMapAtRow.domain false) (Rows.fnMapAtSpec.post enc Try.prog Try.f5 false true false false) := by
  refine returnsInHanded_of_change (C := Try.checked) own started (by kernel_rfl) Try.func5
    (ChangeSpec.witness6 (enc := enc) (C := Try.checked) false ⟨#[], #[.slice none 0 0], []⟩ 8 (by kernel_rfl) (by kernel_rfl) (by kernel_rfl) (by kernel_rfl)) ?_
  intro W base args ds gs before hval0 hW hcnd _
  have hval : ∀ (j : Nat) t v, Try.f5.params[j]? = some t → args[j]? = some v → Value.okWide Try.prog W .any base t v := hval0
  have hW' := hW
  obtain ⟨p, q, hA0, hV, rfl, hfz, hnd⟩ := hW
  have hA : DataW.TrodAll enc Try.prog W 0 (fun _ => true) true Try.f5.params.toList args.toList ds p := hA0
  rw [Try.params5] at hA hval
  obtain ⟨v0, vs0, d0, ds0, p0, q0, hargs, rfl, rfl, h0, r0⟩ := trodAll_cons hA
  obtain ⟨rfl, rfl, rfl⟩ := trodAll_nil r0
  obtain rfl : args = #[v0] := by cases args; simp_all
  obtain ⟨rfl, rfl⟩ := trodVars_none hV
  have k0 := h0
  have lt0 : ∀ x ∈ p0, x.block < W.heap.size := by obtain ⟨m, hm⟩ := k0; exact DataW.trod_lt m _ _ _ hm
  obtain ⟨a0, len0, cap0, hv0⟩ := okWide_slice Try.underlying45 (hval 0 45 v0 rfl rfl)
  obtain ⟨z0, w0⟩ : ∃ zs, IsRow .u8 W a0 len0 cap0 zs := by
    subst hv0
    obtain ⟨fuel, hf⟩ := h0
    rcases open_ints Try.underlying45 Try.underlying5 (by kernel_rfl) hf with ⟨hcs, _⟩ | ⟨x, l, c, zs, hcs, _, hl, hm, hz, _, hcell, hwz⟩
    · simp [Value.cells] at hcs
      obtain ⟨rfl, rfl, rfl⟩ := hcs
      exact ⟨[], .inl ⟨rfl, rfl, rfl, rfl⟩⟩
    · simp [Value.cells] at hcs
      obtain ⟨rfl, rfl, rfl⟩ := hcs
      exact ⟨zs, .inr ⟨_, rfl, hl, hm, by simpa using hz, hcell, hwz⟩⟩
  clear hA0 hval0
  subst hv0
  refine (walk a0 len0 cap0 z0 W w0).mono fun e W' ⟨he, bel⟩ => ?_
  subst he
  exact ⟨_, rfl, _, _, _, [], _, [], hW', trodAll_mk1 (shut_bool Try.underlying4 _), (trodAll_cons_mk (Below.trod laidOut (by kernel_rfl) (of_decide_eq_true (by kernel_rfl)) k0 bel lt0) trodAll_mk0), rfl, bel.frame _, fun h => by cases h⟩

theorem proved : Rows.FnMapAtSaid :=
  OpenClaim.holds_of_wide 5 Try.f5 rfl rfl rfl rfl rfl rfl rfl ⟨rfl, rfl, rfl, rfl, rfl⟩ rfl rfl rfl rfl rfl (by kernel_rfl) Try.func5 (by kernel_rfl)
    (of_decide_eq_true (by kernel_rfl)) (by unfold Func.isWrapper; first | (rw [if_pos (by decide +kernel)]; kernel_rfl) | (rw [if_neg (by decide +kernel)]; exact ⟨rfl, rfl⟩))
    (fun os started H enc _ => lifted os started H enc)
#print axioms proved
end Go.Proofs.Ytjbhbkkkjdpamaa.fnMapAt
