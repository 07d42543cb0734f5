/- For every slice of bytes the law FnGraphLeaf answers true, and the bytes read afterwards as they did. No condition. -/
import Derived.Test.YtnmgeaonhbhbkaaPk3b7a8e77
import Derived.WalkKit
import Derived.ProofKit
import Derived.OpenShut
import Derived.ShutString
import Derived.ChangeOld
import Derived.Below
import Derived.Lib.SmallJoins
import Derived.BigQuiet
import Derived.Deep.QuietTactic
import Derived.Deep.RegionHeld3
import Derived.Test.YtnmgeaonhbhbkaaFuns
import Derived.Test.YtnmgeaonhbhbkaaOpen
import Derived.Test.YtnmgeaonhbhbkaaFunS
import Derived.Test.YtnmgeaonhbhbkaaPk0031b0a3
import Derived.Test.YtnmgeaonhbhbkaaRefs
import Derived.Test.YtnmgeaonhbhbkaaWantsL
import Derived.Test.YtnmgeaonhbhbkaaWantsI
import Derived.Test.YtnmgeaonhbhbkaaRd
import Derived.Test.YtnmgeaonhbhbkaaDrawIns
import Derived.Test.YtnmgeaonhbhbkaaKeepA
import Derived.Test.YtnmgeaonhbhbkaaKeepD
import Derived.Test.YtnmgeaonhbhbkaaPkc9ed0e7a
import Derived.Test.YtnmgeaonhbhbkaaKeepT
import Derived.Test.YtnmgeaonhbhbkaaPk03ef5724
import Derived.Test.YtnmgeaonhbhbkaaGraphD
import Derived.Test.YtnmgeaonhbhbkaaGraphS
import Derived.Test.YtnmgeaonhbhbkaaGraphT
import Derived.Test.YtnmgeaonhbhbkaaGraphL
import Derived.Test.YtnmgeaonhbhbkaaGraphM
import Derived.Test.YtnmgeaonhbhbkaaDrawP
import Derived.Test.YtnmgeaonhbhbkaaDrawR
import Derived.Test.YtnmgeaonhbhbkaaPke528171d
namespace Go.Proofs.Ytnmgeaonhbhbkaa.fnGraphLeaf
open Go.ChangeShapes Go.WideShapes Go.ChangeAt Go.RowKit Go.Joins
open Go.ChangeMaps (open_string shut_string)
open Go.Proofs.Ytnmgeaonhbhbkaa.Base
open Go.Proofs.Ytnmgeaonhbhbkaa.Funs
open Go.Proofs.Ytnmgeaonhbhbkaa.Open
open Go.Proofs.Ytnmgeaonhbhbkaa.FunS
open Go.Proofs.Ytnmgeaonhbhbkaa.Keep
open Go.Proofs.Ytnmgeaonhbhbkaa.UnitS
open Go.Proofs.Ytnmgeaonhbhbkaa.Refs
open Go.Proofs.Ytnmgeaonhbhbkaa.WantsL
open Go.Proofs.Ytnmgeaonhbhbkaa.WantsI
open Go.Proofs.Ytnmgeaonhbhbkaa.Rd
open Go.Proofs.Ytnmgeaonhbhbkaa.DrawIns
open Go.Proofs.Ytnmgeaonhbhbkaa.KeepA
open Go.Proofs.Ytnmgeaonhbhbkaa.KeepD
open Go.Proofs.Ytnmgeaonhbhbkaa.KeepR
open Go.Proofs.Ytnmgeaonhbhbkaa.KeepI
open Go.Proofs.Ytnmgeaonhbhbkaa.KeepT
open Go.Proofs.Ytnmgeaonhbhbkaa.KeepU
open Go.Proofs.Ytnmgeaonhbhbkaa.GraphD
open Go.Proofs.Ytnmgeaonhbhbkaa.GraphS
open Go.Proofs.Ytnmgeaonhbhbkaa.GraphT
open Go.Proofs.Ytnmgeaonhbhbkaa.GraphL
open Go.Proofs.Ytnmgeaonhbhbkaa.GraphM
open Go.Proofs.Ytnmgeaonhbhbkaa.GraphU
open Go.Proofs.Ytnmgeaonhbhbkaa.DrawP
open Go.Proofs.Ytnmgeaonhbhbkaa.DrawR
open Go.Proofs.Ytnmgeaonhbhbkaa.DrawS
open Go.Proofs.Ytnmgeaonhbhbkaa.DrawG
set_option linter.unusedVariables false
set_option maxRecDepth 100000
theorem own : ownKnob Try.prog.godebug = none := by kernel_rfl
theorem laidOut : laidOutB Try.prog = true := by kernel_rfl

theorem str_cells {w : World} {a : Option Addr} {c : Nat} {ss : List ByteArray} (h : StrAt w (.slice a ss.length c) ss) (h0 : 0 < ss.length) : ∃ b o, a = some ⟨b, o, none⟩ ∧ ∀ w', Below w.heap.size w w' → ∀ i (hi : i < ss.length), w'.cell? ⟨b, o + i, none⟩ = some (.string ss[i]) := by
  obtain ⟨b, o, e, hc⟩ := str_read h rfl h0
  exact ⟨b, o, e, fun w' hb i hi => (Stable.cell _ _).1 _ _ hb (hc i hi)⟩
def leafP (f : FunD) : Bool := decide ((refsOf f.body).length = 0)
theorem leafP_iff (f : FunD) : leafP f = true ↔ LeafP f := by
  unfold leafP LeafP
  rw [decide_eq_true_iff, List.length_eq_zero_iff]
set_option maxHeartbeats 8000000 in
theorem walk (a : Option Addr) (len cap : Nat) (zs : List Int) (W : World) (hrow : IsRow .u8 W a len cap zs) :
    Calls Try.prog 7 #[.slice a len cap] W fun e w' => e = .returned (.bool true) ∧ Below W.heap.size W w' := by
  obtain ⟨hl, hm, hb⟩ := isRow_bytes hrow
  by_cases hlt : (1048576 : Int) < len
  · go_enter Try.func7, Try.ntmps7
    go_wp2
    go_ret
    exact ⟨rfl, Below.refl _ _⟩
  have Hb := hide hb
  clear hb hrow
  go_enter Try.func7, Try.ntmps7
  go_wp2_with fail
  refine (drawGraphLeaf_any _ _ _ _ hl hm (unhide Hb)).mono ?_
  rintro e w1 ⟨b, c, fs, rfl, _, h1, h2, h42, hrow, hb1⟩
  have HR := hide hrow
  have HZ := hide hrow.sizes
  have hlen : (fs.length : Int) ≤ 9223372036854775807 := by omega
  clear hrow
  go_wp2_with fail
  refine (implLeaf_any b c fs _ h1 h2 (unhide HR)).mono ?_
  rintro e w2 ⟨lv, out, rfl, hN2, hol, hO2, hb2⟩
  have HN := hide hN2
  have HO2 := hide hO2.at
  have hB2 := bl_trans hb1 hb2
  have HR2 := hide ((unhide HR).below hb2)
  obtain ⟨la, lc, e2, _⟩ := hO2.at
  subst e2
  clear hN2 hO2 hb1 hb2 HR
  go_wp2_with fail
  refine (specLeaf_any b c fs _ h1 h2 (unhide HR2)).mono ?_
  rintro e w3 ⟨vv, out', rfl, hN3, _, hO3, hb3⟩
  obtain rfl := gn_one (unhide HN) hN3
  have HP3 := hide hO3.at
  obtain ⟨va, vc, e3, _⟩ := hO3.at
  subst e3
  have hB3 := bl_trans hB2 hb3
  have HR3 := hide ((unhide HR2).below hb3)
  have HO3 := hide ((unhide HO2).below hb3)
  clear hN3 hO3 hb3 hB2 HR2 HO2
  go_wp2_with fail
  refine (implBack_any b c fs _ h1 h2 (unhide HR3)).mono ?_
  rintro e w4 ⟨bv, ob, rfl, hN4, _, hO4, hb4⟩
  have HNB := hide hN4
  have HQ4 := hide hO4.at
  have hB4 := bl_trans hB3 hb4
  have HR4 := hide ((unhide HR3).below hb4)
  have HO4 := hide ((unhide HO3).below hb4)
  have HP4 := hide ((unhide HP3).below hb4)
  clear hN4 hO4 hb4 hB3 HR3 HO3 HP3
  go_wp2_with fail
  go_loopw [7] (fun i w' => ∃ (k : Nat), k ≤ out.length ∧ i = .int .i64 k ∧ Below w4.heap.size w4 w') (fun i _ => out.length - (intOf i).toNat)
  case atStart => exact ⟨0, Nat.zero_le _, rfl, Below.refl _ _⟩
  case round =>
    obtain ⟨k, hk, rfl, hB⟩ := hrel
    by_cases hkl : k < out.length
    · have hkl' : (k : Int) < (out.length : Int) := by omega
      obtain ⟨hok, f, hf, hlf, hft⟩ := gn_get (unhide HN) hkl
      obtain ⟨lb, lo, rfl, hlc⟩ := str_cells (unhide HO4) (by omega)
      obtain ⟨vb, vo, rfl, hvc⟩ := str_cells (unhide HP4) (by omega)
      have d0 := hlc _ hB k hkl
      have HL5 := hide (fun w' (hb : Below w4.heap.size w4 w') => And.intro (hlc w' hb k hkl) (hvc w' hb k hkl))
      have HONE : Hid (∀ o, RN fs out[k] o → o = [out[k]]) := fun o ho => by rw [← hft] at ho ⊢; exact leaf_reach hok hf hlf ho
      have hno : hasB ob out[k] = false := by rw [← hft]; exact gn_not (unhide HNB) hf (leaf_back hlf)
      have hts : out[k].size ≤ maxLen := by rw [← hft]; exact (unhide HZ f hf).1
      clear hlc hvc hok hf hlf hft
      generalize out[k] = t at *
      go_wp2_with fail
      refine (implKeepReach_any b c fs t _ hts h1 h2 ((unhide HR4).below hB)).mono ?_
      rintro e w5 ⟨rv, o, rfl, hN5, _, hO5, hb5⟩
      obtain rfl := unhide HONE o hN5
      obtain ⟨ra, rc, e5, _⟩ := hO5.at
      subst e5
      obtain ⟨rb, ro, rfl, hrc⟩ := str_read hO5.at rfl (by simp)
      have r0 := hrc 0 (by simp)
      have hB5 := bl_trans hB hb5
      obtain ⟨l5, v5⟩ := unhide HL5 _ hB5
      have HS0 : Hid ((fun w' => w'.cell? ⟨lb, lo + k, none⟩ = some (.string t) ∧ w'.cell? ⟨vb, vo + k, none⟩ = some (.string t) ∧ w'.cell? ⟨rb, ro, none⟩ = some (.string t) ∧ StrAt w' bv ob ∧ Below w4.heap.size w4 w') w5) := ⟨l5, v5, r0, (unhide HQ4).below hB5, hB5⟩
      have HSA : Hid (Stable (fun w' => w'.cell? ⟨lb, lo + k, none⟩ = some (.string t) ∧ w'.cell? ⟨vb, vo + k, none⟩ = some (.string t) ∧ w'.cell? ⟨rb, ro, none⟩ = some (.string t) ∧ StrAt w' bv ob ∧ Below w4.heap.size w4 w')) := (Stable.cell _ _).and ((Stable.cell _ _).and ((Stable.cell _ _).and ((Stable.strAt _ _).and (Stable.below w4))))
      clear hN5 hO5 hb5 hrc r0 l5 v5 d0 HONE HL5 hB
      have hk0 : (0 : Int) ≤ (k : Int) := by omega
      go_wp2_with fail
      refine wp_region_held_drew (S := (fun w' => w'.cell? ⟨lb, lo + k, none⟩ = some (.string t) ∧ w'.cell? ⟨vb, vo + k, none⟩ = some (.string t) ∧ w'.cell? ⟨rb, ro, none⟩ = some (.string t) ∧ StrAt w' bv ob ∧ Below w4.heap.size w4 w')) (by kernel_rfl) ((unhide HSA).2 _ (unhide HS0)) (fun hHeld => ?_)
      refine wpAnyH_take (i := 0) (oi := { dst := some 39, op := Go.Op.move (Go.Operand.tmp 4), type := 35, pos := "laws.go:1065", after := #[], guard := none }) (v := ?vg0) rfl (by kernel_rfl) (by kernel_rfl) (by kernel_rfl) (fun _ _ _ h => h) (Or.inl ⟨by rfl, ?yg0⟩) (by assumption) ?rg0
      case yg0 => (intro w hSw; (try dsimp only at hSw); go_simp; try (with_reducible rfl))
      try simp only [Act.put, List.setIfInBounds_toArray, List.set_cons_zero, List.set_cons_succ]
      refine wpAnyH_take (i := 1) (oi := { dst := some 40, op := Go.Op.move (Go.Operand.tmp 7), type := 3, pos := "laws.go:1065", after := #[], guard := none }) (v := ?vg1) rfl (by kernel_rfl) (by kernel_rfl) (by kernel_rfl) (fun _ _ _ h => h) (Or.inl ⟨by rfl, ?yg1⟩) (by assumption) ?rg1
      case yg1 => (intro w hSw; (try dsimp only at hSw); go_simp; try (with_reducible rfl))
      try simp only [Act.put, List.setIfInBounds_toArray, List.set_cons_zero, List.set_cons_succ]
      refine wpAnyH_take (i := 2) (oi := { dst := some 41, op := Go.Op.indexAddr 35 (Go.Operand.tmp 39) (Go.Operand.tmp 40), type := 0, pos := "laws.go:1065", after := #[{ on := 0, ground := Go.Ground.data }, { on := 1, ground := Go.Ground.data }], guard := none }) (v := ?vg2) rfl (by kernel_rfl) (by kernel_rfl) (by kernel_rfl) (fun _ _ _ h => h) (Or.inl ⟨by rfl, ?yg2⟩) (by assumption) ?rg2
      case yg2 => (intro w hSw; (try dsimp only at hSw); go_simp; try (with_reducible rfl))
      try simp only [Act.put, List.setIfInBounds_toArray, List.set_cons_zero, List.set_cons_succ]
      refine wpAnyH_take (i := 3) (oi := { dst := some 42, op := Go.Op.load 9 (Go.Operand.tmp 41), type := 9, pos := "laws.go:1065", after := #[{ on := 2, ground := Go.Ground.data }], guard := none }) (v := ?vg3) rfl (by kernel_rfl) (by kernel_rfl) (by kernel_rfl) (fun _ _ _ h => h) (Or.inl ⟨by rfl, ?yg3⟩) (by assumption) ?rg3
      case yg3 => (intro w hSw; (try dsimp only at hSw); go_simp; try (with_reducible rfl))
      try simp only [Act.put, List.setIfInBounds_toArray, List.set_cons_zero, List.set_cons_succ]
      refine wpAnyH_take (i := 4) (oi := { dst := some 43, op := Go.Op.move (Go.Operand.tmp 5), type := 35, pos := "laws.go:1065", after := #[], guard := none }) (v := ?vg4) rfl (by kernel_rfl) (by kernel_rfl) (by kernel_rfl) (fun _ _ _ h => h) (Or.inl ⟨by rfl, ?yg4⟩) (by assumption) ?rg4
      case yg4 => (intro w hSw; (try dsimp only at hSw); go_simp; try (with_reducible rfl))
      try simp only [Act.put, List.setIfInBounds_toArray, List.set_cons_zero, List.set_cons_succ]
      refine wpAnyH_take (i := 5) (oi := { dst := some 44, op := Go.Op.move (Go.Operand.tmp 7), type := 3, pos := "laws.go:1065", after := #[], guard := none }) (v := ?vg5) rfl (by kernel_rfl) (by kernel_rfl) (by kernel_rfl) (fun _ _ _ h => h) (Or.inl ⟨by rfl, ?yg5⟩) (by assumption) ?rg5
      case yg5 => (intro w hSw; (try dsimp only at hSw); go_simp; try (with_reducible rfl))
      try simp only [Act.put, List.setIfInBounds_toArray, List.set_cons_zero, List.set_cons_succ]
      refine wpAnyH_take (i := 6) (oi := { dst := some 45, op := Go.Op.indexAddr 35 (Go.Operand.tmp 43) (Go.Operand.tmp 44), type := 0, pos := "laws.go:1065", after := #[{ on := 4, ground := Go.Ground.data }, { on := 5, ground := Go.Ground.data }], guard := none }) (v := ?vg6) rfl (by kernel_rfl) (by kernel_rfl) (by kernel_rfl) (fun _ _ _ h => h) (Or.inl ⟨by rfl, ?yg6⟩) (by assumption) ?rg6
      case yg6 => (intro w hSw; (try dsimp only at hSw); go_simp; try (with_reducible rfl))
      try simp only [Act.put, List.setIfInBounds_toArray, List.set_cons_zero, List.set_cons_succ]
      refine wpAnyH_take (i := 7) (oi := { dst := some 46, op := Go.Op.load 9 (Go.Operand.tmp 45), type := 9, pos := "laws.go:1065", after := #[{ on := 6, ground := Go.Ground.data }], guard := none }) (v := ?vg7) rfl (by kernel_rfl) (by kernel_rfl) (by kernel_rfl) (fun _ _ _ h => h) (Or.inl ⟨by rfl, ?yg7⟩) (by assumption) ?rg7
      case yg7 => (intro w hSw; (try dsimp only at hSw); go_simp; try (with_reducible rfl))
      try simp only [Act.put, List.setIfInBounds_toArray, List.set_cons_zero, List.set_cons_succ]
      refine wpAnyH_take (i := 8) (oi := { dst := some 47, op := Go.Op.binOp Go.BinOp.neq 9 (Go.Operand.tmp 42) (Go.Operand.tmp 46) 9, type := 4, pos := "laws.go:1065", after := #[{ on := 3, ground := Go.Ground.data }, { on := 7, ground := Go.Ground.data }], guard := none }) (v := ?vg8) rfl (by kernel_rfl) (by kernel_rfl) (by kernel_rfl) (fun _ _ _ h => h) (Or.inl ⟨by rfl, ?yg8⟩) (by assumption) ?rg8
      case yg8 => (intro w hSw; (try dsimp only at hSw); go_simp; try (with_reducible rfl))
      try simp only [Act.put, List.setIfInBounds_toArray, List.set_cons_zero, List.set_cons_succ]
      refine wpAnyH_take (i := 9) (oi := { dst := some 48, op := Go.Op.move (Go.Operand.tmp 47), type := 4, pos := "laws.go:1065", after := #[{ on := 8, ground := Go.Ground.data }], guard := none }) (v := ?vg9) rfl (by kernel_rfl) (by kernel_rfl) (by kernel_rfl) (fun _ _ _ h => h) (Or.inl ⟨by rfl, ?yg9⟩) (by assumption) ?rg9
      case yg9 => (intro w hSw; (try dsimp only at hSw); go_simp; try (with_reducible rfl))
      try simp only [Act.put, List.setIfInBounds_toArray, List.set_cons_zero, List.set_cons_succ]
      refine wpAnyH_take (i := 10) (oi := { dst := some 49, op := Go.Op.move (Go.Operand.tmp 8), type := 35, pos := "laws.go:1065", after := #[{ on := 9, ground := Go.Ground.guard }], guard := some (9, false) }) (v := ?vg10) rfl (by kernel_rfl) (by kernel_rfl) (by kernel_rfl) (fun _ _ _ h => h) (Or.inl ⟨by rfl, ?yg10⟩) (by assumption) ?rg10
      case yg10 => (intro w hSw; (try dsimp only at hSw); go_simp; try (with_reducible rfl))
      try simp only [Act.put, List.setIfInBounds_toArray, List.set_cons_zero, List.set_cons_succ]
      refine wpAnyH_take (i := 11) (oi := { dst := some 50, op := Go.Op.call { callee := Go.Callee.builtin Go.Builtin.len, args := #[Go.Operand.tmp 49], argTypes := #[35] }, type := 3, pos := "laws.go:1065", after := #[{ on := 10, ground := Go.Ground.data }, { on := 9, ground := Go.Ground.guard }], guard := some (9, false) }) (v := ?vg11) rfl (by kernel_rfl) (by kernel_rfl) (by kernel_rfl) (fun _ _ _ h => h) (Or.inl ⟨by rfl, ?yg11⟩) (by assumption) ?rg11
      case yg11 => (intro w hSw; (try dsimp only at hSw); go_simp; try (with_reducible rfl))
      try simp only [Act.put, List.setIfInBounds_toArray, List.set_cons_zero, List.set_cons_succ]
      refine wpAnyH_take (i := 12) (oi := { dst := some 51, op := Go.Op.binOp Go.BinOp.neq 3 (Go.Operand.tmp 50) (Go.Operand.const (Go.Value.int Go.IntKind.i64 1)) 3, type := 4, pos := "laws.go:1065", after := #[{ on := 11, ground := Go.Ground.data }, { on := 9, ground := Go.Ground.guard }], guard := some (9, false) }) (v := ?vg12) rfl (by kernel_rfl) (by kernel_rfl) (by kernel_rfl) (fun _ _ _ h => h) (Or.inl ⟨by rfl, ?yg12⟩) (by assumption) ?rg12
      case yg12 => (intro w hSw; (try dsimp only at hSw); go_simp; try (with_reducible rfl))
      try simp only [Act.put, List.setIfInBounds_toArray, List.set_cons_zero, List.set_cons_succ]
      refine wpAnyH_take (i := 13) (oi := { dst := some 52, op := Go.Op.pick (Go.Operand.tmp 48) (Go.Operand.const (Go.Value.bool true)) (Go.Operand.tmp 51), type := 4, pos := "laws.go:1065", after := #[{ on := 9, ground := Go.Ground.data }, { on := 12, ground := Go.Ground.data }], guard := none }) (v := ?vg13) rfl (by kernel_rfl) (by kernel_rfl) (by kernel_rfl) (fun _ _ _ h => h) (Or.inl ⟨by rfl, ?yg13⟩) (by assumption) ?rg13
      case yg13 => (intro w hSw; (try dsimp only at hSw); go_simp; try (with_reducible rfl))
      try simp only [Act.put, List.setIfInBounds_toArray, List.set_cons_zero, List.set_cons_succ]
      refine wpAnyH_take (i := 14) (oi := { dst := some 53, op := Go.Op.move (Go.Operand.tmp 52), type := 4, pos := "laws.go:1065", after := #[{ on := 13, ground := Go.Ground.data }, { on := 9, ground := Go.Ground.chain }], guard := none }) (v := ?vg14) rfl (by kernel_rfl) (by kernel_rfl) (by kernel_rfl) (fun _ _ _ h => h) (Or.inl ⟨by rfl, ?yg14⟩) (by assumption) ?rg14
      case yg14 => (intro w hSw; (try dsimp only at hSw); go_simp; try (with_reducible rfl))
      try simp only [Act.put, List.setIfInBounds_toArray, List.set_cons_zero, List.set_cons_succ]
      refine wpAnyH_take (i := 15) (oi := { dst := some 54, op := Go.Op.move (Go.Operand.tmp 8), type := 35, pos := "laws.go:1065", after := #[{ on := 14, ground := Go.Ground.guard }], guard := some (14, false) }) (v := ?vg15) rfl (by kernel_rfl) (by kernel_rfl) (by kernel_rfl) (fun _ _ _ h => h) (Or.inl ⟨by rfl, ?yg15⟩) (by assumption) ?rg15
      case yg15 => (intro w hSw; (try dsimp only at hSw); go_simp; try (with_reducible rfl))
      try simp only [Act.put, List.setIfInBounds_toArray, List.set_cons_zero, List.set_cons_succ]
      refine wpAnyH_take (i := 16) (oi := { dst := some 55, op := Go.Op.indexAddr 35 (Go.Operand.tmp 54) (Go.Operand.const (Go.Value.int Go.IntKind.i64 0)), type := 0, pos := "laws.go:1065", after := #[{ on := 15, ground := Go.Ground.data }, { on := 14, ground := Go.Ground.guard }], guard := some (14, false) }) (v := ?vg16) rfl (by kernel_rfl) (by kernel_rfl) (by kernel_rfl) (fun _ _ _ h => h) (Or.inl ⟨by rfl, ?yg16⟩) (by assumption) ?rg16
      case yg16 => (intro w hSw; (try dsimp only at hSw); go_simp; try (with_reducible rfl))
      try simp only [Act.put, List.setIfInBounds_toArray, List.set_cons_zero, List.set_cons_succ]
      refine wpAnyH_take (i := 17) (oi := { dst := some 56, op := Go.Op.load 9 (Go.Operand.tmp 55), type := 9, pos := "laws.go:1065", after := #[{ on := 16, ground := Go.Ground.data }, { on := 14, ground := Go.Ground.guard }], guard := some (14, false) }) (v := ?vg17) rfl (by kernel_rfl) (by kernel_rfl) (by kernel_rfl) (fun _ _ _ h => h) (Or.inl ⟨by rfl, ?yg17⟩) (by assumption) ?rg17
      case yg17 => (intro w hSw; (try dsimp only at hSw); go_simp; try (with_reducible rfl))
      try simp only [Act.put, List.setIfInBounds_toArray, List.set_cons_zero, List.set_cons_succ]
      refine wpAnyH_take (i := 18) (oi := { dst := some 57, op := Go.Op.move (Go.Operand.tmp 4), type := 35, pos := "laws.go:1065", after := #[{ on := 14, ground := Go.Ground.guard }], guard := some (14, false) }) (v := ?vg18) rfl (by kernel_rfl) (by kernel_rfl) (by kernel_rfl) (fun _ _ _ h => h) (Or.inl ⟨by rfl, ?yg18⟩) (by assumption) ?rg18
      case yg18 => (intro w hSw; (try dsimp only at hSw); go_simp; try (with_reducible rfl))
      try simp only [Act.put, List.setIfInBounds_toArray, List.set_cons_zero, List.set_cons_succ]
      refine wpAnyH_take (i := 19) (oi := { dst := some 58, op := Go.Op.move (Go.Operand.tmp 7), type := 3, pos := "laws.go:1065", after := #[{ on := 14, ground := Go.Ground.guard }], guard := some (14, false) }) (v := ?vg19) rfl (by kernel_rfl) (by kernel_rfl) (by kernel_rfl) (fun _ _ _ h => h) (Or.inl ⟨by rfl, ?yg19⟩) (by assumption) ?rg19
      case yg19 => (intro w hSw; (try dsimp only at hSw); go_simp; try (with_reducible rfl))
      try simp only [Act.put, List.setIfInBounds_toArray, List.set_cons_zero, List.set_cons_succ]
      refine wpAnyH_take (i := 20) (oi := { dst := some 59, op := Go.Op.indexAddr 35 (Go.Operand.tmp 57) (Go.Operand.tmp 58), type := 0, pos := "laws.go:1065", after := #[{ on := 18, ground := Go.Ground.data }, { on := 19, ground := Go.Ground.data }, { on := 14, ground := Go.Ground.guard }], guard := some (14, false) }) (v := ?vg20) rfl (by kernel_rfl) (by kernel_rfl) (by kernel_rfl) (fun _ _ _ h => h) (Or.inl ⟨by rfl, ?yg20⟩) (by assumption) ?rg20
      case yg20 => (intro w hSw; (try dsimp only at hSw); go_simp; try (with_reducible rfl))
      try simp only [Act.put, List.setIfInBounds_toArray, List.set_cons_zero, List.set_cons_succ]
      refine wpAnyH_take (i := 21) (oi := { dst := some 60, op := Go.Op.load 9 (Go.Operand.tmp 59), type := 9, pos := "laws.go:1065", after := #[{ on := 20, ground := Go.Ground.data }, { on := 14, ground := Go.Ground.guard }], guard := some (14, false) }) (v := ?vg21) rfl (by kernel_rfl) (by kernel_rfl) (by kernel_rfl) (fun _ _ _ h => h) (Or.inl ⟨by rfl, ?yg21⟩) (by assumption) ?rg21
      case yg21 => (intro w hSw; (try dsimp only at hSw); go_simp; try (with_reducible rfl))
      try simp only [Act.put, List.setIfInBounds_toArray, List.set_cons_zero, List.set_cons_succ]
      refine wpAnyH_take (i := 22) (oi := { dst := some 61, op := Go.Op.binOp Go.BinOp.neq 9 (Go.Operand.tmp 56) (Go.Operand.tmp 60) 9, type := 4, pos := "laws.go:1065", after := #[{ on := 17, ground := Go.Ground.data }, { on := 21, ground := Go.Ground.data }, { on := 14, ground := Go.Ground.guard }], guard := some (14, false) }) (v := ?vg22) rfl (by kernel_rfl) (by kernel_rfl) (by kernel_rfl) (fun _ _ _ h => h) (Or.inl ⟨by rfl, ?yg22⟩) (by assumption) ?rg22
      case yg22 => (intro w hSw; (try dsimp only at hSw); go_simp; try (with_reducible rfl))
      try simp only [Act.put, List.setIfInBounds_toArray, List.set_cons_zero, List.set_cons_succ]
      refine wpAnyH_take (i := 23) (oi := { dst := some 62, op := Go.Op.pick (Go.Operand.tmp 53) (Go.Operand.const (Go.Value.bool true)) (Go.Operand.tmp 61), type := 4, pos := "laws.go:1065", after := #[{ on := 14, ground := Go.Ground.data }, { on := 22, ground := Go.Ground.data }], guard := none }) (v := ?vg23) rfl (by kernel_rfl) (by kernel_rfl) (by kernel_rfl) (fun _ _ _ h => h) (Or.inl ⟨by rfl, ?yg23⟩) (by assumption) ?rg23
      case yg23 => (intro w hSw; (try dsimp only at hSw); go_simp; try (with_reducible rfl))
      try simp only [Act.put, List.setIfInBounds_toArray, List.set_cons_zero, List.set_cons_succ]
      refine wpAnyH_take (i := 24) (oi := { dst := some 63, op := Go.Op.move (Go.Operand.tmp 62), type := 4, pos := "laws.go:1065", after := #[{ on := 23, ground := Go.Ground.data }, { on := 14, ground := Go.Ground.chain }], guard := none }) (v := ?vg24) rfl (by kernel_rfl) (by kernel_rfl) (by kernel_rfl) (fun _ _ _ h => h) (Or.inl ⟨by rfl, ?yg24⟩) (by assumption) ?rg24
      case yg24 => (intro w hSw; (try dsimp only at hSw); go_simp; try (with_reducible rfl))
      try simp only [Act.put, List.setIfInBounds_toArray, List.set_cons_zero, List.set_cons_succ]
      refine wpAnyH_take (i := 25) (oi := { dst := some 64, op := Go.Op.move (Go.Operand.tmp 6), type := 35, pos := "laws.go:1065", after := #[{ on := 24, ground := Go.Ground.guard }], guard := some (24, false) }) (v := ?vg25) rfl (by kernel_rfl) (by kernel_rfl) (by kernel_rfl) (fun _ _ _ h => h) (Or.inl ⟨by rfl, ?yg25⟩) (by assumption) ?rg25
      case yg25 => (intro w hSw; (try dsimp only at hSw); go_simp; try (with_reducible rfl))
      try simp only [Act.put, List.setIfInBounds_toArray, List.set_cons_zero, List.set_cons_succ]
      refine wpAnyH_take (i := 26) (oi := { dst := some 65, op := Go.Op.move (Go.Operand.tmp 4), type := 35, pos := "laws.go:1065", after := #[{ on := 24, ground := Go.Ground.guard }], guard := some (24, false) }) (v := ?vg26) rfl (by kernel_rfl) (by kernel_rfl) (by kernel_rfl) (fun _ _ _ h => h) (Or.inl ⟨by rfl, ?yg26⟩) (by assumption) ?rg26
      case yg26 => (intro w hSw; (try dsimp only at hSw); go_simp; try (with_reducible rfl))
      try simp only [Act.put, List.setIfInBounds_toArray, List.set_cons_zero, List.set_cons_succ]
      refine wpAnyH_take (i := 27) (oi := { dst := some 66, op := Go.Op.move (Go.Operand.tmp 7), type := 3, pos := "laws.go:1065", after := #[{ on := 24, ground := Go.Ground.guard }], guard := some (24, false) }) (v := ?vg27) rfl (by kernel_rfl) (by kernel_rfl) (by kernel_rfl) (fun _ _ _ h => h) (Or.inl ⟨by rfl, ?yg27⟩) (by assumption) ?rg27
      case yg27 => (intro w hSw; (try dsimp only at hSw); go_simp; try (with_reducible rfl))
      try simp only [Act.put, List.setIfInBounds_toArray, List.set_cons_zero, List.set_cons_succ]
      refine wpAnyH_take (i := 28) (oi := { dst := some 67, op := Go.Op.indexAddr 35 (Go.Operand.tmp 65) (Go.Operand.tmp 66), type := 0, pos := "laws.go:1065", after := #[{ on := 26, ground := Go.Ground.data }, { on := 27, ground := Go.Ground.data }, { on := 24, ground := Go.Ground.guard }], guard := some (24, false) }) (v := ?vg28) rfl (by kernel_rfl) (by kernel_rfl) (by kernel_rfl) (fun _ _ _ h => h) (Or.inl ⟨by rfl, ?yg28⟩) (by assumption) ?rg28
      case yg28 => (intro w hSw; (try dsimp only at hSw); go_simp; try (with_reducible rfl))
      try simp only [Act.put, List.setIfInBounds_toArray, List.set_cons_zero, List.set_cons_succ]
      refine wpAnyH_take (i := 29) (oi := { dst := some 68, op := Go.Op.load 9 (Go.Operand.tmp 67), type := 9, pos := "laws.go:1065", after := #[{ on := 28, ground := Go.Ground.data }, { on := 24, ground := Go.Ground.guard }], guard := some (24, false) }) (v := ?vg29) rfl (by kernel_rfl) (by kernel_rfl) (by kernel_rfl) (fun _ _ _ h => h) (Or.inl ⟨by rfl, ?yg29⟩) (by assumption) ?rg29
      case yg29 => (intro w hSw; (try dsimp only at hSw); go_simp; try (with_reducible rfl))
      try simp only [Act.put, List.setIfInBounds_toArray, List.set_cons_zero, List.set_cons_succ]
      refine wpAnyH_ready (rs := [30]) (by kernel_rfl) (by simp) (AllReadyH.cons (o := { dst := some 69, op := Go.Op.call { callee := Go.Callee.value (Go.Operand.func 22), args := #[Go.Operand.tmp 64, Go.Operand.tmp 68], argTypes := #[35, 9] }, type := 4, pos := "laws.go:1065", after := #[{ on := 25, ground := Go.Ground.data }, { on := 29, ground := Go.Ground.data }, { on := 24, ground := Go.Ground.chain }, { on := 24, ground := Go.Ground.guard }], guard := some (24, false) }) rfl (fun K hK => ?_) AllReadyH.nil)
      go_simp
      go_at_call 22
      refine (wpHas_any bv ob t _ hHeld.2.2.2.1).mono ?_
      rw [hno]
      rintro e wk ⟨rfl, hbk⟩
      replace hHeld := (unhide HSA).1 _ _ hbk hHeld
      go_wp2_with fail
      refine hK.out _ _ hHeld (fun _ => ?_)
      clear hK K hbk
      try simp only [Act.put, List.setIfInBounds_toArray, List.set_cons_zero, List.set_cons_succ]
      refine wpAnyH_take (i := 31) (oi := { dst := some 70, op := Go.Op.pick (Go.Operand.tmp 63) (Go.Operand.const (Go.Value.bool true)) (Go.Operand.tmp 69), type := 4, pos := "laws.go:1065", after := #[{ on := 24, ground := Go.Ground.data }, { on := 30, ground := Go.Ground.data }], guard := none }) (v := ?vg31) rfl (by kernel_rfl) (by kernel_rfl) (by kernel_rfl) (fun _ _ _ h => h) (Or.inl ⟨by rfl, ?yg31⟩) (by assumption) ?rg31
      case yg31 => (intro w hSw; (try dsimp only at hSw); go_simp; try (with_reducible rfl))
      try simp only [Act.put, List.setIfInBounds_toArray, List.set_cons_zero, List.set_cons_succ]
      refine wpAnyH_done (by kernel_rfl) ?_ _
      have hB6 := hHeld.2.2.2.2
      clear hHeld HS0
      go_wp2_with fail
      exact ⟨⟨k + 1, by omega, by go_num, hB6⟩, by simp [intOf]; omega⟩
    · have hkl' : ¬ (k : Int) < (out.length : Int) := by omega
      have hBW := bl_trans hB4 hB
      have HRW := hide ((unhide HR4).below hB)
      have HCA : Hid (keepOkB fs = true → cntF fs leafP fs.length = out.length) := fun h => cntF_all h (unhide HN) (fun f _ => leafP_iff f)
      have HC0 : Hid (keepOkB fs = false → out.length = 0) := fun h => gn_none h (unhide HN)
      clear HO4 HP4 HQ4 HR4 hB
      go_wp2_with fail
      clear hkl hkl' hk
      go_loopw [9, 10] (fun m i w' => ∃ (k : Nat), k ≤ fs.length ∧ Hid (keepOkB fs = false → k = 0) ∧ i = .int .i64 k ∧ m = .int .i64 (cntF fs leafP k : Int) ∧ FunRow w' b fs ∧ Below W.heap.size W w') (fun _ i _ => fs.length - (intOf i).toNat)
      case atStart => exact ⟨0, Nat.zero_le _, fun _ => rfl, rfl, rfl, unhide HRW, hBW⟩
      case round =>
        obtain ⟨k, hk, HK0, rfl, rfl, hR, hB⟩ := hrel
        clear HRW hBW
        have HRW := hide hR
        have hcl := cntF_le fs leafP k
        clear hR
        by_cases hkl : k < fs.length
        · have hkl' : (k : Int) < (fs.length : Int) := by omega
          cases hok : keepOkB fs
          · have hk0 := unhide HK0 hok
            have hout := unhide HC0 hok
            subst hk0
            rw [cntF_zero]
            have hout' : (out.length : Int) = 0 := by omega
            go_wp2_with fail
            refine (specKeepOk_any b c fs _ h1 h2 (unhide HRW)).mono ?_
            rintro e w5 ⟨rfl, hb5⟩
            rw [hok]
            go_wp2_with fail
            go_ret
            exact ⟨by simp, bl_trans hB hb5⟩
          · have hfo := (keep_parts hok).2.2.1 fs[k] (List.getElem_mem hkl)
            have HRF : Hid (funRefs fs[k].nm fs[k].body = refsOf fs[k].body) := by show _ = _; simp [funRefs, hfo]
            have HYES := hide (cntF_yes (p := leafP) hkl)
            have HNO := hide (cntF_no (p := leafP) hkl)
            have HOK : Hid (keepOkB fs = false → k + 1 = 0) := fun h => by rw [hok] at h; cases h
            obtain ⟨g, off, rfl⟩ := (unhide HRW).get (by omega)
            have HFA : Hid (∀ w', FunRow w' (some ⟨g, off, none⟩) fs → FunAt w' g (off + k * 3) fs[k]) := fun w' h => h.at hkl
            have HLP : Hid (leafP fs[k] = decide ((refsOf fs[k].body).length = 0)) := rfl
            clear hfo
            generalize fs[k] = f at *
            go_wp2_with fail
            refine (specKeepOk_any _ c fs _ h1 h2 (unhide HRW)).mono ?_
            rintro e w5 ⟨rfl, hb5⟩
            rw [hok]
            have HR5 := hide ((unhide HRW).below hb5)
            have hB5 := bl_trans hB hb5
            obtain ⟨ai, ci, c0, c1, c2, hfn, k4, k5, k6⟩ := unhide HFA _ (unhide HR5)
            have HK6 := hide k6
            clear k6 hb5 hB HRW hok
            go_wp2_with fail
            refine (implFunRefs_any f.nm f.wk ai ci f.body _ hfn k4 k5 (unhide HK6)).mono ?_
            rintro e w6 ⟨rv, rfl, hRV, hb6⟩
            rw [unhide HRF] at hRV
            have HR6 := hide ((unhide HR5).below hb6)
            have hB6 := bl_trans hB5 hb6
            obtain ⟨fa, fc, ef, hfx⟩ := hRV.at
            subst ef
            clear hfx hRV hb6 HR5 hB5 c0 c1 c2 HK6
            generalize refsOf f.body = rs at *
            by_cases h0 : rs.length = 0
            · have hcy := unhide HYES ((unhide HLP).trans (by simp [h0]))
              have HCY := hide hcy
              rw [h0]
              clear hcy HYES HNO HLP HRF
              go_wp2_with fail
              exact ⟨⟨k + 1, by omega, (fun h => absurd h (by decide)), by go_num, by rw [unhide HCY]; go_num, unhide HR6, hB6⟩, by simp [intOf]; omega⟩
            · have hcy := unhide HNO ((unhide HLP).trans (by simp [h0]))
              have HCY := hide hcy
              have h0' : ¬ (rs.length : Int) = 0 := by omega
              clear hcy HYES HNO HLP HRF
              generalize rs.length = nn at h0 h0' ⊢
              go_wp2_with fail
              exact ⟨⟨k + 1, by omega, (fun h => absurd h (by decide)), by go_num, by rw [unhide HCY], unhide HR6, hB6⟩, by simp [intOf]; omega⟩
        · have hkl' : ¬ (k : Int) < (fs.length : Int) := by omega
          have heq : cntF fs leafP k = out.length := by
            have hke : k = fs.length := by omega
            rw [hke]
            cases hok : keepOkB fs
            · have h3 := unhide HK0 hok
              have h4 := unhide HC0 hok
              rw [h4, ← hke, h3]; rfl
            · exact unhide HCA hok
          rw [heq]
          go_wp2_with fail
          go_ret
          exact ⟨by simp, hB⟩

set_option maxRecDepth 100000 in
theorem lifted (os : Os) (started : os.Started) (H : Type) (enc : TypeId × Value → H) :
    ReturnsInHanded {} Try.checked os 7 .any (Rows.fnGraphLeafSpec.pre6 enc Try.prog Try.f7 Rows.fnGraphLeafRow.domain false) (Rows.fnGraphLeafSpec.post enc Try.prog Try.f7 false true false false) := by
  refine returnsInHanded_of_change (C := Try.checked) own started (by kernel_rfl) Try.func7
    (ChangeSpec.witness6 (enc := enc) (C := Try.checked) false ⟨#[], #[.slice none 0 0], []⟩ 8 (by kernel_rfl) (by kernel_rfl) (by kernel_rfl) (by kernel_rfl)) ?_
  intro W base args ds gs before hval0 hW hcnd _
  have hval : ∀ (j : Nat) t v, Try.f7.params[j]? = some t → args[j]? = some v → Value.okWide Try.prog W .any base t v := hval0
  have hW' := hW
  obtain ⟨p, q, hA0, hV, rfl, hfz, hnd⟩ := hW
  have hA : DataW.TrodAll enc Try.prog W 0 (fun _ => true) true Try.f7.params.toList args.toList ds p := hA0
  rw [Try.params7] at hA hval
  obtain ⟨v0, vs0, d0, ds0, p0, q0, hargs, rfl, rfl, h0, r0⟩ := trodAll_cons hA
  obtain ⟨rfl, rfl, rfl⟩ := trodAll_nil r0
  obtain rfl : args = #[v0] := by cases args; simp_all
  obtain ⟨rfl, rfl⟩ := trodVars_none hV
  have k0 := h0
  have lt0 : ∀ x ∈ p0, x.block < W.heap.size := by obtain ⟨m, hm⟩ := k0; exact DataW.trod_lt m _ _ _ hm
  obtain ⟨a0, len0, cap0, hv0⟩ := okWide_slice Try.underlying22 (hval 0 22 v0 rfl rfl)
  obtain ⟨z0, w0⟩ : ∃ zs, IsRow .u8 W a0 len0 cap0 zs := by
    subst hv0
    obtain ⟨fuel, hf⟩ := h0
    rcases open_ints Try.underlying22 Try.underlying5 (by kernel_rfl) hf with ⟨hcs, _⟩ | ⟨x, l, c, zs, hcs, _, hl, hm, hz, _, hcell, hwz⟩
    · simp [Value.cells] at hcs
      obtain ⟨rfl, rfl, rfl⟩ := hcs
      exact ⟨[], .inl ⟨rfl, rfl, rfl, rfl⟩⟩
    · simp [Value.cells] at hcs
      obtain ⟨rfl, rfl, rfl⟩ := hcs
      exact ⟨zs, .inr ⟨_, rfl, hl, hm, by simpa using hz, hcell, hwz⟩⟩
  clear hA0 hval0
  subst hv0
  refine (walk a0 len0 cap0 z0 W w0).mono fun e W' ⟨he, bel⟩ => ?_
  subst he
  exact ⟨_, rfl, _, _, _, [], _, [], hW', trodAll_mk1 (shut_bool Try.underlying4 _), (trodAll_cons_mk (Below.trod laidOut (by kernel_rfl) (of_decide_eq_true (by kernel_rfl)) k0 bel lt0) trodAll_mk0), rfl, bel.frame _, fun h => by cases h⟩

theorem proved : Rows.FnGraphLeafSaid :=
  OpenClaim.holds_of_wide 7 Try.f7 rfl rfl rfl rfl rfl rfl rfl ⟨rfl, rfl, rfl, rfl, rfl⟩ rfl rfl rfl rfl rfl (by kernel_rfl) Try.func7 (by kernel_rfl)
    (of_decide_eq_true (by kernel_rfl)) (by unfold Func.isWrapper; first | (rw [if_pos (by decide +kernel)]; kernel_rfl) | (rw [if_neg (by decide +kernel)]; exact ⟨rfl, rfl⟩))
    (fun os started H enc _ => lifted os started H enc)
#print axioms proved
end Go.Proofs.Ytnmgeaonhbhbkaa.fnGraphLeaf
