/- For every program, laying and place the exact law of MapSpot answers true, and all read afterwards as they did. No condition. -/
import Derived.Test.YtjbhbkkkjdpamaaBase
import Derived.WalkKit
import Derived.ProofKit
import Derived.OpenShut
import Derived.ShutString
import Derived.ChangeOld
import Derived.Below
import Derived.Lib.SmallJoins
import Derived.Deep.DeepCutAuto
import Derived.Deep.RegionHeld3
import Derived.Test.YtjbhbkkkjdpamaaFuns
import Derived.Test.YtjbhbkkkjdpamaaOpen
import Derived.Test.YtjbhbkkkjdpamaaKeep
import Derived.Test.YtjbhbkkkjdpamaaUnits
import Derived.Test.YtjbhbkkkjdpamaaRefs
import Derived.Test.YtjbhbkkkjdpamaaLayN
import Derived.Test.YtjbhbkkkjdpamaaLayA
import Derived.Test.YtjbhbkkkjdpamaaLayD
import Derived.Test.YtjbhbkkkjdpamaaLayV
import Derived.Test.YtjbhbkkkjdpamaaLayO
import Derived.Test.YtjbhbkkkjdpamaaMapD
import Derived.Test.YtjbhbkkkjdpamaaMapA
import Derived.Test.YtjbhbkkkjdpamaaMapS
import Derived.Test.YtjbhbkkkjdpamaaMapI
import Derived.Test.YtjbhbkkkjdpamaaMapJ
import Derived.Test.YtjbhbkkkjdpamaaMapT
import Derived.Test.YtjbhbkkkjdpamaaMapK
namespace Go.Proofs.Ytjbhbkkkjdpamaa.fnExactMapSpot
open Go.ChangeShapes Go.WideShapes Go.ChangeAt Go.RowKit Go.Joins
open Go.ChangeMaps (open_string shut_string)
open Go.Proofs.Ytjbhbkkkjdpamaa.Base
open Go.Proofs.Ytjbhbkkkjdpamaa.Funs
open Go.Proofs.Ytjbhbkkkjdpamaa.Open
open Go.Proofs.Ytjbhbkkkjdpamaa.Keep
open Go.Proofs.Ytjbhbkkkjdpamaa.Units
open Go.Proofs.Ytjbhbkkkjdpamaa.Refs
open Go.Proofs.Ytjbhbkkkjdpamaa.LayN
open Go.Proofs.Ytjbhbkkkjdpamaa.LayA
open Go.Proofs.Ytjbhbkkkjdpamaa.LayD
open Go.Proofs.Ytjbhbkkkjdpamaa.LayV
open Go.Proofs.Ytjbhbkkkjdpamaa.LayO
open Go.Proofs.Ytjbhbkkkjdpamaa.MapD
open Go.Proofs.Ytjbhbkkkjdpamaa.MapA
open Go.Proofs.Ytjbhbkkkjdpamaa.MapS
open Go.Proofs.Ytjbhbkkkjdpamaa.MapI
open Go.Proofs.Ytjbhbkkkjdpamaa.MapJ
open Go.Proofs.Ytjbhbkkkjdpamaa.MapT
open Go.Proofs.Ytjbhbkkkjdpamaa.MapK
set_option linter.unusedVariables false
set_option maxRecDepth 100000
theorem own : ownKnob Try.prog.godebug = none := by kernel_rfl
theorem laidOut : laidOutB Try.prog = true := by kernel_rfl

theorem q0 {a b r : Prop} (h : a ∧ b ∧ r) : a ∧ b := ⟨h.1, h.2.1⟩
theorem q1 {a b c d r : Prop} (h : a ∧ b ∧ c ∧ d ∧ r) : c ∧ d := ⟨h.2.2.1, h.2.2.2.1⟩
theorem p0 {a r : Prop} (h : a ∧ r) : a := h.1
theorem p1 {a b c r : Prop} (h : a ∧ b ∧ c ∧ r) : b ∧ c := ⟨h.2.1, h.2.2.1⟩
theorem p3 {a b c d r : Prop} (h : a ∧ b ∧ c ∧ d ∧ r) : d := h.2.2.2.1
theorem p4 {a b c d e f r : Prop} (h : a ∧ b ∧ c ∧ d ∧ e ∧ f ∧ r) : e ∧ f := ⟨h.2.2.2.2.1, h.2.2.2.2.2.1⟩
theorem ml {n : Nat} (h : n ≤ 1048576) : n ≤ maxLen := by unfold maxLen; omega
def SpotCut (w : World) (na sa : Option Addr) (n1 nc n2 sc : Nat) (z1 z2 : Int) (z3 : Bool) (v8 v9 : Value) (wx : World) : Prop := ∃ S0 : Nat, v8 = .pointer (some ⟨S0, 0, none⟩) ∧ v9 = .bool z3 ∧ wx.heap[S0]? = some (.cells #[.int .i64 z1, .int .i64 z2] 36) ∧ wx.heap[w.heap.size]? = some (.cells #[.slice na n1 nc, .slice sa n2 sc] 26) ∧ Below w.heap.size w wx
set_option maxHeartbeats 16000000 in
theorem walk (a : Option Addr) (cap : Nat) (fs : List FunD) (hl : fs.length ≤ cap) (hm : cap ≤ maxLen) (na sa : Option Addr) (nc sc : Nat) (ns : List Int) (st : List (List ByteArray)) (h1 : ns.length ≤ nc) (h2 : nc ≤ maxLen) (h3 : st.length ≤ sc) (h4 : sc ≤ maxLen) (aa : Int) (waa : (Lit.int .i64 aa).wf = true) (w : World) (hf : FunRow w a fs) (hs : NumRow w na ns) (ho : TextsRow w sa st) :
    Calls Try.prog 4 #[.slice a fs.length cap, .agg #[.slice na ns.length nc, .slice sa st.length sc], .int .i64 aa] w fun e w' => e = .returned (.bool true) ∧ Below w.heap.size w w' := by
  have HRW := hide hf
  have HNW := hide hs
  have HOW := hide ho
  have HST : Hid (Stable (fun w' => FunRow w' a fs ∧ NumRow w' na ns ∧ TextsRow w' sa st ∧ w'.cell? ⟨w.heap.size, 0, none⟩ = some (.slice na ns.length nc) ∧ w'.cell? ⟨w.heap.size, 1, none⟩ = some (.slice sa st.length sc) ∧ Below w.heap.size w w')) := ((Stable.frow a fs).and ((Stable.nrow na ns).and ((Stable.tsrow sa st).and ((Stable.cell ⟨w.heap.size, 0, none⟩ (.slice na ns.length nc)).and ((Stable.cell ⟨w.heap.size, 1, none⟩ (.slice sa st.length sc)).and (Stable.below w))))))
  have HST0 : Hid (Stable (fun w' => w'.cell? ⟨w.heap.size, 0, none⟩ = some (.slice na ns.length nc) ∧ w'.cell? ⟨w.heap.size, 1, none⟩ = some (.slice sa st.length sc) ∧ w'.heap[w.heap.size]? = some (.cells #[.slice na ns.length nc, .slice sa st.length sc] 26) ∧ Below w.heap.size w w')) := ((Stable.cell ⟨w.heap.size, 0, none⟩ (.slice na ns.length nc)).and ((Stable.cell ⟨w.heap.size, 1, none⟩ (.slice sa st.length sc)).and ((Stable.box w.heap.size (.cells #[.slice na ns.length nc, .slice sa st.length sc] 26)).and (Stable.below w))))
  have HBX := hide (new_block w (.cells #[.slice na ns.length nc, .slice sa st.length sc] 26))
  have HS0 : Hid ((fun w' => FunRow w' a fs ∧ NumRow w' na ns ∧ TextsRow w' sa st ∧ w'.cell? ⟨w.heap.size, 0, none⟩ = some (.slice na ns.length nc) ∧ w'.cell? ⟨w.heap.size, 1, none⟩ = some (.slice sa st.length sc) ∧ Below w.heap.size w w') (w.alloc (.cells #[.slice na ns.length nc, .slice sa st.length sc] 26))) := by
    have n1 := (box2 (new_block w (.cells #[.slice na ns.length nc, .slice sa st.length sc] 26))).1
    exact ⟨hf.below (below_alloc1 _ _), hs.below (below_alloc1 _ _), ho.below (below_alloc1 _ _), n1.1, n1.2, below_alloc1 _ _⟩
  clear hf hs ho
  by_cases hz : szFs fs 1048576 < 0
  · go_enter Try.func4, Try.ntmps4
    go_wp2_with fail
    refine (szFunS_any a cap fs _ _ (by omega) (by omega) hl hm (p0 (unhide HS0))).mono ?_
    rintro e w1 ⟨rfl, hb1⟩
    go_wp2_with fail
    go_ret
    exact ⟨rfl, bl_trans (below_alloc1 _ _) hb1⟩
  have hz0 : 0 ≤ szFs fs 1048576 := by omega
  have hz1 : szFs fs 1048576 ≤ 1048576 := szFs_bd _ (by omega) (by omega)
  obtain ⟨hfl, hfb⟩ := szFs_len (by omega) hz0
  have HFB := hide hfb
  clear hfb hz
  go_enter Try.func4, Try.ntmps4
  go_wp2_with fail
  refine (szFunS_any a cap fs _ _ (by omega) (by omega) hl hm (p0 (unhide HS0))).mono ?_
  rintro e w1 ⟨rfl, hb1⟩
  have hS1 := (unhide HST).1 _ _ hb1 (unhide HS0)
  have HBX1 := hide (box_below (unhide HBX) hb1)
  clear hb1 HS0
  have HS1 := hide hS1
  obtain ⟨_, _, _, c0, c1, _⟩ := hS1
  generalize szFs fs 1048576 = z at *
  by_cases hy : szLayI ns.length st z < 0
  · go_wp2_with fail
    refine (szLay_any na sa nc sc ns.length st z _ hz0 hz1 h1 h2 h3 h4 (p1 (unhide HS1)).2).mono ?_
    rintro e w2 ⟨rfl, hb2⟩
    have hB2 := bl_trans (unhide HS1).2.2.2.2.2 hb2
    clear c0 c1
    go_wp2_with fail
    go_ret
    exact ⟨rfl, hB2⟩
  obtain ⟨hnl, hft⟩ := szLay_few hz1 (show 0 ≤ szLayI ns.length st z by omega)
  have HFT := hide hft
  have hstl := hft.1
  clear hft
  go_wp2_with fail
  refine (szLay_any na sa nc sc ns.length st z _ hz0 hz1 h1 h2 h3 h4 (p1 (unhide HS1)).2).mono ?_
  rintro e w2 ⟨rfl, hb2⟩
  have hS2 := (unhide HST).1 _ _ hb2 (unhide HS1)
  have HS2 : Hid ((fun w' => w'.cell? ⟨w.heap.size, 0, none⟩ = some (.slice na ns.length nc) ∧ w'.cell? ⟨w.heap.size, 1, none⟩ = some (.slice sa st.length sc) ∧ w'.heap[w.heap.size]? = some (.cells #[.slice na ns.length nc, .slice sa st.length sc] 26) ∧ Below w.heap.size w w') w2) := ⟨hS2.2.2.2.1, hS2.2.2.2.2.1, box_below (unhide HBX1) hb2, hS2.2.2.2.2.2⟩
  have HFZ : Hid (∀ f ∈ fs, f.nm.size ≤ maxLen ∧ f.body.length ≤ maxLen ∧ ∀ x ∈ f.body, x.s.size ≤ maxLen) := (p0 hS2).sizes
  have HTZ : Hid (FitT st) := (p1 hS2).2.sizes
  clear hb2 HS1 c0 c1
  generalize szLayI ns.length st z = z2 at *
  obtain ⟨z1, z2, z3, hz⟩ : ∃ z1 z2 z3, spotE fs ns st aa = (z1, z2, z3) := ⟨_, _, _, rfl⟩
  have HSP : Hid (∀ {a : Option Addr} {na sa : Option Addr} w', FunRow w' a fs → NumRow w' na ns → TextsRow w' sa st → Calls Try.prog 21 #[.slice a fs.length fs.length, .agg #[.slice na ns.length ns.length, .slice sa st.length st.length], .int .i64 aa] w' fun e w'' => e = .returned (.tuple #[.agg #[.int .i64 z1, .int .i64 z2], .bool z3]) ∧ Below w'.heap.size w' w'') := fun {a} {na} {sa} w' e1 e2 e3 => by
    have h := specMapSpot_any a fs.length fs na sa ns.length st.length ns st aa w' waa (Nat.le_refl _) (ml hfl) (Nat.le_refl _) (ml hnl) (Nat.le_refl _) (ml hstl) (unhide HFT) e1 e2 e3
    rw [hz] at h
    exact h
  have HIM : Hid (∀ {a : Option Addr} {na sa : Option Addr} w', FunRow w' a fs → NumRow w' na ns → TextsRow w' sa st → Calls Try.prog 22 #[.slice a fs.length fs.length, .agg #[.slice na ns.length ns.length, .slice sa st.length st.length], .int .i64 aa] w' fun e w'' => e = .returned (.tuple #[.agg #[.int .i64 z1, .int .i64 z2], .bool z3]) ∧ Below w'.heap.size w' w'') := fun {a} {na} {sa} w' e1 e2 e3 => by
    have h := implMapSpot_any a fs.length fs na sa ns.length st.length ns st aa w' waa (Nat.le_refl _) (ml hfl) (Nat.le_refl _) (ml hnl) (Nat.le_refl _) (ml hstl) (unhide HFT) e1 e2 e3
    rw [hz] at h
    exact h
  clear hz hS2
  go_upto_region 8 with fail
  go_cut [8, 9] (fun v8 v9 wx => SpotCut w na sa ns.length nc st.length sc z1 z2 z3 v8 v9 wx)
  case first =>
    refine wp_region_held_drew (S := (fun w' => w'.cell? ⟨w.heap.size, 0, none⟩ = some (.slice na ns.length nc) ∧ w'.cell? ⟨w.heap.size, 1, none⟩ = some (.slice sa st.length sc) ∧ w'.heap[w.heap.size]? = some (.cells #[.slice na ns.length nc, .slice sa st.length sc] 26) ∧ Below w.heap.size w w')) (by kernel_rfl) ((unhide HST0).2 _ (unhide HS2)) (fun hHeld => ?_)
    generalize w2.drew = wa at *
    refine wpAnyH_take (i := 0) (oi := { dst := some 25, op := Go.Op.move (Go.Operand.tmp 0), type := 22, pos := "exact.go:2867", after := #[], guard := none }) (v := ?v1_0) rfl (by kernel_rfl) (by kernel_rfl) (by kernel_rfl) (fun _ _ _ h => h) (Or.inl ⟨by rfl, ?y1_0⟩) (by assumption) ?r1_0
    case y1_0 => (intro w hSw; (try dsimp only at hSw); go_simp; try (with_reducible rfl))
    try simp only [Act.put, List.setIfInBounds_toArray, List.set_cons_zero, List.set_cons_succ]
    refine wpAnyH_take (i := 2) (oi := { dst := some 27, op := Go.Op.load 26 (Go.Operand.tmp 4), type := 26, pos := "exact.go:2867", after := #[], guard := none }) (v := ?v2_2) rfl (by kernel_rfl) (by kernel_rfl) (by kernel_rfl) (fun _ _ _ h => h) (Or.inl ⟨by rfl, ?y2_2⟩) (by assumption) ?r2_2
    case y2_2 => (intro w hSw; (try dsimp only at hSw); go_simp; try (with_reducible rfl))
    try simp only [Act.put, List.setIfInBounds_toArray, List.set_cons_zero, List.set_cons_succ]
    refine wpAnyH_take (i := 4) (oi := { dst := some 29, op := Go.Op.move (Go.Operand.tmp 2), type := 3, pos := "exact.go:2867", after := #[], guard := none }) (v := ?v3_4) rfl (by kernel_rfl) (by kernel_rfl) (by kernel_rfl) (fun _ _ _ h => h) (Or.inl ⟨by rfl, ?y3_4⟩) (by assumption) ?r3_4
    case y3_4 => (intro w hSw; (try dsimp only at hSw); go_simp; try (with_reducible rfl))
    try simp only [Act.put, List.setIfInBounds_toArray, List.set_cons_zero, List.set_cons_succ]
    refine wpAnyH_ready (rs := [1, 9]) (by kernel_rfl) (by simp) ?_
    refine AllReadyH.cons (o := { dst := some 26, op := Go.Op.call { callee := Go.Callee.value (Go.Operand.func 15), args := #[Go.Operand.tmp 25], argTypes := #[22] }, type := 32, pos := "exact.go:2867", after := #[{ on := 0, ground := Go.Ground.data }], guard := none }) rfl (fun K hK => ?_) ?_
    · skip
      go_simp
      go_at_call 15
      refine (toFunS_any a cap fs _ hfl (unhide HFB) hl hm ((unhide HRW).below hHeld.2.2.2)).mono ?_
      rintro e wb ⟨rfl, hOk, hbk⟩
      have hF1 := OwnFuns.row hOk (unhide HFZ)
      replace hHeld := (unhide HST0).1 _ _ hbk hHeld
      clear hbk hOk
      go_wp2_with fail
      refine hK.out _ _ hHeld (fun _ => ?_)
      clear hK K
      try simp only [Act.put, List.setIfInBounds_toArray, List.set_cons_zero, List.set_cons_succ]
      refine wpAnyH_ready (rs := [3, 9]) (by kernel_rfl) (by simp) ?_
      refine AllReadyH.cons (o := { dst := some 28, op := Go.Op.call { callee := Go.Callee.value (Go.Operand.func 16), args := #[Go.Operand.tmp 27], argTypes := #[26] }, type := 34, pos := "exact.go:2867", after := #[{ on := 2, ground := Go.Ground.data }, { on := 1, ground := Go.Ground.chain }], guard := none }) rfl (fun K hK => ?_) ?_
      · skip
        go_simp
        go_at_call 16
        refine (toLay_any na sa nc sc ns st _ hnl (unhide HFT) h1 h2 h3 h4 ((unhide HNW).below hHeld.2.2.2) ((unhide HOW).below hHeld.2.2.2)).mono ?_
        rintro e wc ⟨Rk, Sk, hRk, hSk, hEk, rfl, hOk, hQk, hbk⟩
        replace hF1 := hF1.below hbk
        clear hRk hSk hEk
        have hN1 := OwnNums.row hOk
        have hT1 := OwnTexts.row hQk (unhide HTZ)
        replace hHeld := (unhide HST0).1 _ _ hbk hHeld
        clear hbk hOk hQk
        go_wp2_with fail
        refine hK.out _ _ hHeld (fun _ => ?_)
        clear hK K
        try simp only [Act.put, List.setIfInBounds_toArray, List.set_cons_zero, List.set_cons_succ]
        refine wpAnyH_ready (rs := [5, 9]) (by kernel_rfl) (by simp) ?_
        refine AllReadyH.cons (o := { dst := some 30, op := Go.Op.call { callee := Go.Callee.value (Go.Operand.func 21), args := #[Go.Operand.tmp 26, Go.Operand.tmp 28, Go.Operand.tmp 29], argTypes := #[32, 34, 3] }, type := 41, pos := "exact.go:2867", after := #[{ on := 1, ground := Go.Ground.data }, { on := 3, ground := Go.Ground.data }, { on := 4, ground := Go.Ground.data }, { on := 3, ground := Go.Ground.chain }], guard := none }) rfl (fun K hK => ?_) ?_
        · skip
          go_simp
          go_at_call 21
          refine (unhide HSP _ hF1 hN1 hT1).mono ?_
          rintro e wd ⟨rfl, hbk⟩
          replace hHeld := (unhide HST0).1 _ _ hbk hHeld
          clear hbk hF1 hN1 hT1
          go_wp2_with fail
          refine hK.out _ _ hHeld (fun _ => ?_)
          clear hK K
          try simp only [Act.put, List.setIfInBounds_toArray, List.set_cons_zero, List.set_cons_succ]
          refine wpAnyH_take (i := 6) (oi := { dst := some 24, op := Go.Op.move (Go.Operand.tmp 30), type := 41, pos := "exact.go:2867", after := #[{ on := 5, ground := Go.Ground.data }], guard := none }) (v := ?v4_6) rfl (by kernel_rfl) (by kernel_rfl) (by kernel_rfl) (fun _ _ _ h => h) (Or.inl ⟨by rfl, ?y4_6⟩) (by assumption) ?r4_6
          case y4_6 => (intro w hSw; (try dsimp only at hSw); go_simp; try (with_reducible rfl))
          try simp only [Act.put, List.setIfInBounds_toArray, List.set_cons_zero, List.set_cons_succ]
          refine wpAnyH_take (i := 7) (oi := { dst := some 31, op := Go.Op.extract (Go.Operand.tmp 24) 0, type := 36, pos := "exact.go:2867", after := #[{ on := 6, ground := Go.Ground.data }], guard := none }) (v := ?v5_7) rfl (by kernel_rfl) (by kernel_rfl) (by kernel_rfl) (fun _ _ _ h => h) (Or.inl ⟨by rfl, ?y5_7⟩) (by assumption) ?r5_7
          case y5_7 => (intro w hSw; (try dsimp only at hSw); go_simp; try (with_reducible rfl))
          try simp only [Act.put, List.setIfInBounds_toArray, List.set_cons_zero, List.set_cons_succ]
          refine wpAnyH_take (i := 8) (oi := { dst := some 32, op := Go.Op.extract (Go.Operand.tmp 24) 1, type := 4, pos := "exact.go:2867", after := #[{ on := 6, ground := Go.Ground.data }, { on := 10, ground := Go.Ground.gcOnly Go.Departure.lateStores }], guard := none }) (v := ?v6_8) rfl (by kernel_rfl) (by kernel_rfl) (by kernel_rfl) (fun _ _ _ h => h) (Or.inl ⟨by rfl, ?y6_8⟩) (by assumption) ?r6_8
          case y6_8 => (intro w hSw; (try dsimp only at hSw); go_simp; try (with_reducible rfl))
          try simp only [Act.put, List.setIfInBounds_toArray, List.set_cons_zero, List.set_cons_succ]
          refine wpAnyH_ready (rs := [9]) (by kernel_rfl) (by simp) ?_
          refine AllReadyH.cons (o := { dst := some 8, op := Go.Op.alloc 36, type := 0, pos := "exact.go:2867", after := #[], guard := none }) rfl (fun K hK => ?_) AllReadyH.nil
          go_simp
          have hres := new_block wd (.cells #[.int .i64 0, .int .i64 0] 36)
          have hNB : w.heap.size < wd.heap.size := (Array.getElem?_eq_some_iff.1 hHeld.2.2.1).1
          have hNEB := Nat.ne_of_gt hNB
          have hNW := hHeld.2.2.2.size
          have hbk := below_alloc1 wd (.cells #[.int .i64 0, .int .i64 0] 36)
          replace hHeld := (unhide HST0).1 _ _ hbk hHeld
          clear hbk
          generalize wd.alloc (.cells #[.int .i64 0, .int .i64 0] 36) = we at *
          generalize hS0 : wd.heap.size = S0 at *
          clear hS0
          refine hK.out _ _ hHeld (fun _ => ?_)
          clear hK K
          try simp only [Act.put, List.setIfInBounds_toArray, List.set_cons_zero, List.set_cons_succ]
          refine wpAnyH_ready (rs := [10]) (by kernel_rfl) (by simp) ?_
          refine AllReadyH.cons (o := { dst := none, op := Go.Op.store 36 (Go.Operand.tmp 8) (Go.Operand.tmp 31), type := 0, pos := "exact.go:2867", after := #[{ on := 9, ground := Go.Ground.data }, { on := 7, ground := Go.Ground.data }, { on := 5, ground := Go.Ground.chain }, { on := 0, ground := Go.Ground.phase }, { on := 1, ground := Go.Ground.phase }, { on := 2, ground := Go.Ground.phase }, { on := 3, ground := Go.Ground.phase }, { on := 4, ground := Go.Ground.phase }, { on := 5, ground := Go.Ground.phase }, { on := 6, ground := Go.Ground.phase }, { on := 7, ground := Go.Ground.phase }, { on := 8, ground := Go.Ground.textOnly Go.Departure.lateStores }, { on := 9, ground := Go.Ground.phase }], guard := none }) rfl (fun K hK => ?_) AllReadyH.nil
          have hrN := box2 hres
          have hBX := hHeld.2.2.1
          have hBB := hHeld.2.2.2
          go_simp
          have hA : ((we.setCell ⟨S0, 0, none⟩ (.int .i64 z1)).setCell ⟨S0, 1, none⟩ (.int .i64 z2)).heap[S0]? = some (.cells #[.int .i64 z1, .int .i64 z2] 36) := block_setCell (block_setCell hres _) _
          have hX2 : ((we.setCell ⟨S0, 0, none⟩ (.int .i64 z1)).setCell ⟨S0, 1, none⟩ (.int .i64 z2)).heap[w.heap.size]? = some (.cells #[.slice na ns.length nc, .slice sa st.length sc] 26) := set_other (set_other hBX hNEB) hNEB
          have hB2 : Below w.heap.size w ((we.setCell ⟨S0, 0, none⟩ (.int .i64 z1)).setCell ⟨S0, 1, none⟩ (.int .i64 z2)) := (hBB.setCell (by show w.heap.size ≤ S0; omega) _).setCell (by show w.heap.size ≤ S0; omega) _
          refine hK.out _ _ ⟨(box2 hX2).1.1, (box2 hX2).1.2, hX2, hB2⟩ (fun _ => ?_)
          clear hK K hHeld hres hrN hBX hBB
          try simp only [Act.put, List.setIfInBounds_toArray, List.set_cons_zero, List.set_cons_succ]
          generalize ((we.setCell ⟨S0, 0, none⟩ (.int .i64 z1)).setCell ⟨S0, 1, none⟩ (.int .i64 z2)) = wz at *
          refine wpAnyH_take (i := 11) (oi := { dst := some 9, op := Go.Op.assign (Go.Operand.tmp 32), type := 4, pos := "exact.go:2867", after := #[{ on := 8, ground := Go.Ground.data }, { on := 10, ground := Go.Ground.chain }, { on := 0, ground := Go.Ground.phase }, { on := 1, ground := Go.Ground.phase }, { on := 2, ground := Go.Ground.phase }, { on := 3, ground := Go.Ground.phase }, { on := 4, ground := Go.Ground.phase }, { on := 5, ground := Go.Ground.phase }, { on := 6, ground := Go.Ground.phase }, { on := 7, ground := Go.Ground.phase }, { on := 8, ground := Go.Ground.phase }, { on := 9, ground := Go.Ground.phase }, { on := 10, ground := Go.Ground.phase }], guard := none }) (v := ?v7_11) rfl (by kernel_rfl) (by kernel_rfl) (by kernel_rfl) (fun _ _ _ h => h) (Or.inl ⟨by rfl, ?y7_11⟩) (by assumption) ?r7_11
          case y7_11 => (intro w hSw; (try dsimp only at hSw); go_simp; try (with_reducible rfl))
          try simp only [Act.put, List.setIfInBounds_toArray, List.set_cons_zero, List.set_cons_succ]
          refine wpAnyH_done (by kernel_rfl) ?_ _
          go_wp2_with fail
          go_meet
          exact ⟨S0, rfl, rfl, hA, hX2, hB2⟩
        refine AllReadyH.cons (o := { dst := some 8, op := Go.Op.alloc 36, type := 0, pos := "exact.go:2867", after := #[], guard := none }) rfl (fun K hK => ?_) AllReadyH.nil
        go_simp
        have hres := new_block wc (.cells #[.int .i64 0, .int .i64 0] 36)
        have hNB : w.heap.size < wc.heap.size := (Array.getElem?_eq_some_iff.1 hHeld.2.2.1).1
        have hNEB := Nat.ne_of_gt hNB
        have hNW := hHeld.2.2.2.size
        have hbk := below_alloc1 wc (.cells #[.int .i64 0, .int .i64 0] 36)
        replace hF1 := hF1.below hbk
        replace hN1 := hN1.below hbk
        replace hT1 := hT1.below hbk
        replace hHeld := (unhide HST0).1 _ _ hbk hHeld
        clear hbk
        generalize wc.alloc (.cells #[.int .i64 0, .int .i64 0] 36) = wd at *
        generalize hS0 : wc.heap.size = S0 at *
        clear hS0
        refine hK.out _ _ hHeld (fun _ => ?_)
        clear hK K
        try simp only [Act.put, List.setIfInBounds_toArray, List.set_cons_zero, List.set_cons_succ]
        refine wpAnyH_ready (rs := [5]) (by kernel_rfl) (by simp) ?_
        refine AllReadyH.cons (o := { dst := some 30, op := Go.Op.call { callee := Go.Callee.value (Go.Operand.func 21), args := #[Go.Operand.tmp 26, Go.Operand.tmp 28, Go.Operand.tmp 29], argTypes := #[32, 34, 3] }, type := 41, pos := "exact.go:2867", after := #[{ on := 1, ground := Go.Ground.data }, { on := 3, ground := Go.Ground.data }, { on := 4, ground := Go.Ground.data }, { on := 3, ground := Go.Ground.chain }], guard := none }) rfl (fun K hK => ?_) AllReadyH.nil
        go_simp
        go_at_call 21
        refine (unhide HSP _ hF1 hN1 hT1).mono ?_
        rintro e we ⟨rfl, hbk⟩
        replace hres := box_below hres hbk
        replace hHeld := (unhide HST0).1 _ _ hbk hHeld
        clear hbk hF1 hN1 hT1
        go_wp2_with fail
        refine hK.out _ _ hHeld (fun _ => ?_)
        clear hK K
        try simp only [Act.put, List.setIfInBounds_toArray, List.set_cons_zero, List.set_cons_succ]
        refine wpAnyH_take (i := 6) (oi := { dst := some 24, op := Go.Op.move (Go.Operand.tmp 30), type := 41, pos := "exact.go:2867", after := #[{ on := 5, ground := Go.Ground.data }], guard := none }) (v := ?v8_6) rfl (by kernel_rfl) (by kernel_rfl) (by kernel_rfl) (fun _ _ _ h => h) (Or.inl ⟨by rfl, ?y8_6⟩) (by assumption) ?r8_6
        case y8_6 => (intro w hSw; (try dsimp only at hSw); go_simp; try (with_reducible rfl))
        try simp only [Act.put, List.setIfInBounds_toArray, List.set_cons_zero, List.set_cons_succ]
        refine wpAnyH_take (i := 7) (oi := { dst := some 31, op := Go.Op.extract (Go.Operand.tmp 24) 0, type := 36, pos := "exact.go:2867", after := #[{ on := 6, ground := Go.Ground.data }], guard := none }) (v := ?v9_7) rfl (by kernel_rfl) (by kernel_rfl) (by kernel_rfl) (fun _ _ _ h => h) (Or.inl ⟨by rfl, ?y9_7⟩) (by assumption) ?r9_7
        case y9_7 => (intro w hSw; (try dsimp only at hSw); go_simp; try (with_reducible rfl))
        try simp only [Act.put, List.setIfInBounds_toArray, List.set_cons_zero, List.set_cons_succ]
        refine wpAnyH_take (i := 8) (oi := { dst := some 32, op := Go.Op.extract (Go.Operand.tmp 24) 1, type := 4, pos := "exact.go:2867", after := #[{ on := 6, ground := Go.Ground.data }, { on := 10, ground := Go.Ground.gcOnly Go.Departure.lateStores }], guard := none }) (v := ?v10_8) rfl (by kernel_rfl) (by kernel_rfl) (by kernel_rfl) (fun _ _ _ h => h) (Or.inl ⟨by rfl, ?y10_8⟩) (by assumption) ?r10_8
        case y10_8 => (intro w hSw; (try dsimp only at hSw); go_simp; try (with_reducible rfl))
        try simp only [Act.put, List.setIfInBounds_toArray, List.set_cons_zero, List.set_cons_succ]
        refine wpAnyH_ready (rs := [10]) (by kernel_rfl) (by simp) ?_
        refine AllReadyH.cons (o := { dst := none, op := Go.Op.store 36 (Go.Operand.tmp 8) (Go.Operand.tmp 31), type := 0, pos := "exact.go:2867", after := #[{ on := 9, ground := Go.Ground.data }, { on := 7, ground := Go.Ground.data }, { on := 5, ground := Go.Ground.chain }, { on := 0, ground := Go.Ground.phase }, { on := 1, ground := Go.Ground.phase }, { on := 2, ground := Go.Ground.phase }, { on := 3, ground := Go.Ground.phase }, { on := 4, ground := Go.Ground.phase }, { on := 5, ground := Go.Ground.phase }, { on := 6, ground := Go.Ground.phase }, { on := 7, ground := Go.Ground.phase }, { on := 8, ground := Go.Ground.textOnly Go.Departure.lateStores }, { on := 9, ground := Go.Ground.phase }], guard := none }) rfl (fun K hK => ?_) AllReadyH.nil
        have hrN := box2 hres
        have hBX := hHeld.2.2.1
        have hBB := hHeld.2.2.2
        go_simp
        have hA : ((we.setCell ⟨S0, 0, none⟩ (.int .i64 z1)).setCell ⟨S0, 1, none⟩ (.int .i64 z2)).heap[S0]? = some (.cells #[.int .i64 z1, .int .i64 z2] 36) := block_setCell (block_setCell hres _) _
        have hX2 : ((we.setCell ⟨S0, 0, none⟩ (.int .i64 z1)).setCell ⟨S0, 1, none⟩ (.int .i64 z2)).heap[w.heap.size]? = some (.cells #[.slice na ns.length nc, .slice sa st.length sc] 26) := set_other (set_other hBX hNEB) hNEB
        have hB2 : Below w.heap.size w ((we.setCell ⟨S0, 0, none⟩ (.int .i64 z1)).setCell ⟨S0, 1, none⟩ (.int .i64 z2)) := (hBB.setCell (by show w.heap.size ≤ S0; omega) _).setCell (by show w.heap.size ≤ S0; omega) _
        refine hK.out _ _ ⟨(box2 hX2).1.1, (box2 hX2).1.2, hX2, hB2⟩ (fun _ => ?_)
        clear hK K hHeld hres hrN hBX hBB
        try simp only [Act.put, List.setIfInBounds_toArray, List.set_cons_zero, List.set_cons_succ]
        generalize ((we.setCell ⟨S0, 0, none⟩ (.int .i64 z1)).setCell ⟨S0, 1, none⟩ (.int .i64 z2)) = wz at *
        refine wpAnyH_take (i := 11) (oi := { dst := some 9, op := Go.Op.assign (Go.Operand.tmp 32), type := 4, pos := "exact.go:2867", after := #[{ on := 8, ground := Go.Ground.data }, { on := 10, ground := Go.Ground.chain }, { on := 0, ground := Go.Ground.phase }, { on := 1, ground := Go.Ground.phase }, { on := 2, ground := Go.Ground.phase }, { on := 3, ground := Go.Ground.phase }, { on := 4, ground := Go.Ground.phase }, { on := 5, ground := Go.Ground.phase }, { on := 6, ground := Go.Ground.phase }, { on := 7, ground := Go.Ground.phase }, { on := 8, ground := Go.Ground.phase }, { on := 9, ground := Go.Ground.phase }, { on := 10, ground := Go.Ground.phase }], guard := none }) (v := ?v11_11) rfl (by kernel_rfl) (by kernel_rfl) (by kernel_rfl) (fun _ _ _ h => h) (Or.inl ⟨by rfl, ?y11_11⟩) (by assumption) ?r11_11
        case y11_11 => (intro w hSw; (try dsimp only at hSw); go_simp; try (with_reducible rfl))
        try simp only [Act.put, List.setIfInBounds_toArray, List.set_cons_zero, List.set_cons_succ]
        refine wpAnyH_done (by kernel_rfl) ?_ _
        go_wp2_with fail
        go_meet
        exact ⟨S0, rfl, rfl, hA, hX2, hB2⟩
      refine AllReadyH.cons (o := { dst := some 8, op := Go.Op.alloc 36, type := 0, pos := "exact.go:2867", after := #[], guard := none }) rfl (fun K hK => ?_) AllReadyH.nil
      go_simp
      have hres := new_block wb (.cells #[.int .i64 0, .int .i64 0] 36)
      have hNB : w.heap.size < wb.heap.size := (Array.getElem?_eq_some_iff.1 hHeld.2.2.1).1
      have hNEB := Nat.ne_of_gt hNB
      have hNW := hHeld.2.2.2.size
      have hbk := below_alloc1 wb (.cells #[.int .i64 0, .int .i64 0] 36)
      replace hF1 := hF1.below hbk
      replace hHeld := (unhide HST0).1 _ _ hbk hHeld
      clear hbk
      generalize wb.alloc (.cells #[.int .i64 0, .int .i64 0] 36) = wc at *
      generalize hS0 : wb.heap.size = S0 at *
      clear hS0
      refine hK.out _ _ hHeld (fun _ => ?_)
      clear hK K
      try simp only [Act.put, List.setIfInBounds_toArray, List.set_cons_zero, List.set_cons_succ]
      refine wpAnyH_ready (rs := [3]) (by kernel_rfl) (by simp) ?_
      refine AllReadyH.cons (o := { dst := some 28, op := Go.Op.call { callee := Go.Callee.value (Go.Operand.func 16), args := #[Go.Operand.tmp 27], argTypes := #[26] }, type := 34, pos := "exact.go:2867", after := #[{ on := 2, ground := Go.Ground.data }, { on := 1, ground := Go.Ground.chain }], guard := none }) rfl (fun K hK => ?_) AllReadyH.nil
      go_simp
      go_at_call 16
      refine (toLay_any na sa nc sc ns st _ hnl (unhide HFT) h1 h2 h3 h4 ((unhide HNW).below hHeld.2.2.2) ((unhide HOW).below hHeld.2.2.2)).mono ?_
      rintro e wd ⟨Rk, Sk, hRk, hSk, hEk, rfl, hOk, hQk, hbk⟩
      replace hF1 := hF1.below hbk
      replace hres := box_below hres hbk
      clear hRk hSk hEk
      have hN1 := OwnNums.row hOk
      have hT1 := OwnTexts.row hQk (unhide HTZ)
      replace hHeld := (unhide HST0).1 _ _ hbk hHeld
      clear hbk hOk hQk
      go_wp2_with fail
      refine hK.out _ _ hHeld (fun _ => ?_)
      clear hK K
      try simp only [Act.put, List.setIfInBounds_toArray, List.set_cons_zero, List.set_cons_succ]
      refine wpAnyH_ready (rs := [5]) (by kernel_rfl) (by simp) ?_
      refine AllReadyH.cons (o := { dst := some 30, op := Go.Op.call { callee := Go.Callee.value (Go.Operand.func 21), args := #[Go.Operand.tmp 26, Go.Operand.tmp 28, Go.Operand.tmp 29], argTypes := #[32, 34, 3] }, type := 41, pos := "exact.go:2867", after := #[{ on := 1, ground := Go.Ground.data }, { on := 3, ground := Go.Ground.data }, { on := 4, ground := Go.Ground.data }, { on := 3, ground := Go.Ground.chain }], guard := none }) rfl (fun K hK => ?_) AllReadyH.nil
      go_simp
      go_at_call 21
      refine (unhide HSP _ hF1 hN1 hT1).mono ?_
      rintro e we ⟨rfl, hbk⟩
      replace hres := box_below hres hbk
      replace hHeld := (unhide HST0).1 _ _ hbk hHeld
      clear hbk hF1 hN1 hT1
      go_wp2_with fail
      refine hK.out _ _ hHeld (fun _ => ?_)
      clear hK K
      try simp only [Act.put, List.setIfInBounds_toArray, List.set_cons_zero, List.set_cons_succ]
      refine wpAnyH_take (i := 6) (oi := { dst := some 24, op := Go.Op.move (Go.Operand.tmp 30), type := 41, pos := "exact.go:2867", after := #[{ on := 5, ground := Go.Ground.data }], guard := none }) (v := ?v12_6) rfl (by kernel_rfl) (by kernel_rfl) (by kernel_rfl) (fun _ _ _ h => h) (Or.inl ⟨by rfl, ?y12_6⟩) (by assumption) ?r12_6
      case y12_6 => (intro w hSw; (try dsimp only at hSw); go_simp; try (with_reducible rfl))
      try simp only [Act.put, List.setIfInBounds_toArray, List.set_cons_zero, List.set_cons_succ]
      refine wpAnyH_take (i := 7) (oi := { dst := some 31, op := Go.Op.extract (Go.Operand.tmp 24) 0, type := 36, pos := "exact.go:2867", after := #[{ on := 6, ground := Go.Ground.data }], guard := none }) (v := ?v13_7) rfl (by kernel_rfl) (by kernel_rfl) (by kernel_rfl) (fun _ _ _ h => h) (Or.inl ⟨by rfl, ?y13_7⟩) (by assumption) ?r13_7
      case y13_7 => (intro w hSw; (try dsimp only at hSw); go_simp; try (with_reducible rfl))
      try simp only [Act.put, List.setIfInBounds_toArray, List.set_cons_zero, List.set_cons_succ]
      refine wpAnyH_take (i := 8) (oi := { dst := some 32, op := Go.Op.extract (Go.Operand.tmp 24) 1, type := 4, pos := "exact.go:2867", after := #[{ on := 6, ground := Go.Ground.data }, { on := 10, ground := Go.Ground.gcOnly Go.Departure.lateStores }], guard := none }) (v := ?v14_8) rfl (by kernel_rfl) (by kernel_rfl) (by kernel_rfl) (fun _ _ _ h => h) (Or.inl ⟨by rfl, ?y14_8⟩) (by assumption) ?r14_8
      case y14_8 => (intro w hSw; (try dsimp only at hSw); go_simp; try (with_reducible rfl))
      try simp only [Act.put, List.setIfInBounds_toArray, List.set_cons_zero, List.set_cons_succ]
      refine wpAnyH_ready (rs := [10]) (by kernel_rfl) (by simp) ?_
      refine AllReadyH.cons (o := { dst := none, op := Go.Op.store 36 (Go.Operand.tmp 8) (Go.Operand.tmp 31), type := 0, pos := "exact.go:2867", after := #[{ on := 9, ground := Go.Ground.data }, { on := 7, ground := Go.Ground.data }, { on := 5, ground := Go.Ground.chain }, { on := 0, ground := Go.Ground.phase }, { on := 1, ground := Go.Ground.phase }, { on := 2, ground := Go.Ground.phase }, { on := 3, ground := Go.Ground.phase }, { on := 4, ground := Go.Ground.phase }, { on := 5, ground := Go.Ground.phase }, { on := 6, ground := Go.Ground.phase }, { on := 7, ground := Go.Ground.phase }, { on := 8, ground := Go.Ground.textOnly Go.Departure.lateStores }, { on := 9, ground := Go.Ground.phase }], guard := none }) rfl (fun K hK => ?_) AllReadyH.nil
      have hrN := box2 hres
      have hBX := hHeld.2.2.1
      have hBB := hHeld.2.2.2
      go_simp
      have hA : ((we.setCell ⟨S0, 0, none⟩ (.int .i64 z1)).setCell ⟨S0, 1, none⟩ (.int .i64 z2)).heap[S0]? = some (.cells #[.int .i64 z1, .int .i64 z2] 36) := block_setCell (block_setCell hres _) _
      have hX2 : ((we.setCell ⟨S0, 0, none⟩ (.int .i64 z1)).setCell ⟨S0, 1, none⟩ (.int .i64 z2)).heap[w.heap.size]? = some (.cells #[.slice na ns.length nc, .slice sa st.length sc] 26) := set_other (set_other hBX hNEB) hNEB
      have hB2 : Below w.heap.size w ((we.setCell ⟨S0, 0, none⟩ (.int .i64 z1)).setCell ⟨S0, 1, none⟩ (.int .i64 z2)) := (hBB.setCell (by show w.heap.size ≤ S0; omega) _).setCell (by show w.heap.size ≤ S0; omega) _
      refine hK.out _ _ ⟨(box2 hX2).1.1, (box2 hX2).1.2, hX2, hB2⟩ (fun _ => ?_)
      clear hK K hHeld hres hrN hBX hBB
      try simp only [Act.put, List.setIfInBounds_toArray, List.set_cons_zero, List.set_cons_succ]
      generalize ((we.setCell ⟨S0, 0, none⟩ (.int .i64 z1)).setCell ⟨S0, 1, none⟩ (.int .i64 z2)) = wz at *
      refine wpAnyH_take (i := 11) (oi := { dst := some 9, op := Go.Op.assign (Go.Operand.tmp 32), type := 4, pos := "exact.go:2867", after := #[{ on := 8, ground := Go.Ground.data }, { on := 10, ground := Go.Ground.chain }, { on := 0, ground := Go.Ground.phase }, { on := 1, ground := Go.Ground.phase }, { on := 2, ground := Go.Ground.phase }, { on := 3, ground := Go.Ground.phase }, { on := 4, ground := Go.Ground.phase }, { on := 5, ground := Go.Ground.phase }, { on := 6, ground := Go.Ground.phase }, { on := 7, ground := Go.Ground.phase }, { on := 8, ground := Go.Ground.phase }, { on := 9, ground := Go.Ground.phase }, { on := 10, ground := Go.Ground.phase }], guard := none }) (v := ?v15_11) rfl (by kernel_rfl) (by kernel_rfl) (by kernel_rfl) (fun _ _ _ h => h) (Or.inl ⟨by rfl, ?y15_11⟩) (by assumption) ?r15_11
      case y15_11 => (intro w hSw; (try dsimp only at hSw); go_simp; try (with_reducible rfl))
      try simp only [Act.put, List.setIfInBounds_toArray, List.set_cons_zero, List.set_cons_succ]
      refine wpAnyH_done (by kernel_rfl) ?_ _
      go_wp2_with fail
      go_meet
      exact ⟨S0, rfl, rfl, hA, hX2, hB2⟩
    refine AllReadyH.cons (o := { dst := some 8, op := Go.Op.alloc 36, type := 0, pos := "exact.go:2867", after := #[], guard := none }) rfl (fun K hK => ?_) AllReadyH.nil
    go_simp
    have hres := new_block wa (.cells #[.int .i64 0, .int .i64 0] 36)
    have hNB : w.heap.size < wa.heap.size := (Array.getElem?_eq_some_iff.1 hHeld.2.2.1).1
    have hNEB := Nat.ne_of_gt hNB
    have hNW := hHeld.2.2.2.size
    have hbk := below_alloc1 wa (.cells #[.int .i64 0, .int .i64 0] 36)
    replace hHeld := (unhide HST0).1 _ _ hbk hHeld
    clear hbk
    generalize wa.alloc (.cells #[.int .i64 0, .int .i64 0] 36) = wb at *
    generalize hS0 : wa.heap.size = S0 at *
    clear hS0
    refine hK.out _ _ hHeld (fun _ => ?_)
    clear hK K
    try simp only [Act.put, List.setIfInBounds_toArray, List.set_cons_zero, List.set_cons_succ]
    refine wpAnyH_ready (rs := [1]) (by kernel_rfl) (by simp) ?_
    refine AllReadyH.cons (o := { dst := some 26, op := Go.Op.call { callee := Go.Callee.value (Go.Operand.func 15), args := #[Go.Operand.tmp 25], argTypes := #[22] }, type := 32, pos := "exact.go:2867", after := #[{ on := 0, ground := Go.Ground.data }], guard := none }) rfl (fun K hK => ?_) AllReadyH.nil
    go_simp
    go_at_call 15
    refine (toFunS_any a cap fs _ hfl (unhide HFB) hl hm ((unhide HRW).below hHeld.2.2.2)).mono ?_
    rintro e wc ⟨rfl, hOk, hbk⟩
    replace hres := box_below hres hbk
    have hF1 := OwnFuns.row hOk (unhide HFZ)
    replace hHeld := (unhide HST0).1 _ _ hbk hHeld
    clear hbk hOk
    go_wp2_with fail
    refine hK.out _ _ hHeld (fun _ => ?_)
    clear hK K
    try simp only [Act.put, List.setIfInBounds_toArray, List.set_cons_zero, List.set_cons_succ]
    refine wpAnyH_ready (rs := [3]) (by kernel_rfl) (by simp) ?_
    refine AllReadyH.cons (o := { dst := some 28, op := Go.Op.call { callee := Go.Callee.value (Go.Operand.func 16), args := #[Go.Operand.tmp 27], argTypes := #[26] }, type := 34, pos := "exact.go:2867", after := #[{ on := 2, ground := Go.Ground.data }, { on := 1, ground := Go.Ground.chain }], guard := none }) rfl (fun K hK => ?_) AllReadyH.nil
    go_simp
    go_at_call 16
    refine (toLay_any na sa nc sc ns st _ hnl (unhide HFT) h1 h2 h3 h4 ((unhide HNW).below hHeld.2.2.2) ((unhide HOW).below hHeld.2.2.2)).mono ?_
    rintro e wd ⟨Rk, Sk, hRk, hSk, hEk, rfl, hOk, hQk, hbk⟩
    replace hres := box_below hres hbk
    replace hF1 := hF1.below hbk
    clear hRk hSk hEk
    have hN1 := OwnNums.row hOk
    have hT1 := OwnTexts.row hQk (unhide HTZ)
    replace hHeld := (unhide HST0).1 _ _ hbk hHeld
    clear hbk hOk hQk
    go_wp2_with fail
    refine hK.out _ _ hHeld (fun _ => ?_)
    clear hK K
    try simp only [Act.put, List.setIfInBounds_toArray, List.set_cons_zero, List.set_cons_succ]
    refine wpAnyH_ready (rs := [5]) (by kernel_rfl) (by simp) ?_
    refine AllReadyH.cons (o := { dst := some 30, op := Go.Op.call { callee := Go.Callee.value (Go.Operand.func 21), args := #[Go.Operand.tmp 26, Go.Operand.tmp 28, Go.Operand.tmp 29], argTypes := #[32, 34, 3] }, type := 41, pos := "exact.go:2867", after := #[{ on := 1, ground := Go.Ground.data }, { on := 3, ground := Go.Ground.data }, { on := 4, ground := Go.Ground.data }, { on := 3, ground := Go.Ground.chain }], guard := none }) rfl (fun K hK => ?_) AllReadyH.nil
    go_simp
    go_at_call 21
    refine (unhide HSP _ hF1 hN1 hT1).mono ?_
    rintro e we ⟨rfl, hbk⟩
    replace hres := box_below hres hbk
    replace hHeld := (unhide HST0).1 _ _ hbk hHeld
    clear hbk hF1 hN1 hT1
    go_wp2_with fail
    refine hK.out _ _ hHeld (fun _ => ?_)
    clear hK K
    try simp only [Act.put, List.setIfInBounds_toArray, List.set_cons_zero, List.set_cons_succ]
    refine wpAnyH_take (i := 6) (oi := { dst := some 24, op := Go.Op.move (Go.Operand.tmp 30), type := 41, pos := "exact.go:2867", after := #[{ on := 5, ground := Go.Ground.data }], guard := none }) (v := ?v16_6) rfl (by kernel_rfl) (by kernel_rfl) (by kernel_rfl) (fun _ _ _ h => h) (Or.inl ⟨by rfl, ?y16_6⟩) (by assumption) ?r16_6
    case y16_6 => (intro w hSw; (try dsimp only at hSw); go_simp; try (with_reducible rfl))
    try simp only [Act.put, List.setIfInBounds_toArray, List.set_cons_zero, List.set_cons_succ]
    refine wpAnyH_take (i := 7) (oi := { dst := some 31, op := Go.Op.extract (Go.Operand.tmp 24) 0, type := 36, pos := "exact.go:2867", after := #[{ on := 6, ground := Go.Ground.data }], guard := none }) (v := ?v17_7) rfl (by kernel_rfl) (by kernel_rfl) (by kernel_rfl) (fun _ _ _ h => h) (Or.inl ⟨by rfl, ?y17_7⟩) (by assumption) ?r17_7
    case y17_7 => (intro w hSw; (try dsimp only at hSw); go_simp; try (with_reducible rfl))
    try simp only [Act.put, List.setIfInBounds_toArray, List.set_cons_zero, List.set_cons_succ]
    refine wpAnyH_take (i := 8) (oi := { dst := some 32, op := Go.Op.extract (Go.Operand.tmp 24) 1, type := 4, pos := "exact.go:2867", after := #[{ on := 6, ground := Go.Ground.data }, { on := 10, ground := Go.Ground.gcOnly Go.Departure.lateStores }], guard := none }) (v := ?v18_8) rfl (by kernel_rfl) (by kernel_rfl) (by kernel_rfl) (fun _ _ _ h => h) (Or.inl ⟨by rfl, ?y18_8⟩) (by assumption) ?r18_8
    case y18_8 => (intro w hSw; (try dsimp only at hSw); go_simp; try (with_reducible rfl))
    try simp only [Act.put, List.setIfInBounds_toArray, List.set_cons_zero, List.set_cons_succ]
    refine wpAnyH_ready (rs := [10]) (by kernel_rfl) (by simp) ?_
    refine AllReadyH.cons (o := { dst := none, op := Go.Op.store 36 (Go.Operand.tmp 8) (Go.Operand.tmp 31), type := 0, pos := "exact.go:2867", after := #[{ on := 9, ground := Go.Ground.data }, { on := 7, ground := Go.Ground.data }, { on := 5, ground := Go.Ground.chain }, { on := 0, ground := Go.Ground.phase }, { on := 1, ground := Go.Ground.phase }, { on := 2, ground := Go.Ground.phase }, { on := 3, ground := Go.Ground.phase }, { on := 4, ground := Go.Ground.phase }, { on := 5, ground := Go.Ground.phase }, { on := 6, ground := Go.Ground.phase }, { on := 7, ground := Go.Ground.phase }, { on := 8, ground := Go.Ground.textOnly Go.Departure.lateStores }, { on := 9, ground := Go.Ground.phase }], guard := none }) rfl (fun K hK => ?_) AllReadyH.nil
    have hrN := box2 hres
    have hBX := hHeld.2.2.1
    have hBB := hHeld.2.2.2
    go_simp
    have hA : ((we.setCell ⟨S0, 0, none⟩ (.int .i64 z1)).setCell ⟨S0, 1, none⟩ (.int .i64 z2)).heap[S0]? = some (.cells #[.int .i64 z1, .int .i64 z2] 36) := block_setCell (block_setCell hres _) _
    have hX2 : ((we.setCell ⟨S0, 0, none⟩ (.int .i64 z1)).setCell ⟨S0, 1, none⟩ (.int .i64 z2)).heap[w.heap.size]? = some (.cells #[.slice na ns.length nc, .slice sa st.length sc] 26) := set_other (set_other hBX hNEB) hNEB
    have hB2 : Below w.heap.size w ((we.setCell ⟨S0, 0, none⟩ (.int .i64 z1)).setCell ⟨S0, 1, none⟩ (.int .i64 z2)) := (hBB.setCell (by show w.heap.size ≤ S0; omega) _).setCell (by show w.heap.size ≤ S0; omega) _
    refine hK.out _ _ ⟨(box2 hX2).1.1, (box2 hX2).1.2, hX2, hB2⟩ (fun _ => ?_)
    clear hK K hHeld hres hrN hBX hBB
    try simp only [Act.put, List.setIfInBounds_toArray, List.set_cons_zero, List.set_cons_succ]
    generalize ((we.setCell ⟨S0, 0, none⟩ (.int .i64 z1)).setCell ⟨S0, 1, none⟩ (.int .i64 z2)) = wz at *
    refine wpAnyH_take (i := 11) (oi := { dst := some 9, op := Go.Op.assign (Go.Operand.tmp 32), type := 4, pos := "exact.go:2867", after := #[{ on := 8, ground := Go.Ground.data }, { on := 10, ground := Go.Ground.chain }, { on := 0, ground := Go.Ground.phase }, { on := 1, ground := Go.Ground.phase }, { on := 2, ground := Go.Ground.phase }, { on := 3, ground := Go.Ground.phase }, { on := 4, ground := Go.Ground.phase }, { on := 5, ground := Go.Ground.phase }, { on := 6, ground := Go.Ground.phase }, { on := 7, ground := Go.Ground.phase }, { on := 8, ground := Go.Ground.phase }, { on := 9, ground := Go.Ground.phase }, { on := 10, ground := Go.Ground.phase }], guard := none }) (v := ?v19_11) rfl (by kernel_rfl) (by kernel_rfl) (by kernel_rfl) (fun _ _ _ h => h) (Or.inl ⟨by rfl, ?y19_11⟩) (by assumption) ?r19_11
    case y19_11 => (intro w hSw; (try dsimp only at hSw); go_simp; try (with_reducible rfl))
    try simp only [Act.put, List.setIfInBounds_toArray, List.set_cons_zero, List.set_cons_succ]
    refine wpAnyH_done (by kernel_rfl) ?_ _
    go_wp2_with fail
    go_meet
    exact ⟨S0, rfl, rfl, hA, hX2, hB2⟩
  case rest =>
    obtain ⟨S0, rfl, rfl, hZ3, hX3, hB3⟩ := hcut
    have HST3 : Hid (Stable (fun w' => FunRow w' a fs ∧ NumRow w' na ns ∧ TextsRow w' sa st ∧ w'.cell? ⟨w.heap.size, 0, none⟩ = some (.slice na ns.length nc) ∧ w'.cell? ⟨w.heap.size, 1, none⟩ = some (.slice sa st.length sc) ∧ w'.heap[S0]? = some (.cells #[.int .i64 z1, .int .i64 z2] 36) ∧ Below w.heap.size w w')) := ((Stable.frow a fs).and ((Stable.nrow na ns).and ((Stable.tsrow sa st).and ((Stable.cell ⟨w.heap.size, 0, none⟩ (.slice na ns.length nc)).and ((Stable.cell ⟨w.heap.size, 1, none⟩ (.slice sa st.length sc)).and ((Stable.box S0 (.cells #[.int .i64 z1, .int .i64 z2] 36)).and (Stable.below w)))))))
    have hS3 : (fun w' => FunRow w' a fs ∧ NumRow w' na ns ∧ TextsRow w' sa st ∧ w'.cell? ⟨w.heap.size, 0, none⟩ = some (.slice na ns.length nc) ∧ w'.cell? ⟨w.heap.size, 1, none⟩ = some (.slice sa st.length sc) ∧ w'.heap[S0]? = some (.cells #[.int .i64 z1, .int .i64 z2] 36) ∧ Below w.heap.size w w') wc := ⟨(unhide HRW).below hB3, (unhide HNW).below hB3, (unhide HOW).below hB3, (box2 hX3).1.1, (box2 hX3).1.2, hZ3, hB3⟩
    clear hZ3 hX3 hB3
    have HS3 := hide hS3
    obtain ⟨_, _, _, c0, c1, _⟩ := hS3
    go_wp2_with fail
    refine (toFunS_any a cap fs _ hfl (unhide HFB) hl hm (p0 (unhide HS3))).mono ?_
    rintro e w4 ⟨rfl, hO4, hb4⟩
    have hS4 := (unhide HST3).1 _ _ hb4 (unhide HS3)
    have HR4 := hide (OwnFuns.row hO4 (unhide HFZ))
    clear HS3 c0 c1 hb4 hO4
    generalize wc.heap.size = Rf at *
    have HS4 := hide hS4
    obtain ⟨_, _, _, c0, c1, _⟩ := hS4
    go_wp2_with fail
    refine (toLay_any na sa nc sc ns st _ hnl (unhide HFT) h1 h2 h3 h4 (p1 (unhide HS4)).1 (p1 (unhide HS4)).2).mono ?_
    rintro e w5 ⟨R5, S5, hR5, hS5, hE5, rfl, hO5, hQ5, hb5⟩
    clear hR5 hS5 hE5
    have HST2 : Hid (Stable (fun w' => FunRow w' a fs ∧ NumRow w' na ns ∧ TextsRow w' sa st ∧ FunRow w' (some ⟨Rf, 0, none⟩) fs ∧ NumRow w' (some ⟨R5, 0, none⟩) ns ∧ TextsRow w' (some ⟨S5, 0, none⟩) st ∧ w'.cell? ⟨w.heap.size, 0, none⟩ = some (.slice na ns.length nc) ∧ w'.cell? ⟨w.heap.size, 1, none⟩ = some (.slice sa st.length sc) ∧ w'.cell? ⟨w5.heap.size, 0, none⟩ = some (.slice (some ⟨R5, 0, none⟩) ns.length ns.length) ∧ w'.cell? ⟨w5.heap.size, 1, none⟩ = some (.slice (some ⟨S5, 0, none⟩) st.length st.length) ∧ w'.heap[S0]? = some (.cells #[.int .i64 z1, .int .i64 z2] 36) ∧ Below w.heap.size w w')) := ((Stable.frow a fs).and ((Stable.nrow na ns).and ((Stable.tsrow sa st).and ((Stable.frow (some ⟨Rf, 0, none⟩) fs).and ((Stable.nrow (some ⟨R5, 0, none⟩) ns).and ((Stable.tsrow (some ⟨S5, 0, none⟩) st).and ((Stable.cell ⟨w.heap.size, 0, none⟩ (.slice na ns.length nc)).and ((Stable.cell ⟨w.heap.size, 1, none⟩ (.slice sa st.length sc)).and ((Stable.cell ⟨w5.heap.size, 0, none⟩ (.slice (some ⟨R5, 0, none⟩) ns.length ns.length)).and ((Stable.cell ⟨w5.heap.size, 1, none⟩ (.slice (some ⟨S5, 0, none⟩) st.length st.length)).and ((Stable.box S0 (.cells #[.int .i64 z1, .int .i64 z2] 36)).and (Stable.below w))))))))))))
    have HS5 : Hid ((fun w' => FunRow w' a fs ∧ NumRow w' na ns ∧ TextsRow w' sa st ∧ FunRow w' (some ⟨Rf, 0, none⟩) fs ∧ NumRow w' (some ⟨R5, 0, none⟩) ns ∧ TextsRow w' (some ⟨S5, 0, none⟩) st ∧ w'.cell? ⟨w.heap.size, 0, none⟩ = some (.slice na ns.length nc) ∧ w'.cell? ⟨w.heap.size, 1, none⟩ = some (.slice sa st.length sc) ∧ w'.cell? ⟨w5.heap.size, 0, none⟩ = some (.slice (some ⟨R5, 0, none⟩) ns.length ns.length) ∧ w'.cell? ⟨w5.heap.size, 1, none⟩ = some (.slice (some ⟨S5, 0, none⟩) st.length st.length) ∧ w'.heap[S0]? = some (.cells #[.int .i64 z1, .int .i64 z2] 36) ∧ Below w.heap.size w w') (w5.alloc (.cells #[.slice (some ⟨R5, 0, none⟩) ns.length ns.length, .slice (some ⟨S5, 0, none⟩) st.length st.length] 34))) := by
      have h := (unhide HST3).alloc ((unhide HST3).1 _ _ hb5 (unhide HS4)) (.cells #[.slice (some ⟨R5, 0, none⟩) ns.length ns.length, .slice (some ⟨S5, 0, none⟩) st.length st.length] 34)
      have x := (box2 (new_block w5 (.cells #[.slice (some ⟨R5, 0, none⟩) ns.length ns.length, .slice (some ⟨S5, 0, none⟩) st.length st.length] 34))).1
      exact ⟨h.1, h.2.1, h.2.2.1, ((unhide HR4).below hb5).below (below_alloc1 _ _), hO5.row.below (below_alloc1 _ _), (hQ5.row (unhide HTZ)).below (below_alloc1 _ _), h.2.2.2.1, h.2.2.2.2.1, x.1, x.2, h.2.2.2.2.2.1, h.2.2.2.2.2.2⟩
    clear HS4 HR4 c0 c1 hb5 hO5 hQ5
    have hS5 := unhide HS5
    obtain ⟨_, _, _, _, _, _, c0, c1, x0, x1, _⟩ := hS5
    go_wp2_with fail
    refine (unhide HIM _ (p3 (unhide HS5)) (p4 (unhide HS5)).1 (p4 (unhide HS5)).2).mono ?_
    rintro e w6 ⟨rfl, hb6⟩
    have hS6 := (unhide HST2).1 _ _ hb6 (unhide HS5)
    clear HS5 c0 c1 x0 x1 hb6
    have hG6 := box2 (new_block w6 (.cells #[.int .i64 z1, .int .i64 z2] 36))
    have hS6 := (unhide HST2).alloc hS6 (.cells #[.int .i64 z1, .int .i64 z2] 36)
    have hW6 := box2 (by exact hS6.2.2.2.2.2.2.2.2.2.2.1)
    have HS6 := hide hS6
    clear hS6
    go_wp2_with fail
    refine (eqSpot_same z1 z2 _).mono ?_
    rintro e w6b ⟨rfl, hb6b⟩
    have hS6b := (unhide HST2).1 _ _ hb6b (unhide HS6)
    clear HS6 hG6 hW6 hb6b
    have HS6 := hide hS6b
    obtain ⟨_, _, _, _, _, _, c0, c1, x0, x1, _⟩ := hS6b
    go_wp2_with fail
    refine (toFunS_any a cap fs _ hfl (unhide HFB) hl hm (p0 (unhide HS6))).mono ?_
    rintro e w7 ⟨rfl, hO7, hb7⟩
    have hS7 := (unhide HST2).1 _ _ hb7 (unhide HS6)
    have HR7 := hide (OwnFuns.row hO7 (unhide HFZ))
    clear HS6 c0 c1 x0 x1 hb7 hO7
    have HS7 := hide hS7
    obtain ⟨_, _, _, _, _, _, c0, c1, x0, x1, _⟩ := hS7
    go_wp2_with fail
    refine (eqFunS_same _ _ _ _ fs _ (Nat.le_refl _) (ml hfl) (p3 (unhide HS7)) (unhide HR7)).mono ?_
    rintro e w8 ⟨rfl, hb8⟩
    have hS8 := (unhide HST2).1 _ _ hb8 (unhide HS7)
    clear HS7 HR7 c0 c1 x0 x1 hb8
    go_wp2_with fail
    go_region_held3 (fun w' => FunRow w' a fs ∧ NumRow w' na ns ∧ TextsRow w' sa st ∧ FunRow w' (some ⟨Rf, 0, none⟩) fs ∧ NumRow w' (some ⟨R5, 0, none⟩) ns ∧ TextsRow w' (some ⟨S5, 0, none⟩) st ∧ w'.cell? ⟨w.heap.size, 0, none⟩ = some (.slice na ns.length nc) ∧ w'.cell? ⟨w.heap.size, 1, none⟩ = some (.slice sa st.length sc) ∧ w'.cell? ⟨w5.heap.size, 0, none⟩ = some (.slice (some ⟨R5, 0, none⟩) ns.length ns.length) ∧ w'.cell? ⟨w5.heap.size, 1, none⟩ = some (.slice (some ⟨S5, 0, none⟩) st.length st.length) ∧ w'.heap[S0]? = some (.cells #[.int .i64 z1, .int .i64 z2] 36) ∧ Below w.heap.size w w') (first | assumption | (refine (unhide HST2).1 _ _ hbk ?_; assumption) | (refine (unhide HST2).2 _ ?_; assumption))
      (first | (go_at_call 16; refine (toLay_any na sa nc sc ns st _ hnl (unhide HFT) h1 h2 h3 h4 (p1 (by assumption)).1 (p1 (by assumption)).2).mono ?_; rintro e wk1 ⟨Rk, Sk, hRk, hSk, hEk, rfl, hOk, hQk, hbk⟩; clear hRk hSk hEk; have hO := OwnNums.row hOk; have hQ := OwnTexts.row hQk (unhide HTZ); clear hOk hQk) | (go_at_call 20; refine (eqLay_same _ _ _ _ _ _ _ _ ns st _ (Nat.le_refl _) (ml hnl) (Nat.le_refl _) (ml hstl) (p4 (by assumption)).1 (p4 (by assumption)).2 (by exact hO) (by exact hQ)).mono ?_; rintro e wk1 ⟨rfl, hbk⟩))
    have hS9 : (fun w' => FunRow w' a fs ∧ NumRow w' na ns ∧ TextsRow w' sa st ∧ FunRow w' (some ⟨Rf, 0, none⟩) fs ∧ NumRow w' (some ⟨R5, 0, none⟩) ns ∧ TextsRow w' (some ⟨S5, 0, none⟩) st ∧ w'.cell? ⟨w.heap.size, 0, none⟩ = some (.slice na ns.length nc) ∧ w'.cell? ⟨w.heap.size, 1, none⟩ = some (.slice sa st.length sc) ∧ w'.cell? ⟨w5.heap.size, 0, none⟩ = some (.slice (some ⟨R5, 0, none⟩) ns.length ns.length) ∧ w'.cell? ⟨w5.heap.size, 1, none⟩ = some (.slice (some ⟨S5, 0, none⟩) st.length st.length) ∧ w'.heap[S0]? = some (.cells #[.int .i64 z1, .int .i64 z2] 36) ∧ Below w.heap.size w w') wk1 := by assumption
    have hB9 := hS9.2.2.2.2.2.2.2.2.2.2.2
    clear hS8 hS9
    go_wp2_with fail
    go_ret
    exact ⟨rfl, hB9⟩

set_option maxRecDepth 100000 in
theorem lifted (os : Os) (started : os.Started) (H : Type) (enc : TypeId × Value → H) :
    ReturnsInHanded {} Try.checked os 4 .any (Rows.fnExactMapSpotSpec.pre6 enc Try.prog Try.f4 Rows.fnExactMapSpotRow.domain false) (Rows.fnExactMapSpotSpec.post enc Try.prog Try.f4 false true false false) := by
  refine returnsInHanded_of_change (C := Try.checked) own started (by kernel_rfl) Try.func4
    (ChangeSpec.witness6 (enc := enc) (C := Try.checked) false ⟨#[], #[.slice none 0 0, .agg #[.slice none 0 0, .slice none 0 0], .int .i64 0], []⟩ 8 (by kernel_rfl) (by kernel_rfl) (by kernel_rfl) (by kernel_rfl)) ?_
  intro W base args ds gs before hval0 hW hcnd _
  have hval : ∀ (j : Nat) t v, Try.f4.params[j]? = some t → args[j]? = some v → Value.okWide Try.prog W .any base t v := hval0
  have hW' := hW
  obtain ⟨p, q, hA0, hV, rfl, hfz, hnd⟩ := hW
  have hA : DataW.TrodAll enc Try.prog W 0 (fun _ => true) true Try.f4.params.toList args.toList ds p := hA0
  rw [Try.params4] at hA hval
  obtain ⟨v0, vs0, d0, ds0, p0, q0, hargs, rfl, rfl, h0, r0⟩ := trodAll_cons hA
  obtain ⟨v1, vs1, d1, ds1, p1, q1, rfl, rfl, rfl, h1, r1⟩ := trodAll_cons r0
  obtain ⟨v2, vs2, d2, ds2, p2, q2, rfl, rfl, rfl, h2, r2⟩ := trodAll_cons r1
  obtain ⟨rfl, rfl, rfl⟩ := trodAll_nil r2
  obtain rfl : args = #[v0, v1, v2] := by cases args; simp_all
  obtain ⟨rfl, rfl⟩ := trodVars_none hV
  have k0 := h0
  have lt0 : ∀ x ∈ p0, x.block < W.heap.size := by obtain ⟨m, hm⟩ := k0; exact DataW.trod_lt m _ _ _ hm
  obtain ⟨a0, cap0, fs0, hv0, hl0, hm0, hr0⟩ := funs_of (hval 0 22 v0 rfl rfl) h0
  have k1 := h1
  have lt1 : ∀ x ∈ p1, x.block < W.heap.size := by obtain ⟨m, hm⟩ := k1; exact DataW.trod_lt m _ _ _ hm
  obtain ⟨na1, sa1, nc1, sc1, ns1, st1, hv1, hl1, hm1, hn1, hk1, hs1, ho1⟩ := lay_of (hval 1 26 v1 rfl rfl) h1
  have k2 := h2
  have lt2 : ∀ x ∈ p2, x.block < W.heap.size := by obtain ⟨m, hm⟩ := k2; exact DataW.trod_lt m _ _ _ hm
  obtain ⟨a2, hv2, _, _, w2⟩ := open_int Try.underlying3 (hval 2 3 v2 rfl rfl) h2
  clear hA0 hval0
  subst hv0 hv1 hv2
  refine (walk a0 cap0 fs0 hl0 hm0 na1 sa1 nc1 sc1 ns1 st1 hl1 hm1 hn1 hk1 a2 w2 W hr0 hs1 ho1).mono fun e W' ⟨he, bel⟩ => ?_
  subst he
  exact ⟨_, rfl, _, _, _, [], _, [], hW', trodAll_mk1 (shut_bool Try.underlying4 _), (trodAll_cons_mk (Below.trod laidOut (by kernel_rfl) (of_decide_eq_true (by kernel_rfl)) k0 bel lt0) (trodAll_cons_mk (Below.trod laidOut (by kernel_rfl) (of_decide_eq_true (by kernel_rfl)) k1 bel lt1) (trodAll_cons_mk (Below.trod laidOut (by kernel_rfl) (of_decide_eq_true (by kernel_rfl)) k2 bel lt2) trodAll_mk0))), rfl, bel.frame _, fun h => by cases h⟩

theorem proved : Rows.FnExactMapSpotSaid :=
  OpenClaim.holds_of_wide 4 Try.f4 rfl rfl rfl rfl rfl rfl rfl ⟨rfl, rfl, rfl, rfl, rfl⟩ rfl rfl rfl rfl rfl (by kernel_rfl) Try.func4 (by kernel_rfl)
    (of_decide_eq_true (by kernel_rfl)) (by unfold Func.isWrapper; first | (rw [if_pos (by decide +kernel)]; kernel_rfl) | (rw [if_neg (by decide +kernel)]; exact ⟨rfl, rfl⟩))
    (fun os started H enc _ => lifted os started H enc)
#print axioms proved
end Go.Proofs.Ytjbhbkkkjdpamaa.fnExactMapSpot
