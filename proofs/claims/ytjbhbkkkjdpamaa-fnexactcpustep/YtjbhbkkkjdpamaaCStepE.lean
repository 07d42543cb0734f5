/- For every list of cells and every machine of an image the exact law of CpuStep answers true, and both read afterwards as they did. No condition. -/
import Derived.Test.YtjbhbkkkjdpamaaBase
import Derived.WalkKit
import Derived.ProofKit
import Derived.OpenShut
import Derived.ShutString
import Derived.ChangeOld
import Derived.Below
import Derived.Lib.SmallJoins
import Derived.Deep.DeepCutAuto
import Derived.Deep.RegionHeld3
import Derived.Test.YtjbhbkkkjdpamaaFuns
import Derived.Test.YtjbhbkkkjdpamaaOpen
import Derived.Test.YtjbhbkkkjdpamaaKeep
import Derived.Test.YtjbhbkkkjdpamaaUnits
import Derived.Test.YtjbhbkkkjdpamaaMark
import Derived.Test.YtjbhbkkkjdpamaaMarkF
import Derived.Test.YtjbhbkkkjdpamaaLayN
import Derived.Test.YtjbhbkkkjdpamaaCellA
import Derived.Test.YtjbhbkkkjdpamaaImgD
import Derived.Test.YtjbhbkkkjdpamaaImgOk
import Derived.Test.YtjbhbkkkjdpamaaRestOk
import Derived.Test.YtjbhbkkkjdpamaaCOkS
import Derived.Test.YtjbhbkkkjdpamaaCSpec
import Derived.Test.YtjbhbkkkjdpamaaCSpecB
import Derived.Test.YtjbhbkkkjdpamaaCSpecC
import Derived.Test.YtjbhbkkkjdpamaaCSpecD
import Derived.Test.YtjbhbkkkjdpamaaCoreG
import Derived.Test.YtjbhbkkkjdpamaaCMark
namespace Go.Proofs.Ytjbhbkkkjdpamaa.fnExactCpuStep
open Go.ChangeShapes Go.WideShapes Go.ChangeAt Go.RowKit Go.Joins
open Go.ChangeMaps (open_string shut_string)
open Go.Proofs.Ytjbhbkkkjdpamaa.Base
open Go.Proofs.Ytjbhbkkkjdpamaa.Funs
open Go.Proofs.Ytjbhbkkkjdpamaa.Open
open Go.Proofs.Ytjbhbkkkjdpamaa.Keep
open Go.Proofs.Ytjbhbkkkjdpamaa.Units
open Go.Proofs.Ytjbhbkkkjdpamaa.Mark
open Go.Proofs.Ytjbhbkkkjdpamaa.MarkF
open Go.Proofs.Ytjbhbkkkjdpamaa.LayN
open Go.Proofs.Ytjbhbkkkjdpamaa.CellA
open Go.Proofs.Ytjbhbkkkjdpamaa.ImgD
open Go.Proofs.Ytjbhbkkkjdpamaa.ImgOk
open Go.Proofs.Ytjbhbkkkjdpamaa.RestOk
open Go.Proofs.Ytjbhbkkkjdpamaa.COkS
open Go.Proofs.Ytjbhbkkkjdpamaa.CSpec
open Go.Proofs.Ytjbhbkkkjdpamaa.CSpecB
open Go.Proofs.Ytjbhbkkkjdpamaa.CSpecC
open Go.Proofs.Ytjbhbkkkjdpamaa.CSpecD
open Go.Proofs.Ytjbhbkkkjdpamaa.CoreG
open Go.Proofs.Ytjbhbkkkjdpamaa.CMark
set_option linter.unusedVariables false
set_option maxRecDepth 100000
theorem own : ownKnob Try.prog.godebug = none := by kernel_rfl
theorem laidOut : laidOutB Try.prog = true := by kernel_rfl

/-- A machine in a box, its lists in rows of their own. -/
structure Held (w' : World) (B bx : Nat) (p c d : Int) (sa oa : Option Addr) (sc oc : Nat) (st : List Int) (os : List Int) : Prop where
  box : w'.heap[bx]? = some (.cells #[.int .i64 p, .int .i64 c, .slice sa st.length sc, .slice oa os.length oc, .int .i64 d] 60)
  sp : IntOwn w' B (.slice sa st.length sc) st
  nu : IntOwn w' B (.slice oa os.length oc) os
theorem Held.below {w w' : World} {B bx : Nat} {p c d : Int} {sa oa : Option Addr} {sc oc : Nat} {st : List Int} {os : List Int} (h : Held w B bx p c d sa oa sc oc st os) (hb : Below w.heap.size w w') : Held w' B bx p c d sa oa sc oc st os := ⟨box_below h.box hb, int_below h.sp hb, int_below h.nu hb⟩
theorem own_mid {w w' : World} {R E B z n : Nat} {e : TypeId} {v : Value} {xs : List Value} (h : w.ownsRow B e z v n xs) (hb : Mid R E w w') (hr : ∀ g, v.ownBlock = some g → g < R ∨ E ≤ g) : w'.ownsRow B e z v n xs := by
  obtain ⟨h0, h1 | ⟨g, cap, cur, rfl, h2, h3, h4⟩⟩ := h
  · exact ⟨h0, .inl h1⟩
  · exact ⟨h0, .inr ⟨g, cap, cur, rfl, h2, hb.box h3 (hr g rfl), h4⟩⟩
theorem Held.mid {w w' : World} {R E B bx : Nat} {p c d : Int} {sa oa : Option Addr} {sc oc : Nat} {st : List Int} {os : List Int} (h : Held w B bx p c d sa oa sc oc st os) (hb : Mid R E w w') (h0 : bx < R ∨ E ≤ bx) (h1 : ∀ g, (Value.slice sa st.length sc).ownBlock = some g → g < R ∨ E ≤ g) (h2 : ∀ g, (Value.slice oa os.length oc).ownBlock = some g → g < R ∨ E ≤ g) : Held w' B bx p c d sa oa sc oc st os := ⟨hb.box h.box h0, own_mid h.sp hb h1, own_mid h.nu hb h2⟩
theorem Held.new {w : World} {B : Nat} {p c d : Int} {sa oa : Option Addr} {sc oc : Nat} {st : List Int} {os : List Int} (h1 : IntOwn w B (.slice sa st.length sc) st) (h2 : IntOwn w B (.slice oa os.length oc) os) : Held (w.alloc (.cells #[.int .i64 p, .int .i64 c, .slice sa st.length sc, .slice oa os.length oc, .int .i64 d] 60)) B w.heap.size p c d sa oa sc oc st os :=
  ⟨new_block w _, int_below h1 (below_alloc1 _ _), int_below h2 (below_alloc1 _ _)⟩
theorem eqM_any (p c d : Int) (sa oa sa' oa' : Option Addr) (sc oc sc' oc' : Nat) (st : List Int) (os : List Int) (w : World) (h1 : st.length ≤ sc) (h2 : sc ≤ maxLen) (h3 : os.length ≤ oc) (h4 : oc ≤ maxLen) (_ : st.length ≤ sc') (_ : sc' ≤ maxLen) (_ : os.length ≤ oc') (_ : oc' ≤ maxLen) (hs : NumRow w sa st) (ho : NumRow w oa os) (hs' : NumRow w sa' st) (ho' : NumRow w oa' os) :
    Calls Try.prog 33 #[.agg #[.int .i64 p, .int .i64 c, .slice sa st.length sc, .slice oa os.length oc, .int .i64 d], .agg #[.int .i64 p, .int .i64 c, .slice sa' st.length sc', .slice oa' os.length oc', .int .i64 d]] w fun e w' => e = .returned (.bool true) ∧ Below w.heap.size w w' :=
  eqCpu_same p c d sa oa sa' oa' sc oc sc' oc' st os w h1 h2 h3 h4 hs ho hs' ho'
theorem q13 {a1 a2 a3 a4 a5 a6 a7 a8 a9 b1 c : Prop} (h : a1 ∧ a2 ∧ a3 ∧ a4 ∧ a5 ∧ a6 ∧ a7 ∧ a8 ∧ a9 ∧ b1 ∧ c) : c := h.2.2.2.2.2.2.2.2.2.2
theorem step_small (fs : List CellD) (m : CM) : (fullC fs m).st.length ≤ 5 ∧ (fullC fs m).os.length ≤ 30 := by
  unfold fullC
  cases hok : cpuOkB fs m.p m.c m.d m.st m.os
  · exact ⟨Nat.zero_le _, Nat.zero_le _⟩
  · obtain ⟨hkp, hv⟩ := ok_inv hok
    have := go_invC hkp hv
    exact ⟨this.sl, this.ol⟩
theorem S_law {w' : World} {N : Nat} {W : World} {t : TypeId} {v0 v1 v2 v3 v4 : Value} (h : w'.heap[N]? = some (.cells #[v0, v1, v2, v3, v4] t) ∧ Below W.heap.size W w') : w'.cell? ⟨N, 0, none⟩ = some v0 ∧ w'.cell? ⟨N, 1, none⟩ = some v1 ∧ w'.cell? ⟨N, 2, none⟩ = some v2 ∧ w'.cell? ⟨N, 3, none⟩ = some v3 ∧ w'.cell? ⟨N, 4, none⟩ = some v4 ∧ w'.heap[N]? = some (.cells #[v0, v1, v2, v3, v4] t) ∧ Below W.heap.size W w' := by
  have x := (box5 h.1).1
  exact ⟨x.1, x.2.1, x.2.2.1, x.2.2.2.1, x.2.2.2.2, h.1, h.2⟩
/-- What lies behind the specification's answer. -/
structure After (w w3 : World) (N B : Nat) (A0 : Array Value) (m1 : CM) (sv ov : Value) : Prop where
  bx : w3.heap[N]? = some (Obj.cells A0 57)
  rs : w3.heap[B]? = some (Obj.cells (aggC m1 sv ov) 60)
  om : OwnC w w3 sv ov m1
/-- .. behind other worlds. -/
def CutTwo (w W : World) (A0 : Array Value) (m1 : CM) (v : Value) (wx : World) : Prop := ∃ (B0 : Nat) (sa0 oa0 : Option Addr) (sc0 oc0 : Nat), v = .pointer (some ⟨B0, 0, none⟩) ∧ w.heap.size < B0 ∧ m1.st.length ≤ sc0 ∧ sc0 ≤ maxLen ∧ m1.os.length ≤ oc0 ∧ oc0 ≤ maxLen ∧ After W wx w.heap.size B0 A0 m1 (.slice sa0 m1.st.length sc0) (.slice oa0 m1.os.length oc0)
/-- .. as the cut's end. -/
def CutEnd (w : World) (A0 : Array Value) (m1 : CM) (v : Value) (wx : World) : Prop := ∃ (B0 : Nat) (sa0 oa0 : Option Addr) (sc0 oc0 : Nat), v = .pointer (some ⟨B0, 0, none⟩) ∧ w.heap.size < B0 ∧ m1.st.length ≤ sc0 ∧ sc0 ≤ maxLen ∧ m1.os.length ≤ oc0 ∧ oc0 ≤ maxLen ∧ After w wx w.heap.size B0 A0 m1 (.slice sa0 m1.st.length sc0) (.slice oa0 m1.os.length oc0)
set_option maxHeartbeats 16000000 in
theorem walk (a : Option Addr) (cap : Nat) (fs : List CellD) (hl : fs.length ≤ cap) (hm : cap ≤ maxLen) (p c d : Int) (sa oa : Option Addr) (sc oc : Nat) (st : List Int) (os : List Int) (h1 : st.length ≤ sc) (h2 : sc ≤ maxLen) (h3 : os.length ≤ oc) (h4 : oc ≤ maxLen) (w : World) (hr : CellRow w a fs) (hs : NumRow w sa st) (ho : NumRow w oa os) :
    Calls Try.prog 7 #[.slice a fs.length cap, .agg #[.int .i64 p, .int .i64 c, .slice sa st.length sc, .slice oa os.length oc, .int .i64 d]] w fun e w' => e = .returned (.bool true) ∧ Below w.heap.size w w' := by
  have HST : Hid (Stable (fun w' => w'.cell? ⟨w.heap.size, 0, none⟩ = some (.int .i64 p) ∧ w'.cell? ⟨w.heap.size, 1, none⟩ = some (.int .i64 c) ∧ w'.cell? ⟨w.heap.size, 2, none⟩ = some (.slice sa st.length sc) ∧ w'.cell? ⟨w.heap.size, 3, none⟩ = some (.slice oa os.length oc) ∧ w'.cell? ⟨w.heap.size, 4, none⟩ = some (.int .i64 d) ∧ w'.heap[w.heap.size]? = some (.cells #[.int .i64 p, .int .i64 c, .slice sa st.length sc, .slice oa os.length oc, .int .i64 d] 57) ∧ Below w.heap.size w w')) := (Stable.cell _ _).and ((Stable.cell _ _).and ((Stable.cell _ _).and ((Stable.cell _ _).and ((Stable.cell _ _).and ((Stable.box _ _).and (Stable.below w))))))
  have HS0 : Hid ((fun w' => w'.cell? ⟨w.heap.size, 0, none⟩ = some (.int .i64 p) ∧ w'.cell? ⟨w.heap.size, 1, none⟩ = some (.int .i64 c) ∧ w'.cell? ⟨w.heap.size, 2, none⟩ = some (.slice sa st.length sc) ∧ w'.cell? ⟨w.heap.size, 3, none⟩ = some (.slice oa os.length oc) ∧ w'.cell? ⟨w.heap.size, 4, none⟩ = some (.int .i64 d) ∧ w'.heap[w.heap.size]? = some (.cells #[.int .i64 p, .int .i64 c, .slice sa st.length sc, .slice oa os.length oc, .int .i64 d] 57) ∧ Below w.heap.size w w') (w.alloc (.cells #[.int .i64 p, .int .i64 c, .slice sa st.length sc, .slice oa os.length oc, .int .i64 d] 57))) := S_law ⟨new_block w _, below_alloc1 _ _⟩
  have HR := hide hr
  have HM := hide hs
  have HN := hide ho
  clear hr hs ho
  by_cases hz : sz1 fs.length 1048576 < 0
  · go_enter Try.func7, Try.ntmps7
    go_wp2_with fail
    refine (szCellS_any a cap fs _ _ (by omega) (by omega) hl hm).mono ?_
    rintro e w1 ⟨rfl, hb1⟩
    have hB1 := bl_trans (unhide HS0).2.2.2.2.2.2 hb1
    clear HS0 hb1
    go_wp2_with fail
    go_ret
    exact ⟨rfl, hB1⟩
  have hlen := sz1_len (n := fs.length) (l := 1048576) (by omega) (by omega)
  have hz1 : sz1 fs.length 1048576 ≤ 1048576 := sz1_bd _ (by omega)
  go_enter Try.func7, Try.ntmps7
  go_wp2_with fail
  refine (szCellS_any a cap fs _ _ (by omega) (by omega) hl hm).mono ?_
  rintro e w1 ⟨rfl, hb1⟩
  have HS1 := hide ((unhide HST).1 _ _ hb1 (unhide HS0))
  clear hb1 HS0
  obtain ⟨c0, c1, c2, c3, c4, cb, hB1⟩ := unhide HS1
  clear cb
  generalize sz1 fs.length 1048576 = z at *
  by_cases hy : szM st.length os.length z < 0
  · go_wp2_with fail
    refine (szCpu_any _ _ _ _ _ _ _ st os _ _ (by omega) (by omega) h1 h2 h3 h4).mono ?_
    rintro e w2 ⟨rfl, hb2⟩
    have hB2 := bl_trans hB1 hb2
    clear c0 c1 c2 c3 c4 hb2
    go_wp2_with fail
    go_ret
    exact ⟨rfl, hB2⟩
  obtain ⟨hle, hlo⟩ := szM_len (n := st.length) (m := os.length) (l := z) (by omega) hz1
  go_wp2_with fail
  refine (szCpu_any _ _ _ _ _ _ _ st os _ _ (by omega) (by omega) h1 h2 h3 h4).mono ?_
  rintro e w2 ⟨rfl, hb2⟩
  have HS2 := hide ((unhide HST).1 _ _ hb2 (unhide HS1))
  clear hb2 HS1 c0 c1 c2 c3 c4 hB1
  generalize szM st.length os.length z = z2 at *
  have hN0 : w.heap.size < w2.heap.size := (Array.getElem?_eq_some_iff.1 (unhide HS2).2.2.2.2.2.1).1
  obtain ⟨m1, hm1⟩ : ∃ m1, fullC fs (⟨p, c, d, st, os⟩ : CM) = m1 := ⟨_, rfl⟩
  have hml : st.length ≤ maxLen := by unfold maxLen; omega
  have hmo : os.length ≤ maxLen := by unfold maxLen; omega
  have HME := hide hm1
  clear hm1
  have HFI : Hid (∀ (a : Option Addr) (cap : Nat) (sa oa : Option Addr) (sc oc : Nat) (w : World), fs.length ≤ cap → cap ≤ maxLen → CellRow w a fs → st.length ≤ sc → sc ≤ maxLen → os.length ≤ oc → oc ≤ maxLen → NumRow w sa st → NumRow w oa os → Calls Try.prog 32 #[.slice a fs.length cap, .agg #[.int .i64 p, .int .i64 c, .slice sa st.length sc, .slice oa os.length oc, .int .i64 d]] w fun e w' => ∃ sv ov, e = .returned (.agg (aggC m1 sv ov)) ∧ OwnC w w' sv ov m1) := fun a cap sa oa sc oc w g1 g2 g3 g4 g5 g6 g7 g8 g9 => by
    have hc := implCpuStep_any a cap fs (⟨p, c, d, st, os⟩ : CM) sa oa sc oc w g1 g2 g3 g4 g5 g6 g7 g8 g9
    rw [unhide HME] at hc
    exact hc
  have HSM : Hid (m1.st.length ≤ 5 ∧ m1.os.length ≤ 30) := by rw [← unhide HME]; exact step_small fs (⟨p, c, d, st, os⟩ : CM)
  go_upto_region 8 with fail
  go_cut [6] (fun v wx => CutEnd w #[.int .i64 p, .int .i64 c, .slice sa st.length sc, .slice oa os.length oc, .int .i64 d] m1 v wx)
  case first =>
    refine wp_region_held_drew (S := (fun w' => w'.cell? ⟨w.heap.size, 0, none⟩ = some (.int .i64 p) ∧ w'.cell? ⟨w.heap.size, 1, none⟩ = some (.int .i64 c) ∧ w'.cell? ⟨w.heap.size, 2, none⟩ = some (.slice sa st.length sc) ∧ w'.cell? ⟨w.heap.size, 3, none⟩ = some (.slice oa os.length oc) ∧ w'.cell? ⟨w.heap.size, 4, none⟩ = some (.int .i64 d) ∧ w'.heap[w.heap.size]? = some (.cells #[.int .i64 p, .int .i64 c, .slice sa st.length sc, .slice oa os.length oc, .int .i64 d] 57) ∧ Below w.heap.size w w')) (by kernel_rfl) ((unhide HST).2 _ (unhide HS2)) (fun hHeld => ?_)
    generalize w2.drew = WA at *
    refine wpAnyH_take (i := 0) (oi := { dst := some 24, op := Go.Op.move (Go.Operand.tmp 0), type := 55, pos := "exact.go:2739", after := #[], guard := none }) (v := ?v1_0) rfl (by kernel_rfl) (by kernel_rfl) (by kernel_rfl) (fun _ _ _ h => h) (Or.inl ⟨by rfl, ?y1_0⟩) (by assumption) ?r1_0
    case y1_0 => (intro w hSw; (try dsimp only at hSw); go_simp; try (with_reducible rfl))
    try simp only [Act.put, List.setIfInBounds_toArray, List.set_cons_zero, List.set_cons_succ]
    refine wpAnyH_take (i := 2) (oi := { dst := some 26, op := Go.Op.load 57 (Go.Operand.tmp 3), type := 57, pos := "exact.go:2739", after := #[], guard := none }) (v := ?v2_2) rfl (by kernel_rfl) (by kernel_rfl) (by kernel_rfl) (fun _ _ _ h => h) (Or.inl ⟨by rfl, ?y2_2⟩) (by assumption) ?r2_2
    case y2_2 => (intro w hSw; (try dsimp only at hSw); go_simp; try (with_reducible rfl))
    try simp only [Act.put, List.setIfInBounds_toArray, List.set_cons_zero, List.set_cons_succ]
    refine wpAnyH_ready (rs := [1, 5]) (by kernel_rfl) (by simp) ?_
    refine AllReadyH.cons (o := { dst := some 25, op := Go.Op.call { callee := Go.Callee.value (Go.Operand.func 30), args := #[Go.Operand.tmp 24], argTypes := #[55] }, type := 62, pos := "exact.go:2739", after := #[{ on := 0, ground := Go.Ground.data }], guard := none }) rfl (fun K hK => ?_) ?_
    · skip
      go_simp
      go_at_call 30
      refine (toCellS_any a cap fs _ hlen hl hm ((unhide HR).below hHeld.2.2.2.2.2.2)).mono ?_
      rintro e wa ⟨rfl, hOk, hbk⟩
      have hF1 := OwnCells.row hOk
      replace hHeld := (unhide HST).1 _ _ hbk hHeld
      clear hOk hbk
      go_wp2_with fail
      refine hK.out _ _ hHeld (fun _ => ?_)
      clear hK K
      try simp only [Act.put, List.setIfInBounds_toArray, List.set_cons_zero, List.set_cons_succ]
      refine wpAnyH_ready (rs := [3, 5]) (by kernel_rfl) (by simp) ?_
      refine AllReadyH.cons (o := { dst := some 27, op := Go.Op.call { callee := Go.Callee.value (Go.Operand.func 31), args := #[Go.Operand.tmp 26], argTypes := #[57] }, type := 60, pos := "exact.go:2739", after := #[{ on := 2, ground := Go.Ground.data }, { on := 1, ground := Go.Ground.chain }], guard := none }) rfl (fun K hK => ?_) ?_
      · skip
        go_simp
        go_at_call 31
        refine (toCpu_any p c d sa oa sc oc st os _ hle hlo h1 h2 h3 h4 ((unhide HM).below hHeld.2.2.2.2.2.2) ((unhide HN).below hHeld.2.2.2.2.2.2)).mono ?_
        rintro e wb ⟨Rk, Sk, hRk, hSk, hEk, rfl, hOk, hQk, hbk⟩
        clear hRk hSk hEk
        have hO1 := OwnNums.row hOk
        have hQ1 := OwnNums.row hQk
        replace hF1 := hF1.below hbk
        replace hHeld := (unhide HST).1 _ _ hbk hHeld
        clear hOk hQk hbk
        go_wp2_with fail
        refine hK.out _ _ hHeld (fun _ => ?_)
        clear hK K
        try simp only [Act.put, List.setIfInBounds_toArray, List.set_cons_zero, List.set_cons_succ]
        refine wpAnyH_ready (rs := [4, 5]) (by kernel_rfl) (by simp) ?_
        refine AllReadyH.cons (o := { dst := some 28, op := Go.Op.call { callee := Go.Callee.value (Go.Operand.func 29), args := #[Go.Operand.tmp 25, Go.Operand.tmp 27], argTypes := #[62, 60] }, type := 60, pos := "exact.go:2739", after := #[{ on := 1, ground := Go.Ground.data }, { on := 3, ground := Go.Ground.data }, { on := 3, ground := Go.Ground.chain }], guard := none }) rfl (fun K hK => ?_) ?_
        · skip
          go_simp
          go_at_call 29
          refine ((by have hc := specCpuStep_any _ _ fs (⟨p, c, d, st, os⟩ : CM) _ _ _ _ _ (Nat.le_refl _) (by unfold maxLen; omega) hF1 (Nat.le_refl _) hml (Nat.le_refl _) hmo hle hlo hO1 hQ1; rw [unhide HME] at hc; exact hc : Calls Try.prog 29 _ _ fun e w' => ∃ sv ov, e = .returned (.agg (aggC m1 sv ov)) ∧ OwnC _ w' sv ov m1)).mono ?_
          rintro e wc ⟨sv0, ov0, rfl, hOM⟩
          have hbk := hOM.2.2.2
          replace hOM := own_base hOM hHeld.2.2.2.2.2.2
          replace hHeld := (unhide HST).1 _ _ hbk hHeld
          clear hF1 hO1 hQ1 hbk
          obtain ⟨sa0, sc0, rfl, q1, q2⟩ := int_form hOM.1
          obtain ⟨oa0, oc0, rfl, q3, q4⟩ := int_form hOM.2.1
          unfold aggC
          go_wp2_with fail
          refine hK.out _ _ hHeld (fun _ => ?_)
          clear hK K
          try simp only [Act.put, List.setIfInBounds_toArray, List.set_cons_zero, List.set_cons_succ]
          refine wpAnyH_ready (rs := [5]) (by kernel_rfl) (by simp) ?_
          refine AllReadyH.cons (o := { dst := some 6, op := Go.Op.alloc 60, type := 0, pos := "exact.go:2739", after := #[], guard := none }) rfl (fun K hK => ?_) AllReadyH.nil
          go_simp
          have hres := new_block wc (.cells #[.int .i64 0, .int .i64 0, .slice none 0 0, .slice none 0 0, .int .i64 0] 60)
          have hNB : w.heap.size < wc.heap.size := (Array.getElem?_eq_some_iff.1 hHeld.2.2.2.2.2.1).1
          have hNEB := Nat.ne_of_gt hNB
          have hNW := hHeld.2.2.2.2.2.2.size
          have hbk := below_alloc1 wc (.cells #[.int .i64 0, .int .i64 0, .slice none 0 0, .slice none 0 0, .int .i64 0] 60)
          replace hOM := hOM.below hbk
          replace hHeld := (unhide HST).1 _ _ hbk hHeld
          clear hbk
          generalize wc.alloc (.cells #[.int .i64 0, .int .i64 0, .slice none 0 0, .slice none 0 0, .int .i64 0] 60) = wx at *
          generalize hB0 : wc.heap.size = B0 at *
          clear hB0
          refine hK.out _ _ hHeld (fun _ => ?_)
          clear hK K
          try simp only [Act.put, List.setIfInBounds_toArray, List.set_cons_zero, List.set_cons_succ]
          refine wpAnyH_ready (rs := [6]) (by kernel_rfl) (by simp) ?_
          refine AllReadyH.cons (o := { dst := none, op := Go.Op.store 60 (Go.Operand.tmp 6) (Go.Operand.tmp 28), type := 0, pos := "exact.go:2739", after := #[{ on := 5, ground := Go.Ground.data }, { on := 4, ground := Go.Ground.data }, { on := 4, ground := Go.Ground.chain }, { on := 0, ground := Go.Ground.phase }, { on := 1, ground := Go.Ground.phase }, { on := 2, ground := Go.Ground.phase }, { on := 3, ground := Go.Ground.phase }, { on := 4, ground := Go.Ground.phase }, { on := 5, ground := Go.Ground.phase }], guard := none }) rfl (fun K hK => ?_) AllReadyH.nil
          have hrN := box5 hres
          have hBX := hHeld.2.2.2.2.2.1
          have hB0 := hHeld.2.2.2.2.2.2
          go_simp
          have hA : After w ((((((wx.setCell ⟨B0, 0, none⟩ (.int .i64 m1.p)).setCell ⟨B0, 1, none⟩ (.int .i64 m1.c)).setCell ⟨B0, 2, none⟩ (.slice sa0 m1.st.length sc0)).setCell ⟨B0, 3, none⟩ (.slice oa0 m1.os.length oc0)).setCell ⟨B0, 4, none⟩ (.int .i64 m1.d))) w.heap.size B0 #[.int .i64 p, .int .i64 c, .slice sa st.length sc, .slice oa os.length oc, .int .i64 d] m1 (.slice sa0 m1.st.length sc0) (.slice oa0 m1.os.length oc0) := by
            refine ⟨?_, ?_, ?_⟩
            · exact set_other (set_other (set_other (set_other (set_other hBX hNEB) hNEB) hNEB) hNEB) hNEB
            · exact eq_cells (block_setCell (block_setCell (block_setCell (block_setCell (block_setCell hres _) _) _) _) _) (by simp [aggC])
            · have hMA : OffAt wx B0 := off_of hres
              repeat (with_reducible refine OwnC.set ?_ (by (repeat (with_reducible refine OffAt.set ?_)); exact hMA) hNW)
              exact hOM
          refine hK.out _ _ (S_law ⟨hA.bx, hA.om.2.2.2⟩) (fun _ => ?_)
          clear hK K hHeld hres hrN hBX hB0 hOM
          try simp only [Act.put, List.setIfInBounds_toArray, List.set_cons_zero, List.set_cons_succ]
          refine wpAnyH_done (by kernel_rfl) ?_ _
          generalize (((((wx.setCell ⟨B0, 0, none⟩ (.int .i64 m1.p)).setCell ⟨B0, 1, none⟩ (.int .i64 m1.c)).setCell ⟨B0, 2, none⟩ (.slice sa0 m1.st.length sc0)).setCell ⟨B0, 3, none⟩ (.slice oa0 m1.os.length oc0)).setCell ⟨B0, 4, none⟩ (.int .i64 m1.d)) = w3 at *
          go_wp2_with fail
          go_meet
          exact ⟨B0, sa0, oa0, sc0, oc0, rfl, hNB, q1, q2, q3, q4, hA⟩
        refine AllReadyH.cons (o := { dst := some 6, op := Go.Op.alloc 60, type := 0, pos := "exact.go:2739", after := #[], guard := none }) rfl (fun K hK => ?_) AllReadyH.nil
        go_simp
        have hres := new_block wb (.cells #[.int .i64 0, .int .i64 0, .slice none 0 0, .slice none 0 0, .int .i64 0] 60)
        have hNB : w.heap.size < wb.heap.size := (Array.getElem?_eq_some_iff.1 hHeld.2.2.2.2.2.1).1
        have hNEB := Nat.ne_of_gt hNB
        have hNW := hHeld.2.2.2.2.2.2.size
        have hbk := below_alloc1 wb (.cells #[.int .i64 0, .int .i64 0, .slice none 0 0, .slice none 0 0, .int .i64 0] 60)
        replace hF1 := hF1.below hbk
        replace hO1 := hO1.below hbk
        replace hQ1 := hQ1.below hbk
        replace hHeld := (unhide HST).1 _ _ hbk hHeld
        clear hbk
        generalize wb.alloc (.cells #[.int .i64 0, .int .i64 0, .slice none 0 0, .slice none 0 0, .int .i64 0] 60) = wx at *
        generalize hB0 : wb.heap.size = B0 at *
        clear hB0
        refine hK.out _ _ hHeld (fun _ => ?_)
        clear hK K
        try simp only [Act.put, List.setIfInBounds_toArray, List.set_cons_zero, List.set_cons_succ]
        refine wpAnyH_ready (rs := [4]) (by kernel_rfl) (by simp) ?_
        refine AllReadyH.cons (o := { dst := some 28, op := Go.Op.call { callee := Go.Callee.value (Go.Operand.func 29), args := #[Go.Operand.tmp 25, Go.Operand.tmp 27], argTypes := #[62, 60] }, type := 60, pos := "exact.go:2739", after := #[{ on := 1, ground := Go.Ground.data }, { on := 3, ground := Go.Ground.data }, { on := 3, ground := Go.Ground.chain }], guard := none }) rfl (fun K hK => ?_) AllReadyH.nil
        go_simp
        go_at_call 29
        refine ((by have hc := specCpuStep_any _ _ fs (⟨p, c, d, st, os⟩ : CM) _ _ _ _ _ (Nat.le_refl _) (by unfold maxLen; omega) hF1 (Nat.le_refl _) hml (Nat.le_refl _) hmo hle hlo hO1 hQ1; rw [unhide HME] at hc; exact hc : Calls Try.prog 29 _ _ fun e w' => ∃ sv ov, e = .returned (.agg (aggC m1 sv ov)) ∧ OwnC _ w' sv ov m1)).mono ?_
        rintro e wc ⟨sv0, ov0, rfl, hOM⟩
        have hbk := hOM.2.2.2
        replace hOM := own_base hOM hHeld.2.2.2.2.2.2
        replace hres := box_below hres hbk
        replace hHeld := (unhide HST).1 _ _ hbk hHeld
        clear hF1 hO1 hQ1 hbk
        obtain ⟨sa0, sc0, rfl, q1, q2⟩ := int_form hOM.1
        obtain ⟨oa0, oc0, rfl, q3, q4⟩ := int_form hOM.2.1
        unfold aggC
        go_wp2_with fail
        refine hK.out _ _ hHeld (fun _ => ?_)
        clear hK K
        try simp only [Act.put, List.setIfInBounds_toArray, List.set_cons_zero, List.set_cons_succ]
        refine wpAnyH_ready (rs := [6]) (by kernel_rfl) (by simp) ?_
        refine AllReadyH.cons (o := { dst := none, op := Go.Op.store 60 (Go.Operand.tmp 6) (Go.Operand.tmp 28), type := 0, pos := "exact.go:2739", after := #[{ on := 5, ground := Go.Ground.data }, { on := 4, ground := Go.Ground.data }, { on := 4, ground := Go.Ground.chain }, { on := 0, ground := Go.Ground.phase }, { on := 1, ground := Go.Ground.phase }, { on := 2, ground := Go.Ground.phase }, { on := 3, ground := Go.Ground.phase }, { on := 4, ground := Go.Ground.phase }, { on := 5, ground := Go.Ground.phase }], guard := none }) rfl (fun K hK => ?_) AllReadyH.nil
        have hrN := box5 hres
        have hBX := hHeld.2.2.2.2.2.1
        have hB0 := hHeld.2.2.2.2.2.2
        go_simp
        have hA : After w ((((((wc.setCell ⟨B0, 0, none⟩ (.int .i64 m1.p)).setCell ⟨B0, 1, none⟩ (.int .i64 m1.c)).setCell ⟨B0, 2, none⟩ (.slice sa0 m1.st.length sc0)).setCell ⟨B0, 3, none⟩ (.slice oa0 m1.os.length oc0)).setCell ⟨B0, 4, none⟩ (.int .i64 m1.d))) w.heap.size B0 #[.int .i64 p, .int .i64 c, .slice sa st.length sc, .slice oa os.length oc, .int .i64 d] m1 (.slice sa0 m1.st.length sc0) (.slice oa0 m1.os.length oc0) := by
          refine ⟨?_, ?_, ?_⟩
          · exact set_other (set_other (set_other (set_other (set_other hBX hNEB) hNEB) hNEB) hNEB) hNEB
          · exact eq_cells (block_setCell (block_setCell (block_setCell (block_setCell (block_setCell hres _) _) _) _) _) (by simp [aggC])
          · have hMA : OffAt wc B0 := off_of hres
            repeat (with_reducible refine OwnC.set ?_ (by (repeat (with_reducible refine OffAt.set ?_)); exact hMA) hNW)
            exact hOM
        refine hK.out _ _ (S_law ⟨hA.bx, hA.om.2.2.2⟩) (fun _ => ?_)
        clear hK K hHeld hres hrN hBX hB0 hOM
        try simp only [Act.put, List.setIfInBounds_toArray, List.set_cons_zero, List.set_cons_succ]
        refine wpAnyH_done (by kernel_rfl) ?_ _
        generalize (((((wc.setCell ⟨B0, 0, none⟩ (.int .i64 m1.p)).setCell ⟨B0, 1, none⟩ (.int .i64 m1.c)).setCell ⟨B0, 2, none⟩ (.slice sa0 m1.st.length sc0)).setCell ⟨B0, 3, none⟩ (.slice oa0 m1.os.length oc0)).setCell ⟨B0, 4, none⟩ (.int .i64 m1.d)) = w3 at *
        go_wp2_with fail
        go_meet
        exact ⟨B0, sa0, oa0, sc0, oc0, rfl, hNB, q1, q2, q3, q4, hA⟩
      refine AllReadyH.cons (o := { dst := some 6, op := Go.Op.alloc 60, type := 0, pos := "exact.go:2739", after := #[], guard := none }) rfl (fun K hK => ?_) AllReadyH.nil
      go_simp
      have hres := new_block wa (.cells #[.int .i64 0, .int .i64 0, .slice none 0 0, .slice none 0 0, .int .i64 0] 60)
      have hNB : w.heap.size < wa.heap.size := (Array.getElem?_eq_some_iff.1 hHeld.2.2.2.2.2.1).1
      have hNEB := Nat.ne_of_gt hNB
      have hNW := hHeld.2.2.2.2.2.2.size
      have hbk := below_alloc1 wa (.cells #[.int .i64 0, .int .i64 0, .slice none 0 0, .slice none 0 0, .int .i64 0] 60)
      replace hF1 := hF1.below hbk
      replace hHeld := (unhide HST).1 _ _ hbk hHeld
      clear hbk
      generalize wa.alloc (.cells #[.int .i64 0, .int .i64 0, .slice none 0 0, .slice none 0 0, .int .i64 0] 60) = wx at *
      generalize hB0 : wa.heap.size = B0 at *
      clear hB0
      refine hK.out _ _ hHeld (fun _ => ?_)
      clear hK K
      try simp only [Act.put, List.setIfInBounds_toArray, List.set_cons_zero, List.set_cons_succ]
      refine wpAnyH_ready (rs := [3]) (by kernel_rfl) (by simp) ?_
      refine AllReadyH.cons (o := { dst := some 27, op := Go.Op.call { callee := Go.Callee.value (Go.Operand.func 31), args := #[Go.Operand.tmp 26], argTypes := #[57] }, type := 60, pos := "exact.go:2739", after := #[{ on := 2, ground := Go.Ground.data }, { on := 1, ground := Go.Ground.chain }], guard := none }) rfl (fun K hK => ?_) AllReadyH.nil
      go_simp
      go_at_call 31
      refine (toCpu_any p c d sa oa sc oc st os _ hle hlo h1 h2 h3 h4 ((unhide HM).below hHeld.2.2.2.2.2.2) ((unhide HN).below hHeld.2.2.2.2.2.2)).mono ?_
      rintro e wb ⟨Rk, Sk, hRk, hSk, hEk, rfl, hOk, hQk, hbk⟩
      clear hRk hSk hEk
      have hO1 := OwnNums.row hOk
      have hQ1 := OwnNums.row hQk
      replace hF1 := hF1.below hbk
      replace hres := box_below hres hbk
      replace hHeld := (unhide HST).1 _ _ hbk hHeld
      clear hOk hQk hbk
      go_wp2_with fail
      refine hK.out _ _ hHeld (fun _ => ?_)
      clear hK K
      try simp only [Act.put, List.setIfInBounds_toArray, List.set_cons_zero, List.set_cons_succ]
      refine wpAnyH_ready (rs := [4]) (by kernel_rfl) (by simp) ?_
      refine AllReadyH.cons (o := { dst := some 28, op := Go.Op.call { callee := Go.Callee.value (Go.Operand.func 29), args := #[Go.Operand.tmp 25, Go.Operand.tmp 27], argTypes := #[62, 60] }, type := 60, pos := "exact.go:2739", after := #[{ on := 1, ground := Go.Ground.data }, { on := 3, ground := Go.Ground.data }, { on := 3, ground := Go.Ground.chain }], guard := none }) rfl (fun K hK => ?_) AllReadyH.nil
      go_simp
      go_at_call 29
      refine ((by have hc := specCpuStep_any _ _ fs (⟨p, c, d, st, os⟩ : CM) _ _ _ _ _ (Nat.le_refl _) (by unfold maxLen; omega) hF1 (Nat.le_refl _) hml (Nat.le_refl _) hmo hle hlo hO1 hQ1; rw [unhide HME] at hc; exact hc : Calls Try.prog 29 _ _ fun e w' => ∃ sv ov, e = .returned (.agg (aggC m1 sv ov)) ∧ OwnC _ w' sv ov m1)).mono ?_
      rintro e wc ⟨sv0, ov0, rfl, hOM⟩
      have hbk := hOM.2.2.2
      replace hOM := own_base hOM hHeld.2.2.2.2.2.2
      replace hres := box_below hres hbk
      replace hHeld := (unhide HST).1 _ _ hbk hHeld
      clear hF1 hO1 hQ1 hbk
      obtain ⟨sa0, sc0, rfl, q1, q2⟩ := int_form hOM.1
      obtain ⟨oa0, oc0, rfl, q3, q4⟩ := int_form hOM.2.1
      unfold aggC
      go_wp2_with fail
      refine hK.out _ _ hHeld (fun _ => ?_)
      clear hK K
      try simp only [Act.put, List.setIfInBounds_toArray, List.set_cons_zero, List.set_cons_succ]
      refine wpAnyH_ready (rs := [6]) (by kernel_rfl) (by simp) ?_
      refine AllReadyH.cons (o := { dst := none, op := Go.Op.store 60 (Go.Operand.tmp 6) (Go.Operand.tmp 28), type := 0, pos := "exact.go:2739", after := #[{ on := 5, ground := Go.Ground.data }, { on := 4, ground := Go.Ground.data }, { on := 4, ground := Go.Ground.chain }, { on := 0, ground := Go.Ground.phase }, { on := 1, ground := Go.Ground.phase }, { on := 2, ground := Go.Ground.phase }, { on := 3, ground := Go.Ground.phase }, { on := 4, ground := Go.Ground.phase }, { on := 5, ground := Go.Ground.phase }], guard := none }) rfl (fun K hK => ?_) AllReadyH.nil
      have hrN := box5 hres
      have hBX := hHeld.2.2.2.2.2.1
      have hB0 := hHeld.2.2.2.2.2.2
      go_simp
      have hA : After w ((((((wc.setCell ⟨B0, 0, none⟩ (.int .i64 m1.p)).setCell ⟨B0, 1, none⟩ (.int .i64 m1.c)).setCell ⟨B0, 2, none⟩ (.slice sa0 m1.st.length sc0)).setCell ⟨B0, 3, none⟩ (.slice oa0 m1.os.length oc0)).setCell ⟨B0, 4, none⟩ (.int .i64 m1.d))) w.heap.size B0 #[.int .i64 p, .int .i64 c, .slice sa st.length sc, .slice oa os.length oc, .int .i64 d] m1 (.slice sa0 m1.st.length sc0) (.slice oa0 m1.os.length oc0) := by
        refine ⟨?_, ?_, ?_⟩
        · exact set_other (set_other (set_other (set_other (set_other hBX hNEB) hNEB) hNEB) hNEB) hNEB
        · exact eq_cells (block_setCell (block_setCell (block_setCell (block_setCell (block_setCell hres _) _) _) _) _) (by simp [aggC])
        · have hMA : OffAt wc B0 := off_of hres
          repeat (with_reducible refine OwnC.set ?_ (by (repeat (with_reducible refine OffAt.set ?_)); exact hMA) hNW)
          exact hOM
      refine hK.out _ _ (S_law ⟨hA.bx, hA.om.2.2.2⟩) (fun _ => ?_)
      clear hK K hHeld hres hrN hBX hB0 hOM
      try simp only [Act.put, List.setIfInBounds_toArray, List.set_cons_zero, List.set_cons_succ]
      refine wpAnyH_done (by kernel_rfl) ?_ _
      generalize (((((wc.setCell ⟨B0, 0, none⟩ (.int .i64 m1.p)).setCell ⟨B0, 1, none⟩ (.int .i64 m1.c)).setCell ⟨B0, 2, none⟩ (.slice sa0 m1.st.length sc0)).setCell ⟨B0, 3, none⟩ (.slice oa0 m1.os.length oc0)).setCell ⟨B0, 4, none⟩ (.int .i64 m1.d)) = w3 at *
      go_wp2_with fail
      go_meet
      exact ⟨B0, sa0, oa0, sc0, oc0, rfl, hNB, q1, q2, q3, q4, hA⟩
    refine AllReadyH.cons (o := { dst := some 6, op := Go.Op.alloc 60, type := 0, pos := "exact.go:2739", after := #[], guard := none }) rfl (fun K hK => ?_) AllReadyH.nil
    go_simp
    have hres := new_block WA (.cells #[.int .i64 0, .int .i64 0, .slice none 0 0, .slice none 0 0, .int .i64 0] 60)
    have hNB : w.heap.size < WA.heap.size := (Array.getElem?_eq_some_iff.1 hHeld.2.2.2.2.2.1).1
    have hNEB := Nat.ne_of_gt hNB
    have hNW := hHeld.2.2.2.2.2.2.size
    have hbk := below_alloc1 WA (.cells #[.int .i64 0, .int .i64 0, .slice none 0 0, .slice none 0 0, .int .i64 0] 60)
    replace hHeld := (unhide HST).1 _ _ hbk hHeld
    clear hbk
    generalize WA.alloc (.cells #[.int .i64 0, .int .i64 0, .slice none 0 0, .slice none 0 0, .int .i64 0] 60) = wx at *
    generalize hB0 : WA.heap.size = B0 at *
    clear hB0
    refine hK.out _ _ hHeld (fun _ => ?_)
    clear hK K
    try simp only [Act.put, List.setIfInBounds_toArray, List.set_cons_zero, List.set_cons_succ]
    refine wpAnyH_ready (rs := [1]) (by kernel_rfl) (by simp) ?_
    refine AllReadyH.cons (o := { dst := some 25, op := Go.Op.call { callee := Go.Callee.value (Go.Operand.func 30), args := #[Go.Operand.tmp 24], argTypes := #[55] }, type := 62, pos := "exact.go:2739", after := #[{ on := 0, ground := Go.Ground.data }], guard := none }) rfl (fun K hK => ?_) AllReadyH.nil
    go_simp
    go_at_call 30
    refine (toCellS_any a cap fs _ hlen hl hm ((unhide HR).below hHeld.2.2.2.2.2.2)).mono ?_
    rintro e wa ⟨rfl, hOk, hbk⟩
    have hF1 := OwnCells.row hOk
    replace hres := box_below hres hbk
    replace hHeld := (unhide HST).1 _ _ hbk hHeld
    clear hOk hbk
    go_wp2_with fail
    refine hK.out _ _ hHeld (fun _ => ?_)
    clear hK K
    try simp only [Act.put, List.setIfInBounds_toArray, List.set_cons_zero, List.set_cons_succ]
    refine wpAnyH_ready (rs := [3]) (by kernel_rfl) (by simp) ?_
    refine AllReadyH.cons (o := { dst := some 27, op := Go.Op.call { callee := Go.Callee.value (Go.Operand.func 31), args := #[Go.Operand.tmp 26], argTypes := #[57] }, type := 60, pos := "exact.go:2739", after := #[{ on := 2, ground := Go.Ground.data }, { on := 1, ground := Go.Ground.chain }], guard := none }) rfl (fun K hK => ?_) AllReadyH.nil
    go_simp
    go_at_call 31
    refine (toCpu_any p c d sa oa sc oc st os _ hle hlo h1 h2 h3 h4 ((unhide HM).below hHeld.2.2.2.2.2.2) ((unhide HN).below hHeld.2.2.2.2.2.2)).mono ?_
    rintro e wb ⟨Rk, Sk, hRk, hSk, hEk, rfl, hOk, hQk, hbk⟩
    clear hRk hSk hEk
    have hO1 := OwnNums.row hOk
    have hQ1 := OwnNums.row hQk
    replace hF1 := hF1.below hbk
    replace hres := box_below hres hbk
    replace hHeld := (unhide HST).1 _ _ hbk hHeld
    clear hOk hQk hbk
    go_wp2_with fail
    refine hK.out _ _ hHeld (fun _ => ?_)
    clear hK K
    try simp only [Act.put, List.setIfInBounds_toArray, List.set_cons_zero, List.set_cons_succ]
    refine wpAnyH_ready (rs := [4]) (by kernel_rfl) (by simp) ?_
    refine AllReadyH.cons (o := { dst := some 28, op := Go.Op.call { callee := Go.Callee.value (Go.Operand.func 29), args := #[Go.Operand.tmp 25, Go.Operand.tmp 27], argTypes := #[62, 60] }, type := 60, pos := "exact.go:2739", after := #[{ on := 1, ground := Go.Ground.data }, { on := 3, ground := Go.Ground.data }, { on := 3, ground := Go.Ground.chain }], guard := none }) rfl (fun K hK => ?_) AllReadyH.nil
    go_simp
    go_at_call 29
    refine ((by have hc := specCpuStep_any _ _ fs (⟨p, c, d, st, os⟩ : CM) _ _ _ _ _ (Nat.le_refl _) (by unfold maxLen; omega) hF1 (Nat.le_refl _) hml (Nat.le_refl _) hmo hle hlo hO1 hQ1; rw [unhide HME] at hc; exact hc : Calls Try.prog 29 _ _ fun e w' => ∃ sv ov, e = .returned (.agg (aggC m1 sv ov)) ∧ OwnC _ w' sv ov m1)).mono ?_
    rintro e wc ⟨sv0, ov0, rfl, hOM⟩
    have hbk := hOM.2.2.2
    replace hOM := own_base hOM hHeld.2.2.2.2.2.2
    replace hres := box_below hres hbk
    replace hHeld := (unhide HST).1 _ _ hbk hHeld
    clear hF1 hO1 hQ1 hbk
    obtain ⟨sa0, sc0, rfl, q1, q2⟩ := int_form hOM.1
    obtain ⟨oa0, oc0, rfl, q3, q4⟩ := int_form hOM.2.1
    unfold aggC
    go_wp2_with fail
    refine hK.out _ _ hHeld (fun _ => ?_)
    clear hK K
    try simp only [Act.put, List.setIfInBounds_toArray, List.set_cons_zero, List.set_cons_succ]
    refine wpAnyH_ready (rs := [6]) (by kernel_rfl) (by simp) ?_
    refine AllReadyH.cons (o := { dst := none, op := Go.Op.store 60 (Go.Operand.tmp 6) (Go.Operand.tmp 28), type := 0, pos := "exact.go:2739", after := #[{ on := 5, ground := Go.Ground.data }, { on := 4, ground := Go.Ground.data }, { on := 4, ground := Go.Ground.chain }, { on := 0, ground := Go.Ground.phase }, { on := 1, ground := Go.Ground.phase }, { on := 2, ground := Go.Ground.phase }, { on := 3, ground := Go.Ground.phase }, { on := 4, ground := Go.Ground.phase }, { on := 5, ground := Go.Ground.phase }], guard := none }) rfl (fun K hK => ?_) AllReadyH.nil
    have hrN := box5 hres
    have hBX := hHeld.2.2.2.2.2.1
    have hB0 := hHeld.2.2.2.2.2.2
    go_simp
    have hA : After w ((((((wc.setCell ⟨B0, 0, none⟩ (.int .i64 m1.p)).setCell ⟨B0, 1, none⟩ (.int .i64 m1.c)).setCell ⟨B0, 2, none⟩ (.slice sa0 m1.st.length sc0)).setCell ⟨B0, 3, none⟩ (.slice oa0 m1.os.length oc0)).setCell ⟨B0, 4, none⟩ (.int .i64 m1.d))) w.heap.size B0 #[.int .i64 p, .int .i64 c, .slice sa st.length sc, .slice oa os.length oc, .int .i64 d] m1 (.slice sa0 m1.st.length sc0) (.slice oa0 m1.os.length oc0) := by
      refine ⟨?_, ?_, ?_⟩
      · exact set_other (set_other (set_other (set_other (set_other hBX hNEB) hNEB) hNEB) hNEB) hNEB
      · exact eq_cells (block_setCell (block_setCell (block_setCell (block_setCell (block_setCell hres _) _) _) _) _) (by simp [aggC])
      · have hMA : OffAt wc B0 := off_of hres
        repeat (with_reducible refine OwnC.set ?_ (by (repeat (with_reducible refine OffAt.set ?_)); exact hMA) hNW)
        exact hOM
    refine hK.out _ _ (S_law ⟨hA.bx, hA.om.2.2.2⟩) (fun _ => ?_)
    clear hK K hHeld hres hrN hBX hB0 hOM
    try simp only [Act.put, List.setIfInBounds_toArray, List.set_cons_zero, List.set_cons_succ]
    refine wpAnyH_done (by kernel_rfl) ?_ _
    generalize (((((wc.setCell ⟨B0, 0, none⟩ (.int .i64 m1.p)).setCell ⟨B0, 1, none⟩ (.int .i64 m1.c)).setCell ⟨B0, 2, none⟩ (.slice sa0 m1.st.length sc0)).setCell ⟨B0, 3, none⟩ (.slice oa0 m1.os.length oc0)).setCell ⟨B0, 4, none⟩ (.int .i64 m1.d)) = w3 at *
    go_wp2_with fail
    go_meet
    exact ⟨B0, sa0, oa0, sc0, oc0, rfl, hNB, q1, q2, q3, q4, hA⟩
  case rest =>
    obtain ⟨B0, sa0, oa0, sc0, oc0, rfl, hNB, q1, q2, q3, q4, hA⟩ := hcut
    obtain ⟨hA1, hA2, hA3⟩ := hA
    obtain ⟨hs5, ho30⟩ := unhide HSM
    unfold aggC at hA2
    have HW : Hid (Held wc w.heap.size B0 m1.p m1.c m1.d sa0 oa0 sc0 oc0 m1.st m1.os) := ⟨hA2, hA3.1, hA3.2.1⟩
    have HN1 : Hid (∀ g, (Value.slice sa0 m1.st.length sc0).ownBlock = some g → g < wc.heap.size) := fun g hg => (World.ownsRow.lt hA3.1 g hg).2
    have HN2 : Hid (∀ g, (Value.slice oa0 m1.os.length oc0).ownBlock = some g → g < wc.heap.size) := fun g hg => (World.ownsRow.lt hA3.2.1 g hg).2
    have hB0c : B0 < wc.heap.size := (Array.getElem?_eq_some_iff.1 hA2).1
    have HS3 : Hid ((fun w' => w'.cell? ⟨w.heap.size, 0, none⟩ = some (.int .i64 p) ∧ w'.cell? ⟨w.heap.size, 1, none⟩ = some (.int .i64 c) ∧ w'.cell? ⟨w.heap.size, 2, none⟩ = some (.slice sa st.length sc) ∧ w'.cell? ⟨w.heap.size, 3, none⟩ = some (.slice oa os.length oc) ∧ w'.cell? ⟨w.heap.size, 4, none⟩ = some (.int .i64 d) ∧ w'.heap[w.heap.size]? = some (.cells #[.int .i64 p, .int .i64 c, .slice sa st.length sc, .slice oa os.length oc, .int .i64 d] 57) ∧ Below w.heap.size w w') wc) := S_law ⟨hA1, hA3.2.2.2⟩
    have hwc := hA3.2.2.2.size
    clear hA1 hA2 hA3
    go_wp2_with fail
    refine (toCellS_any a cap fs _ hlen hl hm ((unhide HR).below (unhide HS3).2.2.2.2.2.2)).mono ?_
    rintro e w4 ⟨rfl, hO4, hb4⟩
    have HS4 := hide ((unhide HST).1 _ _ hb4 (unhide HS3))
    have HW4 := hide ((unhide HW).below hb4)
    have HO4 := hide hO4
    have hs4 : wc.heap.size < w4.heap.size := by obtain ⟨C, hC, _⟩ := hO4; exact (Array.getElem?_eq_some_iff.1 hC).1
    have HM4 := hide (CanC.made hO4 (Nat.le_refl wc.heap.size) hs4)
    clear hO4 hb4 HW HS3
    obtain ⟨c0, c1, c2, c3, c4, cb, hB4⟩ := unhide HS4
    clear cb
    go_wp2_with fail
    refine (toCpu_any p c d sa oa sc oc st os _ hle hlo h1 h2 h3 h4 ((unhide HM).below hB4) ((unhide HN).below hB4)).mono ?_
    rintro e w5 ⟨R5, S5, hR5, hS5, hE5, rfl, hO5, hQ5, hb5⟩
    have hA5 := bl_alloc hb5 (.cells #[.int .i64 p, .int .i64 c, .slice (some ⟨R5, 0, none⟩) st.length st.length, .slice (some ⟨S5, 0, none⟩) os.length os.length, .int .i64 d] 60)
    have hb55 := below_alloc1 w5 (.cells #[.int .i64 p, .int .i64 c, .slice (some ⟨R5, 0, none⟩) st.length st.length, .slice (some ⟨S5, 0, none⟩) os.length os.length, .int .i64 d] 60)
    have HAP5 : Hid (Apart (.slice (some ⟨R5, 0, none⟩) st.length st.length) (.slice (some ⟨S5, 0, none⟩) os.length os.length)) := .inr (by simp [Value.ownBlock]; omega)
    have HX5 := hide (new_block w5 (.cells #[.int .i64 p, .int .i64 c, .slice (some ⟨R5, 0, none⟩) st.length st.length, .slice (some ⟨S5, 0, none⟩) os.length os.length, .int .i64 d] 60))
    have HP5 := hide ((OwnNums.row hO5).below hb55)
    have HQ5 := hide ((OwnNums.row hQ5).below hb55)
    have HC5 := hide ((CanN.made (R := w4.heap.size) (E := w5.heap.size) hO5 hR5 (by omega)).below hb55)
    have HD5 := hide ((CanN.made (R := w4.heap.size) (E := w5.heap.size) hQ5 (by omega) hE5).below hb55)
    have HS5 := hide ((unhide HST).1 _ _ hA5 (unhide HS4))
    have HW5 := hide ((unhide HW4).below hA5)
    have HO5 := hide ((unhide HO4).below hA5)
    have HM5 := hide ((unhide HM4).below hA5)
    have hz5 := hb5.size
    clear hO5 hQ5 hb5 hA5 hb55 HS4 HW4 HO4 HM4 hB4 c0 c1 c2 c3 c4
    have xx := (box5 (unhide HX5)).1
    go_wp2_with fail
    clear xx
    refine (unhide HFI _ _ _ _ _ _ _ (Nat.le_refl _) (by unfold maxLen; omega) ((unhide HO5).row) (Nat.le_refl _) hml (Nat.le_refl _) hmo (unhide HP5) (unhide HQ5)).mono ?_
    rintro e w6 ⟨sv1, ov1, rfl, hM6⟩
    have hM61 := hM6.1
    have hM62 := hM6.2.1
    have HAP6 := hide hM6.2.2.1
    have hM63 := hM6.2.2.2
    rw [World.size_alloc] at hM61 hM62
    clear hM6
    obtain ⟨sa1, sc1, rfl, k1, k2⟩ := int_form hM61
    obtain ⟨oa1, oc1, rfl, k3, k4⟩ := int_form hM62
    have HG6 := hide (Held.new (p := m1.p) (c := m1.c) (d := m1.d) hM61 hM62)
    have HE6 := hide ((CanN.of hM61 (Nat.le_refl _)).below (below_alloc1 w6 (.cells #[.int .i64 m1.p, .int .i64 m1.c, .slice sa1 m1.st.length sc1, .slice oa1 m1.os.length oc1, .int .i64 m1.d] 60)))
    have HF6 := hide ((CanN.of hM62 (Nat.le_refl _)).below (below_alloc1 w6 (.cells #[.int .i64 m1.p, .int .i64 m1.c, .slice sa1 m1.st.length sc1, .slice oa1 m1.os.length oc1, .int .i64 m1.d] 60)))
    have hA6 := bl_alloc hM63 (.cells #[.int .i64 m1.p, .int .i64 m1.c, .slice sa1 m1.st.length sc1, .slice oa1 m1.os.length oc1, .int .i64 m1.d] 60)
    have z6 := hM63.size
    rw [World.size_alloc] at z6
    have zw6 : (w6.alloc (.cells #[.int .i64 m1.p, .int .i64 m1.c, .slice sa1 m1.st.length sc1, .slice oa1 m1.os.length oc1, .int .i64 m1.d] 60)).heap.size = w6.heap.size + 1 := by simp
    have HZW := hide zw6
    clear hM61 hM62 hM63 zw6
    have HS6 := hide ((unhide HST).1 _ _ hA6 (unhide HS5))
    have HW6 := hide ((unhide HW5).below hA6)
    have HX6 := hide (box_below (unhide HX5) hA6)
    have HP6 := hide ((unhide HP5).below hA6)
    have HQ6 := hide ((unhide HQ5).below hA6)
    have HC6 := hide ((unhide HC5).below hA6)
    have HD6 := hide ((unhide HD5).below hA6)
    have HO6 := hide ((unhide HO5).below hA6)
    have HM6 := hide ((unhide HM5).below hA6)
    clear HS5 HW5 HX5 HP5 HQ5 HC5 HD5 HO5 HM5 hA6
    unfold aggC
    have xw := (box5 (unhide HW6).box).1
    have xg := (box5 (unhide HG6).box).1
    go_wp2_with fail
    clear xw xg
    refine (eqM_any m1.p m1.c m1.d sa1 oa1 sa0 oa0 sc1 oc1 sc0 oc0 m1.st m1.os _ k1 k2 k3 k4 q1 q2 q3 q4 (int_row (unhide HG6).sp) (int_row (unhide HG6).nu) (int_row (unhide HW6).sp) (int_row (unhide HW6).nu)).mono ?_
    rintro e w7 ⟨rfl, hb7⟩
    have z7 := hb7.size
    rw [unhide HZW] at z7
    have HS7 := hide ((unhide HST).1 _ _ hb7 (unhide HS6))
    have HW7 := hide ((unhide HW6).below hb7)
    have HG7 := hide ((unhide HG6).below hb7)
    have HX7 := hide (box_below (unhide HX6) hb7)
    have HP7 := hide ((unhide HP6).below hb7)
    have HQ7 := hide ((unhide HQ6).below hb7)
    have HC7 := hide ((unhide HC6).below hb7)
    have HD7 := hide ((unhide HD6).below hb7)
    have HE7 := hide ((unhide HE6).below hb7)
    have HF7 := hide ((unhide HF6).below hb7)
    have HO7 := hide ((unhide HO6).below hb7)
    have HM7 := hide ((unhide HM6).below hb7)
    clear HS6 HW6 HG6 HX6 HP6 HQ6 HC6 HD6 HE6 HF6 HO6 HM6 hb7
    go_wp2_with fail
    refine (toCellS_any a cap fs _ hlen hl hm ((unhide HR).below (unhide HS7).2.2.2.2.2.2)).mono ?_
    rintro e w8 ⟨rfl, hO8, hb8⟩
    have HY8 := hide (hO8.row)
    have HU8 := hide (((unhide HO7).below hb8).row)
    have z8 := Nat.le_trans z7 hb8.size
    have HS8 := hide ((unhide HST).1 _ _ hb8 (unhide HS7))
    have HW8 := hide ((unhide HW7).below hb8)
    have HG8 := hide ((unhide HG7).below hb8)
    have HX8 := hide (box_below (unhide HX7) hb8)
    have HP8 := hide ((unhide HP7).below hb8)
    have HQ8 := hide ((unhide HQ7).below hb8)
    have HC8 := hide ((unhide HC7).below hb8)
    have HD8 := hide ((unhide HD7).below hb8)
    have HE8 := hide ((unhide HE7).below hb8)
    have HF8 := hide ((unhide HF7).below hb8)
    have HM8 := hide ((unhide HM7).below hb8)
    clear HS7 HW7 HG7 HX7 HP7 HQ7 HC7 HD7 HE7 HF7 HM7 hb8 hO8 HO7
    go_wp2_with fail
    refine (eqCellS_same _ _ _ _ fs _ (Nat.le_refl _) (by unfold maxLen; omega) (unhide HU8) (unhide HY8)).mono ?_
    rintro e w9 ⟨rfl, hb9⟩
    have z9 := Nat.le_trans z8 hb9.size
    have HS9 := hide ((unhide HST).1 _ _ hb9 (unhide HS8))
    have HW9 := hide ((unhide HW8).below hb9)
    have HG9 := hide ((unhide HG8).below hb9)
    have HX9 := hide (box_below (unhide HX8) hb9)
    have HP9 := hide ((unhide HP8).below hb9)
    have HQ9 := hide ((unhide HQ8).below hb9)
    have HC9 := hide ((unhide HC8).below hb9)
    have HD9 := hide ((unhide HD8).below hb9)
    have HE9 := hide ((unhide HE8).below hb9)
    have HF9 := hide ((unhide HF8).below hb9)
    have HM9 := hide ((unhide HM8).below hb9)
    clear HS8 HW8 HG8 HX8 HP8 HQ8 HC8 HD8 HE8 HF8 HM8 hb9 HY8 HU8
    have hB9 := (unhide HS9).2.2.2.2.2.2
    obtain ⟨x0, x1, x2, x3, x4⟩ := (box5 (unhide HX9)).1
    obtain ⟨c0, c1, c2, c3, c4, cb, _⟩ := unhide HS9
    have HT16 : Hid (Stable (fun w' => w'.cell? ⟨w5.heap.size, 0, none⟩ = some (.int .i64 p) ∧ w'.cell? ⟨w5.heap.size, 1, none⟩ = some (.int .i64 c) ∧ w'.cell? ⟨w5.heap.size, 2, none⟩ = some (.slice (some ⟨R5, 0, none⟩) st.length st.length) ∧ w'.cell? ⟨w5.heap.size, 3, none⟩ = some (.slice (some ⟨S5, 0, none⟩) os.length os.length) ∧ w'.cell? ⟨w5.heap.size, 4, none⟩ = some (.int .i64 d) ∧ w'.cell? ⟨w.heap.size, 0, none⟩ = some (.int .i64 p) ∧ w'.cell? ⟨w.heap.size, 1, none⟩ = some (.int .i64 c) ∧ w'.cell? ⟨w.heap.size, 2, none⟩ = some (.slice sa st.length sc) ∧ w'.cell? ⟨w.heap.size, 3, none⟩ = some (.slice oa os.length oc) ∧ w'.cell? ⟨w.heap.size, 4, none⟩ = some (.int .i64 d) ∧ Below w9.heap.size w9 w')) := (Stable.cell _ _).and ((Stable.cell _ _).and ((Stable.cell _ _).and ((Stable.cell _ _).and ((Stable.cell _ _).and ((Stable.cell _ _).and ((Stable.cell _ _).and ((Stable.cell _ _).and ((Stable.cell _ _).and ((Stable.cell _ _).and (Stable.below w9))))))))))
    have hS0 := And.intro x0 (And.intro x1 (And.intro x2 (And.intro x3 (And.intro x4 (And.intro c0 (And.intro c1 (And.intro c2 (And.intro c3 (And.intro c4 (Below.refl w9.heap.size w9))))))))))
    clear x0 x1 x2 x3 x4 c0 c1 c2 c3 c4 cb
    go_wp2_with fail
    go_region_held3 (fun w' => w'.cell? ⟨w5.heap.size, 0, none⟩ = some (.int .i64 p) ∧ w'.cell? ⟨w5.heap.size, 1, none⟩ = some (.int .i64 c) ∧ w'.cell? ⟨w5.heap.size, 2, none⟩ = some (.slice (some ⟨R5, 0, none⟩) st.length st.length) ∧ w'.cell? ⟨w5.heap.size, 3, none⟩ = some (.slice (some ⟨S5, 0, none⟩) os.length os.length) ∧ w'.cell? ⟨w5.heap.size, 4, none⟩ = some (.int .i64 d) ∧ w'.cell? ⟨w.heap.size, 0, none⟩ = some (.int .i64 p) ∧ w'.cell? ⟨w.heap.size, 1, none⟩ = some (.int .i64 c) ∧ w'.cell? ⟨w.heap.size, 2, none⟩ = some (.slice sa st.length sc) ∧ w'.cell? ⟨w.heap.size, 3, none⟩ = some (.slice oa os.length oc) ∧ w'.cell? ⟨w.heap.size, 4, none⟩ = some (.int .i64 d) ∧ Below w9.heap.size w9 w') (first | assumption | (refine (unhide HT16).1 _ _ hbk ?_; assumption) | (refine (unhide HT16).2 _ ?_; assumption))
      (first
        | (go_at_call 31; refine (toCpu_any p c d sa oa sc oc st os _ hle hlo h1 h2 h3 h4 ((unhide HM).below (bl_trans hB9 (q13 (by assumption)))) ((unhide HN).below (bl_trans hB9 (q13 (by assumption))))).mono ?_; rintro e wk1 ⟨Rk, Sk, hRk, hSk, hEk, rfl, hOk, hQk, hbk⟩; clear hRk hSk hEk; have hO1 := OwnNums.row hOk; have hQ1 := OwnNums.row hQk; clear hOk hQk)
        | (go_at_call 33; refine (eqM_any p c d (some ⟨R5, 0, none⟩) (some ⟨S5, 0, none⟩) _ _ st.length os.length _ _ st os _ (Nat.le_refl _) hml (Nat.le_refl _) hmo (Nat.le_refl _) hml (Nat.le_refl _) hmo ((unhide HP9).below (q13 (by assumption))) ((unhide HQ9).below (q13 (by assumption))) (by exact hO1) (by exact hQ1)).mono ?_; rintro e wk2 ⟨rfl, hbk⟩))
    have hS1 : (fun w' => w'.cell? ⟨w5.heap.size, 0, none⟩ = some (.int .i64 p) ∧ w'.cell? ⟨w5.heap.size, 1, none⟩ = some (.int .i64 c) ∧ w'.cell? ⟨w5.heap.size, 2, none⟩ = some (.slice (some ⟨R5, 0, none⟩) st.length st.length) ∧ w'.cell? ⟨w5.heap.size, 3, none⟩ = some (.slice (some ⟨S5, 0, none⟩) os.length os.length) ∧ w'.cell? ⟨w5.heap.size, 4, none⟩ = some (.int .i64 d) ∧ w'.cell? ⟨w.heap.size, 0, none⟩ = some (.int .i64 p) ∧ w'.cell? ⟨w.heap.size, 1, none⟩ = some (.int .i64 c) ∧ w'.cell? ⟨w.heap.size, 2, none⟩ = some (.slice sa st.length sc) ∧ w'.cell? ⟨w.heap.size, 3, none⟩ = some (.slice oa os.length oc) ∧ w'.cell? ⟨w.heap.size, 4, none⟩ = some (.int .i64 d) ∧ Below w9.heap.size w9 w') wk2 := by assumption
    have hb10 := q13 hS1
    have z10 := Nat.le_trans z9 hb10.size
    clear hS0 hS1 hB9
    have HS10 := hide ((unhide HST).1 _ _ hb10 (unhide HS9))
    have HW10 := hide ((unhide HW9).below hb10)
    have HG10 := hide ((unhide HG9).below hb10)
    have HX10 := hide (box_below (unhide HX9) hb10)
    have HC10 := hide ((unhide HC9).below hb10)
    have HD10 := hide ((unhide HD9).below hb10)
    have HE10 := hide ((unhide HE9).below hb10)
    have HF10 := hide ((unhide HF9).below hb10)
    have HM10 := hide ((unhide HM9).below hb10)
    clear HS9 HW9 HG9 HX9 HC9 HD9 HE9 HF9 HM9 hb10 HP9 HQ9
    go_wp2_with fail
    refine (markCells_any wc.heap.size w4.heap.size _ fs.length 1 hlen (by omega) _ (unhide HM10)).mono ?_
    rintro e w11 ⟨rfl, _, hb11, _⟩
    have hq1 : 1 + fs.length * 2 ≤ 3000000 := by omega
    generalize 1 + fs.length * 2 = q at *
    have z11 := Nat.le_trans z10 hb11.size
    have HS11 := hide (S_law ⟨hb11.box (unhide HS10).2.2.2.2.2.1 (.inl (by omega)), Mid.down (unhide HS10).2.2.2.2.2.2 hb11 (by omega)⟩)
    have HW11 := hide ((unhide HW10).mid hb11 (.inl (by omega)) (fun g hg => .inl (by have := unhide HN1 g hg; omega)) (fun g hg => .inl (by have := unhide HN2 g hg; omega)))
    have HG11 := hide ((unhide HG10).mid hb11 (.inr (by omega)) (fun g hg => .inr (by have := (World.ownsRow.lt (unhide HG10).sp g hg).1; omega)) (fun g hg => .inr (by have := (World.ownsRow.lt (unhide HG10).nu g hg).1; omega)))
    have HX11 := hide (hb11.box (unhide HX10) (.inr (by omega)))
    have HC11 := hide ((unhide HC10).mid hb11 (.inl (by omega)))
    have HD11 := hide ((unhide HD10).mid hb11 (.inl (by omega)))
    have HE11 := hide ((unhide HE10).mid hb11 (.inl (by omega)))
    have HF11 := hide ((unhide HF10).mid hb11 (.inl (by omega)))
    clear HS10 HW10 HG10 HX10 HC10 HD10 HE10 HF10 HM10 hb11
    have xx := (box5 (unhide HX11)).1
    go_wp2_with fail
    clear xx
    refine (markCpu_any w4.heap.size w5.heap.size (⟨p, c, d, st, os⟩ : CM) _ _ (some ⟨R5, 0, none⟩) (some ⟨S5, 0, none⟩) st.length os.length st.length os.length q rfl rfl (by omega) (by omega) (by omega) _ (unhide HC11) (unhide HD11) (unhide HAP5)).mono ?_
    rintro e w12 ⟨rfl, _, _, hb12⟩
    have z12 := Nat.le_trans z11 hb12.size
    have HS12 := hide (S_law ⟨hb12.box (unhide HS11).2.2.2.2.2.1 (.inl (by omega)), Mid.down (unhide HS11).2.2.2.2.2.2 hb12 (by omega)⟩)
    have HW12 := hide ((unhide HW11).mid hb12 (.inl (by omega)) (fun g hg => .inl (by have := unhide HN1 g hg; omega)) (fun g hg => .inl (by have := unhide HN2 g hg; omega)))
    have HG12 := hide ((unhide HG11).mid hb12 (.inr (by omega)) (fun g hg => .inr (by have := (World.ownsRow.lt (unhide HG11).sp g hg).1; omega)) (fun g hg => .inr (by have := (World.ownsRow.lt (unhide HG11).nu g hg).1; omega)))
    have HE12 := hide ((unhide HE11).mid hb12 (.inl (by omega)))
    have HF12 := hide ((unhide HF11).mid hb12 (.inl (by omega)))
    clear HS11 HW11 HG11 HX11 HC11 HD11 HE11 HF11 hb12
    have hq' : ¬ ((q + st.length + os.length : Nat) : Int) < 0 := by omega
    generalize ((q + st.length + os.length : Nat) : Int) = kk at hq' ⊢
    have xw := (box5 (unhide HW12).box).1
    have xg := (box5 (unhide HG12).box).1
    go_wp2_with fail
    clear xw xg
    refine (eqM_any m1.p m1.c m1.d sa1 oa1 sa0 oa0 sc1 oc1 sc0 oc0 m1.st m1.os _ k1 k2 k3 k4 q1 q2 q3 q4 (int_row (unhide HG12).sp) (int_row (unhide HG12).nu) (int_row (unhide HW12).sp) (int_row (unhide HW12).nu)).mono ?_
    rintro e w13 ⟨rfl, hb13⟩
    have HS13 := hide ((unhide HST).1 _ _ hb13 (unhide HS12))
    have HW13 := hide ((unhide HW12).below hb13)
    have HG13 := hide ((unhide HG12).below hb13)
    have HE13 := hide ((unhide HE12).below hb13)
    have HF13 := hide ((unhide HF12).below hb13)
    clear HS12 HW12 HG12 HE12 HF12 hb13
    have xg := (box5 (unhide HG13).box).1
    go_wp2_with fail
    clear xg
    refine (markCpu_any (w5.heap.size + 1) w6.heap.size m1 _ _ sa1 oa1 sc1 oc1 m1.st.length m1.os.length 1 rfl rfl (by omega) (by omega) (by omega) _ (unhide HE13) (unhide HF13) (unhide HAP6)).mono ?_
    rintro e w14 ⟨rfl, hI1, hI2, hb14⟩
    have hkq : ¬ ((1 + m1.st.length + m1.os.length : Nat) : Int) < 0 := by omega
    generalize hkk : ((1 + m1.st.length + m1.os.length : Nat) : Int) = kq at hkq ⊢
    have HKQ := hide hkk
    clear hkk
    have HG14 := hide (hb14.box (unhide HG13).box (.inr (Nat.le_refl _)))
    have HI1 := hide hI1
    have HI2 := hide hI2
    have HS14 := hide (S_law ⟨hb14.box (unhide HS13).2.2.2.2.2.1 (.inl (by omega)), Mid.down (unhide HS13).2.2.2.2.2.2 hb14 (by omega)⟩)
    have HW14 := hide ((unhide HW13).mid hb14 (.inl (by omega)) (fun g hg => .inl (by have := unhide HN1 g hg; omega)) (fun g hg => .inl (by have := unhide HN2 g hg; omega)))
    clear HS13 HW13 HG13 HE13 HF13 hI1 hI2 hb14
    have xg := (box5 (unhide HG14)).1
    go_wp2_with fail
    clear xg
    refine (heldCpu_any m1 _ _ sa1 oa1 sc1 oc1 m1.st.length m1.os.length 1 rfl rfl (by omega) (by omega) (by omega) _ (unhide HI1) (unhide HI2)).mono ?_
    rintro e w15 ⟨rfl, hb15⟩
    rw [unhide HKQ]
    have HS15 := hide ((unhide HST).1 _ _ hb15 (unhide HS14))
    have HW15 := hide ((unhide HW14).below hb15)
    have HG15 := hide (box_below (unhide HG14) hb15)
    have HJ1 := hide ((unhide HI1).below hb15)
    have HJ2 := hide ((unhide HI2).below hb15)
    clear HS14 HW14 HG14 HI1 HI2 hb15
    go_upto_region 31 with fail
    have hBW := (unhide HS15).2.2.2.2.2.2
    have HR31 := hide ((unhide HR).below hBW)
    have HM31 := hide ((unhide HM).below hBW)
    have HN31 := hide ((unhide HN).below hBW)
    have HST31 : Hid (Stable (fun w' => w'.cell? ⟨w.heap.size, 0, none⟩ = some (.int .i64 p) ∧ w'.cell? ⟨w.heap.size, 1, none⟩ = some (.int .i64 c) ∧ w'.cell? ⟨w.heap.size, 2, none⟩ = some (.slice sa st.length sc) ∧ w'.cell? ⟨w.heap.size, 3, none⟩ = some (.slice oa os.length oc) ∧ w'.cell? ⟨w.heap.size, 4, none⟩ = some (.int .i64 d) ∧ w'.heap[w.heap.size]? = some (.cells #[.int .i64 p, .int .i64 c, .slice sa st.length sc, .slice oa os.length oc, .int .i64 d] 57) ∧ Below w15.heap.size w15 w')) := (Stable.cell _ _).and ((Stable.cell _ _).and ((Stable.cell _ _).and ((Stable.cell _ _).and ((Stable.cell _ _).and ((Stable.box _ _).and (Stable.below w15))))))
    have HS31 : Hid ((fun w' => w'.cell? ⟨w.heap.size, 0, none⟩ = some (.int .i64 p) ∧ w'.cell? ⟨w.heap.size, 1, none⟩ = some (.int .i64 c) ∧ w'.cell? ⟨w.heap.size, 2, none⟩ = some (.slice sa st.length sc) ∧ w'.cell? ⟨w.heap.size, 3, none⟩ = some (.slice oa os.length oc) ∧ w'.cell? ⟨w.heap.size, 4, none⟩ = some (.int .i64 d) ∧ w'.heap[w.heap.size]? = some (.cells #[.int .i64 p, .int .i64 c, .slice sa st.length sc, .slice oa os.length oc, .int .i64 d] 57) ∧ Below w15.heap.size w15 w') w15) := S_law ⟨(unhide HS15).2.2.2.2.2.1, Below.refl _ _⟩
    go_cut [13] (fun v wx => CutTwo w w15 #[.int .i64 p, .int .i64 c, .slice sa st.length sc, .slice oa os.length oc, .int .i64 d] m1 v wx)
    case first =>
      clear HW15 HG15 HJ1 HJ2 HS15 hBW hkq hq' hB0c hs4 hwc
      refine wp_region_held_drew (S := (fun w' => w'.cell? ⟨w.heap.size, 0, none⟩ = some (.int .i64 p) ∧ w'.cell? ⟨w.heap.size, 1, none⟩ = some (.int .i64 c) ∧ w'.cell? ⟨w.heap.size, 2, none⟩ = some (.slice sa st.length sc) ∧ w'.cell? ⟨w.heap.size, 3, none⟩ = some (.slice oa os.length oc) ∧ w'.cell? ⟨w.heap.size, 4, none⟩ = some (.int .i64 d) ∧ w'.heap[w.heap.size]? = some (.cells #[.int .i64 p, .int .i64 c, .slice sa st.length sc, .slice oa os.length oc, .int .i64 d] 57) ∧ Below w15.heap.size w15 w')) (by kernel_rfl) ((unhide HST31).2 _ (unhide HS31)) (fun hHeld => ?_)
      generalize w15.drew = WA at *
      refine wpAnyH_take (i := 0) (oi := { dst := some 75, op := Go.Op.move (Go.Operand.tmp 0), type := 55, pos := "exact.go:2768", after := #[], guard := none }) (v := ?v3_0) rfl (by kernel_rfl) (by kernel_rfl) (by kernel_rfl) (fun _ _ _ h => h) (Or.inl ⟨by rfl, ?y3_0⟩) (by assumption) ?r3_0
      case y3_0 => (intro w hSw; (try dsimp only at hSw); go_simp; try (with_reducible rfl))
      try simp only [Act.put, List.setIfInBounds_toArray, List.set_cons_zero, List.set_cons_succ]
      refine wpAnyH_take (i := 2) (oi := { dst := some 77, op := Go.Op.load 57 (Go.Operand.tmp 3), type := 57, pos := "exact.go:2768", after := #[], guard := none }) (v := ?v4_2) rfl (by kernel_rfl) (by kernel_rfl) (by kernel_rfl) (fun _ _ _ h => h) (Or.inl ⟨by rfl, ?y4_2⟩) (by assumption) ?r4_2
      case y4_2 => (intro w hSw; (try dsimp only at hSw); go_simp; try (with_reducible rfl))
      try simp only [Act.put, List.setIfInBounds_toArray, List.set_cons_zero, List.set_cons_succ]
      refine wpAnyH_ready (rs := [1, 5]) (by kernel_rfl) (by simp) ?_
      refine AllReadyH.cons (o := { dst := some 76, op := Go.Op.call { callee := Go.Callee.value (Go.Operand.func 30), args := #[Go.Operand.tmp 75], argTypes := #[55] }, type := 62, pos := "exact.go:2768", after := #[{ on := 0, ground := Go.Ground.data }], guard := none }) rfl (fun K hK => ?_) ?_
      · skip
        go_simp
        go_at_call 30
        refine (toCellS_any a cap fs _ hlen hl hm ((unhide HR31).below hHeld.2.2.2.2.2.2)).mono ?_
        rintro e wa ⟨rfl, hOk, hbk⟩
        have hF1 := OwnCells.row hOk
        replace hHeld := (unhide HST31).1 _ _ hbk hHeld
        clear hOk hbk
        go_wp2_with fail
        refine hK.out _ _ hHeld (fun _ => ?_)
        clear hK K
        try simp only [Act.put, List.setIfInBounds_toArray, List.set_cons_zero, List.set_cons_succ]
        refine wpAnyH_ready (rs := [3, 5]) (by kernel_rfl) (by simp) ?_
        refine AllReadyH.cons (o := { dst := some 78, op := Go.Op.call { callee := Go.Callee.value (Go.Operand.func 31), args := #[Go.Operand.tmp 77], argTypes := #[57] }, type := 60, pos := "exact.go:2768", after := #[{ on := 2, ground := Go.Ground.data }, { on := 1, ground := Go.Ground.chain }], guard := none }) rfl (fun K hK => ?_) ?_
        · skip
          go_simp
          go_at_call 31
          refine (toCpu_any p c d sa oa sc oc st os _ hle hlo h1 h2 h3 h4 ((unhide HM31).below hHeld.2.2.2.2.2.2) ((unhide HN31).below hHeld.2.2.2.2.2.2)).mono ?_
          rintro e wb ⟨Rk, Sk, hRk, hSk, hEk, rfl, hOk, hQk, hbk⟩
          clear hRk hSk hEk
          have hO1 := OwnNums.row hOk
          have hQ1 := OwnNums.row hQk
          replace hF1 := hF1.below hbk
          replace hHeld := (unhide HST31).1 _ _ hbk hHeld
          clear hOk hQk hbk
          go_wp2_with fail
          refine hK.out _ _ hHeld (fun _ => ?_)
          clear hK K
          try simp only [Act.put, List.setIfInBounds_toArray, List.set_cons_zero, List.set_cons_succ]
          refine wpAnyH_ready (rs := [4, 5]) (by kernel_rfl) (by simp) ?_
          refine AllReadyH.cons (o := { dst := some 79, op := Go.Op.call { callee := Go.Callee.value (Go.Operand.func 32), args := #[Go.Operand.tmp 76, Go.Operand.tmp 78], argTypes := #[62, 60] }, type := 60, pos := "exact.go:2768", after := #[{ on := 1, ground := Go.Ground.data }, { on := 3, ground := Go.Ground.data }, { on := 3, ground := Go.Ground.chain }], guard := none }) rfl (fun K hK => ?_) ?_
          · skip
            go_simp
            go_at_call 32
            refine (unhide HFI _ _ _ _ _ _ _ (Nat.le_refl _) (by unfold maxLen; omega) hF1 (Nat.le_refl _) hml (Nat.le_refl _) hmo hO1 hQ1).mono ?_
            rintro e wd ⟨sv0, ov0, rfl, hOM⟩
            have hbk := hOM.2.2.2
            replace hOM := own_base hOM hHeld.2.2.2.2.2.2
            replace hHeld := (unhide HST31).1 _ _ hbk hHeld
            clear hF1 hO1 hQ1 hbk
            obtain ⟨sa0, sc0, rfl, q1, q2⟩ := int_form hOM.1
            obtain ⟨oa0, oc0, rfl, q3, q4⟩ := int_form hOM.2.1
            unfold aggC
            go_wp2_with fail
            refine hK.out _ _ hHeld (fun _ => ?_)
            clear hK K
            try simp only [Act.put, List.setIfInBounds_toArray, List.set_cons_zero, List.set_cons_succ]
            refine wpAnyH_ready (rs := [5]) (by kernel_rfl) (by simp) ?_
            refine AllReadyH.cons (o := { dst := some 13, op := Go.Op.alloc 60, type := 0, pos := "exact.go:2768", after := #[], guard := none }) rfl (fun K hK => ?_) AllReadyH.nil
            go_simp
            have hres := new_block wd (.cells #[.int .i64 0, .int .i64 0, .slice none 0 0, .slice none 0 0, .int .i64 0] 60)
            have hNB : w.heap.size < wd.heap.size := (Array.getElem?_eq_some_iff.1 hHeld.2.2.2.2.2.1).1
            have hNEB := Nat.ne_of_gt hNB
            have hNW := hHeld.2.2.2.2.2.2.size
            have hbk := below_alloc1 wd (.cells #[.int .i64 0, .int .i64 0, .slice none 0 0, .slice none 0 0, .int .i64 0] 60)
            replace hOM := hOM.below hbk
            replace hHeld := (unhide HST31).1 _ _ hbk hHeld
            clear hbk
            generalize wd.alloc (.cells #[.int .i64 0, .int .i64 0, .slice none 0 0, .slice none 0 0, .int .i64 0] 60) = wx at *
            generalize hb2z : wd.heap.size = B2 at *
            clear hb2z
            refine hK.out _ _ hHeld (fun _ => ?_)
            clear hK K
            try simp only [Act.put, List.setIfInBounds_toArray, List.set_cons_zero, List.set_cons_succ]
            refine wpAnyH_ready (rs := [6]) (by kernel_rfl) (by simp) ?_
            refine AllReadyH.cons (o := { dst := none, op := Go.Op.store 60 (Go.Operand.tmp 13) (Go.Operand.tmp 79), type := 0, pos := "exact.go:2768", after := #[{ on := 5, ground := Go.Ground.data }, { on := 4, ground := Go.Ground.data }, { on := 4, ground := Go.Ground.chain }, { on := 0, ground := Go.Ground.phase }, { on := 1, ground := Go.Ground.phase }, { on := 2, ground := Go.Ground.phase }, { on := 3, ground := Go.Ground.phase }, { on := 4, ground := Go.Ground.phase }, { on := 5, ground := Go.Ground.phase }], guard := none }) rfl (fun K hK => ?_) AllReadyH.nil
            have hrN := box5 hres
            have hBX := hHeld.2.2.2.2.2.1
            have hb2z := hHeld.2.2.2.2.2.2
            go_simp
            have hA : After w15 ((((((wx.setCell ⟨B2, 0, none⟩ (.int .i64 m1.p)).setCell ⟨B2, 1, none⟩ (.int .i64 m1.c)).setCell ⟨B2, 2, none⟩ (.slice sa0 m1.st.length sc0)).setCell ⟨B2, 3, none⟩ (.slice oa0 m1.os.length oc0)).setCell ⟨B2, 4, none⟩ (.int .i64 m1.d))) w.heap.size B2 #[.int .i64 p, .int .i64 c, .slice sa st.length sc, .slice oa os.length oc, .int .i64 d] m1 (.slice sa0 m1.st.length sc0) (.slice oa0 m1.os.length oc0) := by
              refine ⟨?_, ?_, ?_⟩
              · exact set_other (set_other (set_other (set_other (set_other hBX hNEB) hNEB) hNEB) hNEB) hNEB
              · exact eq_cells (block_setCell (block_setCell (block_setCell (block_setCell (block_setCell hres _) _) _) _) _) (by simp [aggC])
              · have hMA : OffAt wx B2 := off_of hres
                repeat (with_reducible refine OwnC.set ?_ (by (repeat (with_reducible refine OffAt.set ?_)); exact hMA) hNW)
                exact hOM
            refine hK.out _ _ (S_law ⟨hA.bx, hA.om.2.2.2⟩) (fun _ => ?_)
            clear hK K hHeld hres hrN hBX hb2z hOM
            try simp only [Act.put, List.setIfInBounds_toArray, List.set_cons_zero, List.set_cons_succ]
            refine wpAnyH_done (by kernel_rfl) ?_ _
            generalize (((((wx.setCell ⟨B2, 0, none⟩ (.int .i64 m1.p)).setCell ⟨B2, 1, none⟩ (.int .i64 m1.c)).setCell ⟨B2, 2, none⟩ (.slice sa0 m1.st.length sc0)).setCell ⟨B2, 3, none⟩ (.slice oa0 m1.os.length oc0)).setCell ⟨B2, 4, none⟩ (.int .i64 m1.d)) = w3 at *
            go_wp2_with fail
            go_meet
            exact ⟨B2, sa0, oa0, sc0, oc0, rfl, hNB, q1, q2, q3, q4, hA⟩
          refine AllReadyH.cons (o := { dst := some 13, op := Go.Op.alloc 60, type := 0, pos := "exact.go:2768", after := #[], guard := none }) rfl (fun K hK => ?_) AllReadyH.nil
          go_simp
          have hres := new_block wb (.cells #[.int .i64 0, .int .i64 0, .slice none 0 0, .slice none 0 0, .int .i64 0] 60)
          have hNB : w.heap.size < wb.heap.size := (Array.getElem?_eq_some_iff.1 hHeld.2.2.2.2.2.1).1
          have hNEB := Nat.ne_of_gt hNB
          have hNW := hHeld.2.2.2.2.2.2.size
          have hbk := below_alloc1 wb (.cells #[.int .i64 0, .int .i64 0, .slice none 0 0, .slice none 0 0, .int .i64 0] 60)
          replace hF1 := hF1.below hbk
          replace hO1 := hO1.below hbk
          replace hQ1 := hQ1.below hbk
          replace hHeld := (unhide HST31).1 _ _ hbk hHeld
          clear hbk
          generalize wb.alloc (.cells #[.int .i64 0, .int .i64 0, .slice none 0 0, .slice none 0 0, .int .i64 0] 60) = wx at *
          generalize hb2z : wb.heap.size = B2 at *
          clear hb2z
          refine hK.out _ _ hHeld (fun _ => ?_)
          clear hK K
          try simp only [Act.put, List.setIfInBounds_toArray, List.set_cons_zero, List.set_cons_succ]
          refine wpAnyH_ready (rs := [4]) (by kernel_rfl) (by simp) ?_
          refine AllReadyH.cons (o := { dst := some 79, op := Go.Op.call { callee := Go.Callee.value (Go.Operand.func 32), args := #[Go.Operand.tmp 76, Go.Operand.tmp 78], argTypes := #[62, 60] }, type := 60, pos := "exact.go:2768", after := #[{ on := 1, ground := Go.Ground.data }, { on := 3, ground := Go.Ground.data }, { on := 3, ground := Go.Ground.chain }], guard := none }) rfl (fun K hK => ?_) AllReadyH.nil
          go_simp
          go_at_call 32
          refine (unhide HFI _ _ _ _ _ _ _ (Nat.le_refl _) (by unfold maxLen; omega) hF1 (Nat.le_refl _) hml (Nat.le_refl _) hmo hO1 hQ1).mono ?_
          rintro e wd ⟨sv0, ov0, rfl, hOM⟩
          have hbk := hOM.2.2.2
          replace hOM := own_base hOM hHeld.2.2.2.2.2.2
          replace hres := box_below hres hbk
          replace hHeld := (unhide HST31).1 _ _ hbk hHeld
          clear hF1 hO1 hQ1 hbk
          obtain ⟨sa0, sc0, rfl, q1, q2⟩ := int_form hOM.1
          obtain ⟨oa0, oc0, rfl, q3, q4⟩ := int_form hOM.2.1
          unfold aggC
          go_wp2_with fail
          refine hK.out _ _ hHeld (fun _ => ?_)
          clear hK K
          try simp only [Act.put, List.setIfInBounds_toArray, List.set_cons_zero, List.set_cons_succ]
          refine wpAnyH_ready (rs := [6]) (by kernel_rfl) (by simp) ?_
          refine AllReadyH.cons (o := { dst := none, op := Go.Op.store 60 (Go.Operand.tmp 13) (Go.Operand.tmp 79), type := 0, pos := "exact.go:2768", after := #[{ on := 5, ground := Go.Ground.data }, { on := 4, ground := Go.Ground.data }, { on := 4, ground := Go.Ground.chain }, { on := 0, ground := Go.Ground.phase }, { on := 1, ground := Go.Ground.phase }, { on := 2, ground := Go.Ground.phase }, { on := 3, ground := Go.Ground.phase }, { on := 4, ground := Go.Ground.phase }, { on := 5, ground := Go.Ground.phase }], guard := none }) rfl (fun K hK => ?_) AllReadyH.nil
          have hrN := box5 hres
          have hBX := hHeld.2.2.2.2.2.1
          have hb2z := hHeld.2.2.2.2.2.2
          go_simp
          have hA : After w15 ((((((wd.setCell ⟨B2, 0, none⟩ (.int .i64 m1.p)).setCell ⟨B2, 1, none⟩ (.int .i64 m1.c)).setCell ⟨B2, 2, none⟩ (.slice sa0 m1.st.length sc0)).setCell ⟨B2, 3, none⟩ (.slice oa0 m1.os.length oc0)).setCell ⟨B2, 4, none⟩ (.int .i64 m1.d))) w.heap.size B2 #[.int .i64 p, .int .i64 c, .slice sa st.length sc, .slice oa os.length oc, .int .i64 d] m1 (.slice sa0 m1.st.length sc0) (.slice oa0 m1.os.length oc0) := by
            refine ⟨?_, ?_, ?_⟩
            · exact set_other (set_other (set_other (set_other (set_other hBX hNEB) hNEB) hNEB) hNEB) hNEB
            · exact eq_cells (block_setCell (block_setCell (block_setCell (block_setCell (block_setCell hres _) _) _) _) _) (by simp [aggC])
            · have hMA : OffAt wd B2 := off_of hres
              repeat (with_reducible refine OwnC.set ?_ (by (repeat (with_reducible refine OffAt.set ?_)); exact hMA) hNW)
              exact hOM
          refine hK.out _ _ (S_law ⟨hA.bx, hA.om.2.2.2⟩) (fun _ => ?_)
          clear hK K hHeld hres hrN hBX hb2z hOM
          try simp only [Act.put, List.setIfInBounds_toArray, List.set_cons_zero, List.set_cons_succ]
          refine wpAnyH_done (by kernel_rfl) ?_ _
          generalize (((((wd.setCell ⟨B2, 0, none⟩ (.int .i64 m1.p)).setCell ⟨B2, 1, none⟩ (.int .i64 m1.c)).setCell ⟨B2, 2, none⟩ (.slice sa0 m1.st.length sc0)).setCell ⟨B2, 3, none⟩ (.slice oa0 m1.os.length oc0)).setCell ⟨B2, 4, none⟩ (.int .i64 m1.d)) = w3 at *
          go_wp2_with fail
          go_meet
          exact ⟨B2, sa0, oa0, sc0, oc0, rfl, hNB, q1, q2, q3, q4, hA⟩
        refine AllReadyH.cons (o := { dst := some 13, op := Go.Op.alloc 60, type := 0, pos := "exact.go:2768", after := #[], guard := none }) rfl (fun K hK => ?_) AllReadyH.nil
        go_simp
        have hres := new_block wa (.cells #[.int .i64 0, .int .i64 0, .slice none 0 0, .slice none 0 0, .int .i64 0] 60)
        have hNB : w.heap.size < wa.heap.size := (Array.getElem?_eq_some_iff.1 hHeld.2.2.2.2.2.1).1
        have hNEB := Nat.ne_of_gt hNB
        have hNW := hHeld.2.2.2.2.2.2.size
        have hbk := below_alloc1 wa (.cells #[.int .i64 0, .int .i64 0, .slice none 0 0, .slice none 0 0, .int .i64 0] 60)
        replace hF1 := hF1.below hbk
        replace hHeld := (unhide HST31).1 _ _ hbk hHeld
        clear hbk
        generalize wa.alloc (.cells #[.int .i64 0, .int .i64 0, .slice none 0 0, .slice none 0 0, .int .i64 0] 60) = wx at *
        generalize hb2z : wa.heap.size = B2 at *
        clear hb2z
        refine hK.out _ _ hHeld (fun _ => ?_)
        clear hK K
        try simp only [Act.put, List.setIfInBounds_toArray, List.set_cons_zero, List.set_cons_succ]
        refine wpAnyH_ready (rs := [3]) (by kernel_rfl) (by simp) ?_
        refine AllReadyH.cons (o := { dst := some 78, op := Go.Op.call { callee := Go.Callee.value (Go.Operand.func 31), args := #[Go.Operand.tmp 77], argTypes := #[57] }, type := 60, pos := "exact.go:2768", after := #[{ on := 2, ground := Go.Ground.data }, { on := 1, ground := Go.Ground.chain }], guard := none }) rfl (fun K hK => ?_) AllReadyH.nil
        go_simp
        go_at_call 31
        refine (toCpu_any p c d sa oa sc oc st os _ hle hlo h1 h2 h3 h4 ((unhide HM31).below hHeld.2.2.2.2.2.2) ((unhide HN31).below hHeld.2.2.2.2.2.2)).mono ?_
        rintro e wb ⟨Rk, Sk, hRk, hSk, hEk, rfl, hOk, hQk, hbk⟩
        clear hRk hSk hEk
        have hO1 := OwnNums.row hOk
        have hQ1 := OwnNums.row hQk
        replace hF1 := hF1.below hbk
        replace hres := box_below hres hbk
        replace hHeld := (unhide HST31).1 _ _ hbk hHeld
        clear hOk hQk hbk
        go_wp2_with fail
        refine hK.out _ _ hHeld (fun _ => ?_)
        clear hK K
        try simp only [Act.put, List.setIfInBounds_toArray, List.set_cons_zero, List.set_cons_succ]
        refine wpAnyH_ready (rs := [4]) (by kernel_rfl) (by simp) ?_
        refine AllReadyH.cons (o := { dst := some 79, op := Go.Op.call { callee := Go.Callee.value (Go.Operand.func 32), args := #[Go.Operand.tmp 76, Go.Operand.tmp 78], argTypes := #[62, 60] }, type := 60, pos := "exact.go:2768", after := #[{ on := 1, ground := Go.Ground.data }, { on := 3, ground := Go.Ground.data }, { on := 3, ground := Go.Ground.chain }], guard := none }) rfl (fun K hK => ?_) AllReadyH.nil
        go_simp
        go_at_call 32
        refine (unhide HFI _ _ _ _ _ _ _ (Nat.le_refl _) (by unfold maxLen; omega) hF1 (Nat.le_refl _) hml (Nat.le_refl _) hmo hO1 hQ1).mono ?_
        rintro e wd ⟨sv0, ov0, rfl, hOM⟩
        have hbk := hOM.2.2.2
        replace hOM := own_base hOM hHeld.2.2.2.2.2.2
        replace hres := box_below hres hbk
        replace hHeld := (unhide HST31).1 _ _ hbk hHeld
        clear hF1 hO1 hQ1 hbk
        obtain ⟨sa0, sc0, rfl, q1, q2⟩ := int_form hOM.1
        obtain ⟨oa0, oc0, rfl, q3, q4⟩ := int_form hOM.2.1
        unfold aggC
        go_wp2_with fail
        refine hK.out _ _ hHeld (fun _ => ?_)
        clear hK K
        try simp only [Act.put, List.setIfInBounds_toArray, List.set_cons_zero, List.set_cons_succ]
        refine wpAnyH_ready (rs := [6]) (by kernel_rfl) (by simp) ?_
        refine AllReadyH.cons (o := { dst := none, op := Go.Op.store 60 (Go.Operand.tmp 13) (Go.Operand.tmp 79), type := 0, pos := "exact.go:2768", after := #[{ on := 5, ground := Go.Ground.data }, { on := 4, ground := Go.Ground.data }, { on := 4, ground := Go.Ground.chain }, { on := 0, ground := Go.Ground.phase }, { on := 1, ground := Go.Ground.phase }, { on := 2, ground := Go.Ground.phase }, { on := 3, ground := Go.Ground.phase }, { on := 4, ground := Go.Ground.phase }, { on := 5, ground := Go.Ground.phase }], guard := none }) rfl (fun K hK => ?_) AllReadyH.nil
        have hrN := box5 hres
        have hBX := hHeld.2.2.2.2.2.1
        have hb2z := hHeld.2.2.2.2.2.2
        go_simp
        have hA : After w15 ((((((wd.setCell ⟨B2, 0, none⟩ (.int .i64 m1.p)).setCell ⟨B2, 1, none⟩ (.int .i64 m1.c)).setCell ⟨B2, 2, none⟩ (.slice sa0 m1.st.length sc0)).setCell ⟨B2, 3, none⟩ (.slice oa0 m1.os.length oc0)).setCell ⟨B2, 4, none⟩ (.int .i64 m1.d))) w.heap.size B2 #[.int .i64 p, .int .i64 c, .slice sa st.length sc, .slice oa os.length oc, .int .i64 d] m1 (.slice sa0 m1.st.length sc0) (.slice oa0 m1.os.length oc0) := by
          refine ⟨?_, ?_, ?_⟩
          · exact set_other (set_other (set_other (set_other (set_other hBX hNEB) hNEB) hNEB) hNEB) hNEB
          · exact eq_cells (block_setCell (block_setCell (block_setCell (block_setCell (block_setCell hres _) _) _) _) _) (by simp [aggC])
          · have hMA : OffAt wd B2 := off_of hres
            repeat (with_reducible refine OwnC.set ?_ (by (repeat (with_reducible refine OffAt.set ?_)); exact hMA) hNW)
            exact hOM
        refine hK.out _ _ (S_law ⟨hA.bx, hA.om.2.2.2⟩) (fun _ => ?_)
        clear hK K hHeld hres hrN hBX hb2z hOM
        try simp only [Act.put, List.setIfInBounds_toArray, List.set_cons_zero, List.set_cons_succ]
        refine wpAnyH_done (by kernel_rfl) ?_ _
        generalize (((((wd.setCell ⟨B2, 0, none⟩ (.int .i64 m1.p)).setCell ⟨B2, 1, none⟩ (.int .i64 m1.c)).setCell ⟨B2, 2, none⟩ (.slice sa0 m1.st.length sc0)).setCell ⟨B2, 3, none⟩ (.slice oa0 m1.os.length oc0)).setCell ⟨B2, 4, none⟩ (.int .i64 m1.d)) = w3 at *
        go_wp2_with fail
        go_meet
        exact ⟨B2, sa0, oa0, sc0, oc0, rfl, hNB, q1, q2, q3, q4, hA⟩
      refine AllReadyH.cons (o := { dst := some 13, op := Go.Op.alloc 60, type := 0, pos := "exact.go:2768", after := #[], guard := none }) rfl (fun K hK => ?_) AllReadyH.nil
      go_simp
      have hres := new_block WA (.cells #[.int .i64 0, .int .i64 0, .slice none 0 0, .slice none 0 0, .int .i64 0] 60)
      have hNB : w.heap.size < WA.heap.size := (Array.getElem?_eq_some_iff.1 hHeld.2.2.2.2.2.1).1
      have hNEB := Nat.ne_of_gt hNB
      have hNW := hHeld.2.2.2.2.2.2.size
      have hbk := below_alloc1 WA (.cells #[.int .i64 0, .int .i64 0, .slice none 0 0, .slice none 0 0, .int .i64 0] 60)
      replace hHeld := (unhide HST31).1 _ _ hbk hHeld
      clear hbk
      generalize WA.alloc (.cells #[.int .i64 0, .int .i64 0, .slice none 0 0, .slice none 0 0, .int .i64 0] 60) = wx at *
      generalize hb2z : WA.heap.size = B2 at *
      clear hb2z
      refine hK.out _ _ hHeld (fun _ => ?_)
      clear hK K
      try simp only [Act.put, List.setIfInBounds_toArray, List.set_cons_zero, List.set_cons_succ]
      refine wpAnyH_ready (rs := [1]) (by kernel_rfl) (by simp) ?_
      refine AllReadyH.cons (o := { dst := some 76, op := Go.Op.call { callee := Go.Callee.value (Go.Operand.func 30), args := #[Go.Operand.tmp 75], argTypes := #[55] }, type := 62, pos := "exact.go:2768", after := #[{ on := 0, ground := Go.Ground.data }], guard := none }) rfl (fun K hK => ?_) AllReadyH.nil
      go_simp
      go_at_call 30
      refine (toCellS_any a cap fs _ hlen hl hm ((unhide HR31).below hHeld.2.2.2.2.2.2)).mono ?_
      rintro e wa ⟨rfl, hOk, hbk⟩
      have hF1 := OwnCells.row hOk
      replace hres := box_below hres hbk
      replace hHeld := (unhide HST31).1 _ _ hbk hHeld
      clear hOk hbk
      go_wp2_with fail
      refine hK.out _ _ hHeld (fun _ => ?_)
      clear hK K
      try simp only [Act.put, List.setIfInBounds_toArray, List.set_cons_zero, List.set_cons_succ]
      refine wpAnyH_ready (rs := [3]) (by kernel_rfl) (by simp) ?_
      refine AllReadyH.cons (o := { dst := some 78, op := Go.Op.call { callee := Go.Callee.value (Go.Operand.func 31), args := #[Go.Operand.tmp 77], argTypes := #[57] }, type := 60, pos := "exact.go:2768", after := #[{ on := 2, ground := Go.Ground.data }, { on := 1, ground := Go.Ground.chain }], guard := none }) rfl (fun K hK => ?_) AllReadyH.nil
      go_simp
      go_at_call 31
      refine (toCpu_any p c d sa oa sc oc st os _ hle hlo h1 h2 h3 h4 ((unhide HM31).below hHeld.2.2.2.2.2.2) ((unhide HN31).below hHeld.2.2.2.2.2.2)).mono ?_
      rintro e wb ⟨Rk, Sk, hRk, hSk, hEk, rfl, hOk, hQk, hbk⟩
      clear hRk hSk hEk
      have hO1 := OwnNums.row hOk
      have hQ1 := OwnNums.row hQk
      replace hF1 := hF1.below hbk
      replace hres := box_below hres hbk
      replace hHeld := (unhide HST31).1 _ _ hbk hHeld
      clear hOk hQk hbk
      go_wp2_with fail
      refine hK.out _ _ hHeld (fun _ => ?_)
      clear hK K
      try simp only [Act.put, List.setIfInBounds_toArray, List.set_cons_zero, List.set_cons_succ]
      refine wpAnyH_ready (rs := [4]) (by kernel_rfl) (by simp) ?_
      refine AllReadyH.cons (o := { dst := some 79, op := Go.Op.call { callee := Go.Callee.value (Go.Operand.func 32), args := #[Go.Operand.tmp 76, Go.Operand.tmp 78], argTypes := #[62, 60] }, type := 60, pos := "exact.go:2768", after := #[{ on := 1, ground := Go.Ground.data }, { on := 3, ground := Go.Ground.data }, { on := 3, ground := Go.Ground.chain }], guard := none }) rfl (fun K hK => ?_) AllReadyH.nil
      go_simp
      go_at_call 32
      refine (unhide HFI _ _ _ _ _ _ _ (Nat.le_refl _) (by unfold maxLen; omega) hF1 (Nat.le_refl _) hml (Nat.le_refl _) hmo hO1 hQ1).mono ?_
      rintro e wd ⟨sv0, ov0, rfl, hOM⟩
      have hbk := hOM.2.2.2
      replace hOM := own_base hOM hHeld.2.2.2.2.2.2
      replace hres := box_below hres hbk
      replace hHeld := (unhide HST31).1 _ _ hbk hHeld
      clear hF1 hO1 hQ1 hbk
      obtain ⟨sa0, sc0, rfl, q1, q2⟩ := int_form hOM.1
      obtain ⟨oa0, oc0, rfl, q3, q4⟩ := int_form hOM.2.1
      unfold aggC
      go_wp2_with fail
      refine hK.out _ _ hHeld (fun _ => ?_)
      clear hK K
      try simp only [Act.put, List.setIfInBounds_toArray, List.set_cons_zero, List.set_cons_succ]
      refine wpAnyH_ready (rs := [6]) (by kernel_rfl) (by simp) ?_
      refine AllReadyH.cons (o := { dst := none, op := Go.Op.store 60 (Go.Operand.tmp 13) (Go.Operand.tmp 79), type := 0, pos := "exact.go:2768", after := #[{ on := 5, ground := Go.Ground.data }, { on := 4, ground := Go.Ground.data }, { on := 4, ground := Go.Ground.chain }, { on := 0, ground := Go.Ground.phase }, { on := 1, ground := Go.Ground.phase }, { on := 2, ground := Go.Ground.phase }, { on := 3, ground := Go.Ground.phase }, { on := 4, ground := Go.Ground.phase }, { on := 5, ground := Go.Ground.phase }], guard := none }) rfl (fun K hK => ?_) AllReadyH.nil
      have hrN := box5 hres
      have hBX := hHeld.2.2.2.2.2.1
      have hb2z := hHeld.2.2.2.2.2.2
      go_simp
      have hA : After w15 ((((((wd.setCell ⟨B2, 0, none⟩ (.int .i64 m1.p)).setCell ⟨B2, 1, none⟩ (.int .i64 m1.c)).setCell ⟨B2, 2, none⟩ (.slice sa0 m1.st.length sc0)).setCell ⟨B2, 3, none⟩ (.slice oa0 m1.os.length oc0)).setCell ⟨B2, 4, none⟩ (.int .i64 m1.d))) w.heap.size B2 #[.int .i64 p, .int .i64 c, .slice sa st.length sc, .slice oa os.length oc, .int .i64 d] m1 (.slice sa0 m1.st.length sc0) (.slice oa0 m1.os.length oc0) := by
        refine ⟨?_, ?_, ?_⟩
        · exact set_other (set_other (set_other (set_other (set_other hBX hNEB) hNEB) hNEB) hNEB) hNEB
        · exact eq_cells (block_setCell (block_setCell (block_setCell (block_setCell (block_setCell hres _) _) _) _) _) (by simp [aggC])
        · have hMA : OffAt wd B2 := off_of hres
          repeat (with_reducible refine OwnC.set ?_ (by (repeat (with_reducible refine OffAt.set ?_)); exact hMA) hNW)
          exact hOM
      refine hK.out _ _ (S_law ⟨hA.bx, hA.om.2.2.2⟩) (fun _ => ?_)
      clear hK K hHeld hres hrN hBX hb2z hOM
      try simp only [Act.put, List.setIfInBounds_toArray, List.set_cons_zero, List.set_cons_succ]
      refine wpAnyH_done (by kernel_rfl) ?_ _
      generalize (((((wd.setCell ⟨B2, 0, none⟩ (.int .i64 m1.p)).setCell ⟨B2, 1, none⟩ (.int .i64 m1.c)).setCell ⟨B2, 2, none⟩ (.slice sa0 m1.st.length sc0)).setCell ⟨B2, 3, none⟩ (.slice oa0 m1.os.length oc0)).setCell ⟨B2, 4, none⟩ (.int .i64 m1.d)) = w3 at *
      go_wp2_with fail
      go_meet
      exact ⟨B2, sa0, oa0, sc0, oc0, rfl, hNB, q1, q2, q3, q4, hA⟩
    case rest =>
      obtain ⟨B2, sa2, oa2, sc2, oc2, rfl, hNB2, l1, l2, l3, l4, hA2⟩ := hcut
      have hb16 := hA2.om.2.2.2
      have HH := hide (Held.mk (p := m1.p) (c := m1.c) (d := m1.d) (by have h := hA2.rs; unfold aggC at h; exact h) hA2.om.1 hA2.om.2.1)
      have HW16 := hide ((unhide HW15).below hb16)
      have HG16 := hide (box_below (unhide HG15) hb16)
      have HI1 := hide ((unhide HJ1).below hb16)
      have HI2 := hide ((unhide HJ2).below hb16)
      have hB16 := bl_trans hBW hb16
      clear HS15 HW15 HG15 HJ1 HJ2 hA2 hb16 HR31 HM31 HN31 HST31 HS31 hBW
      have xw := (box5 (unhide HW16).box).1
      have xh := (box5 (unhide HH).box).1
      go_wp2_with fail
      clear xw xh
      refine (eqM_any m1.p m1.c m1.d sa2 oa2 sa0 oa0 sc2 oc2 sc0 oc0 m1.st m1.os _ l1 l2 l3 l4 q1 q2 q3 q4 (int_row (unhide HH).sp) (int_row (unhide HH).nu) (int_row (unhide HW16).sp) (int_row (unhide HW16).nu)).mono ?_
      rintro e w17 ⟨rfl, hb17⟩
      have hB17 := bl_trans hB16 hb17
      have HG17 := hide (box_below (unhide HG16) hb17)
      have HJ1 := hide ((unhide HI1).below hb17)
      have HJ2 := hide ((unhide HI2).below hb17)
      clear HH HW16 HG16 HI1 HI2 hB16 hb17
      have xg := (box5 (unhide HG17)).1
      go_wp2_with fail
      clear xg
      refine (heldCpu_any m1 _ _ sa1 oa1 sc1 oc1 m1.st.length m1.os.length 1 rfl rfl (by omega) (by omega) (by omega) _ (unhide HJ1) (unhide HJ2)).mono ?_
      rintro e w18 ⟨rfl, hb18⟩
      rw [unhide HKQ]
      have hB18 := bl_trans hB17 hb18
      clear HJ1 HJ2 HG17 hb18 hB17 HKQ
      go_wp2_with fail
      go_ret
      exact ⟨rfl, hB18⟩

set_option maxRecDepth 100000 in
theorem lifted (os : Os) (started : os.Started) (H : Type) (enc : TypeId × Value → H) :
    ReturnsInHanded {} Try.checked os 7 .any (Rows.fnExactCpuStepSpec.pre6 enc Try.prog Try.f7 Rows.fnExactCpuStepRow.domain false) (Rows.fnExactCpuStepSpec.post enc Try.prog Try.f7 false true false false) := by
  refine returnsInHanded_of_change (C := Try.checked) own started (by kernel_rfl) Try.func7
    (ChangeSpec.witness6 (enc := enc) (C := Try.checked) false ⟨#[], #[.slice none 0 0, .agg #[.int .i64 0, .int .i64 0, .slice none 0 0, .slice none 0 0, .int .i64 0]], []⟩ 8 (by kernel_rfl) (by kernel_rfl) (by kernel_rfl) (by kernel_rfl)) ?_
  intro W base args ds gs before hval0 hW hcnd _
  have hval : ∀ (j : Nat) t v, Try.f7.params[j]? = some t → args[j]? = some v → Value.okWide Try.prog W .any base t v := hval0
  have hW' := hW
  obtain ⟨p, q, hA0, hV, rfl, hfz, hnd⟩ := hW
  have hA : DataW.TrodAll enc Try.prog W 0 (fun _ => true) true Try.f7.params.toList args.toList ds p := hA0
  rw [Try.params7] at hA hval
  obtain ⟨v0, vs0, d0, ds0, p0, q0, hargs, rfl, rfl, h0, r0⟩ := trodAll_cons hA
  obtain ⟨v1, vs1, d1, ds1, p1, q1, rfl, rfl, rfl, h1, r1⟩ := trodAll_cons r0
  obtain ⟨rfl, rfl, rfl⟩ := trodAll_nil r1
  obtain rfl : args = #[v0, v1] := by cases args; simp_all
  obtain ⟨rfl, rfl⟩ := trodVars_none hV
  have k0 := h0
  have lt0 : ∀ x ∈ p0, x.block < W.heap.size := by obtain ⟨m, hm⟩ := k0; exact DataW.trod_lt m _ _ _ hm
  obtain ⟨a0, cap0, xs0, hv0, hl0, hm0, hr0⟩ := cells_of (hval 0 55 v0 rfl rfl) h0
  have k1 := h1
  have lt1 : ∀ x ∈ p1, x.block < W.heap.size := by obtain ⟨m, hm⟩ := k1; exact DataW.trod_lt m _ _ _ hm
  obtain ⟨p1_, c1_, e1_, sa1, oa1, sc1, oc1, st1, os1, hv1, hl1, hm1, hn1, hk1, hs1, ho1⟩ := cpu_of (hval 1 57 v1 rfl rfl) h1
  clear hA0 hval0
  subst hv0 hv1
  refine (walk a0 cap0 xs0 hl0 hm0 p1_ c1_ e1_ sa1 oa1 sc1 oc1 st1 os1 hl1 hm1 hn1 hk1 W hr0 hs1 ho1).mono fun e W' ⟨he, bel⟩ => ?_
  subst he
  exact ⟨_, rfl, _, _, _, [], _, [], hW', trodAll_mk1 (shut_bool Try.underlying4 _), (trodAll_cons_mk (Below.trod laidOut (by kernel_rfl) (of_decide_eq_true (by kernel_rfl)) k0 bel lt0) (trodAll_cons_mk (Below.trod laidOut (by kernel_rfl) (of_decide_eq_true (by kernel_rfl)) k1 bel lt1) trodAll_mk0)), rfl, bel.frame _, fun h => by cases h⟩

theorem proved : Rows.FnExactCpuStepSaid :=
  OpenClaim.holds_of_wide 7 Try.f7 rfl rfl rfl rfl rfl rfl rfl ⟨rfl, rfl, rfl, rfl, rfl⟩ rfl rfl rfl rfl rfl (by kernel_rfl) Try.func7 (by kernel_rfl)
    (of_decide_eq_true (by kernel_rfl)) (by unfold Func.isWrapper; first | (rw [if_pos (by decide +kernel)]; kernel_rfl) | (rw [if_neg (by decide +kernel)]; exact ⟨rfl, rfl⟩))
    (fun os started H enc _ => lifted os started H enc)
#print axioms proved
end Go.Proofs.Ytjbhbkkkjdpamaa.fnExactCpuStep
