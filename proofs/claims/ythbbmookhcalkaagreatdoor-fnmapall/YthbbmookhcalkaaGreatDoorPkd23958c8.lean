/- The contract of the program's MapAt. -/
import Derived.Test.YthbbmookhcalkaaGreatDoorPk18af4b8d
import Derived.Test.YthbbmookhcalkaaGreatDoorLayU
namespace Go.Proofs.YthbbmookhcalkaaGreatDoor.MapI
open Go.ChangeShapes Go.WideShapes Go.ChangeAt Go.RowKit Go.Joins Go.WideMaps Go.Maps Go.Deep
open Go.Proofs.YthbbmookhcalkaaGreatDoor.Base Go.Proofs.YthbbmookhcalkaaGreatDoor.InsA Go.Proofs.YthbbmookhcalkaaGreatDoor.Funs Go.Proofs.YthbbmookhcalkaaGreatDoor.Open Go.Proofs.YthbbmookhcalkaaGreatDoor.Keep Go.Proofs.YthbbmookhcalkaaGreatDoor.UnitS Go.Proofs.YthbbmookhcalkaaGreatDoor.UnitM Go.Proofs.YthbbmookhcalkaaGreatDoor.Refs Go.Proofs.YthbbmookhcalkaaGreatDoor.LayN Go.Proofs.YthbbmookhcalkaaGreatDoor.LayA Go.Proofs.YthbbmookhcalkaaGreatDoor.KeepD Go.Proofs.YthbbmookhcalkaaGreatDoor.KeepA Go.Proofs.YthbbmookhcalkaaGreatDoor.LayD Go.Proofs.YthbbmookhcalkaaGreatDoor.LayS Go.Proofs.YthbbmookhcalkaaGreatDoor.LayT Go.Proofs.YthbbmookhcalkaaGreatDoor.LayG Go.Proofs.YthbbmookhcalkaaGreatDoor.LayH Go.Proofs.YthbbmookhcalkaaGreatDoor.LayJ Go.Proofs.YthbbmookhcalkaaGreatDoor.LayK Go.Proofs.YthbbmookhcalkaaGreatDoor.LayV Go.Proofs.YthbbmookhcalkaaGreatDoor.LayM Go.Proofs.YthbbmookhcalkaaGreatDoor.LayO Go.Proofs.YthbbmookhcalkaaGreatDoor.MapD Go.Proofs.YthbbmookhcalkaaGreatDoor.MapA
set_option linter.unusedVariables false
set_option maxRecDepth 100000

set_option maxHeartbeats 4000000 in
theorem implMapAt_any (a : Option Addr) (cap : Nat) (fs : List FunD) (na sa : Option Addr) (nc sc : Nat) (ns : List Int) (st : List (List ByteArray)) (ff pp : Int) (w : World) (hcap : fs.length ≤ cap) (hcm : cap ≤ maxLen) (h1 : ns.length ≤ nc) (h2 : nc ≤ maxLen) (h3 : st.length ≤ sc) (h4 : sc ≤ maxLen) (hft : FewT st) (hR : FunRow w a fs) (hs : NumRow w na ns) (ho : TextsRow w sa st) :
    Calls Tryz.prog 26 #[.slice a fs.length cap, .agg #[.slice na ns.length nc, .slice sa st.length sc], .agg #[.int .i64 ff, .int .i64 pp]] w fun e w' => e = .returned (.int .i64 (mapAtI fs ns st ff pp)) ∧ Below w.heap.size w w' := by
  have HR := hide hR
  have HS := hide hs
  have HO := hide ho
  have hB0 := below_alloc2 w (.cells #[.slice na ns.length nc, .slice sa st.length sc] 47) (.cells #[.int .i64 ff, .int .i64 pp] 31)
  have hY := new_block (w.alloc (.cells #[.slice na ns.length nc, .slice sa st.length sc] 47)) (.cells #[.int .i64 ff, .int .i64 pp] 31)
  rw [World.size_alloc] at hY
  have HY := hide hY
  clear hR hs ho hY
  go_enter Tryz.func26, Tryz.ntmps26
  go_wp2_with fail
  refine (groundAsLaid_any _ _ _ _ _ _ fs ns st _ hcap hcm h1 h2 h3 h4 hft ((unhide HR).below hB0) ((unhide HS).below hB0) ((unhide HO).below hB0)).mono ?_
  rintro e w1 hge
  obtain ⟨hb1, ⟨hf, rfl⟩ | ⟨hf, na', nc', G, B1, B2, rfl, hG⟩⟩ := ground_ways hge
  · have HE := hide (mapAt_no (f := ff) (p := pp) (.inl hf))
    have hB1 := bl_trans hB0 hb1
    clear hge
    go_wp2_with fail
    go_ret
    exact ⟨ret_int (unhide HE).symm, bl_alloc hB1 _⟩
  have HL := hide (lying_of hf hft)
  have hB1 := bl_alloc (bl_trans hB0 hb1) (.cells #[.slice na' fs.length nc', .map (some B1), .map (some B2), .int .i64 (place fs st fs.length : Nat)] 89)
  have HY1 := hide (box_below (box_below (unhide HY) hb1) (below_alloc1 _ (.cells #[.slice na' fs.length nc', .map (some B1), .map (some B2), .int .i64 (place fs st fs.length : Nat)] 89)))
  have HZ1 := hide (new_block w1 (.cells #[.slice na' fs.length nc', .map (some B1), .map (some B2), .int .i64 (place fs st fs.length : Nat)] 89))
  obtain ⟨k1, k2, k3⟩ := GS.nums hG
  have HK := hide (k3.below (below_alloc1 w1 (.cells #[.slice na' fs.length nc', .map (some B1), .map (some B2), .int .i64 (place fs st fs.length : Nat)] 89)))
  have hnl : (fs.length : Int) ≤ 9223372036854775807 := by have := (unhide HL).1; omega
  clear hge hG HY hB0 hb1 k3
  generalize hpl : place fs st fs.length = pt at *
  clear hpl
  cases hq : spotQ fs ff pp
  · have HE := hide (mapAt_no (fs := fs) (ns := ns) (st := st) (.inr hq))
    have hY := box2 (unhide HY1)
    go_wp2_with fail
    refine (spotOk_any a cap fs ff pp _ hcap hcm ((unhide HR).below hB1)).mono ?_
    rw [hq]
    rintro e w2 ⟨rfl, hb2⟩
    have hB2 := bl_trans hB1 hb2
    clear hY
    go_wp2_with fail
    go_ret
    exact ⟨ret_int (unhide HE).symm, hB2⟩
  obtain ⟨k, j, rfl, rfl, hk, hj⟩ := spotQ_parts hq
  have HE := hide (mapAt_yes hf hq)
  have hY := box2 (unhide HY1)
  go_wp2_with fail
  refine (spotOk_any a cap fs _ _ _ hcap hcm ((unhide HR).below hB1)).mono ?_
  rw [hq]
  rintro e w2 ⟨rfl, hb2⟩
  have hB2 := bl_trans hB1 hb2
  have HZ2 := hide (box_below (unhide HZ1) hb2)
  have HY2 := hide (box_below (unhide HY1) hb2)
  have HK2 := hide ((unhide HK).below hb2)
  clear hY hb2 hB1 HZ1 HY1 HK
  have hZ := box4 (unhide HZ2)
  have hY := box2 (unhide HY2)
  have hk' : (k : Int) < (fs.length : Int) := by omega
  have hk0 : (0 : Int) ≤ (k : Int) := by omega
  have hfl : fs[k].body.length ≤ 10 := (unhide HL).2.1 _ (List.getElem_mem _)
  have hpb := (unhide HL).small k (by omega)
  have hjb : j < 10 := by omega
  have hkp : k < (placesTo fs st fs.length).length := by rw [placesTo_len]; exact hk
  obtain ⟨gb, go', rfl⟩ := (unhide HK2).get (by omega)
  have g0 := (unhide HK2).cells hkp
  rw [placesTo_at hkp] at g0
  clear hkp
  generalize place fs st k = p0 at *
  clear hj hfl hq hf
  go_wp2_with fail
  go_quiet (fail)
  go_wp2_with fail
  go_ret
  exact ⟨ret_int (by rw [unhide HE]; go_num), by first | exact hB2 | exact bl_drewN hB2 _ | exact hB2.drew⟩
end Go.Proofs.YthbbmookhcalkaaGreatDoor.MapI
/- The contracts of the program's lastUpTo, standing and MapSpot. -/
namespace Go.Proofs.YthbbmookhcalkaaGreatDoor.MapJ
open Go.ChangeShapes Go.WideShapes Go.ChangeAt Go.RowKit Go.Joins Go.WideMaps Go.Maps Go.Deep
open Go.Proofs.YthbbmookhcalkaaGreatDoor.Base Go.Proofs.YthbbmookhcalkaaGreatDoor.InsA Go.Proofs.YthbbmookhcalkaaGreatDoor.Funs Go.Proofs.YthbbmookhcalkaaGreatDoor.Open Go.Proofs.YthbbmookhcalkaaGreatDoor.Keep Go.Proofs.YthbbmookhcalkaaGreatDoor.UnitS Go.Proofs.YthbbmookhcalkaaGreatDoor.UnitM Go.Proofs.YthbbmookhcalkaaGreatDoor.Refs Go.Proofs.YthbbmookhcalkaaGreatDoor.LayN Go.Proofs.YthbbmookhcalkaaGreatDoor.LayA Go.Proofs.YthbbmookhcalkaaGreatDoor.KeepD Go.Proofs.YthbbmookhcalkaaGreatDoor.KeepA Go.Proofs.YthbbmookhcalkaaGreatDoor.LayD Go.Proofs.YthbbmookhcalkaaGreatDoor.LayS Go.Proofs.YthbbmookhcalkaaGreatDoor.LayT Go.Proofs.YthbbmookhcalkaaGreatDoor.LayG Go.Proofs.YthbbmookhcalkaaGreatDoor.LayH Go.Proofs.YthbbmookhcalkaaGreatDoor.LayJ Go.Proofs.YthbbmookhcalkaaGreatDoor.LayK Go.Proofs.YthbbmookhcalkaaGreatDoor.LayV Go.Proofs.YthbbmookhcalkaaGreatDoor.LayM Go.Proofs.YthbbmookhcalkaaGreatDoor.LayO Go.Proofs.YthbbmookhcalkaaGreatDoor.MapD Go.Proofs.YthbbmookhcalkaaGreatDoor.MapA
set_option linter.unusedVariables false
set_option maxRecDepth 100000

end Go.Proofs.YthbbmookhcalkaaGreatDoor.MapJ
/- The contract of the specification's MapSpot. -/
namespace Go.Proofs.YthbbmookhcalkaaGreatDoor.MapT
open Go.ChangeShapes Go.WideShapes Go.ChangeAt Go.RowKit Go.Joins Go.Deep
open Go.Proofs.YthbbmookhcalkaaGreatDoor.Base Go.Proofs.YthbbmookhcalkaaGreatDoor.InsA Go.Proofs.YthbbmookhcalkaaGreatDoor.Funs Go.Proofs.YthbbmookhcalkaaGreatDoor.Open Go.Proofs.YthbbmookhcalkaaGreatDoor.Keep Go.Proofs.YthbbmookhcalkaaGreatDoor.UnitS Go.Proofs.YthbbmookhcalkaaGreatDoor.Refs Go.Proofs.YthbbmookhcalkaaGreatDoor.LayN Go.Proofs.YthbbmookhcalkaaGreatDoor.LayA Go.Proofs.YthbbmookhcalkaaGreatDoor.KeepD Go.Proofs.YthbbmookhcalkaaGreatDoor.KeepA Go.Proofs.YthbbmookhcalkaaGreatDoor.LayD Go.Proofs.YthbbmookhcalkaaGreatDoor.LayS Go.Proofs.YthbbmookhcalkaaGreatDoor.LayT Go.Proofs.YthbbmookhcalkaaGreatDoor.LayU Go.Proofs.YthbbmookhcalkaaGreatDoor.LayV Go.Proofs.YthbbmookhcalkaaGreatDoor.MapD Go.Proofs.YthbbmookhcalkaaGreatDoor.MapA
set_option linter.unusedVariables false
set_option maxRecDepth 100000

def SpotEnd (w : World) (z : Int × Int × Bool) (e : Ending) (w' : World) : Prop := e = .returned (.tuple #[.agg #[.int .i64 z.1, .int .i64 z.2.1], .bool z.2.2]) ∧ Below w.heap.size w w'
theorem below_set2 {w w' : World} {B : Nat} (hB : w.heap.size ≤ B) (h : Below w.heap.size w w') (v0 v1 : Value) : Below w.heap.size w ((w'.setCell ⟨B, 0, none⟩ v0).setCell ⟨B, 1, none⟩ v1) := (h.setCell (by show w.heap.size ≤ B; exact hB) _).setCell (by show w.heap.size ≤ B; exact hB) _
theorem spot_none {w w' : World} {z : Int × Int × Bool} (h : z = (0, 0, false)) (hb : Below w.heap.size w w') (v0 v1 : Value) : SpotEnd w z (.returned (.tuple #[.agg #[.int .i64 0, .int .i64 0], .bool false])) ((w'.setCell ⟨w.heap.size + 1, 0, none⟩ v0).setCell ⟨w.heap.size + 1, 1, none⟩ v1) := by
  subst h
  exact ⟨rfl, below_set2 (by omega) hb _ _⟩
theorem spot_some {w w' : World} {z : Int × Int × Bool} {k p : Int} (h : z = (k, p, true)) (hb : Below w.heap.size w w') (v0 v1 : Value) : SpotEnd w z (.returned (.tuple #[.agg #[.int .i64 k, .int .i64 p], .bool true])) ((w'.setCell ⟨w.heap.size + 1, 0, none⟩ v0).setCell ⟨w.heap.size + 1, 1, none⟩ v1) := by
  subst h
  exact ⟨rfl, below_set2 (by omega) hb _ _⟩
end Go.Proofs.YthbbmookhcalkaaGreatDoor.MapT
/- The contracts of the program's standing and MapSpot. -/
namespace Go.Proofs.YthbbmookhcalkaaGreatDoor.MapK
open Go.ChangeShapes Go.WideShapes Go.ChangeAt Go.RowKit Go.Joins Go.WideMaps Go.Maps Go.Deep
open Go.Proofs.YthbbmookhcalkaaGreatDoor.Base Go.Proofs.YthbbmookhcalkaaGreatDoor.InsA Go.Proofs.YthbbmookhcalkaaGreatDoor.Funs Go.Proofs.YthbbmookhcalkaaGreatDoor.Open Go.Proofs.YthbbmookhcalkaaGreatDoor.FunS Go.Proofs.YthbbmookhcalkaaGreatDoor.Keep Go.Proofs.YthbbmookhcalkaaGreatDoor.UnitS Go.Proofs.YthbbmookhcalkaaGreatDoor.UnitM Go.Proofs.YthbbmookhcalkaaGreatDoor.Refs Go.Proofs.YthbbmookhcalkaaGreatDoor.LayN Go.Proofs.YthbbmookhcalkaaGreatDoor.LayA Go.Proofs.YthbbmookhcalkaaGreatDoor.KeepD Go.Proofs.YthbbmookhcalkaaGreatDoor.KeepA Go.Proofs.YthbbmookhcalkaaGreatDoor.LayD Go.Proofs.YthbbmookhcalkaaGreatDoor.LayS Go.Proofs.YthbbmookhcalkaaGreatDoor.LayT Go.Proofs.YthbbmookhcalkaaGreatDoor.LayG Go.Proofs.YthbbmookhcalkaaGreatDoor.LayH Go.Proofs.YthbbmookhcalkaaGreatDoor.LayJ Go.Proofs.YthbbmookhcalkaaGreatDoor.LayK Go.Proofs.YthbbmookhcalkaaGreatDoor.LayV Go.Proofs.YthbbmookhcalkaaGreatDoor.LayM Go.Proofs.YthbbmookhcalkaaGreatDoor.LayO Go.Proofs.YthbbmookhcalkaaGreatDoor.MapD Go.Proofs.YthbbmookhcalkaaGreatDoor.MapA Go.Proofs.YthbbmookhcalkaaGreatDoor.MapJ Go.Proofs.YthbbmookhcalkaaGreatDoor.MapT
set_option linter.unusedVariables false
set_option maxRecDepth 100000

end Go.Proofs.YthbbmookhcalkaaGreatDoor.MapK
/- The contracts of the specification's l7Put and l7Lay: how a program is laid. -/
namespace Go.Proofs.YthbbmookhcalkaaGreatDoor.LayW
open Go.ChangeShapes Go.WideShapes Go.ChangeAt Go.RowKit Go.Joins Go.Deep
open Go.Proofs.YthbbmookhcalkaaGreatDoor.Base Go.Proofs.YthbbmookhcalkaaGreatDoor.InsA Go.Proofs.YthbbmookhcalkaaGreatDoor.Funs Go.Proofs.YthbbmookhcalkaaGreatDoor.Open Go.Proofs.YthbbmookhcalkaaGreatDoor.FunS Go.Proofs.YthbbmookhcalkaaGreatDoor.Keep Go.Proofs.YthbbmookhcalkaaGreatDoor.UnitS Go.Proofs.YthbbmookhcalkaaGreatDoor.Refs Go.Proofs.YthbbmookhcalkaaGreatDoor.Mark Go.Proofs.YthbbmookhcalkaaGreatDoor.LayN Go.Proofs.YthbbmookhcalkaaGreatDoor.LayA Go.Proofs.YthbbmookhcalkaaGreatDoor.KeepD Go.Proofs.YthbbmookhcalkaaGreatDoor.KeepA Go.Proofs.YthbbmookhcalkaaGreatDoor.LayD Go.Proofs.YthbbmookhcalkaaGreatDoor.LayS Go.Proofs.YthbbmookhcalkaaGreatDoor.LayT Go.Proofs.YthbbmookhcalkaaGreatDoor.LayU
set_option linter.unusedVariables false
set_option maxRecDepth 100000

/-- One stone more behind a function. -/
def addSt (st : List (List ByteArray)) (i : Nat) (s : ByteArray) : List (List ByteArray) := st.set i (stAt st i ++ [s])
theorem addSt_len (st : List (List ByteArray)) (i : Nat) (s : ByteArray) : (addSt st i s).length = st.length := by simp [addSt]
/-- How a program is laid: stone by stone, till nothing is out of reach. -/
def layGo (fs : List FunD) (r : Int) : Nat → List (List ByteArray) → Option (List (List ByteArray))
  | 0, _ => none
  | n + 1, st => match lackN fs st r with
    | none => some st
    | some (i, s) => if hasB (stAt st i) s then none else layGo fs r n (addSt st i s)
theorem layGo_fine {fs : List FunD} {r : Int} {n : Nat} {st : List (List ByteArray)} (h : lackN fs st r = none) : layGo fs r (n + 1) st = some st := by rw [layGo, h]
theorem layGo_far {fs : List FunD} {r : Int} {n i : Nat} {s : ByteArray} {st : List (List ByteArray)} (h : lackN fs st r = some (i, s)) (hh : hasB (stAt st i) s = true) : layGo fs r (n + 1) st = none := by rw [layGo, h]; simp [hh]
theorem layGo_more {fs : List FunD} {r : Int} {n i : Nat} {s : ByteArray} {st : List (List ByteArray)} (h : lackN fs st r = some (i, s)) (hh : hasB (stAt st i) s = false) : layGo fs r (n + 1) st = layGo fs r n (addSt st i s) := by rw [layGo, h]; simp [hh]
/-- No list is longer than that. -/
def Short (st : List (List ByteArray)) (n : Nat) : Prop := ∀ ss ∈ st, ss.length ≤ n ∧ ∀ s ∈ ss, s.size ≤ maxLen
theorem Short.add {st : List (List ByteArray)} {n i : Nat} {s : ByteArray} (h : Short st n) (hi : i < st.length) (hs : s.size ≤ maxLen) : Short (addSt st i s) (n + 1) := by
  intro ss hss
  rcases List.mem_or_eq_of_mem_set hss with h' | rfl
  · exact ⟨by have := (h ss h').1; omega, (h ss h').2⟩
  · obtain ⟨h1, h2⟩ := h st[i] (List.getElem_mem _)
    rw [stAt_is hi]
    refine ⟨by simp; omega, fun x hx => ?_⟩
    rcases List.mem_append.1 hx with hx | hx
    · exact h2 x hx
    · rw [List.mem_singleton.1 hx]; exact hs

theorem int_info : ∃ i, Tryz.prog.info? 3 = some i ∧ i.zero = some (.int .i64 0) ∧ i.size = 1 ∧ i.bytes = 8 := by
  obtain ⟨i, hi, h⟩ := Option.map_eq_some_iff.1 infoInt
  simp only [Prod.mk.injEq] at h
  exact ⟨i, hi, h⟩
theorem form_of {w : World} {B : Nat} {e : TypeId} {z n : Nat} {v : Value} {xs : List Value} (h : w.ownsRow B e z v n xs) : ∃ a c, v = .slice a n c ∧ n ≤ c ∧ c ≤ maxLen := by
  obtain ⟨_, ⟨rfl, h0⟩ | ⟨g, cap, cur, rfl, hB, hg, hn, hm, hs, ht⟩⟩ := h
  · exact ⟨none, 0, by rw [h0], by omega, Nat.zero_le _⟩
  · exact ⟨_, _, rfl, hn, hm⟩
theorem cell_after (w : World) (x : Value) (t : TypeId) : ∀ j u, [x][j]? = some u → (w.alloc (.cells #[x] t)).cell? ((⟨w.heap.size, 0, none⟩ : Addr).add j) = some u := cell_one_new w x t
/-- Numbers in a row of the call's own, readable. -/
theorem own_nums {w : World} {B n c : Nat} {a : Option Addr} {zs : List Int} (h : w.ownsRow B 3 1 (.slice a n c) n (zs.map (Value.int .i64))) : NumRow w a zs := by
  obtain ⟨q1, ⟨q2, q0⟩ | ⟨g, cap, cur, q2, hB, hgg, hn, hm, hs, ht⟩⟩ := h
  · simp at q1
    exact .inl (List.length_eq_zero_iff.1 (by omega))
  · simp only [Value.slice.injEq] at q2
    obtain ⟨rfl, _, rfl⟩ := q2
    refine .inr ⟨g, 0, rfl, fun i hi => ?_⟩
    rw [cell_of_block hgg]
    have hl : zs.length = n := by simpa using q1
    have e : (cur.toList.take (n * 1))[i]? = some (.int .i64 zs[i]) := by rw [ht]; simp [hi]
    rw [List.getElem?_take_of_lt (by omega)] at e
    simpa using e
/-- While a program is put: the box G, and the numbers so far. -/
structure PS (w w' : World) (G k : Nat) (na : Option Addr) (nc : Nat) (sv : Value) (fs : List FunD) (st : List (List ByteArray)) : Prop where
  box : w'.heap[G]? = some (.cells #[.slice na k nc, sv] 47)
  row : w'.ownsRow G 3 1 (.slice na k nc) k ((placesTo fs st k).map (Value.int .i64))
  blw : Below w.heap.size w w'
  o1 : w.heap.size ≤ G
theorem PS.ne {w w' : World} {G k : Nat} {na : Option Addr} {nc : Nat} {sv : Value} {fs : List FunD} {st : List (List ByteArray)} (h : PS w w' G k na nc sv fs st) : (Value.slice na k nc).ownBlock ≠ some G := fun e => by
  obtain ⟨_, ⟨h1, h0⟩ | ⟨g, cap, cur, h1, hB, hg, hn, hm, hs, ht⟩⟩ := h.row
  · rw [h1] at e; cases e
  · rw [h1] at e
    cases e
    have := h.box
    rw [hg] at this
    simp at this
theorem PS.next {w w' w2 : World} {G k : Nat} {na : Option Addr} {nc : Nat} {sv : Value} {fs : List FunD} {st : List (List ByteArray)} (h : PS w w' G k na nc sv fs st) (hb : Below w'.heap.size w' w2) : PS w w2 G k na nc sv fs st :=
  ⟨box_below h.box hb, h.row.kept (row := none) ⟨hb.os, hb.tape, hb.output, hb.size, fun q hq _ => hb.block q hq⟩ (by cases (Value.slice na k nc).ownBlock <;> simp), bl_trans h.blw hb, h.o1⟩
theorem PS.app {w w' w4 : World} {G k : Nat} {na : Option Addr} {nc : Nat} {sv v4 : Value} {fs : List FunD} {st : List (List ByteArray)} (h : PS w w' G k na nc sv fs st) (hg4 : (w'.alloc (.cells #[.int .i64 (place fs st k : Int)] 3)).grownBy w4 (Value.slice na k nc).ownBlock) (ho : w4.ownsRow G 3 1 v4 (k + 1) ((placesTo fs st k).map (Value.int .i64) ++ [.int .i64 (place fs st k : Int)])) (hat : v4.ownBlock = (Value.slice na k nc).ownBlock ∨ v4.ownBlock = some (w'.alloc (.cells #[.int .i64 (place fs st k : Int)] 3)).heap.size) :
    ∃ na' nc', v4 = .slice na' (k + 1) nc' ∧ (w4.cell? ⟨G, 0, none⟩ = some (.slice na k nc) ∧ w4.frozen? ⟨G, 0, none⟩ = false) ∧ PS w (w4.setCell ⟨G, 0, none⟩ v4) G (k + 1) na' nc' sv fs st := by
  obtain ⟨na', nc', rfl, hc1, hc2⟩ := form_of ho
  have hl := (Array.getElem?_eq_some_iff.1 h.box).1
  have hlo : ∀ q, (Value.slice na k nc).ownBlock = some q → G ≤ q := fun q hq => (World.ownsRow.lt h.row q hq).1
  have hb4 : w4.heap[G]? = _ := ((hg4.block G (by simp; omega) (fun e => h.ne e.symm)).trans ((below_alloc1 w' _).block G hl)).trans h.box
  have hne4 : (Value.slice na' (k + 1) nc').ownBlock ≠ some G := fun e => by
    rcases hat with e' | e'
    · rw [e'] at e; exact h.ne e
    · rw [e'] at e; simp at e; omega
  refine ⟨na', nc', rfl, ⟨by rw [cell_of_block hb4]; rfl, unfrozen_of_block hb4 0⟩, ⟨block_setCell hb4 _, ?_, ?_, h.o1⟩⟩
  · rw [placesTo_succ, List.map_append]
    exact ho.kept ((But.refl G w4).set 0 _) (.inr hne4)
  · exact (((bl_alloc h.blw _).grown hg4 (bl_alloc h.blw _).size (fun j hj => by have := hlo j hj; have := h.o1; omega)).setCell (by show w.heap.size ≤ G; exact h.o1) _)
def PutEnd (w : World) (fs : List FunD) (st : List (List ByteArray)) (sv : Value) (e : Ending) (w' : World) : Prop := ∃ na nc, e = .returned (.agg #[.slice na fs.length nc, sv]) ∧ fs.length ≤ nc ∧ nc ≤ maxLen ∧ NumRow w' na (places fs st) ∧ Below w.heap.size w w'
set_option maxHeartbeats 8000000 in
theorem l7Put_any (a sa : Option Addr) (cap sc : Nat) (fs : List FunD) (st : List (List ByteArray)) (w : World) (h40 : fs.length ≤ 40) (h10 : ∀ f ∈ fs, f.body.length ≤ 10) (hst : st.length = fs.length) (hft : FewT st) (hcap : fs.length ≤ cap) (hcm : cap ≤ maxLen) (h3 : st.length ≤ sc) (h4 : sc ≤ maxLen) (hR : FunRow w a fs) (ho : TextsRow w sa st) :
    Calls Tryz.prog 139 #[.slice a fs.length cap, .slice sa st.length sc] w (PutEnd w fs st (.slice sa st.length sc)) := by
  have HR := hide hR
  have HO := hide ho
  have HPB := hide (place_small h40 h10 hst hft)
  have HFT := hide hft.2
  have H10 := hide h10
  have HST := hide hst
  have hls : (st.length : Int) ≤ 9223372036854775807 := by unfold maxLen at h4; omega
  clear hR ho h10 hft hst
  obtain ⟨i0, hi, hz0, hz1, hz2⟩ := int_info
  have n0 := box_below (new_block w (.cells #[.slice none 0 0, .slice none 0 0] 47)) (below_alloc1 _ (.cells #[.slice none 0 0, .slice sa st.length sc] 47))
  have n1 := new_block (w.alloc (.cells #[.slice none 0 0, .slice none 0 0] 47)) (.cells #[.slice none 0 0, .slice sa st.length sc] 47)
  rw [World.size_alloc] at n1
  have HZ0 := hide n0
  have HP0 : Hid (PS w ((w.alloc (.cells #[.slice none 0 0, .slice none 0 0] 47)).alloc (.cells #[.slice none 0 0, .slice sa st.length sc] 47)) (w.heap.size + 1) 0 none 0 (.slice sa st.length sc) fs st) := ⟨n1, World.ownsRow_nil _ _ _ _, below_alloc2 _ _ _, by omega⟩
  clear n0 n1
  go_enter Tryz.func139, Tryz.ntmps139
  go_wp2_with fail
  go_loopw [6, 7] (fun at' i w' => ∃ (k : Nat) (na : Option Addr) (nc : Nat), k ≤ fs.length ∧ i = .int .i64 k ∧ at' = .int .i64 (place fs st k : Nat) ∧ PS w w' (w.heap.size + 1) k na nc (.slice sa st.length sc) fs st ∧ w'.heap[w.heap.size]? = some (.cells #[.slice none 0 0, .slice none 0 0] 47)) (fun _ i _ => fs.length - (intOf i).toNat)
  case atStart => exact ⟨0, none, 0, Nat.zero_le _, rfl, rfl, unhide HP0, unhide HZ0⟩
  case round =>
    obtain ⟨k, na, nc, hk, rfl, rfl, hP, hZ⟩ := hrel
    clear HP0 HZ0
    have HP := hide hP
    have HZ := hide hZ
    have hX := box2 hP.box
    clear hP hZ
    by_cases hkl : k < fs.length
    · have hkl' : (k : Int) < (fs.length : Int) := by omega
      have hks : k < st.length := by rw [unhide HST]; exact hkl
      have hks' : (k : Int) < (st.length : Int) := by omega
      have hk0 : (0 : Int) ≤ (k : Int) := by omega
      obtain ⟨b, off, rfl⟩ := (unhide HR).get (by omega)
      obtain ⟨sb, so, rfl⟩ := (unhide HO).get (by omega)
      have HFR := hide ((unhide HR).at hkl)
      have HTR := hide ((unhide HO).at hks)
      have hsl := unhide HFT st[k] (List.getElem_mem _)
      have hfl := unhide H10 fs[k] (List.getElem_mem _)
      have hpb := unhide HPB k (by omega)
      have HPS : Hid (place fs st (k + 1) = place fs st k + fs[k].body.length + st[k].length) := by show place fs st (k + 1) = _; rw [place, lenAt_is hkl, stAt_is hks]
      have HAPP := hide (fun (w4 : World) (v4 : Value) => PS.app (w4 := w4) (v4 := v4) (unhide HP))
      have HROW := hide ((unhide HP).row.alloc (.cells #[.int .i64 (place fs st k : Int)] 3))
      have HZB : Hid (∀ w4, (wr.alloc (.cells #[.int .i64 (place fs st k : Int)] 3)).grownBy w4 (Value.slice na k nc).ownBlock → w4.heap[w.heap.size]? = some (.cells #[.slice none 0 0, .slice none 0 0] 47)) := fun w4 hg => by
        have hlo : ∀ q, (Value.slice na k nc).ownBlock = some q → w.heap.size + 1 ≤ q := fun q hq => (World.ownsRow.lt (unhide HP).row q hq).1
        have hl := (Array.getElem?_eq_some_iff.1 (unhide HZ)).1
        exact (hg.block w.heap.size (by simp; omega) (fun e => by have := hlo _ e.symm; omega)).trans (box_below (unhide HZ) (below_alloc1 _ _))
      have hGl : w.heap.size + 1 < wr.heap.size := (Array.getElem?_eq_some_iff.1 (unhide HP).box).1
      generalize fs[k] = f at *
      generalize st[k] = ss at *
      generalize hpe : place fs st k = pl at *
      clear hpe
      go_wp2_with (first
        | (at_builtin; refine wpList_append_own_at _ rfl _ _ 33 rfl (w.heap.size + 1) 3 i0 _ 1 8 Tryz.underlying33 hi hz0 hz1 hz2 rfl (by decide) _ k ((placesTo fs st k).map (Value.int .i64)) rfl (unhide HROW) ⟨wr.heap.size, 0, none⟩ 1 1 [.int .i64 (pl : Int)] rfl rfl (cell_after _ _ _) (by simp [Value.oneCell']) (by unfold maxLen; omega) (by omega) (by simp; omega) ?_; intro v4 w4 hown4 hgrow4 _ hat4; have HZ4 := hide (unhide HZB w4 hgrow4); obtain ⟨na4, nc4, rfl, hx4, hP4⟩ := unhide HAPP w4 v4 hgrow4 hown4 hat4; have hl4 := hgrow4.size; clear hown4 hgrow4 hat4)
        | fail)
      have HP4 := hide hP4
      have HZ5 := hide (set_other (o := 0) (v := .slice na4 (k + 1) nc4) (unhide HZ4) (show w.heap.size + 1 ≠ w.heap.size by omega))
      obtain ⟨W5, hW5⟩ : ∃ W, W = w4.setCell ⟨w.heap.size + 1, 0, none⟩ (.slice na4 (k + 1) nc4) := ⟨_, rfl⟩
      rw [← hW5] at HP4 HZ5 ⊢
      clear hW5 hP4 hx4 HZ4 hX hl4
      obtain ⟨fi, fc, f0, f1, f2, _, f4, f5, _⟩ := (unhide HFR).below (unhide HP4).blw
      obtain ⟨ai, ci, t0, h5, h6, _⟩ := (unhide HTR).below (unhide HP4).blw
      go_quiet (fail)
      go_wp2_with fail
      exact ⟨⟨k + 1, na4, nc4, by omega, by go_num, by rw [unhide HPS]; go_num, by first | exact unhide HP4 | exact PS.next (unhide HP4) (below_draws _ _ _) | exact PS.next (unhide HP4) (Below.refl _ _).drew, by first | exact unhide HZ5 | exact box_below (unhide HZ5) (below_draws _ _ _)⟩, by simp [intOf]; omega⟩
    · have hke : k = fs.length := by omega
      subst hke
      have hZ := box2 (unhide HZ)
      obtain ⟨_, _, e1, hnc1, hnc2⟩ := form_of (unhide HP).row
      simp only [Value.slice.injEq] at e1
      obtain ⟨rfl, _, rfl⟩ := e1
      have HN := hide (own_nums (unhide HP).row)
      have HB := hide (unhide HP).blw
      have hwl : w.heap.size < wr.heap.size := (Array.getElem?_eq_some_iff.1 (unhide HZ)).1
      go_wp2_with fail
      refine bodyPost_ret (v := .agg #[.slice na fs.length nc, .slice sa st.length sc]) (by simp [results, Tryz.results139, go_sem, hZ]) rfl ⟨na, nc, rfl, hnc1, hnc2, ?_, ((unhide HB).setCell (Nat.le_refl _) _).setCell (Nat.le_refl _) _⟩
      obtain h | ⟨nb, no, rfl, h⟩ := unhide HN
      · exact .inl h
      · refine .inr ⟨nb, no, rfl, fun i hi => ?_⟩
        have hne : nb ≠ w.heap.size := fun e => by
          have hc := h i hi
          subst e
          have h2 : wr.heap[w.heap.size]? = _ := unhide HZ
          rw [cell_of_block h2] at hc
          generalize no + i = m at hc
          match m, hc with
          | 0, hc => simp at hc
          | 1, hc => simp at hc
          | n + 2, hc => simp at hc
        rw [World.cell?_setCell_far _ _ _ _ (fun e => hne e.symm), World.cell?_setCell_far _ _ _ _ (fun e => hne e.symm)]
        exact h i hi
end Go.Proofs.YthbbmookhcalkaaGreatDoor.LayW
