/- The contract of the specification's LayOf. -/
import Derived.Test.YthbbmookhcalkaaGreatDoorLayZ
import Derived.Test.YthbbmookhcalkaaGreatDoorDrawIns
import Derived.Test.YthbbmookhcalkaaGreatDoorDrawFun
namespace Go.Proofs.YthbbmookhcalkaaGreatDoor.LayF
open Go.ChangeShapes Go.WideShapes Go.ChangeAt Go.RowKit Go.Joins Go.Deep
open Go.Proofs.YthbbmookhcalkaaGreatDoor.Base Go.Proofs.YthbbmookhcalkaaGreatDoor.InsA Go.Proofs.YthbbmookhcalkaaGreatDoor.Funs Go.Proofs.YthbbmookhcalkaaGreatDoor.Open Go.Proofs.YthbbmookhcalkaaGreatDoor.FunS Go.Proofs.YthbbmookhcalkaaGreatDoor.Keep Go.Proofs.YthbbmookhcalkaaGreatDoor.UnitS Go.Proofs.YthbbmookhcalkaaGreatDoor.Refs Go.Proofs.YthbbmookhcalkaaGreatDoor.Mark Go.Proofs.YthbbmookhcalkaaGreatDoor.LayN Go.Proofs.YthbbmookhcalkaaGreatDoor.LayA Go.Proofs.YthbbmookhcalkaaGreatDoor.KeepD Go.Proofs.YthbbmookhcalkaaGreatDoor.KeepA Go.Proofs.YthbbmookhcalkaaGreatDoor.LayD Go.Proofs.YthbbmookhcalkaaGreatDoor.LayS Go.Proofs.YthbbmookhcalkaaGreatDoor.LayT Go.Proofs.YthbbmookhcalkaaGreatDoor.LayW Go.Proofs.YthbbmookhcalkaaGreatDoor.LayX Go.Proofs.YthbbmookhcalkaaGreatDoor.LayY Go.Proofs.YthbbmookhcalkaaGreatDoor.LayZ
set_option linter.unusedVariables false
set_option maxRecDepth 100000

/-- A program laid: the code, the numbers, the stones. -/
def layOfD (fs : List FunD) (r : Int) : Int × List Int × List (List ByteArray) :=
  if keepOkB fs = true ∧ ¬ r < 1 ∧ ¬ r > 100 then match layGo fs r (fs.length * 10 + 1) (List.replicate fs.length []) with | none => (1, [], []) | some st => (0, places fs st, st) else (2, [], [])
def LOf (w : World) (fs : List FunD) (r : Int) (e : Ending) (w' : World) : Prop :=
  ∃ na nc sa sc zs st vs code, layOfD fs r = (code, zs, st) ∧ e = .returned (.tuple #[.agg #[.slice na zs.length nc, .slice sa st.length sc], .int .i64 code]) ∧ zs.length ≤ nc ∧ nc ≤ maxLen ∧ st.length ≤ sc ∧ sc ≤ maxLen ∧ OL w' w.heap.size (.slice na zs.length nc) (.slice sa st.length sc) zs st vs ∧ Below w.heap.size w w'
theorem ol_nil (w : World) (B : Nat) : OL w B (.slice none 0 0) (.slice none 0 0) [] [] [] := ⟨World.ownsRow_nil _ _ _ _, World.ownsRow_nil _ _ _ _, fun i hi => absurd hi (by simp), fun i j v u _ hv => by simp at hv⟩
theorem row_base {w : World} {B B' : Nat} {e : TypeId} {z n : Nat} {v : Value} {xs : List Value} (h : w.ownsRow B e z v n xs) (hB : B' ≤ B) : w.ownsRow B' e z v n xs := by
  obtain ⟨q1, q2 | ⟨g, cap, cur, q2, q3, q4⟩⟩ := h
  · exact ⟨q1, .inl q2⟩
  · exact ⟨q1, .inr ⟨g, cap, cur, q2, by omega, q4⟩⟩
theorem OL.base {w : World} {B B' : Nat} {nv sv : Value} {ns : List Int} {st : List (List ByteArray)} {vs : List Value} (h : OL w B nv sv ns st vs) (hB : B' ≤ B) : OL w B' nv sv ns st vs :=
  ⟨row_base h.num hB, row_base h.out hB, fun i hi => by obtain ⟨v, k1, k2⟩ := h.ent i hi; exact ⟨v, k1, row_base k2 hB⟩, h.dis⟩
theorem lof_nil {w w' : World} {fs : List FunD} {r code : Int} (h : layOfD fs r = (code, [], [])) (hb : Below w.heap.size w w') (v0 v1 : Value) : LOf w fs r (.returned (.tuple #[.agg #[.slice none 0 0, .slice none 0 0], .int .i64 code])) ((w'.setCell ⟨w.heap.size, 0, none⟩ v0).setCell ⟨w.heap.size, 1, none⟩ v1) :=
  ⟨none, 0, none, 0, [], [], [], code, h, rfl, Nat.le_refl _, Nat.zero_le _, Nat.le_refl _, Nat.zero_le _, ol_nil _ _, (hb.setCell (Nat.le_refl _) _).setCell (Nat.le_refl _) _⟩
set_option maxHeartbeats 8000000 in
theorem specLayOf_any (a : Option Addr) (cap : Nat) (fs : List FunD) (r : Int) (w : World) (hcap : fs.length ≤ cap) (hcm : cap ≤ maxLen) (hR : FunRow w a fs) :
    Calls Tryz.prog 112 #[.slice a fs.length cap, .int .i64 r] w (LOf w fs r) := by
  have HR := hide hR
  have hbA := below_alloc1 w (.cells #[.slice none 0 0, .slice none 0 0] 47)
  have HN := hide (new_block w (.cells #[.slice none 0 0, .slice none 0 0] 47))
  clear hR
  cases hok : keepOkB fs
  · have HD : Hid (layOfD fs r = (2, [], [])) := by show _ = _; rw [layOfD, if_neg (by rw [hok]; simp)]
    go_enter Tryz.func112, Tryz.ntmps112
    go_wp2_with fail
    refine (specKeepOk_any a cap fs _ hcap hcm ((unhide HR).below hbA)).mono ?_
    rintro e w1 ⟨rfl, hb1⟩
    rw [hok]
    have hB1 := bl_trans hbA hb1
    have hZ := box2 (box_below (unhide HN) hb1)
    go_wp2_with fail
    exact bodyPost_ret (v := .tuple #[.agg #[.slice none 0 0, .slice none 0 0], .int .i64 2]) (by simp [results, Tryz.results112, go_sem, hZ]) rfl (lof_nil (unhide HD) hB1 _ _)
  by_cases h1 : r < 1
  · have HD : Hid (layOfD fs r = (2, [], [])) := by show _ = _; rw [layOfD, if_neg (by intro h; exact h.2.1 h1)]
    go_enter Tryz.func112, Tryz.ntmps112
    go_wp2_with fail
    refine (specKeepOk_any a cap fs _ hcap hcm ((unhide HR).below hbA)).mono ?_
    rintro e w1 ⟨rfl, hb1⟩
    rw [hok]
    have hB1 := bl_trans hbA hb1
    have hZ := box2 (box_below (unhide HN) hb1)
    go_wp2_with fail
    exact bodyPost_ret (v := .tuple #[.agg #[.slice none 0 0, .slice none 0 0], .int .i64 2]) (by simp [results, Tryz.results112, go_sem, hZ]) rfl (lof_nil (unhide HD) hB1 _ _)
  by_cases h2 : r > 100
  · have HD : Hid (layOfD fs r = (2, [], [])) := by show _ = _; rw [layOfD, if_neg (by intro h; exact h.2.2 h2)]
    go_enter Tryz.func112, Tryz.ntmps112
    go_wp2_with fail
    refine (specKeepOk_any a cap fs _ hcap hcm ((unhide HR).below hbA)).mono ?_
    rintro e w1 ⟨rfl, hb1⟩
    rw [hok]
    have hB1 := bl_trans hbA hb1
    have hZ := box2 (box_below (unhide HN) hb1)
    go_wp2_with fail
    exact bodyPost_ret (v := .tuple #[.agg #[.slice none 0 0, .slice none 0 0], .int .i64 2]) (by simp [results, Tryz.results112, go_sem, hZ]) rfl (lof_nil (unhide HD) hB1 _ _)
  have HD : Hid (layOfD fs r = match layGo fs r (fs.length * 10 + 1) (List.replicate fs.length []) with | none => (1, [], []) | some st => (0, places fs st, st)) := by show _ = _; rw [layOfD, if_pos ⟨hok, h1, h2⟩]
  have HL := hide (l7Lay_any a cap fs r)
  have HOK := hide hok
  have h40 := (keep_parts hok).2.1
  go_enter Tryz.func112, Tryz.ntmps112
  go_wp2_with fail
  refine (specKeepOk_any a cap fs _ hcap hcm ((unhide HR).below hbA)).mono ?_
  rintro e w1 ⟨rfl, hb1⟩
  rw [hok]
  have hB1 := bl_trans hbA hb1
  have HN1 := hide (box_below (unhide HN) hb1)
  clear hok hb1
  go_wp2_with fail
  refine (unhide HL w1 (unhide HOK) hcap hcm ((unhide HR).below hB1)).mono ?_
  rintro e w2 ⟨hb2, ⟨hE, rfl⟩ | ⟨st, na, nc, S, hE, rfl, hnc1, hnc2, hstl, hsh, hnum, htx⟩⟩
  · have hB2 := bl_trans hB1 hb2
    have HN2 := hide (box_below (unhide HN1) hb2)
    have HD1 : Hid (layOfD fs r = (1, [], [])) := by show _ = _; rw [unhide HD, hE]
    clear hE
    go_wp2_with fail
    refine (l7Copy_any none none 0 0 [] [] _ (.inl rfl) (by simp) (.inl rfl) (by simp) (Nat.le_refl _) (Nat.zero_le _) (by simp)).mono ?_
    rintro e w4 ⟨na', nc', sa', sc', vs, rfl, c1, c2, c3, c4, hOL, hb4⟩
    have hB4 := bl_trans (bl_alloc hB2 _) hb4
    have HZ4 := hide (box_below (box_below (unhide HN2) (below_alloc1 _ _)) hb4)
    have hZ := box2 (unhide HZ4)
    have HOL := hide (OL.base hOL (Nat.le_trans hB2.size (show w2.heap.size ≤ (w2.alloc _).heap.size by rw [World.size_alloc]; omega)))
    clear hOL
    go_wp2_with fail
    exact bodyPost_ret (v := .tuple #[.agg #[.slice na' 0 nc', .slice sa' 0 sc'], .int .i64 1]) (by simp [results, Tryz.results112, go_sem, hZ]) rfl ⟨na', nc', sa', sc', [], [], vs, 1, unhide HD1, rfl, c1, c2, c3, c4, OL.set (OL.set (unhide HOL) (unhide HZ4)) (block_setCell (unhide HZ4) _), (hB4.setCell (Nat.le_refl _) _).setCell (Nat.le_refl _) _⟩
  · have hB2 := bl_trans hB1 hb2
    have HN2 := hide (box_below (unhide HN1) hb2)
    have HD1 : Hid (layOfD fs r = (0, places fs st, st)) := by show _ = _; rw [unhide HD, hE]
    have hpl : (places fs st).length = fs.length := places_len fs st
    have HC := hide (fun W => l7Copy_any na (some ⟨S, 0, none⟩) nc fs.length (places fs st) st W)
    rw [hpl, hstl] at HC
    have HNUM := hide hnum
    have HTX := hide htx
    have HSH : Hid (∀ ss ∈ st, ss.length ≤ 1000000) := fun ss h => by have := (hsh ss h).1; omega
    clear hE hnum htx hsh
    go_wp2_with fail
    refine (unhide HC _ ((unhide HNUM).below (below_alloc1 _ _)) (by omega) ((unhide HTX).below (below_alloc1 _ _)) (by omega) (Nat.le_refl _) (by unfold maxLen; omega) (unhide HSH)).mono ?_
    rintro e w4 ⟨na', nc', sa', sc', vs, rfl, c1, c2, c3, c4, hOL, hb4⟩
    have hB4 := bl_trans (bl_alloc hB2 _) hb4
    have HZ4 := hide (box_below (box_below (unhide HN2) (below_alloc1 _ _)) hb4)
    have hZ := box2 (unhide HZ4)
    have HOL := hide (OL.base hOL (Nat.le_trans hB2.size (show w2.heap.size ≤ (w2.alloc _).heap.size by rw [World.size_alloc]; omega)))
    clear hOL
    go_wp2_with fail
    exact bodyPost_ret (v := .tuple #[.agg #[.slice na' (places fs st).length nc', .slice sa' st.length sc'], .int .i64 0]) (by simp [results, Tryz.results112, go_sem, hZ, hpl, hstl]) rfl ⟨na', nc', sa', sc', places fs st, st, vs, 0, unhide HD1, rfl, c1, c2, c3, c4, OL.set (OL.set (unhide HOL) (unhide HZ4)) (block_setCell (unhide HZ4) _), (hB4.setCell (Nat.le_refl _) _).setCell (Nat.le_refl _) _⟩
end Go.Proofs.YthbbmookhcalkaaGreatDoor.LayF
/- Chapter 7's draws: the reach of a laying. -/
namespace Go.Proofs.YthbbmookhcalkaaGreatDoor.DrawL
open Go.Proofs.YthbbmookhcalkaaGreatDoor.Base
open Go.ChangeShapes Go.WideShapes Go.ChangeAt Go.RowKit Go.Joins
open Go.Proofs.YthbbmookhcalkaaGreatDoor.Rd
set_option linter.unusedVariables false
set_option maxRecDepth 100000

theorem l7Reach_any (w : World) (R p : Nat) (h : RdAt w R p) (hp : p ≤ 4294967296) :
    Calls Tryz.prog 111 #[.pointer (some ⟨R, 0, none⟩)] w fun e w' => ∃ x : Int, 3 ≤ x ∧ x ≤ 100 ∧ e = .returned (.int .i64 x) ∧ RdAt w' R (p + 1) ∧ Turns R w w' := by
  have HR := hide h
  have hlt := rd_lt h
  clear h
  go_enter Tryz.func111, Tryz.ntmps111
  go_wp2_with fail
  refine (num_any _ _ _ _ 9 (· ∈ [6, 8, 10, 12, 15, 20, 100, 4, 3]) (rd_alloc (unhide HR) _) (by omega) (by omega) (by omega) (by omega) (ints_lit w [6, 8, 10, 12, 15, 20, 100, 4, 3] _ _ rfl)).mono ?_
  rintro e w3 ⟨x, hx, rfl, hr3, ht3⟩
  have hx2 : 3 ≤ x ∧ x ≤ 100 := by
    simp only [List.mem_cons, List.not_mem_nil, or_false] at hx
    omega
  have HT3 := hide ((Turns.of_below (below_alloc1 w _)).trans ht3)
  have HR3 := hide hr3
  clear hx hr3 ht3
  go_wp2_with fail
  exact bodyPost_ret (v := .int .i64 x) (by simp [results, Tryz.results111, go_sem]) rfl ⟨x, hx2.1, hx2.2, rfl, unhide HR3, unhide HT3⟩
end Go.Proofs.YthbbmookhcalkaaGreatDoor.DrawL
/- A drawn laying: what bends it, and what is true of it. -/
namespace Go.Proofs.YthbbmookhcalkaaGreatDoor.DrawO
open Go.ChangeShapes Go.WideShapes Go.ChangeAt Go.RowKit Go.Joins Go.Deep
open Go.Proofs.YthbbmookhcalkaaGreatDoor.Base Go.Proofs.YthbbmookhcalkaaGreatDoor.InsA Go.Proofs.YthbbmookhcalkaaGreatDoor.Funs Go.Proofs.YthbbmookhcalkaaGreatDoor.Open Go.Proofs.YthbbmookhcalkaaGreatDoor.Keep Go.Proofs.YthbbmookhcalkaaGreatDoor.UnitS Go.Proofs.YthbbmookhcalkaaGreatDoor.Refs Go.Proofs.YthbbmookhcalkaaGreatDoor.Mark Go.Proofs.YthbbmookhcalkaaGreatDoor.LayN Go.Proofs.YthbbmookhcalkaaGreatDoor.LayA Go.Proofs.YthbbmookhcalkaaGreatDoor.KeepD Go.Proofs.YthbbmookhcalkaaGreatDoor.KeepA Go.Proofs.YthbbmookhcalkaaGreatDoor.LayD Go.Proofs.YthbbmookhcalkaaGreatDoor.LayS Go.Proofs.YthbbmookhcalkaaGreatDoor.LayT Go.Proofs.YthbbmookhcalkaaGreatDoor.LayW Go.Proofs.YthbbmookhcalkaaGreatDoor.LayX Go.Proofs.YthbbmookhcalkaaGreatDoor.LayY Go.Proofs.YthbbmookhcalkaaGreatDoor.LayZ Go.Proofs.YthbbmookhcalkaaGreatDoor.LayF Go.Proofs.YthbbmookhcalkaaGreatDoor.Rd
set_option linter.unusedVariables false
set_option maxRecDepth 100000

theorem OL.turns {w w' : World} {R B : Nat} {nv sv : Value} {ns : List Int} {st : List (List ByteArray)} {vs : List Value} (h : OL w B nv sv ns st vs) (ht : Turns R w w') (hR : R < B) : OL w' B nv sv ns st vs :=
  ⟨DrawFun.own_turns h.num ht hR, DrawFun.own_turns h.out ht hR, fun i hi => by obtain ⟨v, k1, k2⟩ := h.ent i hi; exact ⟨v, k1, DrawFun.own_turns k2 ht hR⟩, h.dis⟩
/-- A number is changed. -/
theorem OL.setNum {w : World} {B g nc k : Nat} {sv : Value} {ns : List Int} {st : List (List ByteArray)} {vs : List Value} (h : OL w B (.slice (some ⟨g, 0, none⟩) ns.length nc) sv ns st vs) (hk : k < ns.length) (x : Int) :
    OL (w.setCell ⟨g, k, none⟩ (.int .i64 x)) B (.slice (some ⟨g, 0, none⟩) ns.length nc) sv (ns.set k x) st vs := by
  obtain ⟨s1, s2⟩ := h.num.stored k (.int .i64 x)
  refine ⟨?_, h.out.kept s2 (row_type h.out h.num (fun e => ne_types.1 e.symm)), fun i hi => ?_, h.dis⟩
  · rw [List.length_set, List.map_set]; exact s1
  · obtain ⟨v, k1, k2⟩ := h.ent i hi
    exact ⟨v, k1, k2.kept s2 (row_type k2 h.num ne_types.2.2)⟩
theorem OL.numForm {w : World} {B : Nat} {nv sv : Value} {ns : List Int} {st : List (List ByteArray)} {vs : List Value} (h : OL w B nv sv ns st vs) (h0 : 0 < ns.length) : ∃ g nc, nv = .slice (some ⟨g, 0, none⟩) ns.length nc := by
  obtain ⟨q1, ⟨q2, q0⟩ | ⟨g, cap, cur, q2, hB, hgg, hn, hm, hs, ht⟩⟩ := h.num
  · omega
  · exact ⟨g, cap, q2⟩
theorem OL.outForm {w : World} {B : Nat} {nv sv : Value} {ns : List Int} {st : List (List ByteArray)} {vs : List Value} (h : OL w B nv sv ns st vs) (h0 : 0 < st.length) : ∃ g c, sv = .slice (some ⟨g, 0, none⟩) st.length c := by
  obtain ⟨q1, ⟨q2, q0⟩ | ⟨g, cap, cur, q2, hB, hgg, hn, hm, hs, ht⟩⟩ := h.out
  · omega
  · exact ⟨g, cap, q2⟩
theorem OL.numAt {w : World} {B g nc k : Nat} {sv : Value} {ns : List Int} {st : List (List ByteArray)} {vs : List Value} (h : OL w B (.slice (some ⟨g, 0, none⟩) ns.length nc) sv ns st vs) (hk : k < ns.length) : w.cell? ⟨g, k, none⟩ = some (.int .i64 ns[k]) ∧ w.frozen? ⟨g, k, none⟩ = false := by
  refine ⟨?_, h.num.frozenAt k⟩
  rw [h.num.cellAt k (by omega)]
  simp [hk]
theorem OL.outAt {w : World} {B S c i : Nat} {nv : Value} {ns : List Int} {st : List (List ByteArray)} {vs : List Value} (h : OL w B nv (.slice (some ⟨S, 0, none⟩) st.length c) ns st vs) (hi : i < st.length) : ∃ a c', w.cell? ⟨S, i, none⟩ = some (.slice a st[i].length c') ∧ w.frozen? ⟨S, i, none⟩ = false ∧ vs[i]? = some (.slice a st[i].length c') ∧ StrOwn w B (.slice a st[i].length c') st[i] := by
  obtain ⟨v, k1, k2⟩ := h.ent i hi
  obtain ⟨a, c', rfl, e1, e2⟩ := form_of k2
  exact ⟨a, c', by rw [h.out.cellAt i (by omega)]; exact k1, h.out.frozenAt i, k1, k2⟩
/-- One stone more is put behind a list. -/
theorem OL.addName {w w4 : World} {B S c i c' : Nat} {a : Option Addr} {nv v4 : Value} {s : ByteArray} {o : Obj} {ns : List Int} {st : List (List ByteArray)} {vs : List Value} (h : OL w B nv (.slice (some ⟨S, 0, none⟩) st.length c) ns st vs) (hi : i < st.length) (hv : vs[i]? = some (.slice a st[i].length c'))
    (hg : (w.alloc o).grownBy w4 (Value.slice a st[i].length c').ownBlock) (ho : StrOwn w4 B v4 (st[i] ++ [s])) (hat : v4.ownBlock = (Value.slice a st[i].length c').ownBlock ∨ v4.ownBlock = some (w.alloc o).heap.size) :
    w4.frozen? ⟨S, i, none⟩ = false ∧ OL (w4.setCell ⟨S, i, none⟩ v4) B nv (.slice (some ⟨S, 0, none⟩) st.length c) ns (addSt st i s) (vs.set i v4) := by
  obtain ⟨u, k1, k2⟩ := h.ent i hi
  rw [hv] at k1
  cases k1
  have hg' : w.grownBy w4 (Value.slice a st[i].length c').ownBlock := (grown_bel (below_alloc1 w o) _).trans hg
  have hout4 := h.out.kept hg' (row_type h.out k2 (fun e => ne_types.2.1 e.symm))
  have hnum4 := h.num.kept hg' (row_type h.num k2 (fun e => ne_types.2.2 e.symm))
  obtain ⟨s1, s2⟩ := hout4.stored i v4
  have hvl : vs.length = st.length := by have := h.out.1; omega
  have hlen : (addSt st i s).length = st.length := addSt_len st i s
  refine ⟨hout4.frozenAt i, ⟨hnum4.kept s2 (row_type hnum4 hout4 ne_types.1), by rw [hlen]; exact s1, fun j hj => ?_, fun p q x y hpq hx hy => ?_⟩⟩
  · rw [hlen] at hj
    by_cases e : j = i
    · subst e
      refine ⟨v4, by rw [List.getElem?_set_self (by omega)], ?_⟩
      have e2 : (addSt st j s)[j]'(by rw [hlen]; exact hi) = st[j] ++ [s] := by simp [addSt, stAt_is hi]
      rw [e2]
      exact str_kept ho s2 (row_type ho hout4 ne_types.2.1)
    · obtain ⟨v, q1, q2⟩ := h.ent j hj
      refine ⟨v, by rw [List.getElem?_set_ne (fun e' => e e'.symm)]; exact q1, ?_⟩
      have e2 : (addSt st i s)[j]'(by rw [hlen]; exact hj) = st[j] := by simp [addSt, Ne.symm e]
      rw [e2]
      have q3 := str_kept q2 hg' (h.dis j i _ _ e q1 hv)
      exact str_kept q3 s2 (row_type q3 hout4 ne_types.2.1)
  · have key : ∀ j u, j ≠ i → vs[j]? = some u → v4.ownBlock = none ∨ v4.ownBlock ≠ u.ownBlock := fun j u hj hu => by
      rcases hat with e | e
      · rw [e]; exact h.dis i j _ u (Ne.symm hj) hv hu
      · refine .inr (fun e' => ?_)
        rw [e] at e'
        have hjs : j < st.length := by have := (List.getElem?_eq_some_iff.1 hu).1; omega
        obtain ⟨u', q1, q2⟩ := h.ent j hjs
        rw [hu] at q1
        cases q1
        have := (World.ownsRow.lt q2 _ e'.symm).2
        simp at this
        omega
    by_cases ep : p = i
    · subst ep
      rw [List.getElem?_set_self (by omega)] at hx
      cases hx
      rw [List.getElem?_set_ne (fun e => hpq e)] at hy
      exact key q y (Ne.symm hpq) hy
    · rw [List.getElem?_set_ne (fun e => ep e.symm)] at hx
      by_cases eq : q = i
      · subst eq
        rw [List.getElem?_set_self (by omega)] at hy
        cases hy
        rcases key p x ep hx with e | e
        · cases hxo : x.ownBlock with
          | none => exact .inl rfl
          | some g => exact .inr (by rw [e]; simp)
        · exact .inr (fun e' => e e'.symm)
      · rw [List.getElem?_set_ne (fun e => eq e.symm)] at hy
        exact h.dis p q x y hpq hx hy
theorem texts_take {w : World} {a : Option Addr} {st : List (List ByteArray)} (h : TextsRow w a st) (k : Nat) : TextsRow w a (st.take k) := by
  rcases h with h | ⟨b, off, ha, h⟩
  · exact .inl (by rw [h]; simp)
  · refine .inr ⟨b, off, ha, fun i hi => ?_⟩
    have hi' : i < st.length := by rw [List.length_take] at hi; omega
    rw [List.getElem_take]
    exact h i hi'
/-- What is laid is not too long. -/
theorem layGo_short {fs : List FunD} {r : Int} (hz : ∀ f ∈ fs, ∀ x ∈ f.body, x.s.size ≤ maxLen) : ∀ (n m : Nat) (st st' : List (List ByteArray)), layGo fs r n st = some st' → st.length = fs.length → Short st m → st'.length = fs.length ∧ Short st' (m + n)
  | 0, m, st, st', h, _, _ => by rw [layGo] at h; cases h
  | n + 1, m, st, st', h, hl, hs => by
    rw [layGo] at h
    cases hq : lackN fs st r with
    | none =>
      rw [hq] at h
      cases h
      exact ⟨hl, fun ss hss => ⟨by have := (hs ss hss).1; omega, (hs ss hss).2⟩⟩
    | some q =>
      obtain ⟨i, s⟩ := q
      rw [hq] at h
      dsimp only at h
      split at h
      · cases h
      · obtain ⟨hi, k, hk, e, _⟩ := lackN_facts hq
        have hsz : s.size ≤ maxLen := by rw [e]; exact hz _ (List.getElem_mem hi) _ (List.getElem_mem hk)
        obtain ⟨h1, h2⟩ := layGo_short hz n (m + 1) _ st' h (by rw [addSt_len]; exact hl) (hs.add (by omega) hsz)
        exact ⟨h1, fun ss hss => ⟨by have := (h2 ss hss).1; omega, (h2 ss hss).2⟩⟩
/-- A laying of few and small things. -/
def Tame (ns : List Int) (st : List (List ByteArray)) : Prop := ns.length ≤ 40 ∧ (∀ x ∈ ns, -1 ≤ x ∧ x ≤ 50000000) ∧ st.length ≤ 40 ∧ Short st 410
theorem short_nil : Short [] 401 := fun ss h => by cases h
theorem tame_nil : Tame [] [] := ⟨by simp, by simp, by simp, fun ss h => by cases h⟩
theorem Tame.few {ns : List Int} {st : List (List ByteArray)} (h : Tame ns st) : FewT st := ⟨by have := h.2.2.1; omega, fun ss hss => by have := (h.2.2.2 ss hss).1; omega⟩
theorem Tame.sizes {ns : List Int} {st : List (List ByteArray)} (h : Tame ns st) : ∀ ss ∈ st, ∀ s ∈ ss, s.size ≤ maxLen := fun ss hss => (h.2.2.2 ss hss).2
theorem layOf_tame {fs : List FunD} {r code : Int} {zs : List Int} {st : List (List ByteArray)} (h : layOfD fs r = (code, zs, st)) (hz : ∀ f ∈ fs, ∀ x ∈ f.body, x.s.size ≤ maxLen) : st.length = zs.length ∧ Short st 401 ∧ Tame zs st ∧ (∀ x ∈ zs, 0 ≤ x ∧ x ≤ 42000000) ∧ (0 < zs.length → zs.length = fs.length) := by
  unfold layOfD at h
  split at h
  · rename_i hc
    have h40 := (keep_parts hc.1).2.1
    split at h
    · cases h
      exact ⟨rfl, short_nil, tame_nil, (fun x hx => by cases hx), (fun h0 => absurd h0 (Nat.lt_irrefl 0))⟩
    · rename_i st' hg
      cases h
      obtain ⟨e1, e2⟩ := layGo_short hz _ 0 _ _ hg (by simp) (fun ss hss => by rw [List.eq_of_mem_replicate hss]; simp)
      have e3 : Short st 401 := fun ss hss => ⟨by have := (e2 ss hss).1; omega, (e2 ss hss).2⟩
      have hft : FewT st := ⟨by omega, fun ss hss => by have := (e3 ss hss).1; omega⟩
      have hpl : ∀ x ∈ places fs st, 0 ≤ x ∧ x ≤ 42000000 := fun x hx => by
        unfold places placesTo at hx
        obtain ⟨i, hi, rfl⟩ := List.mem_map.1 hx
        have := List.mem_range.1 hi
        have := place_small h40 (keep_bodies hc.1) e1 hft i (by omega)
        omega
      exact ⟨by rw [places_len]; exact e1, e3, ⟨by rw [places_len]; exact h40, fun x hx => by have := hpl x hx; omega, by omega, fun ss hss => ⟨by have := (e3 ss hss).1; omega, (e3 ss hss).2⟩⟩, hpl, fun _ => places_len _ _⟩
  · cases h
    exact ⟨rfl, short_nil, tame_nil, (fun x hx => by cases hx), (fun h0 => absurd h0 (Nat.lt_irrefl 0))⟩
end Go.Proofs.YthbbmookhcalkaaGreatDoor.DrawO
