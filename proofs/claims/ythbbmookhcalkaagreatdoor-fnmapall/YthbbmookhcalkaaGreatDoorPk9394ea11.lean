/- The contract of the specification's LayOf. -/
import Derived.Test.YthbbmookhcalkaaGreatDoorLayZ
import Derived.Test.YthbbmookhcalkaaGreatDoorRd
namespace Go.Proofs.YthbbmookhcalkaaGreatDoor.LayF
open Go.ChangeShapes Go.WideShapes Go.ChangeAt Go.RowKit Go.Joins Go.Deep
open Go.Proofs.YthbbmookhcalkaaGreatDoor.Base Go.Proofs.YthbbmookhcalkaaGreatDoor.InsA Go.Proofs.YthbbmookhcalkaaGreatDoor.Funs Go.Proofs.YthbbmookhcalkaaGreatDoor.Open Go.Proofs.YthbbmookhcalkaaGreatDoor.FunS Go.Proofs.YthbbmookhcalkaaGreatDoor.Keep Go.Proofs.YthbbmookhcalkaaGreatDoor.UnitS Go.Proofs.YthbbmookhcalkaaGreatDoor.Refs Go.Proofs.YthbbmookhcalkaaGreatDoor.Mark Go.Proofs.YthbbmookhcalkaaGreatDoor.LayN Go.Proofs.YthbbmookhcalkaaGreatDoor.LayA Go.Proofs.YthbbmookhcalkaaGreatDoor.KeepD Go.Proofs.YthbbmookhcalkaaGreatDoor.KeepA Go.Proofs.YthbbmookhcalkaaGreatDoor.LayD Go.Proofs.YthbbmookhcalkaaGreatDoor.LayS Go.Proofs.YthbbmookhcalkaaGreatDoor.LayT Go.Proofs.YthbbmookhcalkaaGreatDoor.LayW Go.Proofs.YthbbmookhcalkaaGreatDoor.LayX Go.Proofs.YthbbmookhcalkaaGreatDoor.LayY Go.Proofs.YthbbmookhcalkaaGreatDoor.LayZ
set_option linter.unusedVariables false
set_option maxRecDepth 100000

/-- A program laid: the code, the numbers, the stones. -/
def layOfD (fs : List FunD) (r : Int) : Int × List Int × List (List ByteArray) :=
  if keepOkB fs = true ∧ ¬ r < 1 ∧ ¬ r > 100 then match layGo fs r (fs.length * 10 + 1) (List.replicate fs.length []) with | none => (1, [], []) | some st => (0, places fs st, st) else (2, [], [])
def LOf (w : World) (fs : List FunD) (r : Int) (e : Ending) (w' : World) : Prop :=
  ∃ na nc sa sc zs st vs code, layOfD fs r = (code, zs, st) ∧ e = .returned (.tuple #[.agg #[.slice na zs.length nc, .slice sa st.length sc], .int .i64 code]) ∧ zs.length ≤ nc ∧ nc ≤ maxLen ∧ st.length ≤ sc ∧ sc ≤ maxLen ∧ OL w' w.heap.size (.slice na zs.length nc) (.slice sa st.length sc) zs st vs ∧ Below w.heap.size w w'
theorem ol_nil (w : World) (B : Nat) : OL w B (.slice none 0 0) (.slice none 0 0) [] [] [] := ⟨World.ownsRow_nil _ _ _ _, World.ownsRow_nil _ _ _ _, fun i hi => absurd hi (by simp), fun i j v u _ hv => by simp at hv⟩
theorem row_base {w : World} {B B' : Nat} {e : TypeId} {z n : Nat} {v : Value} {xs : List Value} (h : w.ownsRow B e z v n xs) (hB : B' ≤ B) : w.ownsRow B' e z v n xs := by
  obtain ⟨q1, q2 | ⟨g, cap, cur, q2, q3, q4⟩⟩ := h
  · exact ⟨q1, .inl q2⟩
  · exact ⟨q1, .inr ⟨g, cap, cur, q2, by omega, q4⟩⟩
theorem OL.base {w : World} {B B' : Nat} {nv sv : Value} {ns : List Int} {st : List (List ByteArray)} {vs : List Value} (h : OL w B nv sv ns st vs) (hB : B' ≤ B) : OL w B' nv sv ns st vs :=
  ⟨row_base h.num hB, row_base h.out hB, fun i hi => by obtain ⟨v, k1, k2⟩ := h.ent i hi; exact ⟨v, k1, row_base k2 hB⟩, h.dis⟩
theorem lof_nil {w w' : World} {fs : List FunD} {r code : Int} (h : layOfD fs r = (code, [], [])) (hb : Below w.heap.size w w') (v0 v1 : Value) : LOf w fs r (.returned (.tuple #[.agg #[.slice none 0 0, .slice none 0 0], .int .i64 code])) ((w'.setCell ⟨w.heap.size, 0, none⟩ v0).setCell ⟨w.heap.size, 1, none⟩ v1) :=
  ⟨none, 0, none, 0, [], [], [], code, h, rfl, Nat.le_refl _, Nat.zero_le _, Nat.le_refl _, Nat.zero_le _, ol_nil _ _, (hb.setCell (Nat.le_refl _) _).setCell (Nat.le_refl _) _⟩
set_option maxHeartbeats 8000000 in
theorem specLayOf_any (a : Option Addr) (cap : Nat) (fs : List FunD) (r : Int) (w : World) (hcap : fs.length ≤ cap) (hcm : cap ≤ maxLen) (hR : FunRow w a fs) :
    Calls Tryz.prog 112 #[.slice a fs.length cap, .int .i64 r] w (LOf w fs r) := by
  have HR := hide hR
  have hbA := below_alloc1 w (.cells #[.slice none 0 0, .slice none 0 0] 47)
  have HN := hide (new_block w (.cells #[.slice none 0 0, .slice none 0 0] 47))
  clear hR
  cases hok : keepOkB fs
  · have HD : Hid (layOfD fs r = (2, [], [])) := by show _ = _; rw [layOfD, if_neg (by rw [hok]; simp)]
    go_enter Tryz.func112, Tryz.ntmps112
    go_wp2_with fail
    refine (specKeepOk_any a cap fs _ hcap hcm ((unhide HR).below hbA)).mono ?_
    rintro e w1 ⟨rfl, hb1⟩
    rw [hok]
    have hB1 := bl_trans hbA hb1
    have hZ := box2 (box_below (unhide HN) hb1)
    go_wp2_with fail
    exact bodyPost_ret (v := .tuple #[.agg #[.slice none 0 0, .slice none 0 0], .int .i64 2]) (by simp [results, Tryz.results112, go_sem, hZ]) rfl (lof_nil (unhide HD) hB1 _ _)
  by_cases h1 : r < 1
  · have HD : Hid (layOfD fs r = (2, [], [])) := by show _ = _; rw [layOfD, if_neg (by intro h; exact h.2.1 h1)]
    go_enter Tryz.func112, Tryz.ntmps112
    go_wp2_with fail
    refine (specKeepOk_any a cap fs _ hcap hcm ((unhide HR).below hbA)).mono ?_
    rintro e w1 ⟨rfl, hb1⟩
    rw [hok]
    have hB1 := bl_trans hbA hb1
    have hZ := box2 (box_below (unhide HN) hb1)
    go_wp2_with fail
    exact bodyPost_ret (v := .tuple #[.agg #[.slice none 0 0, .slice none 0 0], .int .i64 2]) (by simp [results, Tryz.results112, go_sem, hZ]) rfl (lof_nil (unhide HD) hB1 _ _)
  by_cases h2 : r > 100
  · have HD : Hid (layOfD fs r = (2, [], [])) := by show _ = _; rw [layOfD, if_neg (by intro h; exact h.2.2 h2)]
    go_enter Tryz.func112, Tryz.ntmps112
    go_wp2_with fail
    refine (specKeepOk_any a cap fs _ hcap hcm ((unhide HR).below hbA)).mono ?_
    rintro e w1 ⟨rfl, hb1⟩
    rw [hok]
    have hB1 := bl_trans hbA hb1
    have hZ := box2 (box_below (unhide HN) hb1)
    go_wp2_with fail
    exact bodyPost_ret (v := .tuple #[.agg #[.slice none 0 0, .slice none 0 0], .int .i64 2]) (by simp [results, Tryz.results112, go_sem, hZ]) rfl (lof_nil (unhide HD) hB1 _ _)
  have HD : Hid (layOfD fs r = match layGo fs r (fs.length * 10 + 1) (List.replicate fs.length []) with | none => (1, [], []) | some st => (0, places fs st, st)) := by show _ = _; rw [layOfD, if_pos ⟨hok, h1, h2⟩]
  have HL := hide (l7Lay_any a cap fs r)
  have HOK := hide hok
  have h40 := (keep_parts hok).2.1
  go_enter Tryz.func112, Tryz.ntmps112
  go_wp2_with fail
  refine (specKeepOk_any a cap fs _ hcap hcm ((unhide HR).below hbA)).mono ?_
  rintro e w1 ⟨rfl, hb1⟩
  rw [hok]
  have hB1 := bl_trans hbA hb1
  have HN1 := hide (box_below (unhide HN) hb1)
  clear hok hb1
  go_wp2_with fail
  refine (unhide HL w1 (unhide HOK) hcap hcm ((unhide HR).below hB1)).mono ?_
  rintro e w2 ⟨hb2, ⟨hE, rfl⟩ | ⟨st, na, nc, S, hE, rfl, hnc1, hnc2, hstl, hsh, hnum, htx⟩⟩
  · have hB2 := bl_trans hB1 hb2
    have HN2 := hide (box_below (unhide HN1) hb2)
    have HD1 : Hid (layOfD fs r = (1, [], [])) := by show _ = _; rw [unhide HD, hE]
    clear hE
    go_wp2_with fail
    refine (l7Copy_any none none 0 0 [] [] _ (.inl rfl) (by simp) (.inl rfl) (by simp) (Nat.le_refl _) (Nat.zero_le _) (by simp)).mono ?_
    rintro e w4 ⟨na', nc', sa', sc', vs, rfl, c1, c2, c3, c4, hOL, hb4⟩
    have hB4 := bl_trans (bl_alloc hB2 _) hb4
    have HZ4 := hide (box_below (box_below (unhide HN2) (below_alloc1 _ _)) hb4)
    have hZ := box2 (unhide HZ4)
    have HOL := hide (OL.base hOL (Nat.le_trans hB2.size (show w2.heap.size ≤ (w2.alloc _).heap.size by rw [World.size_alloc]; omega)))
    clear hOL
    go_wp2_with fail
    exact bodyPost_ret (v := .tuple #[.agg #[.slice na' 0 nc', .slice sa' 0 sc'], .int .i64 1]) (by simp [results, Tryz.results112, go_sem, hZ]) rfl ⟨na', nc', sa', sc', [], [], vs, 1, unhide HD1, rfl, c1, c2, c3, c4, OL.set (OL.set (unhide HOL) (unhide HZ4)) (block_setCell (unhide HZ4) _), (hB4.setCell (Nat.le_refl _) _).setCell (Nat.le_refl _) _⟩
  · have hB2 := bl_trans hB1 hb2
    have HN2 := hide (box_below (unhide HN1) hb2)
    have HD1 : Hid (layOfD fs r = (0, places fs st, st)) := by show _ = _; rw [unhide HD, hE]
    have hpl : (places fs st).length = fs.length := places_len fs st
    have HC := hide (fun W => l7Copy_any na (some ⟨S, 0, none⟩) nc fs.length (places fs st) st W)
    rw [hpl, hstl] at HC
    have HNUM := hide hnum
    have HTX := hide htx
    have HSH : Hid (∀ ss ∈ st, ss.length ≤ 1000000) := fun ss h => by have := (hsh ss h).1; omega
    clear hE hnum htx hsh
    go_wp2_with fail
    refine (unhide HC _ ((unhide HNUM).below (below_alloc1 _ _)) (by omega) ((unhide HTX).below (below_alloc1 _ _)) (by omega) (Nat.le_refl _) (by unfold maxLen; omega) (unhide HSH)).mono ?_
    rintro e w4 ⟨na', nc', sa', sc', vs, rfl, c1, c2, c3, c4, hOL, hb4⟩
    have hB4 := bl_trans (bl_alloc hB2 _) hb4
    have HZ4 := hide (box_below (box_below (unhide HN2) (below_alloc1 _ _)) hb4)
    have hZ := box2 (unhide HZ4)
    have HOL := hide (OL.base hOL (Nat.le_trans hB2.size (show w2.heap.size ≤ (w2.alloc _).heap.size by rw [World.size_alloc]; omega)))
    clear hOL
    go_wp2_with fail
    exact bodyPost_ret (v := .tuple #[.agg #[.slice na' (places fs st).length nc', .slice sa' st.length sc'], .int .i64 0]) (by simp [results, Tryz.results112, go_sem, hZ, hpl, hstl]) rfl ⟨na', nc', sa', sc', places fs st, st, vs, 0, unhide HD1, rfl, c1, c2, c3, c4, OL.set (OL.set (unhide HOL) (unhide HZ4)) (block_setCell (unhide HZ4) _), (hB4.setCell (Nat.le_refl _) _).setCell (Nat.le_refl _) _⟩
end Go.Proofs.YthbbmookhcalkaaGreatDoor.LayF
/- The contracts of the specification's draws of an instruction: some instruction, its name short; nothing that was there has turned but the reader. -/
namespace Go.Proofs.YthbbmookhcalkaaGreatDoor.DrawIns
open Go.Proofs.YthbbmookhcalkaaGreatDoor.Base
open Go.ChangeShapes Go.WideShapes Go.ChangeAt Go.RowKit Go.Joins
open Go.Proofs.YthbbmookhcalkaaGreatDoor.Rd
set_option linter.unusedVariables false

def names : List ByteArray := [⟨#[97]⟩, ⟨#[98]⟩, ⟨#[99]⟩, ⟨#[100]⟩, ⟨#[109, 97, 105, 110]⟩, ⟨#[101]⟩]
/-- A name that is drawn: short, and neither of the two names that a law lays beside. -/
def okN (x : ByteArray) : Prop := x.size ≤ 10 ∧ x.data.toList ≠ [122, 121] ∧ x.data.toList ≠ [110, 111, 119, 104]
instance (x : ByteArray) : Decidable (okN x) := by unfold okN; infer_instance
theorem okN.max {x : ByteArray} (h : okN x) : x.size ≤ maxLen := by have := h.1; unfold maxLen; omega
theorem okN.congr {x y : ByteArray} (h : okN x) (e : x.toList = y.toList) : okN y := by
  rw [ByteArray.toList_eq, ByteArray.toList_eq] at e
  have hl := congrArg List.length e
  have h1 : x.size = y.size := by simpa using hl
  unfold okN at *
  rw [← e, ← h1]
  exact h
/-- What an instruction's draw leaves behind. -/
def InsLeft (R p k : Nat) (w : World) (e : Ending) (w' : World) : Prop :=
  ∃ (o n : Int) (s : ByteArray) (p' : Nat), e = .returned (.agg #[.int .i64 o, .int .i64 n, .string s]) ∧ okN s ∧ p' ≤ p + k ∧ RdAt w' R p' ∧ Turns R w w'

theorem names_ok : ∀ x, x ∈ names → okN x := by
  intro x hx
  simp only [names, List.mem_cons, List.not_mem_nil, or_false] at hx
  rcases hx with rfl | rfl | rfl | rfl | rfl | rfl <;> decide
theorem names_short : ∀ x, x ∈ names → x.size ≤ 10 := fun x hx => (names_ok x hx).1

set_option maxHeartbeats 400000 in
theorem name_ok (w : World) (R p : Nat) (h : RdAt w R p) (hp : p ≤ 4294967296) :
    Calls Tryz.prog 135 #[.pointer (some ⟨R, 0, none⟩)] w fun e w' => ∃ x, okN x ∧ e = .returned (.string x) ∧ RdAt w' R (p + 1) ∧ Turns R w w' := by
  have hlt := rd_lt h
  have H := hide h
  clear h
  go_enter Tryz.func135, Tryz.ntmps135
  go_wp2_with fail
  refine (of_any _ _ _ _ 6 (· ∈ names) (rd_alloc (unhide H) _) (by omega) (by omega) (by omega) (by omega) (strs_lit w names _ _ rfl)).mono ?_
  rintro e w2 ⟨x, hx, rfl, hr2, ht2⟩
  have HR := hide hr2
  have HT := hide ht2
  have hsz := names_ok x hx
  clear hx hr2 ht2
  go_wp2
  go_ret
  exact ⟨x, hsz, rfl, unhide HR, (Turns.of_below (below_alloc1 _ _)).trans (unhide HT)⟩

theorem name_any (w : World) (R p : Nat) (h : RdAt w R p) (hp : p ≤ 4294967296) :
    Calls Tryz.prog 135 #[.pointer (some ⟨R, 0, none⟩)] w fun e w' => ∃ x, x.size ≤ 10 ∧ e = .returned (.string x) ∧ RdAt w' R (p + 1) ∧ Turns R w w' :=
  (name_ok w R p h hp).mono fun e w' ⟨x, hx, h1⟩ => ⟨x, hx.1, h1⟩

theorem ins_fin {R p k p' B : Nat} {w w2 : World} {o n : Int} {s : ByteArray} (hs : okN s) (hp : p' ≤ p + k) (hr : RdAt w2 R p') (ht : Turns R w w2) (hR : R < B) (hB : w.heap.size ≤ B) {v0 v1 v2 : Value} :
    InsLeft R p k w (.returned (.agg #[.int .i64 o, .int .i64 n, .string s])) (((w2.setCell ⟨B, 0, none⟩ v0).setCell ⟨B, 1, none⟩ v1).setCell ⟨B, 2, none⟩ v2) :=
  ⟨o, n, s, p', rfl, hs, hp, rd_set (rd_set (rd_set hr hR _) hR _) hR _, ((ht.set hB _).set hB _).set hB _⟩

set_option maxHeartbeats 1000000 in
theorem ins_any (w : World) (R p : Nat) (h : RdAt w R p) (hp : p ≤ 4294967000) :
    Calls Tryz.prog 146 #[.pointer (some ⟨R, 0, none⟩)] w (InsLeft R p 2 w) := by
  have hlt := rd_lt h
  have H := hide h
  clear h
  go_enter Tryz.func146, Tryz.ntmps146
  go_wp2_with fail
  refine (pick_any _ _ _ 8 (rd_alloc (unhide H) _) (by omega) (by omega)).mono ?_
  rintro e w2 ⟨v, hv, rfl, hr2, ht2⟩
  have HR := hide hr2
  have HT := hide ht2
  clear hr2 ht2
  have hB : w.heap.size ≠ R := by omega
  have hbox := box_turns (new_block w _) (unhide HT) hB
  obtain ⟨⟨c0, c1, c2⟩, f0, f1, f2⟩ := box3 hbox
  have HX := hide hbox
  clear hbox
  have hv8 : v = 0 ∨ v = 1 ∨ v = 2 ∨ v = 3 ∨ v = 4 ∨ v = 5 ∨ v = 6 ∨ v = 7 := by omega
  have hsz := (unhide HT).size
  simp only [World.size_alloc] at hsz
  rcases hv8 with rfl | rfl | rfl | rfl | rfl | rfl | rfl | rfl
  · go_wp2_with fail
    refine bodyPost_ret (v := .agg #[.int .i64 1, .int .i64 0, .string ⟨#[]⟩]) (by simp [results, Tryz.results146, go_sem, c0, c1, c2]) rfl (ins_fin (p' := p + 1) (by decide) (by omega) (unhide HR) ((Turns.of_below (below_alloc1 _ _)).trans (unhide HT)) (by omega) (by omega))
  · go_wp2_with fail
    refine bodyPost_ret (v := .agg #[.int .i64 1, .int .i64 0, .string ⟨#[]⟩]) (by simp [results, Tryz.results146, go_sem, c0, c1, c2]) rfl (ins_fin (p' := p + 1) (by decide) (by omega) (unhide HR) ((Turns.of_below (below_alloc1 _ _)).trans (unhide HT)) (by omega) (by omega))
  · go_wp2_with fail
    refine (num_any _ _ _ _ 5 (· ∈ [1, -1, 2, 5, -3]) (rd_alloc (unhide HR) _) (by omega) (by omega) (by omega) (by omega) (ints_lit w2 [1, -1, 2, 5, -3] _ _ rfl)).mono ?_
    rintro e w3 ⟨x, hx, rfl, hr3, ht3⟩
    have hbox := box_turns (box_below (unhide HX) (below_alloc1 _ _)) ht3 hB
    have HT3 := hide (((Turns.of_below (below_alloc1 w _)).trans (unhide HT)).trans ((Turns.of_below (below_alloc1 w2 _)).trans ht3))
    have HR3 := hide hr3
    clear hx hr3 ht3 c0 c1 c2 f0 f1 f2
    obtain ⟨⟨c0, c1, c2⟩, f0, f1, f2⟩ := box3 hbox
    clear hbox
    go_wp2_with fail
    refine bodyPost_ret (v := .agg #[.int .i64 2, .int .i64 x, .string ⟨#[]⟩]) (by simp [results, Tryz.results146, go_sem, c0, c1, c2]) rfl (ins_fin (p' := p + 1 + 1) (by decide) (by omega) (unhide HR3) (unhide HT3) (by omega) (by omega))
  · go_wp2_with fail
    refine (num_any _ _ _ _ 5 (· ∈ [1, -1, 2, 5, -3]) (rd_alloc (unhide HR) _) (by omega) (by omega) (by omega) (by omega) (ints_lit w2 [1, -1, 2, 5, -3] _ _ rfl)).mono ?_
    rintro e w3 ⟨x, hx, rfl, hr3, ht3⟩
    have hbox := box_turns (box_below (unhide HX) (below_alloc1 _ _)) ht3 hB
    have HT3 := hide (((Turns.of_below (below_alloc1 w _)).trans (unhide HT)).trans ((Turns.of_below (below_alloc1 w2 _)).trans ht3))
    have HR3 := hide hr3
    clear hx hr3 ht3 c0 c1 c2 f0 f1 f2
    obtain ⟨⟨c0, c1, c2⟩, f0, f1, f2⟩ := box3 hbox
    clear hbox
    go_wp2_with fail
    refine bodyPost_ret (v := .agg #[.int .i64 2, .int .i64 x, .string ⟨#[]⟩]) (by simp [results, Tryz.results146, go_sem, c0, c1, c2]) rfl (ins_fin (p' := p + 1 + 1) (by decide) (by omega) (unhide HR3) (unhide HT3) (by omega) (by omega))
  · go_wp2_with fail
    refine (name_ok _ _ _ (unhide HR) (by omega)).mono ?_
    rintro e w3 ⟨x, hx, rfl, hr3, ht3⟩
    have hbox := box_turns (unhide HX) ht3 hB
    have HT3 := hide (((Turns.of_below (below_alloc1 w _)).trans (unhide HT)).trans ht3)
    have HR3 := hide hr3
    clear hr3 ht3 c0 c1 c2 f0 f1 f2
    obtain ⟨⟨c0, c1, c2⟩, f0, f1, f2⟩ := box3 hbox
    clear hbox
    go_wp2_with fail
    refine bodyPost_ret (v := .agg #[.int .i64 3, .int .i64 0, .string x]) (by simp [results, Tryz.results146, go_sem, c0, c1, c2]) rfl (ins_fin (p' := p + 1 + 1) hx (by omega) (unhide HR3) (unhide HT3) (by omega) (by omega))
  · go_wp2_with fail
    refine (name_ok _ _ _ (unhide HR) (by omega)).mono ?_
    rintro e w3 ⟨x, hx, rfl, hr3, ht3⟩
    have hbox := box_turns (unhide HX) ht3 hB
    have HT3 := hide (((Turns.of_below (below_alloc1 w _)).trans (unhide HT)).trans ht3)
    have HR3 := hide hr3
    clear hr3 ht3 c0 c1 c2 f0 f1 f2
    obtain ⟨⟨c0, c1, c2⟩, f0, f1, f2⟩ := box3 hbox
    clear hbox
    go_wp2_with fail
    refine bodyPost_ret (v := .agg #[.int .i64 3, .int .i64 0, .string x]) (by simp [results, Tryz.results146, go_sem, c0, c1, c2]) rfl (ins_fin (p' := p + 1 + 1) hx (by omega) (unhide HR3) (unhide HT3) (by omega) (by omega))
  · go_wp2_with fail
    refine (name_ok _ _ _ (unhide HR) (by omega)).mono ?_
    rintro e w3 ⟨x, hx, rfl, hr3, ht3⟩
    have hbox := box_turns (unhide HX) ht3 hB
    have HT3 := hide (((Turns.of_below (below_alloc1 w _)).trans (unhide HT)).trans ht3)
    have HR3 := hide hr3
    clear hr3 ht3 c0 c1 c2 f0 f1 f2
    obtain ⟨⟨c0, c1, c2⟩, f0, f1, f2⟩ := box3 hbox
    clear hbox
    go_wp2_with fail
    refine bodyPost_ret (v := .agg #[.int .i64 5, .int .i64 0, .string x]) (by simp [results, Tryz.results146, go_sem, c0, c1, c2]) rfl (ins_fin (p' := p + 1 + 1) hx (by omega) (unhide HR3) (unhide HT3) (by omega) (by omega))
  · go_wp2_with fail
    refine (num_any _ _ _ _ 4 (· ∈ [6, 6, 7, 4]) (rd_alloc (unhide HR) _) (by omega) (by omega) (by omega) (by omega) (ints_lit w2 [6, 6, 7, 4] _ _ rfl)).mono ?_
    rintro e w3 ⟨x, hx, rfl, hr3, ht3⟩
    have hbox := box_turns (box_below (unhide HX) (below_alloc1 _ _)) ht3 hB
    have HT3 := hide (((Turns.of_below (below_alloc1 w _)).trans (unhide HT)).trans ((Turns.of_below (below_alloc1 w2 _)).trans ht3))
    have HR3 := hide hr3
    clear hx hr3 ht3 c0 c1 c2 f0 f1 f2
    obtain ⟨⟨c0, c1, c2⟩, f0, f1, f2⟩ := box3 hbox
    clear hbox
    go_wp2_with fail
    refine bodyPost_ret (v := .agg #[.int .i64 x, .int .i64 0, .string ⟨#[]⟩]) (by simp [results, Tryz.results146, go_sem, c0, c1, c2]) rfl (ins_fin (p' := p + 1 + 1) (by decide) (by omega) (unhide HR3) (unhide HT3) (by omega) (by omega))

set_option maxHeartbeats 1000000 in
theorem right_any (w : World) (R p : Nat) (h : RdAt w R p) (hp : p ≤ 4294966000) :
    Calls Tryz.prog 134 #[.pointer (some ⟨R, 0, none⟩)] w (InsLeft R p 3 w) := by
  have hlt := rd_lt h
  have H := hide h
  clear h
  go_enter Tryz.func134, Tryz.ntmps134
  go_wp2_with fail
  refine (ins_any _ _ _ (rd_alloc (unhide H) _) (by omega)).mono ?_
  rintro e w2 ⟨o, n, s, p', rfl, hs, hp', hr2, ht2⟩
  have hB : w.heap.size ≠ R := by omega
  have hbox := box_turns (new_block w _) ht2 hB
  obtain ⟨⟨c0, c1, c2⟩, f0, f1, f2⟩ := box3 hbox
  have HX := hide hbox
  have hsz := ht2.size
  simp only [World.size_alloc] at hsz
  have HR := hide hr2
  have HT := hide ((Turns.of_below (below_alloc1 w _)).trans ht2)
  clear hbox ht2 hr2
  by_cases h4 : o = 4
  · subst h4
    go_wp2_with fail
    refine (name_ok _ _ _ (rd_alloc (unhide HR) _) (by omega)).mono ?_
    rintro e w3 ⟨x, hx, rfl, hr3, ht3⟩
    have hbox := box_turns (box_below (unhide HX) (below_alloc1 _ _)) ht3 hB
    have hbox2 := box_turns (new_block w2 _) ht3 (by omega)
    have HT3 := hide ((unhide HT).trans ((Turns.of_below (below_alloc1 w2 _)).trans ht3))
    have HR3 := hide hr3
    have hsz3 := ht3.size
    simp only [World.size_alloc] at hsz3
    clear hr3 ht3 c0 c1 c2 f0 f1 f2
    obtain ⟨⟨c0, c1, c2⟩, f0, f1, f2⟩ := box3 hbox
    obtain ⟨⟨d0, d1, d2⟩, g0, g1, g2⟩ := box3 hbox2
    clear hbox hbox2
    go_wp2_with fail
    exact bodyPost_ret (v := .agg #[.int .i64 4, .int .i64 n, .string x]) (by simp [results, Tryz.results134, go_sem, c0, c1, c2]) rfl ⟨4, n, x, p' + 1, rfl, hx, by omega, (by repeat (first | exact unhide HR3 | refine rd_set ?_ (by omega) _ | refine rd_alloc ?_ _)), (by repeat (first | exact unhide HT3 | refine Turns.set ?_ (by omega) _ | refine Turns.alloc ?_ _))⟩
  · have h4' : (o == 4) = false := by simp [h4]
    clear c0 c1 c2 f0 f1 f2
    obtain ⟨⟨c0, c1, c2⟩, f0, f1, f2⟩ := box3 (box_below (unhide HX) (below_alloc1 w2 (.cells #[.int .i64 o, .int .i64 n, .string s] 105)))
    go_wp2_with fail
    exact bodyPost_ret (v := .agg #[.int .i64 o, .int .i64 n, .string s]) (by simp [results, Tryz.results134, go_sem, c0, c1, c2]) rfl ⟨o, n, s, p', rfl, hs, by omega, (by repeat (first | exact unhide HR | refine rd_set ?_ (by omega) _ | refine rd_alloc ?_ _)), (by repeat (first | exact unhide HT | refine Turns.set ?_ (by omega) _ | refine Turns.alloc ?_ _))⟩

def odd : List ByteArray := [⟨#[65]⟩, ⟨#[97, 98, 99, 100, 101, 102, 103]⟩, ⟨#[97, 32, 98]⟩, ⟨#[120]⟩]
theorem odd_short : ∀ x, x ∈ odd → okN x := by
  intro x hx
  simp only [odd, List.mem_cons, List.not_mem_nil, or_false] at hx
  rcases hx with rfl | rfl | rfl | rfl <;> decide

end Go.Proofs.YthbbmookhcalkaaGreatDoor.DrawIns
/- Chapter 7's draws: the reach of a laying. -/
namespace Go.Proofs.YthbbmookhcalkaaGreatDoor.DrawL
open Go.Proofs.YthbbmookhcalkaaGreatDoor.Base
open Go.ChangeShapes Go.WideShapes Go.ChangeAt Go.RowKit Go.Joins
open Go.Proofs.YthbbmookhcalkaaGreatDoor.Rd
set_option linter.unusedVariables false
set_option maxRecDepth 100000

theorem l7Reach_any (w : World) (R p : Nat) (h : RdAt w R p) (hp : p ≤ 4294967296) :
    Calls Tryz.prog 111 #[.pointer (some ⟨R, 0, none⟩)] w fun e w' => ∃ x : Int, 3 ≤ x ∧ x ≤ 100 ∧ e = .returned (.int .i64 x) ∧ RdAt w' R (p + 1) ∧ Turns R w w' := by
  have HR := hide h
  have hlt := rd_lt h
  clear h
  go_enter Tryz.func111, Tryz.ntmps111
  go_wp2_with fail
  refine (num_any _ _ _ _ 9 (· ∈ [6, 8, 10, 12, 15, 20, 100, 4, 3]) (rd_alloc (unhide HR) _) (by omega) (by omega) (by omega) (by omega) (ints_lit w [6, 8, 10, 12, 15, 20, 100, 4, 3] _ _ rfl)).mono ?_
  rintro e w3 ⟨x, hx, rfl, hr3, ht3⟩
  have hx2 : 3 ≤ x ∧ x ≤ 100 := by
    simp only [List.mem_cons, List.not_mem_nil, or_false] at hx
    omega
  have HT3 := hide ((Turns.of_below (below_alloc1 w _)).trans ht3)
  have HR3 := hide hr3
  clear hx hr3 ht3
  go_wp2_with fail
  exact bodyPost_ret (v := .int .i64 x) (by simp [results, Tryz.results111, go_sem]) rfl ⟨x, hx2.1, hx2.2, rfl, unhide HR3, unhide HT3⟩
end Go.Proofs.YthbbmookhcalkaaGreatDoor.DrawL
