/- The contracts of the specification's draws of an instruction: some instruction, its name short; nothing that was there has turned but the reader. -/
import Derived.Test.YthbbmookhcalkaaGreatDoorRd
namespace Go.Proofs.YthbbmookhcalkaaGreatDoor.DrawIns
open Go.Proofs.YthbbmookhcalkaaGreatDoor.Base
open Go.ChangeShapes Go.WideShapes Go.ChangeAt Go.RowKit Go.Joins
open Go.Proofs.YthbbmookhcalkaaGreatDoor.Rd
set_option linter.unusedVariables false

def names : List ByteArray := [⟨#[97]⟩, ⟨#[98]⟩, ⟨#[99]⟩, ⟨#[100]⟩, ⟨#[109, 97, 105, 110]⟩, ⟨#[101]⟩]
/-- A name that is drawn: short, and neither of the two names that a law lays beside. -/
def okN (x : ByteArray) : Prop := x.size ≤ 10 ∧ x.data.toList ≠ [122, 121] ∧ x.data.toList ≠ [110, 111, 119, 104]
instance (x : ByteArray) : Decidable (okN x) := by unfold okN; infer_instance
theorem okN.max {x : ByteArray} (h : okN x) : x.size ≤ maxLen := by have := h.1; unfold maxLen; omega
theorem okN.congr {x y : ByteArray} (h : okN x) (e : x.toList = y.toList) : okN y := by
  rw [ByteArray.toList_eq, ByteArray.toList_eq] at e
  have hl := congrArg List.length e
  have h1 : x.size = y.size := by simpa using hl
  unfold okN at *
  rw [← e, ← h1]
  exact h
/-- What an instruction's draw leaves behind. -/
def InsLeft (R p k : Nat) (w : World) (e : Ending) (w' : World) : Prop :=
  ∃ (o n : Int) (s : ByteArray) (p' : Nat), e = .returned (.agg #[.int .i64 o, .int .i64 n, .string s]) ∧ okN s ∧ p' ≤ p + k ∧ RdAt w' R p' ∧ Turns R w w'

theorem names_ok : ∀ x, x ∈ names → okN x := by
  intro x hx
  simp only [names, List.mem_cons, List.not_mem_nil, or_false] at hx
  rcases hx with rfl | rfl | rfl | rfl | rfl | rfl <;> decide
theorem names_short : ∀ x, x ∈ names → x.size ≤ 10 := fun x hx => (names_ok x hx).1

set_option maxHeartbeats 400000 in
theorem name_ok (w : World) (R p : Nat) (h : RdAt w R p) (hp : p ≤ 4294967296) :
    Calls Tryz.prog 135 #[.pointer (some ⟨R, 0, none⟩)] w fun e w' => ∃ x, okN x ∧ e = .returned (.string x) ∧ RdAt w' R (p + 1) ∧ Turns R w w' := by
  have hlt := rd_lt h
  have H := hide h
  clear h
  go_enter Tryz.func135, Tryz.ntmps135
  go_wp2_with fail
  refine (of_any _ _ _ _ 6 (· ∈ names) (rd_alloc (unhide H) _) (by omega) (by omega) (by omega) (by omega) (strs_lit w names _ _ rfl)).mono ?_
  rintro e w2 ⟨x, hx, rfl, hr2, ht2⟩
  have HR := hide hr2
  have HT := hide ht2
  have hsz := names_ok x hx
  clear hx hr2 ht2
  go_wp2
  go_ret
  exact ⟨x, hsz, rfl, unhide HR, (Turns.of_below (below_alloc1 _ _)).trans (unhide HT)⟩

theorem name_any (w : World) (R p : Nat) (h : RdAt w R p) (hp : p ≤ 4294967296) :
    Calls Tryz.prog 135 #[.pointer (some ⟨R, 0, none⟩)] w fun e w' => ∃ x, x.size ≤ 10 ∧ e = .returned (.string x) ∧ RdAt w' R (p + 1) ∧ Turns R w w' :=
  (name_ok w R p h hp).mono fun e w' ⟨x, hx, h1⟩ => ⟨x, hx.1, h1⟩

theorem ins_fin {R p k p' B : Nat} {w w2 : World} {o n : Int} {s : ByteArray} (hs : okN s) (hp : p' ≤ p + k) (hr : RdAt w2 R p') (ht : Turns R w w2) (hR : R < B) (hB : w.heap.size ≤ B) {v0 v1 v2 : Value} :
    InsLeft R p k w (.returned (.agg #[.int .i64 o, .int .i64 n, .string s])) (((w2.setCell ⟨B, 0, none⟩ v0).setCell ⟨B, 1, none⟩ v1).setCell ⟨B, 2, none⟩ v2) :=
  ⟨o, n, s, p', rfl, hs, hp, rd_set (rd_set (rd_set hr hR _) hR _) hR _, ((ht.set hB _).set hB _).set hB _⟩

set_option maxHeartbeats 1000000 in
theorem ins_any (w : World) (R p : Nat) (h : RdAt w R p) (hp : p ≤ 4294967000) :
    Calls Tryz.prog 146 #[.pointer (some ⟨R, 0, none⟩)] w (InsLeft R p 2 w) := by
  have hlt := rd_lt h
  have H := hide h
  clear h
  go_enter Tryz.func146, Tryz.ntmps146
  go_wp2_with fail
  refine (pick_any _ _ _ 8 (rd_alloc (unhide H) _) (by omega) (by omega)).mono ?_
  rintro e w2 ⟨v, hv, rfl, hr2, ht2⟩
  have HR := hide hr2
  have HT := hide ht2
  clear hr2 ht2
  have hB : w.heap.size ≠ R := by omega
  have hbox := box_turns (new_block w _) (unhide HT) hB
  obtain ⟨⟨c0, c1, c2⟩, f0, f1, f2⟩ := box3 hbox
  have HX := hide hbox
  clear hbox
  have hv8 : v = 0 ∨ v = 1 ∨ v = 2 ∨ v = 3 ∨ v = 4 ∨ v = 5 ∨ v = 6 ∨ v = 7 := by omega
  have hsz := (unhide HT).size
  simp only [World.size_alloc] at hsz
  rcases hv8 with rfl | rfl | rfl | rfl | rfl | rfl | rfl | rfl
  · go_wp2_with fail
    refine bodyPost_ret (v := .agg #[.int .i64 1, .int .i64 0, .string ⟨#[]⟩]) (by simp [results, Tryz.results146, go_sem, c0, c1, c2]) rfl (ins_fin (p' := p + 1) (by decide) (by omega) (unhide HR) ((Turns.of_below (below_alloc1 _ _)).trans (unhide HT)) (by omega) (by omega))
  · go_wp2_with fail
    refine bodyPost_ret (v := .agg #[.int .i64 1, .int .i64 0, .string ⟨#[]⟩]) (by simp [results, Tryz.results146, go_sem, c0, c1, c2]) rfl (ins_fin (p' := p + 1) (by decide) (by omega) (unhide HR) ((Turns.of_below (below_alloc1 _ _)).trans (unhide HT)) (by omega) (by omega))
  · go_wp2_with fail
    refine (num_any _ _ _ _ 5 (· ∈ [1, -1, 2, 5, -3]) (rd_alloc (unhide HR) _) (by omega) (by omega) (by omega) (by omega) (ints_lit w2 [1, -1, 2, 5, -3] _ _ rfl)).mono ?_
    rintro e w3 ⟨x, hx, rfl, hr3, ht3⟩
    have hbox := box_turns (box_below (unhide HX) (below_alloc1 _ _)) ht3 hB
    have HT3 := hide (((Turns.of_below (below_alloc1 w _)).trans (unhide HT)).trans ((Turns.of_below (below_alloc1 w2 _)).trans ht3))
    have HR3 := hide hr3
    clear hx hr3 ht3 c0 c1 c2 f0 f1 f2
    obtain ⟨⟨c0, c1, c2⟩, f0, f1, f2⟩ := box3 hbox
    clear hbox
    go_wp2_with fail
    refine bodyPost_ret (v := .agg #[.int .i64 2, .int .i64 x, .string ⟨#[]⟩]) (by simp [results, Tryz.results146, go_sem, c0, c1, c2]) rfl (ins_fin (p' := p + 1 + 1) (by decide) (by omega) (unhide HR3) (unhide HT3) (by omega) (by omega))
  · go_wp2_with fail
    refine (num_any _ _ _ _ 5 (· ∈ [1, -1, 2, 5, -3]) (rd_alloc (unhide HR) _) (by omega) (by omega) (by omega) (by omega) (ints_lit w2 [1, -1, 2, 5, -3] _ _ rfl)).mono ?_
    rintro e w3 ⟨x, hx, rfl, hr3, ht3⟩
    have hbox := box_turns (box_below (unhide HX) (below_alloc1 _ _)) ht3 hB
    have HT3 := hide (((Turns.of_below (below_alloc1 w _)).trans (unhide HT)).trans ((Turns.of_below (below_alloc1 w2 _)).trans ht3))
    have HR3 := hide hr3
    clear hx hr3 ht3 c0 c1 c2 f0 f1 f2
    obtain ⟨⟨c0, c1, c2⟩, f0, f1, f2⟩ := box3 hbox
    clear hbox
    go_wp2_with fail
    refine bodyPost_ret (v := .agg #[.int .i64 2, .int .i64 x, .string ⟨#[]⟩]) (by simp [results, Tryz.results146, go_sem, c0, c1, c2]) rfl (ins_fin (p' := p + 1 + 1) (by decide) (by omega) (unhide HR3) (unhide HT3) (by omega) (by omega))
  · go_wp2_with fail
    refine (name_ok _ _ _ (unhide HR) (by omega)).mono ?_
    rintro e w3 ⟨x, hx, rfl, hr3, ht3⟩
    have hbox := box_turns (unhide HX) ht3 hB
    have HT3 := hide (((Turns.of_below (below_alloc1 w _)).trans (unhide HT)).trans ht3)
    have HR3 := hide hr3
    clear hr3 ht3 c0 c1 c2 f0 f1 f2
    obtain ⟨⟨c0, c1, c2⟩, f0, f1, f2⟩ := box3 hbox
    clear hbox
    go_wp2_with fail
    refine bodyPost_ret (v := .agg #[.int .i64 3, .int .i64 0, .string x]) (by simp [results, Tryz.results146, go_sem, c0, c1, c2]) rfl (ins_fin (p' := p + 1 + 1) hx (by omega) (unhide HR3) (unhide HT3) (by omega) (by omega))
  · go_wp2_with fail
    refine (name_ok _ _ _ (unhide HR) (by omega)).mono ?_
    rintro e w3 ⟨x, hx, rfl, hr3, ht3⟩
    have hbox := box_turns (unhide HX) ht3 hB
    have HT3 := hide (((Turns.of_below (below_alloc1 w _)).trans (unhide HT)).trans ht3)
    have HR3 := hide hr3
    clear hr3 ht3 c0 c1 c2 f0 f1 f2
    obtain ⟨⟨c0, c1, c2⟩, f0, f1, f2⟩ := box3 hbox
    clear hbox
    go_wp2_with fail
    refine bodyPost_ret (v := .agg #[.int .i64 3, .int .i64 0, .string x]) (by simp [results, Tryz.results146, go_sem, c0, c1, c2]) rfl (ins_fin (p' := p + 1 + 1) hx (by omega) (unhide HR3) (unhide HT3) (by omega) (by omega))
  · go_wp2_with fail
    refine (name_ok _ _ _ (unhide HR) (by omega)).mono ?_
    rintro e w3 ⟨x, hx, rfl, hr3, ht3⟩
    have hbox := box_turns (unhide HX) ht3 hB
    have HT3 := hide (((Turns.of_below (below_alloc1 w _)).trans (unhide HT)).trans ht3)
    have HR3 := hide hr3
    clear hr3 ht3 c0 c1 c2 f0 f1 f2
    obtain ⟨⟨c0, c1, c2⟩, f0, f1, f2⟩ := box3 hbox
    clear hbox
    go_wp2_with fail
    refine bodyPost_ret (v := .agg #[.int .i64 5, .int .i64 0, .string x]) (by simp [results, Tryz.results146, go_sem, c0, c1, c2]) rfl (ins_fin (p' := p + 1 + 1) hx (by omega) (unhide HR3) (unhide HT3) (by omega) (by omega))
  · go_wp2_with fail
    refine (num_any _ _ _ _ 4 (· ∈ [6, 6, 7, 4]) (rd_alloc (unhide HR) _) (by omega) (by omega) (by omega) (by omega) (ints_lit w2 [6, 6, 7, 4] _ _ rfl)).mono ?_
    rintro e w3 ⟨x, hx, rfl, hr3, ht3⟩
    have hbox := box_turns (box_below (unhide HX) (below_alloc1 _ _)) ht3 hB
    have HT3 := hide (((Turns.of_below (below_alloc1 w _)).trans (unhide HT)).trans ((Turns.of_below (below_alloc1 w2 _)).trans ht3))
    have HR3 := hide hr3
    clear hx hr3 ht3 c0 c1 c2 f0 f1 f2
    obtain ⟨⟨c0, c1, c2⟩, f0, f1, f2⟩ := box3 hbox
    clear hbox
    go_wp2_with fail
    refine bodyPost_ret (v := .agg #[.int .i64 x, .int .i64 0, .string ⟨#[]⟩]) (by simp [results, Tryz.results146, go_sem, c0, c1, c2]) rfl (ins_fin (p' := p + 1 + 1) (by decide) (by omega) (unhide HR3) (unhide HT3) (by omega) (by omega))

set_option maxHeartbeats 1000000 in
theorem right_any (w : World) (R p : Nat) (h : RdAt w R p) (hp : p ≤ 4294966000) :
    Calls Tryz.prog 134 #[.pointer (some ⟨R, 0, none⟩)] w (InsLeft R p 3 w) := by
  have hlt := rd_lt h
  have H := hide h
  clear h
  go_enter Tryz.func134, Tryz.ntmps134
  go_wp2_with fail
  refine (ins_any _ _ _ (rd_alloc (unhide H) _) (by omega)).mono ?_
  rintro e w2 ⟨o, n, s, p', rfl, hs, hp', hr2, ht2⟩
  have hB : w.heap.size ≠ R := by omega
  have hbox := box_turns (new_block w _) ht2 hB
  obtain ⟨⟨c0, c1, c2⟩, f0, f1, f2⟩ := box3 hbox
  have HX := hide hbox
  have hsz := ht2.size
  simp only [World.size_alloc] at hsz
  have HR := hide hr2
  have HT := hide ((Turns.of_below (below_alloc1 w _)).trans ht2)
  clear hbox ht2 hr2
  by_cases h4 : o = 4
  · subst h4
    go_wp2_with fail
    refine (name_ok _ _ _ (rd_alloc (unhide HR) _) (by omega)).mono ?_
    rintro e w3 ⟨x, hx, rfl, hr3, ht3⟩
    have hbox := box_turns (box_below (unhide HX) (below_alloc1 _ _)) ht3 hB
    have hbox2 := box_turns (new_block w2 _) ht3 (by omega)
    have HT3 := hide ((unhide HT).trans ((Turns.of_below (below_alloc1 w2 _)).trans ht3))
    have HR3 := hide hr3
    have hsz3 := ht3.size
    simp only [World.size_alloc] at hsz3
    clear hr3 ht3 c0 c1 c2 f0 f1 f2
    obtain ⟨⟨c0, c1, c2⟩, f0, f1, f2⟩ := box3 hbox
    obtain ⟨⟨d0, d1, d2⟩, g0, g1, g2⟩ := box3 hbox2
    clear hbox hbox2
    go_wp2_with fail
    exact bodyPost_ret (v := .agg #[.int .i64 4, .int .i64 n, .string x]) (by simp [results, Tryz.results134, go_sem, c0, c1, c2]) rfl ⟨4, n, x, p' + 1, rfl, hx, by omega, (by repeat (first | exact unhide HR3 | refine rd_set ?_ (by omega) _ | refine rd_alloc ?_ _)), (by repeat (first | exact unhide HT3 | refine Turns.set ?_ (by omega) _ | refine Turns.alloc ?_ _))⟩
  · have h4' : (o == 4) = false := by simp [h4]
    clear c0 c1 c2 f0 f1 f2
    obtain ⟨⟨c0, c1, c2⟩, f0, f1, f2⟩ := box3 (box_below (unhide HX) (below_alloc1 w2 (.cells #[.int .i64 o, .int .i64 n, .string s] 105)))
    go_wp2_with fail
    exact bodyPost_ret (v := .agg #[.int .i64 o, .int .i64 n, .string s]) (by simp [results, Tryz.results134, go_sem, c0, c1, c2]) rfl ⟨o, n, s, p', rfl, hs, by omega, (by repeat (first | exact unhide HR | refine rd_set ?_ (by omega) _ | refine rd_alloc ?_ _)), (by repeat (first | exact unhide HT | refine Turns.set ?_ (by omega) _ | refine Turns.alloc ?_ _))⟩

def odd : List ByteArray := [⟨#[65]⟩, ⟨#[97, 98, 99, 100, 101, 102, 103]⟩, ⟨#[97, 32, 98]⟩, ⟨#[120]⟩]
theorem odd_short : ∀ x, x ∈ odd → okN x := by
  intro x hx
  simp only [odd, List.mem_cons, List.not_mem_nil, or_false] at hx
  rcases hx with rfl | rfl | rfl | rfl <;> decide

end Go.Proofs.YthbbmookhcalkaaGreatDoor.DrawIns
