/- The contracts of the specification's l4Bent and of the draws of chapter 4. -/
import Derived.Test.YthbbmookhcalkaaGreatDoorPk3558df9a
namespace Go.Proofs.YthbbmookhcalkaaGreatDoor.DrawR
open Go.ChangeShapes Go.WideShapes Go.ChangeAt Go.RowKit Go.Joins Go.Deep
open Go.Proofs.YthbbmookhcalkaaGreatDoor.Base Go.Proofs.YthbbmookhcalkaaGreatDoor.InsA Go.Proofs.YthbbmookhcalkaaGreatDoor.Funs Go.Proofs.YthbbmookhcalkaaGreatDoor.Open Go.Proofs.YthbbmookhcalkaaGreatDoor.FunS Go.Proofs.YthbbmookhcalkaaGreatDoor.Keep Go.Proofs.YthbbmookhcalkaaGreatDoor.UnitS Go.Proofs.YthbbmookhcalkaaGreatDoor.Rd Go.Proofs.YthbbmookhcalkaaGreatDoor.DrawIns Go.Proofs.YthbbmookhcalkaaGreatDoor.UU Go.Proofs.YthbbmookhcalkaaGreatDoor.PickD Go.Proofs.YthbbmookhcalkaaGreatDoor.Concat Go.Proofs.YthbbmookhcalkaaGreatDoor.KeepC Go.Proofs.YthbbmookhcalkaaGreatDoor.KeepD Go.Proofs.YthbbmookhcalkaaGreatDoor.KeepW Go.Proofs.YthbbmookhcalkaaGreatDoor.DrawP Go.Proofs.YthbbmookhcalkaaGreatDoor.DrawQ
open Go.Proofs.YthbbmookhcalkaaGreatDoor.DrawThin (name_in)
set_option linter.unusedVariables false
set_option maxRecDepth 100000

def zzB : ByteArray := ⟨#[122, 122]⟩
def zxB : ByteArray := ⟨#[122, 120]⟩
def nowhB : ByteArray := ⟨#[110, 111, 119, 104]⟩
theorem zx_body (w : World) (G : Option Nat) (hG : G ≠ some w.heap.size) : BodyOff (w.alloc (.cells #[.int .i64 4, .int .i64 0, .string nowhB] 105)) G ((⟨zxB, false, [⟨4, 0, nowhB⟩]⟩ : FunD), .slice (some ⟨w.heap.size, 0, none⟩) 1 1) := by
  have h0 := new_block w (.cells #[.int .i64 4, .int .i64 0, .string nowhB] 105)
  refine ⟨_, 1, rfl, by show (2 : Nat) ≤ maxLen; unfold maxLen; omega, Nat.le_refl _, by unfold maxLen; omega, .inr ⟨_, 0, rfl, fun i hi => ?_⟩, .inr ⟨_, 0, rfl, hG, by simp⟩⟩
  have hi0 : i = 0 := by simpa using hi
  subst hi0
  exact ⟨by rw [cell_of_block h0]; rfl, by rw [cell_of_block h0]; rfl, by rw [cell_of_block h0]; rfl, by show (4 : Nat) ≤ maxLen; unfold maxLen; omega⟩
theorem zz_body (w : World) (G : Option Nat) (nm : ByteArray) (hn : nm.size ≤ maxLen) (hG : G ≠ some w.heap.size) : BodyOff (w.alloc (.cells #[.int .i64 3, .int .i64 0, .string nm, .int .i64 6, .int .i64 0, .string ⟨#[]⟩] 105)) G ((⟨zzB, false, [⟨3, 0, nm⟩, ⟨6, 0, ⟨#[]⟩⟩]⟩ : FunD), .slice (some ⟨w.heap.size, 0, none⟩) 2 2) := by
  have h0 := new_block w (.cells #[.int .i64 3, .int .i64 0, .string nm, .int .i64 6, .int .i64 0, .string ⟨#[]⟩] 105)
  refine ⟨_, 2, rfl, by show (2 : Nat) ≤ maxLen; unfold maxLen; omega, Nat.le_refl _, by unfold maxLen; omega, .inr ⟨_, 0, rfl, fun i hi => ?_⟩, .inr ⟨_, 0, rfl, hG, by simp⟩⟩
  have hi2 : i < 2 := by simpa using hi
  match i, hi2 with
  | 0, _ => exact ⟨by rw [cell_of_block h0]; rfl, by rw [cell_of_block h0]; rfl, by rw [cell_of_block h0]; rfl, hn⟩
  | 1, _ => exact ⟨by rw [cell_of_block h0]; rfl, by rw [cell_of_block h0]; rfl, by rw [cell_of_block h0]; rfl, Nat.zero_le _⟩
/-- The first function of a program, as it lies. -/
theorem prog_head {w : World} {B : Nat} {a : Option Addr} {c : Nat} {us : List (FunD × Value)} (h : ProgOwn w B (.slice a us.length c) us) (h1 : 1 ≤ us.length) : ∃ g f ai bl ci r, a = some ⟨g, 0, none⟩ ∧ us = (f, .slice ai bl ci) :: r ∧ (us.length ≤ c ∧ c ≤ maxLen) ∧ w.cell? ⟨g, 0, none⟩ = some (.string f.nm) ∧ w.cell? ⟨g, 1, none⟩ = some (.bool f.wk) ∧ w.cell? ⟨g, 2, none⟩ = some (.slice ai bl ci) ∧ w.frozen? ⟨g, 2, none⟩ = false ∧ (B ≤ g ∧ g < w.heap.size) ∧ f.nm.size ≤ maxLen := by
  obtain ⟨⟨_, ⟨e, h0⟩ | ⟨g, cap, cur, e, hB, hg, hn, hm, hs, ht⟩⟩, h2⟩ := h
  · omega
  · cases e
    cases us with
    | nil => simp at h1
    | cons u r =>
      obtain ⟨f, bv⟩ := u
      obtain ⟨ai, ci, e0, k1, _⟩ := h2 (f, bv) (List.mem_cons_self ..)
      simp only at e0 k1
      obtain ⟨e1, e2, e3⟩ := flatV_at ((f, bv) :: r) 0 (by simp)
      have t : ∀ j x, j < 3 → (((f, bv) :: r).flatMap encV)[j]? = some x → w.cell? ⟨g, j, none⟩ = some x := fun j x hj e => by
        rw [cell_of_block hg]
        rw [← ht, List.getElem?_take_of_lt (by simp; omega)] at e
        simpa using e
      subst e0
      exact ⟨g, f, ai, f.body.length, ci, r, rfl, rfl, ⟨hn, hm⟩, t 0 _ (by omega) (by simpa using e1), t 1 _ (by omega) (by simpa using e2), t 2 _ (by omega) (by simpa using e3), unfrozen_of_block hg 2, ⟨hB, (Array.getElem?_eq_some_iff.1 hg).1⟩, k1⟩
theorem nm_map {us : List (FunD × Value)} (h : NmOk us) : ∀ f ∈ us.map Prod.fst, okN f.nm := fun f hf => by
  obtain ⟨u, hu, rfl⟩ := List.mem_map.1 hf
  exact h u hu
theorem nm_snoc {us : List (FunD × Value)} {y : FunD × Value} (h : NmOk us) (hy : okN y.1.nm) : NmOk (us ++ [y]) := fun u hu => (List.mem_append.1 hu).elim (h u) (fun e => by rw [List.mem_singleton.1 e]; exact hy)
theorem nm_head {us : List (FunD × Value)} {f : FunD} {v : Value} {r : List (FunD × Value)} (h : NmOk us) (e : us = (f, v) :: r) : okN f.nm := h (f, v) (by rw [e]; exact List.mem_cons_self ..)
theorem nm_nil {us : List (FunD × Value)} {f : FunD} {v : Value} {r : List (FunD × Value)} (h : NmOk us) (e : us = (f, v) :: r) : ∀ x ∈ ((⟨f.nm, f.wk, []⟩ : FunD) :: r.map Prod.fst), okN x.nm := fun x hx => by
  rcases List.mem_cons.1 hx with rfl | hx
  · exact nm_head (f := f) h e
  · obtain ⟨u, hu, rfl⟩ := List.mem_map.1 hx
    exact h u (by rw [e]; exact List.mem_cons_of_mem _ hu)
/-- What l4Bent leaves: functions, readable. -/
def BentProg (R p : Nat) (w : World) (e : Ending) (w' : World) : Prop := ∃ a cap fs p', e = .returned (.slice a fs.length cap) ∧ fs.length ≤ cap ∧ cap ≤ maxLen ∧ fs.length ≤ 42 ∧ Hid (∀ f ∈ fs, okN f.nm) ∧ FunRow w' a fs ∧ p' ≤ p + 1002 ∧ RdAt w' R p' ∧ Turns R w w'
theorem bent_fin {w w' : World} {R p p' B : Nat} {a : Option Addr} {c n : Nat} {us : List (FunD × Value)} (h : ProgOwn w' B (.slice a n c) us) (hl : us.length ≤ 42) (hN : NmOk us) (hp : p' ≤ p + 1002) (hr : RdAt w' R p') (ht : Turns R w w') : BentProg R p w (.returned (.slice a n c)) w' := by
  obtain ⟨a', c', e, h1, h2, h3⟩ := h.row
  rw [e]
  exact ⟨a', c', _, p', rfl, h1, h2, by simpa using hl, nm_map hN, h3, hp, hr, ht⟩
theorem bent_none {w w' : World} {R p p' : Nat} {a : Option Addr} {c : Nat} (hc : c ≤ maxLen) (hp : p' ≤ p + 1002) (hr : RdAt w' R p') (ht : Turns R w w') : BentProg R p w (.returned (.slice a 0 c)) w' := ⟨a, c, [], p', rfl, Nat.zero_le _, hc, by simp, (fun f hf => by cases hf), .inl rfl, hp, hr, ht⟩
theorem bent_row {w w' : World} {R p p' n : Nat} {a : Option Addr} {c : Nat} {f : FunD} {r : List (FunD × Value)} (h : FunRow w' a (f :: r.map Prod.fst)) (hN : ∀ x ∈ (f :: r.map Prod.fst), okN x.nm) (hn : r.length + 1 = n) (h1 : n ≤ c) (h2 : c ≤ maxLen) (hl : n ≤ 42) (hp : p' ≤ p + 1002) (hr : RdAt w' R p') (ht : Turns R w w') : BentProg R p w (.returned (.slice a n c)) w' := by
  have e : (f :: r.map Prod.fst).length = n := by simpa using hn
  exact ⟨a, c, f :: r.map Prod.fst, p', by rw [e], by omega, h2, by omega, hN, h, hp, hr, ht⟩
theorem find_of {w : World} {B : Nat} {a : Option Addr} {c : Nat} {us : List (FunD × Value)} (s : ByteArray) (hs : s.size ≤ maxLen) (h : ProgOwn w B (.slice a us.length c) us) :
    Calls Tryz.prog 34 #[.slice a us.length c, .string s] w fun e w' => e = .returned (.int .i64 (findI (us.map Prod.fst) s)) ∧ Below w.heap.size w w' := by
  obtain ⟨a', c', e, h1, h2, h3⟩ := h.row
  simp only [Value.slice.injEq] at e
  obtain ⟨rfl, _, rfl⟩ := e
  have := specFind_any a c (us.map Prod.fst) s w hs h1 h2 h3
  rwa [List.length_map] at this
theorem prog_snoc {W w3 : World} {B : Nat} {v v3 : Value} {us : List (FunD × Value)} {y : FunD × Value} {o : Obj} (h : ProgOwn W B v us) (hy : BodyOff W v.ownBlock y) (ho : w3.ownsRow B 28 3 v3 (us.length + 1) (us.flatMap encV ++ encV y)) (hg : (W.alloc o).grownBy w3 v.ownBlock) (hat : v3.ownBlock = v.ownBlock ∨ v3.ownBlock = some (W.alloc o).heap.size) : ∃ ws, ProgOwn w3 B v3 ws ∧ ws.length = us.length + 1 ∧ Hid (NmOk us → okN y.1.nm → NmOk ws) ∧ ∃ a c, v3 = .slice a ws.length c := by
  have hp := h.snoc hy ho hg hat
  obtain ⟨a, c, e⟩ := row_form hp.1
  exact ⟨_, hp, by simp, (fun h hy => nm_snoc h hy), a, c, e⟩
set_option maxHeartbeats 8000000 in
theorem bent_draw (w : World) (R p : Nat) (h : RdAt w R p) (hp : p ≤ 4294900000) :
    Calls Tryz.prog 28 #[.pointer (some ⟨R, 0, none⟩)] w (BentProg R p w) := by
  have hlt := rd_lt h
  have H := hide h
  clear h
  obtain ⟨i1, hi1, hy0, hy1, hy2⟩ := info_fun
  go_enter Tryz.func28, Tryz.ntmps28
  go_wp2_with fail
  refine (prog_draw _ R p (unhide H) hp).mono ?_
  rintro e w1 ⟨v1, us, p1, rfl, hP1, hu1, hu40, HN1, hp1, hr1, ht1⟩
  have HP1 := hide hP1
  have HR1 := hide hr1
  have HT1 := hide ht1
  obtain ⟨a, c, e1⟩ := row_form hP1.1
  subst e1
  clear hP1 hr1 ht1 H
  go_wp2_with fail
  refine (pick_any _ R p1 3 (unhide HR1) (by omega) (by omega)).mono ?_
  rintro e w2 ⟨v2, hv2, rfl, hr2, ht2⟩
  have HP2 := hide ((unhide HP1).turns (unhide HR1) ht2 hlt)
  have HR2 := hide hr2
  have HT2 := hide ((unhide HT1).trans ht2)
  obtain ⟨p2, hp2⟩ : ∃ n, n = p1 + 1 := ⟨_, rfl⟩
  rw [← hp2] at HR2
  clear hr2 ht2 HP1 HR1 HT1
  by_cases hk0 : v2 = 0
  · subst hk0
    by_cases hf : findI (us.map Prod.fst) zzB < 0
    · go_wp2_with fail
      refine (find_of zzB (by decide) (unhide HP2)).mono ?_
      rintro e w3 ⟨rfl, hb3⟩
      have HP3 := hide ((unhide HP2).below hb3)
      have HR3 := hide (rd_below (unhide HR2) hb3)
      have HT3 := hide ((unhide HT2).trans (Turns.of_below hb3))
      have hs3 := (unhide HT3).size
      obtain ⟨g, f, ai, bl, ci, r, rfl, hus, hfl, c0, c1, c2, f2, hg3, hfz⟩ := prog_head (unhide HP3) hu1
      have HUS := hide hus
      clear hus
      have HY := hide (zz_body w3 (some g) f.nm hfz (fun e => by have e' : g = w3.heap.size := by simpa using e
                                                                 omega))
      have HPA := hide ((unhide HP3).below (below_alloc1 _ (.cells #[.int .i64 3, .int .i64 0, .string f.nm, .int .i64 6, .int .i64 0, .string ⟨#[]⟩] 105)))
      clear hb3 HP2 HR2 HT2
      generalize findI (us.map Prod.fst) zzB = fi at hf ⊢
      go_wp2_with (first
        | (at_builtin; refine wpList_append_own_at _ rfl _ _ 23 rfl w.heap.size 28 i1 (.agg #[.string ⟨#[]⟩, .bool false, .slice none 0 0]) 3 48 Tryz.underlying23 hi1 hy0 hy1 hy2 rfl (by decide) _ us.length (us.flatMap encV) rfl (World.ownsRow.alloc (unhide HPA).1 _) ⟨w3.heap.size + 1, 0, none⟩ 1 1 (encV ((⟨zzB, false, [⟨3, 0, f.nm⟩, ⟨6, 0, ⟨#[]⟩⟩]⟩ : FunD), Value.slice (some ⟨w3.heap.size, 0, none⟩) 2 2)) rfl rfl (funV_new2 w3 _ ((⟨zzB, false, [⟨3, 0, f.nm⟩, ⟨6, 0, ⟨#[]⟩⟩]⟩ : FunD), Value.slice (some ⟨w3.heap.size, 0, none⟩) 2 2)) (by simp [encV, Value.oneCell']) (by unfold maxLen; omega) (by omega) (by simp; omega) ?_; intro v4 w4 hown4 hgrow4 _ hat4; obtain ⟨ws, hP4, hwl, HNW, a4, c4, e4⟩ := prog_snoc (unhide HPA) (unhide HY) hown4 hgrow4 hat4; have HP4 := hide hP4; have hw1 : 1 ≤ ws.length := (by omega); have hw41 : ws.length ≤ 41 := (by omega); clear hP4 hwl; have HR4 := hide (DrawFun.rd_grown (rd_alloc (rd_alloc (unhide HR3) _) _) hgrow4 (fun k hk => by have := (World.ownsRow.lt (unhide HP3).1 k hk).1; omega)); have HT4 := hide (DrawFun.turns_grown (((unhide HT3).alloc _).alloc _) hgrow4 (fun k hk => (World.ownsRow.lt (unhide HP3).1 k hk).1)); clear hown4 hgrow4 hat4; subst e4))
      have HN1 : Hid (NmOk ws) := unhide HNW (unhide HN1) (by show okN zzB; decide)
      clear HP3 HR3 HT3 HPA HY c0 c1 c2 f2 hg3 hfz hfl hs3 HUS hu1 hu40 HNW
      have hu1 := hw1
      go_wp2_with fail
      refine (pick_any _ R p2 40 (unhide HR4) (by omega) (by omega)).mono ?_
      rintro e w9 ⟨v9, hv9, rfl, hr9, ht9⟩
      have HP9 := hide ((unhide HP4).turns (unhide HR4) ht9 hlt)
      have HR9 := hide hr9
      have HT9 := hide ((unhide HT4).trans ht9)
      have hs9 := (unhide HT9).size
      obtain ⟨g, f, ai, bl, ci, r, rfl, hus, hfl, c0, c1, c2, f2, hg9, hfz⟩ := prog_head (unhide HP9) hu1
      have HUS := hide hus
      clear hus
      clear hr9 ht9 HP4 HR4 HT4
      by_cases h0 : v9 = 0
      · subst h0
        have HY := hide (zx_body w9 (some g) (fun e => by have e' : g = w9.heap.size := by simpa using e
                                                          omega))
        have HPA := hide ((unhide HP9).below (below_alloc1 _ (.cells #[.int .i64 4, .int .i64 0, .string nowhB] 105)))
        go_wp2_with (first
          | (at_builtin; refine wpList_append_own_at _ rfl _ _ 23 rfl w.heap.size 28 i1 (.agg #[.string ⟨#[]⟩, .bool false, .slice none 0 0]) 3 48 Tryz.underlying23 hi1 hy0 hy1 hy2 rfl (by decide) _ ws.length (ws.flatMap encV) rfl (World.ownsRow.alloc (unhide HPA).1 _) ⟨w9.heap.size + 1, 0, none⟩ 1 1 (encV ((⟨zxB, false, [⟨4, 0, nowhB⟩]⟩ : FunD), Value.slice (some ⟨w9.heap.size, 0, none⟩) 1 1)) rfl rfl (funV_new2 w9 _ ((⟨zxB, false, [⟨4, 0, nowhB⟩]⟩ : FunD), Value.slice (some ⟨w9.heap.size, 0, none⟩) 1 1)) (by simp [encV, Value.oneCell']) (by unfold maxLen; omega) (by omega) (by simp; omega) ?_; intro v3 w3 hown3 hgrow3 _ hat3))
        have HP3 := hide ((unhide HPA).snoc (unhide HY) hown3 hgrow3 hat3)
        have HR3 := hide (DrawFun.rd_grown (rd_alloc (rd_alloc (unhide HR9) _) _) hgrow3 (fun k hk => by have := (World.ownsRow.lt (unhide HP9).1 k hk).1; omega))
        have HT3 := hide (DrawFun.turns_grown (((unhide HT9).alloc _).alloc _) hgrow3 (fun k hk => (World.ownsRow.lt (unhide HP9).1 k hk).1))
        obtain ⟨a3, c3, e3⟩ := row_form (unhide HP3).1
        subst e3
        go_ret
        exact bent_fin (unhide HP3) (by simp; omega) (nm_snoc (unhide HN1) (by show okN zxB; decide)) (by omega) (unhide HR3) (unhide HT3)
      by_cases h1 : v9 = 1
      · subst h1
        have HY : Hid (BodyOff w9 (some g) (f, .slice ai bl ci)) := (unhide HP9).2 _ (by rw [unhide HUS]; exact List.mem_cons_self ..)
        go_wp2_with (first
          | (at_builtin; refine wpList_append_own_at _ rfl _ _ 23 rfl w.heap.size 28 i1 (.agg #[.string ⟨#[]⟩, .bool false, .slice none 0 0]) 3 48 Tryz.underlying23 hi1 hy0 hy1 hy2 rfl (by decide) _ ws.length (ws.flatMap encV) rfl (World.ownsRow.alloc (unhide HP9).1 _) ⟨w9.heap.size, 0, none⟩ 1 1 (encV (f, Value.slice ai bl ci)) rfl rfl (funV_new w9 (f, Value.slice ai bl ci)) (by simp [encV, Value.oneCell']) (by unfold maxLen; omega) (by omega) (by simp; omega) ?_; intro v3 w3 hown3 hgrow3 _ hat3))
        have HP3 := hide ((unhide HP9).snoc (unhide HY) hown3 hgrow3 hat3)
        have HR3 := hide (DrawFun.rd_grown (rd_alloc (unhide HR9) _) hgrow3 (fun k hk => by have := (World.ownsRow.lt (unhide HP9).1 k hk).1; omega))
        have HT3 := hide (DrawFun.turns_grown ((unhide HT9).alloc _) hgrow3 (fun k hk => (World.ownsRow.lt (unhide HP9).1 k hk).1))
        obtain ⟨a3, c3, e3⟩ := row_form (unhide HP3).1
        subst e3
        go_ret
        exact bent_fin (unhide HP3) (by simp; omega) (nm_snoc (unhide HN1) (nm_head (unhide HN1) (unhide HUS))) (by omega) (unhide HR3) (unhide HT3)
      by_cases h2 : v9 = 2
      · subst h2
        go_wp2_with fail
        go_ret
        exact bent_none hfl.2 (by omega) (unhide HR9) (unhide HT9)
      by_cases h3 : v9 = 3
      · subst h3
        have HNR := hide (prog_nil (unhide HP9) (unhide HUS))
        have HRL : Hid (r.length + 1 = ws.length) := by show _ = _; rw [unhide HUS]; rfl
        go_wp2_with fail
        go_ret
        exact bent_row (unhide HNR) (nm_nil (unhide HN1) (unhide HUS)) (unhide HRL) hfl.1 hfl.2 (by omega) (by omega) (rd_set (unhide HR9) (by omega) _) ((unhide HT9).set (by omega) _)
      · have h0' : ¬ (v9 : Int) = 0 := by omega
        have h1' : ¬ (v9 : Int) = 1 := by omega
        have h2' : ¬ (v9 : Int) = 2 := by omega
        have h3' : ¬ (v9 : Int) = 3 := by omega
        go_wp2_with fail
        go_ret
        exact bent_fin (unhide HP9) (by omega) (unhide HN1) (by omega) (unhide HR9) (unhide HT9)
    · go_wp2_with fail
      refine (find_of zzB (by decide) (unhide HP2)).mono ?_
      rintro e w3 ⟨rfl, hb3⟩
      have HP3 := hide ((unhide HP2).below hb3)
      have HR3 := hide (rd_below (unhide HR2) hb3)
      have HT3 := hide ((unhide HT2).trans (Turns.of_below hb3))
      clear hb3 HP2 HR2 HT2
      generalize findI (us.map Prod.fst) zzB = fi at hf ⊢
      go_wp2_with fail
      refine (pick_any _ R p2 40 (unhide HR3) (by omega) (by omega)).mono ?_
      rintro e w9 ⟨v9, hv9, rfl, hr9, ht9⟩
      have HP9 := hide ((unhide HP3).turns (unhide HR3) ht9 hlt)
      have HR9 := hide hr9
      have HT9 := hide ((unhide HT3).trans ht9)
      have hs9 := (unhide HT9).size
      obtain ⟨g, f, ai, bl, ci, r, rfl, hus, hfl, c0, c1, c2, f2, hg9, hfz⟩ := prog_head (unhide HP9) hu1
      have HUS := hide hus
      clear hus
      clear hr9 ht9 HP3 HR3 HT3
      by_cases h0 : v9 = 0
      · subst h0
        have HY := hide (zx_body w9 (some g) (fun e => by have e' : g = w9.heap.size := by simpa using e
                                                          omega))
        have HPA := hide ((unhide HP9).below (below_alloc1 _ (.cells #[.int .i64 4, .int .i64 0, .string nowhB] 105)))
        go_wp2_with (first
          | (at_builtin; refine wpList_append_own_at _ rfl _ _ 23 rfl w.heap.size 28 i1 (.agg #[.string ⟨#[]⟩, .bool false, .slice none 0 0]) 3 48 Tryz.underlying23 hi1 hy0 hy1 hy2 rfl (by decide) _ us.length (us.flatMap encV) rfl (World.ownsRow.alloc (unhide HPA).1 _) ⟨w9.heap.size + 1, 0, none⟩ 1 1 (encV ((⟨zxB, false, [⟨4, 0, nowhB⟩]⟩ : FunD), Value.slice (some ⟨w9.heap.size, 0, none⟩) 1 1)) rfl rfl (funV_new2 w9 _ ((⟨zxB, false, [⟨4, 0, nowhB⟩]⟩ : FunD), Value.slice (some ⟨w9.heap.size, 0, none⟩) 1 1)) (by simp [encV, Value.oneCell']) (by unfold maxLen; omega) (by omega) (by simp; omega) ?_; intro v3 w3 hown3 hgrow3 _ hat3))
        have HP3 := hide ((unhide HPA).snoc (unhide HY) hown3 hgrow3 hat3)
        have HR3 := hide (DrawFun.rd_grown (rd_alloc (rd_alloc (unhide HR9) _) _) hgrow3 (fun k hk => by have := (World.ownsRow.lt (unhide HP9).1 k hk).1; omega))
        have HT3 := hide (DrawFun.turns_grown (((unhide HT9).alloc _).alloc _) hgrow3 (fun k hk => (World.ownsRow.lt (unhide HP9).1 k hk).1))
        obtain ⟨a3, c3, e3⟩ := row_form (unhide HP3).1
        subst e3
        go_ret
        exact bent_fin (unhide HP3) (by simp; omega) (nm_snoc (unhide HN1) (by show okN zxB; decide)) (by omega) (unhide HR3) (unhide HT3)
      by_cases h1 : v9 = 1
      · subst h1
        have HY : Hid (BodyOff w9 (some g) (f, .slice ai bl ci)) := (unhide HP9).2 _ (by rw [unhide HUS]; exact List.mem_cons_self ..)
        go_wp2_with (first
          | (at_builtin; refine wpList_append_own_at _ rfl _ _ 23 rfl w.heap.size 28 i1 (.agg #[.string ⟨#[]⟩, .bool false, .slice none 0 0]) 3 48 Tryz.underlying23 hi1 hy0 hy1 hy2 rfl (by decide) _ us.length (us.flatMap encV) rfl (World.ownsRow.alloc (unhide HP9).1 _) ⟨w9.heap.size, 0, none⟩ 1 1 (encV (f, Value.slice ai bl ci)) rfl rfl (funV_new w9 (f, Value.slice ai bl ci)) (by simp [encV, Value.oneCell']) (by unfold maxLen; omega) (by omega) (by simp; omega) ?_; intro v3 w3 hown3 hgrow3 _ hat3))
        have HP3 := hide ((unhide HP9).snoc (unhide HY) hown3 hgrow3 hat3)
        have HR3 := hide (DrawFun.rd_grown (rd_alloc (unhide HR9) _) hgrow3 (fun k hk => by have := (World.ownsRow.lt (unhide HP9).1 k hk).1; omega))
        have HT3 := hide (DrawFun.turns_grown ((unhide HT9).alloc _) hgrow3 (fun k hk => (World.ownsRow.lt (unhide HP9).1 k hk).1))
        obtain ⟨a3, c3, e3⟩ := row_form (unhide HP3).1
        subst e3
        go_ret
        exact bent_fin (unhide HP3) (by simp; omega) (nm_snoc (unhide HN1) (nm_head (unhide HN1) (unhide HUS))) (by omega) (unhide HR3) (unhide HT3)
      by_cases h2 : v9 = 2
      · subst h2
        go_wp2_with fail
        go_ret
        exact bent_none hfl.2 (by omega) (unhide HR9) (unhide HT9)
      by_cases h3 : v9 = 3
      · subst h3
        have HNR := hide (prog_nil (unhide HP9) (unhide HUS))
        have HRL : Hid (r.length + 1 = us.length) := by show _ = _; rw [unhide HUS]; rfl
        go_wp2_with fail
        go_ret
        exact bent_row (unhide HNR) (nm_nil (unhide HN1) (unhide HUS)) (unhide HRL) hfl.1 hfl.2 (by omega) (by omega) (rd_set (unhide HR9) (by omega) _) ((unhide HT9).set (by omega) _)
      · have h0' : ¬ (v9 : Int) = 0 := by omega
        have h1' : ¬ (v9 : Int) = 1 := by omega
        have h2' : ¬ (v9 : Int) = 2 := by omega
        have h3' : ¬ (v9 : Int) = 3 := by omega
        go_wp2_with fail
        go_ret
        exact bent_fin (unhide HP9) (by omega) (unhide HN1) (by omega) (unhide HR9) (unhide HT9)
  · have hk0' : ¬ (v2 : Int) = 0 := by omega
    go_wp2_with fail
    refine (pick_any _ R p2 40 (unhide HR2) (by omega) (by omega)).mono ?_
    rintro e w9 ⟨v9, hv9, rfl, hr9, ht9⟩
    have HP9 := hide ((unhide HP2).turns (unhide HR2) ht9 hlt)
    have HR9 := hide hr9
    have HT9 := hide ((unhide HT2).trans ht9)
    have hs9 := (unhide HT9).size
    obtain ⟨g, f, ai, bl, ci, r, rfl, hus, hfl, c0, c1, c2, f2, hg9, hfz⟩ := prog_head (unhide HP9) hu1
    have HUS := hide hus
    clear hus
    clear hr9 ht9 HP2 HR2 HT2
    by_cases h0 : v9 = 0
    · subst h0
      have HY := hide (zx_body w9 (some g) (fun e => by have e' : g = w9.heap.size := by simpa using e
                                                        omega))
      have HPA := hide ((unhide HP9).below (below_alloc1 _ (.cells #[.int .i64 4, .int .i64 0, .string nowhB] 105)))
      go_wp2_with (first
        | (at_builtin; refine wpList_append_own_at _ rfl _ _ 23 rfl w.heap.size 28 i1 (.agg #[.string ⟨#[]⟩, .bool false, .slice none 0 0]) 3 48 Tryz.underlying23 hi1 hy0 hy1 hy2 rfl (by decide) _ us.length (us.flatMap encV) rfl (World.ownsRow.alloc (unhide HPA).1 _) ⟨w9.heap.size + 1, 0, none⟩ 1 1 (encV ((⟨zxB, false, [⟨4, 0, nowhB⟩]⟩ : FunD), Value.slice (some ⟨w9.heap.size, 0, none⟩) 1 1)) rfl rfl (funV_new2 w9 _ ((⟨zxB, false, [⟨4, 0, nowhB⟩]⟩ : FunD), Value.slice (some ⟨w9.heap.size, 0, none⟩) 1 1)) (by simp [encV, Value.oneCell']) (by unfold maxLen; omega) (by omega) (by simp; omega) ?_; intro v3 w3 hown3 hgrow3 _ hat3))
      have HP3 := hide ((unhide HPA).snoc (unhide HY) hown3 hgrow3 hat3)
      have HR3 := hide (DrawFun.rd_grown (rd_alloc (rd_alloc (unhide HR9) _) _) hgrow3 (fun k hk => by have := (World.ownsRow.lt (unhide HP9).1 k hk).1; omega))
      have HT3 := hide (DrawFun.turns_grown (((unhide HT9).alloc _).alloc _) hgrow3 (fun k hk => (World.ownsRow.lt (unhide HP9).1 k hk).1))
      obtain ⟨a3, c3, e3⟩ := row_form (unhide HP3).1
      subst e3
      go_ret
      exact bent_fin (unhide HP3) (by simp; omega) (nm_snoc (unhide HN1) (by show okN zxB; decide)) (by omega) (unhide HR3) (unhide HT3)
    by_cases h1 : v9 = 1
    · subst h1
      have HY : Hid (BodyOff w9 (some g) (f, .slice ai bl ci)) := (unhide HP9).2 _ (by rw [unhide HUS]; exact List.mem_cons_self ..)
      go_wp2_with (first
        | (at_builtin; refine wpList_append_own_at _ rfl _ _ 23 rfl w.heap.size 28 i1 (.agg #[.string ⟨#[]⟩, .bool false, .slice none 0 0]) 3 48 Tryz.underlying23 hi1 hy0 hy1 hy2 rfl (by decide) _ us.length (us.flatMap encV) rfl (World.ownsRow.alloc (unhide HP9).1 _) ⟨w9.heap.size, 0, none⟩ 1 1 (encV (f, Value.slice ai bl ci)) rfl rfl (funV_new w9 (f, Value.slice ai bl ci)) (by simp [encV, Value.oneCell']) (by unfold maxLen; omega) (by omega) (by simp; omega) ?_; intro v3 w3 hown3 hgrow3 _ hat3))
      have HP3 := hide ((unhide HP9).snoc (unhide HY) hown3 hgrow3 hat3)
      have HR3 := hide (DrawFun.rd_grown (rd_alloc (unhide HR9) _) hgrow3 (fun k hk => by have := (World.ownsRow.lt (unhide HP9).1 k hk).1; omega))
      have HT3 := hide (DrawFun.turns_grown ((unhide HT9).alloc _) hgrow3 (fun k hk => (World.ownsRow.lt (unhide HP9).1 k hk).1))
      obtain ⟨a3, c3, e3⟩ := row_form (unhide HP3).1
      subst e3
      go_ret
      exact bent_fin (unhide HP3) (by simp; omega) (nm_snoc (unhide HN1) (nm_head (unhide HN1) (unhide HUS))) (by omega) (unhide HR3) (unhide HT3)
    by_cases h2 : v9 = 2
    · subst h2
      go_wp2_with fail
      go_ret
      exact bent_none hfl.2 (by omega) (unhide HR9) (unhide HT9)
    by_cases h3 : v9 = 3
    · subst h3
      have HNR := hide (prog_nil (unhide HP9) (unhide HUS))
      have HRL : Hid (r.length + 1 = us.length) := by show _ = _; rw [unhide HUS]; rfl
      go_wp2_with fail
      go_ret
      exact bent_row (unhide HNR) (nm_nil (unhide HN1) (unhide HUS)) (unhide HRL) hfl.1 hfl.2 (by omega) (by omega) (rd_set (unhide HR9) (by omega) _) ((unhide HT9).set (by omega) _)
    · have h0' : ¬ (v9 : Int) = 0 := by omega
      have h1' : ¬ (v9 : Int) = 1 := by omega
      have h2' : ¬ (v9 : Int) = 2 := by omega
      have h3' : ¬ (v9 : Int) = 3 := by omega
      go_wp2_with fail
      go_ret
      exact bent_fin (unhide HP9) (by omega) (unhide HN1) (by omega) (unhide HR9) (unhide HT9)
end Go.Proofs.YthbbmookhcalkaaGreatDoor.DrawR
