/- The contracts of both sides' ImageOk. -/
import Derived.Test.YthbbmookhcalkaaDoorImgD
import Derived.Test.YthbbmookhcalkaaDoorInsB
import Derived.Deep.RegionHeld3
import Derived.Deep.QuietTactic
import Derived.BigQuiet
namespace Go.Proofs.YthbbmookhcalkaaDoor.ImgOk
open Go.ChangeShapes Go.WideShapes Go.ChangeAt Go.RowKit Go.Joins
open Go.Proofs.YthbbmookhcalkaaDoor.Base Go.Proofs.YthbbmookhcalkaaDoor.InsA Go.Proofs.YthbbmookhcalkaaDoor.Keep Go.Proofs.YthbbmookhcalkaaDoor.LayN Go.Proofs.YthbbmookhcalkaaDoor.CellA Go.Proofs.YthbbmookhcalkaaDoor.Sum Go.Proofs.YthbbmookhcalkaaDoor.ImgD
open Go.Proofs.YthbbmookhcalkaaDoor.InsB (isKindB hasNumber_any isKind_any)
set_option linter.unusedVariables false
set_option maxRecDepth 100000

theorem cut_fit (n : Int) : (n == cut n) = (decide (-1000 ≤ n) && decide (n ≤ 1000)) := by
  rw [Bool.eq_iff_iff]
  simp only [beq_iff_eq, Bool.and_eq_true, decide_eq_true_iff]
  constructor
  · intro e; have := cut_bd n; omega
  · intro ⟨h1, h2⟩; exact (cut_id h1 h2).symm
theorem refs_not {o : Int} (h : refsB o = false) : o ≠ 3 ∧ o ≠ 4 ∧ o ≠ 5 := by
  simp only [refsB, Bool.or_eq_false_iff, beq_eq_false_iff_ne] at h
  exact ⟨h.1.1, h.1.2, h.2⟩
/-- A place in a row of cells. -/
theorem row_at {w : World} {b off : Nat} {l : List CellD} {q : Int} (h : CellRow w (some ⟨b, off, none⟩) l) (h0 : 0 ≤ q) (h1 : q < (l.length : Int)) :
    w.cell? ⟨b, off + q.toNat * 2, none⟩ = some (.int .i64 (cellOf l q).f) ∧ w.cell? ⟨b, off + q.toNat * 2 + 1, none⟩ = some (.int .i64 (cellOf l q).p) := by
  have hk : q.toNat < l.length := by omega
  have := h.cells hk
  have e : cellOf l q = l[q.toNat] := by unfold cellOf; simp [List.getD, List.getElem?_eq_getElem hk]
  rw [e]; exact this
theorem reachW_any (r : Int) (w : World) : Calls Tryd.prog 56 #[.int .i64 r] w fun e w' => e = .returned (.bool (decide (1 ≤ r) && decide (r ≤ 100))) ∧ w' = w := by
  by_cases h0 : 1 ≤ r
  · go_enter Tryd.func56, Tryd.ntmps56
    go_wp2_with fail
    go_ret
    exact ⟨ret_bool (by simp [h0]), rfl⟩
  · go_enter Tryd.func56, Tryd.ntmps56
    go_wp2_with fail
    go_ret
    exact ⟨ret_bool (by simp; omega), rfl⟩
theorem isPlace_any (a : Option Addr) (n cap : Nat) (q : Int) (w : World) (hn : (n : Int) ≤ 9223372036854775807) : Calls Tryd.prog 78 #[.slice a n cap, .int .i64 q] w fun e w' => e = .returned (.bool (decide (0 ≤ q) && decide (q < (n : Int)))) ∧ w' = w := by
  by_cases h0 : 0 ≤ q
  · go_enter Tryd.func78, Tryd.ntmps78
    go_wp2_with fail
    go_ret
    exact ⟨ret_bool (by simp [h0]), rfl⟩
  · go_enter Tryd.func78, Tryd.ntmps78
    go_wp2_with fail
    go_ret
    exact ⟨ret_bool (by simp; omega), rfl⟩
theorem cellLast_any (o : Int) (w : World) : Calls Tryd.prog 58 #[.int .i64 o] w fun e w' => e = .returned (.bool (lastB o || o == 8)) ∧ w' = w := by
  by_cases h8 : o = 8
  · subst h8
    go_enter Tryd.func58, Tryd.ntmps58
    go_wp2_with fail
    go_ret
    exact ⟨rfl, rfl⟩
  · have HE : Hid (lastB o = (lastB o || o == 8)) := by show _ = _; rw [show (o == 8) = false by simpa using h8]; simp
    go_enter Tryd.func58, Tryd.ntmps58
    go_wp2_with fail
    refine (isLast_any _ _).mono ?_
    rintro e w1 ⟨rfl, rfl⟩
    go_wp2_with fail
    go_ret
    exact ⟨ret_bool (Bool.or_comm _ _), rfl⟩
set_option maxHeartbeats 4000000 in
theorem cellOk_any (a : Option Addr) (cap : Nat) (l : List CellD) (r : Int) (k : Nat) (w : World) (hcap : l.length ≤ cap) (hcm : cap ≤ maxLen) (hl : l.length ≤ 800) (hr0 : 1 ≤ r) (hr1 : r ≤ 100) (hk : k < l.length) (hR : CellRow w a l) :
    Calls Tryd.prog 57 #[.slice a l.length cap, .int .i64 r, .int .i64 (k : Int)] w fun e w' => e = .returned (.bool (oneB l r k (cellOf l k))) ∧ Below w.heap.size w w' := by
  obtain ⟨b, off, rfl⟩ := hR.get (by omega)
  obtain ⟨c0, c1⟩ := row_at hR (q := (k : Int)) (by omega) (by omega)
  simp only [Int.toNat_natCast] at c0 c1
  have HR := hide hR
  clear hR
  have hk' : (k : Int) < (l.length : Int) := by omega
  have hk0 : (0 : Int) ≤ (k : Int) := by omega
  have hl' : (l.length : Int) ≤ 800 := by omega
  have HO : Hid (oneB l r k (cellOf l k) = oneB l r k (cellOf l k)) := rfl
  generalize hx : cellOf l (k : Int) = x at *
  obtain ⟨f, p⟩ := x
  dsimp only at c0 c1
  clear hx
  by_cases h8 : f = 8
  · subst h8
    by_cases hp : 0 ≤ p ∧ p < (l.length : Int)
    · obtain ⟨hp0, hp1⟩ := hp
      have d0 := (row_at (unhide HR) hp0 hp1).1
      have HE : Hid ((!decide ((cellOf l p).f = 8)) = oneB l r k ⟨8, p⟩) := by
        show _ = _; unfold oneB; rw [if_pos rfl, decide_eq_true hp0, decide_eq_true hp1]; rfl
      generalize (cellOf l p).f = g at *
      have hpn : ((p.toNat : Nat) : Int) = p := by omega
      obtain ⟨m, rfl⟩ : ∃ m : Nat, p = m := ⟨p.toNat, by omega⟩
      simp only [Int.toNat_natCast] at d0
      clear hpn
      have HB := isPlace_any (some ⟨b, off, none⟩) l.length cap (m : Int)
      have hl63 : (l.length : Int) ≤ 9223372036854775807 := by omega
      rw [decide_eq_true hp0, decide_eq_true hp1] at HB
      go_enter Tryd.func57, Tryd.ntmps57
      go_wp2_with fail
      go_quiet (fail)
      go_wp2_with fail
      refine (HB _ hl63).mono ?_
      rintro e w1 ⟨rfl, rfl⟩
      go_wp2_with fail
      go_ret
      exact ⟨ret_bool (by first | exact unhide HE | (rw [← unhide HE]; first | rfl | simp | (cases hg : decide (g = 8) <;> simp_all))), by first | exact Below.refl _ _ | exact bl_drewN (Below.refl _ _) _ | exact (Below.refl _ _).drew⟩
    · have HE : Hid (false = oneB l r k ⟨8, p⟩) := by
        show _ = _; unfold oneB; rw [if_pos rfl]; symm
        rw [← Bool.not_eq_true]; intro h
        simp only [Bool.and_eq_true, decide_eq_true_iff] at h
        exact hp ⟨h.1, h.2.1⟩
      have HB := isPlace_any (some ⟨b, off, none⟩) l.length cap p
      have hl63 : (l.length : Int) ≤ 9223372036854775807 := by omega
      rw [show (decide (0 ≤ p) && decide (p < (l.length : Int))) = false by rw [← Bool.not_eq_true]; intro h; simp only [Bool.and_eq_true, decide_eq_true_iff] at h; exact hp h] at HB
      go_enter Tryd.func57, Tryd.ntmps57
      go_wp2_with fail
      go_quiet (fail)
      go_wp2_with fail
      refine (HB _ hl63).mono ?_
      rintro e w1 ⟨rfl, rfl⟩
      go_wp2_with fail
      go_ret
      exact ⟨ret_bool (unhide HE), by first | exact Below.refl _ _ | exact bl_drewN (Below.refl _ _) _ | exact (Below.refl _ _).drew⟩
  by_cases h2 : f = 2
  · subst h2
    have HE : Hid ((p == cut p) = oneB l r k ⟨2, p⟩) := by
      show _ = _; unfold oneB; rw [if_neg (show ¬ (2 : Int) = 8 by decide), if_pos rfl]; exact cut_fit p
    go_enter Tryd.func57, Tryd.ntmps57
    go_wp2_with fail
    go_quiet (fail)
    go_wp2_with fail
    refine (hasNumber_any _ _).mono ?_
    rintro e w1 ⟨rfl, rfl⟩
    go_wp2_with fail
    refine (cutNumber_any _ _).mono ?_
    rintro e w2 ⟨rfl, rfl⟩
    go_wp2_with fail
    go_ret
    exact ⟨ret_bool (unhide HE), by first | exact Below.refl _ _ | exact bl_drewN (Below.refl _ _) _ | exact (Below.refl _ _).drew⟩
  have hN := hasNumber_any f
  rw [show (f == 2) = false by simpa using h2] at hN
  cases hrf : refsB f
  · have HE : Hid ((isKindB f && p == 0) = oneB l r k ⟨f, p⟩) := by
      show _ = _; unfold oneB; rw [if_neg h8, if_neg h2, if_neg (by rw [hrf]; simp)]
      obtain ⟨h3, h4, h5⟩ := refs_not hrf
      rw [Bool.eq_iff_iff]
      simp [isKindB]
      omega
    have hM := hasName_any f
    rw [hrf] at hM
    have hK := isKind_any f
    cases hkd : isKindB f
    · rw [hkd] at hK HE
      go_enter Tryd.func57, Tryd.ntmps57
      go_wp2_with fail
      go_quiet (fail)
      go_wp2_with fail
      refine (hN _).mono ?_
      rintro e w1 ⟨rfl, rfl⟩
      go_wp2_with fail
      refine (hM _).mono ?_
      rintro e w1 ⟨rfl, rfl⟩
      go_wp2_with fail
      refine (hK _).mono ?_
      rintro e w1 ⟨rfl, rfl⟩
      go_wp2_with fail
      go_ret
      exact ⟨ret_bool (by rw [← unhide HE]; rfl), by first | exact Below.refl _ _ | exact bl_drewN (Below.refl _ _) _ | exact (Below.refl _ _).drew⟩
    · rw [hkd] at hK HE
      go_enter Tryd.func57, Tryd.ntmps57
      go_wp2_with fail
      go_quiet (fail)
      go_wp2_with fail
      refine (hN _).mono ?_
      rintro e w1 ⟨rfl, rfl⟩
      go_wp2_with fail
      refine (hM _).mono ?_
      rintro e w1 ⟨rfl, rfl⟩
      go_wp2_with fail
      refine (hK _).mono ?_
      rintro e w1 ⟨rfl, rfl⟩
      go_wp2_with fail
      go_ret
      exact ⟨ret_bool (by rw [← unhide HE]; rfl), by first | exact Below.refl _ _ | exact bl_drewN (Below.refl _ _) _ | exact (Below.refl _ _).drew⟩
  · have HE : Hid ((decide (-r ≤ p) && (decide (p ≤ r) && (decide (0 ≤ (k : Int) + p) && decide ((k : Int) + p < (l.length : Int))))) = oneB l r k ⟨f, p⟩) := by
      show _ = _; unfold oneB; rw [if_neg h8, if_neg h2, if_pos hrf]
    have hM := hasName_any f
    rw [hrf] at hM
    by_cases hp0 : -r ≤ p
    · by_cases hp1 : p ≤ r
      · have HE2 : Hid ((decide (0 ≤ (k : Int) + p) && decide ((k : Int) + p < (l.length : Int))) = oneB l r k ⟨f, p⟩) := by
          show _ = _; rw [← unhide HE, decide_eq_true hp0, decide_eq_true hp1]; rfl
        have HB := isPlace_any (some ⟨b, off, none⟩) l.length cap ((k : Int) + p)
        have hl63 : (l.length : Int) ≤ 9223372036854775807 := by omega
        rw [unhide HE2] at HB
        go_enter Tryd.func57, Tryd.ntmps57
        go_wp2_with fail
        go_quiet (fail)
        go_wp2_with fail
        refine (hN _).mono ?_
        rintro e w1 ⟨rfl, rfl⟩
        go_wp2_with fail
        refine (hM _).mono ?_
        rintro e w1 ⟨rfl, rfl⟩
        go_wp2_with fail
        refine (HB _ hl63).mono ?_
        rintro e w1 ⟨rfl, rfl⟩
        go_wp2_with fail
        go_ret
        exact ⟨rfl, by first | exact Below.refl _ _ | exact bl_drewN (Below.refl _ _) _ | exact (Below.refl _ _).drew⟩
      · have HE2 : Hid (false = oneB l r k ⟨f, p⟩) := by
          show _ = _; rw [← unhide HE, decide_eq_false hp1]; simp
        go_enter Tryd.func57, Tryd.ntmps57
        go_wp2_with fail
        go_quiet (fail)
        go_wp2_with fail
        refine (hN _).mono ?_
        rintro e w1 ⟨rfl, rfl⟩
        go_wp2_with fail
        refine (hM _).mono ?_
        rintro e w1 ⟨rfl, rfl⟩
        go_wp2_with fail
        go_ret
        exact ⟨ret_bool (unhide HE2), by first | exact Below.refl _ _ | exact bl_drewN (Below.refl _ _) _ | exact (Below.refl _ _).drew⟩
    · have HE2 : Hid (false = oneB l r k ⟨f, p⟩) := by
        show _ = _; rw [← unhide HE, decide_eq_false hp0]; simp
      go_enter Tryd.func57, Tryd.ntmps57
      go_wp2_with fail
      go_quiet (fail)
      go_wp2_with fail
      refine (hN _).mono ?_
      rintro e w1 ⟨rfl, rfl⟩
      go_wp2_with fail
      refine (hM _).mono ?_
      rintro e w1 ⟨rfl, rfl⟩
      go_wp2_with fail
      go_ret
      exact ⟨ret_bool (unhide HE2), by first | exact Below.refl _ _ | exact bl_drewN (Below.refl _ _) _ | exact (Below.refl _ _).drew⟩
set_option maxHeartbeats 4000000 in
theorem implImageOk_any (a : Option Addr) (cap : Nat) (l : List CellD) (r : Int) (w : World) (hcap : l.length ≤ cap) (hcm : cap ≤ maxLen) (hR : CellRow w a l) :
    Calls Tryd.prog 36 #[.slice a l.length cap, .int .i64 r] w fun e w' => e = .returned (.bool (imageB l r)) ∧ Below w.heap.size w w' := by
  have HR := hide hR
  clear hR
  unfold maxLen at hcm
  have hl63 : (l.length : Int) ≤ 9223372036854775807 := by omega
  by_cases h1 : (l.length : Int) < 1
  · have HE : Hid (false = imageB l r) := image_head (head_no (.inl (by omega)))
    go_enter Tryd.func36, Tryd.ntmps36
    go_wp2_with fail
    go_ret
    exact ⟨ret_bool (unhide HE), Below.refl _ _⟩
  by_cases h2 : 800 < (l.length : Int)
  · have HE : Hid (false = imageB l r) := image_head (head_no (.inr (.inl (by omega))))
    go_enter Tryd.func36, Tryd.ntmps36
    go_wp2_with fail
    go_ret
    exact ⟨ret_bool (unhide HE), Below.refl _ _⟩
  have hRe := reachW_any r
  by_cases h3 : 1 ≤ r ∧ r ≤ 100
  rotate_left
  · have HE : Hid (false = imageB l r) := image_head (head_no (.inr (.inr (by omega))))
    rw [show (decide (1 ≤ r) && decide (r ≤ 100)) = false by rw [← Bool.not_eq_true]; intro h; simp only [Bool.and_eq_true, decide_eq_true_iff] at h; exact h3 h] at hRe
    go_enter Tryd.func36, Tryd.ntmps36
    go_wp2_with fail
    refine (hRe _).mono ?_
    rintro e w1 ⟨rfl, rfl⟩
    go_wp2_with fail
    go_ret
    exact ⟨ret_bool (unhide HE), Below.refl _ _⟩
  obtain ⟨h3, h4⟩ := h3
  rw [decide_eq_true h3, decide_eq_true h4] at hRe
  have HH : Hid (headB l r = true) := head_mk (by omega) (by omega) h3 h4
  go_enter Tryd.func36, Tryd.ntmps36
  go_wp2_with fail
  refine (hRe _).mono ?_
  rintro e w1 ⟨rfl, rfl⟩
  clear hRe
  go_wp2_with fail
  go_loopw [21] (fun i w' => ∃ k : Nat, k ≤ l.length ∧ i = .int .i64 k ∧ Hid (GoodTo l r k) ∧ Below w1.heap.size w1 w') (fun i _ => l.length - (intOf i).toNat)
  case atStart => exact ⟨0, Nat.zero_le _, rfl, GoodTo.zero _ _, Below.refl _ _⟩
  case round =>
    obtain ⟨k, hk, rfl, HG, hB⟩ := hrel
    by_cases hkl : k < l.length
    · have hkl' : (k : Int) < (l.length : Int) := by omega
      go_wp2_with fail
      refine (cellOk_any a cap l r k _ hcap (by unfold maxLen; omega) (by omega) h3 h4 hkl ((unhide HR).below hB)).mono ?_
      cases hone : oneB l r k (cellOf l k)
      · have HE : Hid (false = imageB l r) := image_no hkl hone
        clear hone
        rintro e w2 ⟨rfl, hb2⟩
        have hB2 := bl_trans hB hb2
        clear hB hb2
        go_wp2_with fail
        go_ret
        exact ⟨ret_bool (unhide HE), hB2⟩
      · have HG2 : Hid (GoodTo l r (k + 1)) := (unhide HG).step hone
        clear hone
        rintro e w2 ⟨rfl, hb2⟩
        have hB2 := bl_trans hB hb2
        clear hB hb2
        go_wp2_with fail
        exact ⟨⟨k + 1, by omega, by go_num, HG2, hB2⟩, by simp [intOf]; omega⟩
    · have hke : k = l.length := by omega
      have HE : Hid (endB l = imageB l r) := image_yes (unhide HH) (hke ▸ unhide HG)
      obtain ⟨b, off, rfl⟩ := (unhide HR).get (by omega)
      have c0 := (row_at ((unhide HR).below hB) (q := (l.length : Int) - 1) (by omega) (by omega)).1
      have HX : Hid (cellOf l ((l.length : Int) - 1) = cellOf l (l.length - 1 : Nat)) := by show _ = _; congr 1; omega
      rw [unhide HX, show ((l.length : Int) - 1).toNat = l.length - 1 by omega] at c0
      have HL : Hid (endB l = (lastB (cellOf l (l.length - 1 : Nat)).f || (cellOf l (l.length - 1 : Nat)).f == 8)) := rfl
      generalize (cellOf l (l.length - 1 : Nat)).f = g at *
      obtain ⟨m, hm⟩ : ∃ m : Nat, m + 1 = l.length := ⟨l.length - 1, by omega⟩
      have hmi : (l.length : Int) - 1 = (m : Int) := by omega
      rw [show l.length - 1 = m by omega] at c0
      have hml : m < l.length := by omega
      have hkl2 : ¬ (k : Int) < (l.length : Int) := by omega
      clear HX HG hk hke hm
      go_wp2_with fail
      refine (cellLast_any _ _).mono ?_
      rintro e w2 ⟨rfl, rfl⟩
      go_wp2_with fail
      go_ret
      exact ⟨ret_bool (by rw [← unhide HE, unhide HL]), hB⟩
set_option maxHeartbeats 1000000 in
theorem l8Refs_any (f p : Int) (w : World) : Calls Tryd.prog 33 #[.agg #[.int .i64 f, .int .i64 p]] w fun e w' => e = .returned (.bool (refsB f)) ∧ Below w.heap.size w w' := by
  go_enter Tryd.func33, Tryd.ntmps33
  go_wp2_with fail
  refine (specRefs_any _ _ _ _).mono ?_
  rintro e w1 ⟨rfl, hb1⟩
  have hB := bl_trans (below_alloc1 w (.cells #[.int .i64 f, .int .i64 p] 65)) hb1
  go_wp2_with fail
  go_ret
  exact ⟨rfl, hB⟩
set_option maxHeartbeats 1000000 in
theorem l8Ends_any (a : Option Addr) (cap : Nat) (l : List CellD) (w : World) (hcap : l.length ≤ cap) (hcm : cap ≤ maxLen) (h1 : 1 ≤ l.length) (hl : l.length ≤ 800) (hR : CellRow w a l) :
    Calls Tryd.prog 54 #[.slice a l.length cap] w fun e w' => e = .returned (.bool (endB l)) ∧ Below w.heap.size w w' := by
  have HR := hide hR
  clear hR
  obtain ⟨b, off, rfl⟩ := (unhide HR).get (by omega)
  obtain ⟨m, hm⟩ : ∃ m : Nat, m + 1 = l.length := ⟨l.length - 1, by omega⟩
  have hmi : (l.length : Int) - 1 = (m : Int) := by omega
  have hml : (m : Int) < (l.length : Int) := by omega
  have hl' : (l.length : Int) ≤ 800 := by omega
  have c0 := (row_at (unhide HR) (q := (m : Int)) (by omega) hml).1
  have HL : Hid (endB l = (lastB (cellOf l (m : Int)).f || (cellOf l (m : Int)).f == 8)) := by
    show _ = _; unfold endB; rw [show l.length - 1 = m by omega]
  simp only [Int.toNat_natCast] at c0
  have hS := specLast_any (cellOf l (m : Int)).f 0 ByteArray.empty
  generalize (cellOf l (m : Int)).f = g at *
  clear hm
  cases hg : lastB g
  · rw [hg] at hS HL
    go_enter Tryd.func54, Tryd.ntmps54
    go_wp2_with fail
    refine (hS _).mono ?_
    rintro e w1 ⟨rfl, hb1⟩
    have c1 := cell_below hb1 c0
    clear c0
    go_wp2_with fail
    go_ret
    exact ⟨ret_bool (by rw [unhide HL]; rfl), hb1⟩
  · rw [hg] at hS HL
    go_enter Tryd.func54, Tryd.ntmps54
    go_wp2_with fail
    refine (hS _).mono ?_
    rintro e w1 ⟨rfl, hb1⟩
    clear c0
    go_wp2_with fail
    go_ret
    exact ⟨ret_bool (by rw [unhide HL]; rfl), hb1⟩
set_option maxHeartbeats 8000000 in
theorem l8One_any (a : Option Addr) (cap : Nat) (l : List CellD) (r : Int) (k : Nat) (w : World) (hcap : l.length ≤ cap) (hcm : cap ≤ maxLen) (hl : l.length ≤ 800) (hr0 : 1 ≤ r) (hr1 : r ≤ 100) (hk : k < l.length) (hR : CellRow w a l) :
    Calls Tryd.prog 55 #[.slice a l.length cap, .int .i64 (k : Int), .int .i64 r] w fun e w' => e = .returned (.bool (oneB l r k (cellOf l k))) ∧ Below w.heap.size w w' := by
  obtain ⟨b, off, rfl⟩ := hR.get (by omega)
  obtain ⟨c0, c1⟩ := row_at hR (q := (k : Int)) (by omega) (by omega)
  simp only [Int.toNat_natCast] at c0 c1
  have HR := hide hR
  clear hR
  have hk' : (k : Int) < (l.length : Int) := by omega
  have hk0 : (0 : Int) ≤ (k : Int) := by omega
  have hl' : (l.length : Int) ≤ 800 := by omega
  generalize hx : cellOf l (k : Int) = x at *
  obtain ⟨f, p⟩ := x
  dsimp only at c0 c1
  clear hx
  have hb0 := below_alloc1 w (.cells #[.int .i64 f, .int .i64 p] 65)
  have hS := l8Refs_any f p
  cases hrf : refsB f
  · rw [hrf] at hS
    have hrn := refs_not hrf
    go_enter Tryd.func55, Tryd.ntmps55
    go_wp2_with fail
    refine (hS _).mono ?_
    rintro e w1 ⟨rfl, hb1⟩
    have hB := bl_trans hb0 hb1
    have hX := box_below (new_block w (.cells #[.int .i64 f, .int .i64 p] 65)) hb1
    have x0 : w1.cell? ⟨w.heap.size, 0, none⟩ = some (.int .i64 f) := by rw [cell_of_block hX]; rfl
    have x1 : w1.cell? ⟨w.heap.size, 1, none⟩ = some (.int .i64 p) := by rw [cell_of_block hX]; rfl
    clear hX hb0 hb1 c0 c1 hS
    by_cases h8 : f = 8
    · subst h8
      have HE : Hid (oneB l r k ⟨8, p⟩ = (decide (0 ≤ p) && (decide (p < (l.length : Int)) && !decide ((cellOf l p).f = 8)))) := by
        show _ = _; unfold oneB; rw [if_pos rfl]
      by_cases hp0 : 0 ≤ p
      · by_cases hp1 : p < (l.length : Int)
        · have d0 := (row_at ((unhide HR).below hB) hp0 hp1).1
          rw [decide_eq_true hp0, decide_eq_true hp1] at HE
          generalize (cellOf l p).f = g at *
          obtain ⟨m, rfl⟩ : ∃ m : Nat, p = m := ⟨p.toNat, by omega⟩
          simp only [Int.toNat_natCast] at d0
          go_wp2_with fail
          go_ret
          exact ⟨ret_bool (by rw [unhide HE]; first | rfl | simp), hB⟩
        · rw [decide_eq_false hp1] at HE
          go_wp2_with fail
          go_ret
          exact ⟨ret_bool (by rw [unhide HE]; simp), hB⟩
      · rw [decide_eq_false hp0] at HE
        go_wp2_with fail
        go_ret
        exact ⟨ret_bool (by rw [unhide HE]; rfl), hB⟩
    by_cases h2 : f = 2
    · subst h2
      have HE : Hid (oneB l r k ⟨2, p⟩ = (decide (-1000 ≤ p) && decide (p ≤ 1000))) := by
        show _ = _; unfold oneB; rw [if_neg (show ¬ (2 : Int) = 8 by decide), if_pos rfl]
      by_cases hp0 : -1000 ≤ p
      · rw [decide_eq_true hp0] at HE
        go_wp2_with fail
        go_ret
        exact ⟨ret_bool (by rw [unhide HE]; simp), hB⟩
      · rw [decide_eq_false hp0] at HE
        go_wp2_with fail
        go_ret
        exact ⟨ret_bool (by rw [unhide HE]; rfl), hB⟩
    have HE : Hid (oneB l r k ⟨f, p⟩ = ((f == 1 || f == 6 || f == 7) && p == 0)) := by
      show _ = _; unfold oneB; rw [if_neg h8, if_neg h2, if_neg (by rw [hrf]; simp)]
    by_cases h1 : f = 1
    · subst h1
      go_wp2_with fail
      go_ret
      exact ⟨ret_bool (by rw [unhide HE]; simp), hB⟩
    by_cases h6 : f = 6
    · subst h6
      go_wp2_with fail
      go_ret
      exact ⟨ret_bool (by rw [unhide HE]; simp), hB⟩
    by_cases h7 : f = 7
    · subst h7
      go_wp2_with fail
      go_ret
      exact ⟨ret_bool (by rw [unhide HE]; simp), hB⟩
    · have HF : Hid (false = oneB l r k ⟨f, p⟩) := by show _ = _; rw [unhide HE]; simp [h1, h6, h7]
      go_wp2_with fail
      go_ret
      exact ⟨ret_bool (unhide HF), hB⟩
  · rw [hrf] at hS
    have HE : Hid (oneB l r k ⟨f, p⟩ = (decide (-r ≤ p) && (decide (p ≤ r) && (decide (0 ≤ (k : Int) + p) && decide ((k : Int) + p < (l.length : Int)))))) := by
      have h8 : f ≠ 8 := by intro e; rw [e] at hrf; cases hrf
      have h2 : f ≠ 2 := by intro e; rw [e] at hrf; cases hrf
      show _ = _; unfold oneB; rw [if_neg h8, if_neg h2, if_pos hrf]
    clear hrf
    go_enter Tryd.func55, Tryd.ntmps55
    go_wp2_with fail
    refine (hS _).mono ?_
    rintro e w1 ⟨rfl, hb1⟩
    have hB := bl_trans hb0 hb1
    have hX := box_below (new_block w (.cells #[.int .i64 f, .int .i64 p] 65)) hb1
    have x0 : w1.cell? ⟨w.heap.size, 0, none⟩ = some (.int .i64 f) := by rw [cell_of_block hX]; rfl
    have x1 : w1.cell? ⟨w.heap.size, 1, none⟩ = some (.int .i64 p) := by rw [cell_of_block hX]; rfl
    clear hX hb0 hb1 c0 c1 hS
    by_cases hp0 : -r ≤ p
    · by_cases hp1 : p ≤ r
      · rw [decide_eq_true hp0, decide_eq_true hp1] at HE
        by_cases hq0 : 0 ≤ (k : Int) + p
        · rw [decide_eq_true hq0] at HE
          go_wp2_with fail
          go_ret
          exact ⟨ret_bool (by rw [unhide HE]; first | rfl | simp), hB⟩
        · rw [decide_eq_false hq0] at HE
          go_wp2_with fail
          go_ret
          exact ⟨ret_bool (by rw [unhide HE]; first | rfl | simp), hB⟩
      · rw [decide_eq_false hp1] at HE
        go_wp2_with fail
        go_ret
        exact ⟨ret_bool (by rw [unhide HE]; simp), hB⟩
    · rw [decide_eq_false hp0] at HE
      go_wp2_with fail
      go_ret
      exact ⟨ret_bool (by rw [unhide HE]; simp), hB⟩
set_option maxHeartbeats 4000000 in
theorem specImageOk_any (a : Option Addr) (cap : Nat) (l : List CellD) (r : Int) (w : World) (hcap : l.length ≤ cap) (hcm : cap ≤ maxLen) (hR : CellRow w a l) :
    Calls Tryd.prog 31 #[.slice a l.length cap, .int .i64 r] w fun e w' => e = .returned (.bool (imageB l r)) ∧ Below w.heap.size w w' := by
  have HR := hide hR
  clear hR
  unfold maxLen at hcm
  have hl63 : (l.length : Int) ≤ 9223372036854775807 := by omega
  by_cases h1 : (l.length : Int) < 1
  · have HE : Hid (false = imageB l r) := image_head (head_no (.inl (by omega)))
    go_enter Tryd.func31, Tryd.ntmps31
    go_wp2_with fail
    go_ret
    exact ⟨ret_bool (unhide HE), Below.refl _ _⟩
  by_cases h2 : 800 < (l.length : Int)
  · have HE : Hid (false = imageB l r) := image_head (head_no (.inr (.inl (by omega))))
    go_enter Tryd.func31, Tryd.ntmps31
    go_wp2_with fail
    go_ret
    exact ⟨ret_bool (unhide HE), Below.refl _ _⟩
  by_cases h3 : r < 1
  · have HE : Hid (false = imageB l r) := image_head (head_no (.inr (.inr (by omega))))
    go_enter Tryd.func31, Tryd.ntmps31
    go_wp2_with fail
    go_ret
    exact ⟨ret_bool (unhide HE), Below.refl _ _⟩
  by_cases h4 : 100 < r
  · have HE : Hid (false = imageB l r) := image_head (head_no (.inr (.inr (by omega))))
    go_enter Tryd.func31, Tryd.ntmps31
    go_wp2_with fail
    go_ret
    exact ⟨ret_bool (unhide HE), Below.refl _ _⟩
  have HH : Hid (headB l r = true) := head_mk (by omega) (by omega) (by omega) (by omega)
  go_enter Tryd.func31, Tryd.ntmps31
  go_wp2_with fail
  refine (l8Ends_any a cap l _ hcap (by unfold maxLen; omega) (by omega) (by omega) (unhide HR)).mono ?_
  cases hen : endB l
  · have HE : Hid (false = imageB l r) := image_end hen
    clear hen
    rintro e w1 ⟨rfl, hb1⟩
    go_wp2_with fail
    go_ret
    exact ⟨ret_bool (unhide HE), hb1⟩
  have HEN := hide hen
  clear hen
  rintro e w1 ⟨rfl, hb1⟩
  go_wp2_with fail
  go_loopw [5] (fun i w' => ∃ k : Nat, k ≤ l.length ∧ i = .int .i64 k ∧ Hid (GoodTo l r k) ∧ Below w.heap.size w w') (fun i _ => l.length - (intOf i).toNat)
  case atStart => exact ⟨0, Nat.zero_le _, rfl, GoodTo.zero _ _, hb1⟩
  case round =>
    obtain ⟨k, hk, rfl, HG, hB⟩ := hrel
    by_cases hkl : k < l.length
    · have hkl' : (k : Int) < (l.length : Int) := by omega
      go_wp2_with fail
      refine (l8One_any a cap l r k _ hcap (by unfold maxLen; omega) (by omega) (by omega) (by omega) hkl ((unhide HR).below hB)).mono ?_
      cases hone : oneB l r k (cellOf l k)
      · have HE : Hid (false = imageB l r) := image_no hkl hone
        clear hone
        rintro e w2 ⟨rfl, hb2⟩
        have hB2 := bl_trans hB hb2
        clear hB hb2
        go_wp2_with fail
        go_ret
        exact ⟨ret_bool (unhide HE), hB2⟩
      · have HG2 : Hid (GoodTo l r (k + 1)) := (unhide HG).step hone
        clear hone
        rintro e w2 ⟨rfl, hb2⟩
        have hB2 := bl_trans hB hb2
        clear hB hb2
        go_wp2_with fail
        exact ⟨⟨k + 1, by omega, by go_num, HG2, hB2⟩, by simp [intOf]; omega⟩
    · have hke : k = l.length := by omega
      have HE : Hid (true = imageB l r) := image_all (unhide HH) (unhide HEN) (hke ▸ unhide HG)
      have hkl2 : ¬ (k : Int) < (l.length : Int) := by omega
      clear hke
      go_wp2_with fail
      go_ret
      exact ⟨ret_bool (unhide HE), hB⟩
end Go.Proofs.YthbbmookhcalkaaDoor.ImgOk
