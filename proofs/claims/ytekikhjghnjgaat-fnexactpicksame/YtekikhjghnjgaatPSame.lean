/- The contracts of PickSame of both sides. -/
import Derived.Test.YtekikhjghnjgaatUSame
import Derived.Test.YtekikhjghnjgaatUU
import Derived.Deep.RegionHeld3
namespace Go.Proofs.Ytekikhjghnjgaat.PSame
open Go.ChangeShapes Go.WideShapes Go.ChangeAt Go.RowKit Go.Joins
open Go.Proofs.Ytekikhjghnjgaat.Base Go.Proofs.Ytekikhjghnjgaat.InsA Go.Proofs.Ytekikhjghnjgaat.Funs Go.Proofs.Ytekikhjghnjgaat.Open Go.Proofs.Ytekikhjghnjgaat.Keep Go.Proofs.Ytekikhjghnjgaat.Same Go.Proofs.Ytekikhjghnjgaat.USame Go.Proofs.Ytekikhjghnjgaat.UU
set_option linter.unusedVariables false
set_option maxRecDepth 100000

def pickEqB : List (List FunD) → List (List FunD) → Bool
  | [], [] => true
  | x :: xs, y :: ys => unitEqB x y && pickEqB xs ys
  | _, _ => false
theorem pickEqB_iff (xs : List (List FunD)) : ∀ ys, pickEqB xs ys = true ↔ xs = ys := by
  induction xs with
  | nil => intro ys; cases ys <;> simp [pickEqB]
  | cons x xs ih => intro ys; cases ys <;> simp [pickEqB, unitEqB_iff, ih]
theorem pick_ne {xs ys : List (List FunD)} (h : xs ≠ ys) : false = pickEqB xs ys := by
  cases hb : pickEqB xs ys
  · rfl
  · exact absurd ((pickEqB_iff xs ys).1 hb) h
theorem pick_len {xs ys : List (List FunD)} (h : xs.length ≠ ys.length) : false = pickEqB xs ys := pick_ne (fun e => h (by rw [e]))
theorem pick_at {xs ys : List (List FunD)} {k : Nat} (hx : k < xs.length) (hy : k < ys.length) (h : unitEqB xs[k] ys[k] = false) : false = pickEqB xs ys := by
  refine pick_ne (fun e => ?_)
  subst e
  rw [(unitEqB_iff _ _).2 rfl] at h
  cases h
theorem ptake_step {xs ys : List (List FunD)} {k : Nat} (hx : k < xs.length) (hy : k < ys.length) (h : unitEqB xs[k] ys[k] = true) (ht : xs.take k = ys.take k) : xs.take (k + 1) = ys.take (k + 1) := by
  rw [List.take_succ_eq_append_getElem hx, List.take_succ_eq_append_getElem hy, ht, (unitEqB_iff _ _).1 h]
theorem ptake_end {xs ys : List (List FunD)} {k : Nat} (hl : ys.length = xs.length) (hk : ¬ k < xs.length) (ht : xs.take k = ys.take k) : true = pickEqB xs ys := by
  rw [List.take_of_length_le (by omega), List.take_of_length_le (by omega)] at ht
  exact ((pickEqB_iff _ _).2 ht).symm

set_option maxHeartbeats 2000000 in
theorem specPSame_any (a a' : Option Addr) (cap cap' : Nat) (xs ys : List (List FunD)) (w : World) (hcap : xs.length ≤ cap) (hcm : cap ≤ maxLen) (hcap' : ys.length ≤ cap') (hcm' : cap' ≤ maxLen) (hR : UnitRow w a xs) (hQ : UnitRow w a' ys) :
    Calls Try.prog 17 #[.slice a xs.length cap, .slice a' ys.length cap'] w fun e w' => e = .returned (.bool (pickEqB xs ys)) ∧ Below w.heap.size w w' := by
  have HR := hide hR
  have HQ := hide hQ
  clear hR hQ
  unfold maxLen at hcm hcm'
  have hlen : (xs.length : Int) ≤ 9223372036854775807 := by omega
  have hlen' : (ys.length : Int) ≤ 9223372036854775807 := by omega
  by_cases hne : xs.length = ys.length
  · have hyx := hide hne.symm
    rw [unhide hyx]
    clear hne hlen' hcap' hcm'
    go_enter Try.func17, Try.ntmps17
    go_wp2_with fail
    go_loopw [5] (fun i w' => ∃ k : Nat, k ≤ xs.length ∧ i = .int .i64 k ∧ xs.take k = ys.take k ∧ Below w.heap.size w w') (fun i _ => xs.length - (intOf i).toNat)
    case atStart => exact ⟨0, Nat.zero_le _, rfl, rfl, Below.refl _ _⟩
    case round =>
      obtain ⟨k, hk, rfl, ht, hB⟩ := hrel
      have HT := hide ht
      clear ht
      by_cases hkl : k < xs.length
      · have hkl2 : k < ys.length := by rw [unhide hyx]; exact hkl
        obtain ⟨b, off, rfl⟩ := (unhide HR).get (by omega)
        obtain ⟨b', off', rfl⟩ := (unhide HQ).get (by omega)
        obtain ⟨ai, ci, c0, h4, h5, h6⟩ := ((unhide HR).below hB).at hkl
        obtain ⟨ai', ci', d0, h4', h5', h6'⟩ := ((unhide HQ).below hB).at hkl2
        have hkl' : (k : Int) < (xs.length : Int) := by omega
        have hk0 : (0 : Int) ≤ (k : Int) := by omega
        have HB1 := hide (pick_at hkl hkl2)
        have HB2 := hide (fun h => ptake_step hkl hkl2 h (unhide HT))
        generalize xs[k] = f at *
        generalize ys[k] = g at *
        have hS0 := And.intro h6 (And.intro h6' (And.intro c0 (And.intro d0 hB)))
        have HST : Hid (Stable (fun w' => FunRow w' ai f ∧ FunRow w' ai' g ∧ w'.cell? ⟨b, off + k, none⟩ = some (.slice ai f.length ci) ∧ w'.cell? ⟨b', off' + k, none⟩ = some (.slice ai' g.length ci') ∧ Below w.heap.size w w')) := (Stable.frow _ _).and ((Stable.frow _ _).and ((Stable.cell _ _).and ((Stable.cell _ _).and (Stable.below w))))
        clear c0 d0 hB h6 h6'
        go_wp2_with fail
        go_region_held3 (fun w' => FunRow w' ai f ∧ FunRow w' ai' g ∧ w'.cell? ⟨b, off + k, none⟩ = some (.slice ai f.length ci) ∧ w'.cell? ⟨b', off' + k, none⟩ = some (.slice ai' g.length ci') ∧ Below w.heap.size w w')
          (first | assumption | (refine (unhide HST).1 _ _ hbk ?_; assumption) | (refine (unhide HST).2 _ ?_; assumption))
          (first | (go_at_call 36; refine (specUSame_any ai ai' ci ci' f g _ h4 h5 h4' h5' (by apply s0; assumption) (by apply s1; assumption)).mono ?_; rintro e wk1 ⟨rfl, hbk⟩))
        have hS1 : (fun w' => FunRow w' ai f ∧ FunRow w' ai' g ∧ w'.cell? ⟨b, off + k, none⟩ = some (.slice ai f.length ci) ∧ w'.cell? ⟨b', off' + k, none⟩ = some (.slice ai' g.length ci') ∧ Below w.heap.size w w') wk1 := by assumption
        have hB1 := hS1.2.2.2.2
        clear hS0 hS1
        cases hxy : unitEqB f g
        · go_wp2_with fail
          go_ret
          exact ⟨ret_bool (unhide HB1 hxy), hB1⟩
        · go_wp2_with fail
          exact ⟨⟨k + 1, by omega, by go_num, unhide HB2 hxy, hB1⟩, by simp [intOf]; omega⟩
      · go_wp2_with fail
        go_ret
        exact ⟨ret_bool (ptake_end (unhide hyx) hkl (unhide HT)), hB⟩
  · have hne' : ¬ (xs.length : Int) = (ys.length : Int) := by omega
    have HE := hide (pick_len hne)
    go_enter Try.func17, Try.ntmps17
    go_wp2_with fail
    go_ret
    exact ⟨ret_bool (unhide HE), Below.refl _ _⟩

set_option maxHeartbeats 2000000 in
theorem equalFuncU_any (a a' : Option Addr) (cap cap' : Nat) (xs ys : List (List FunD)) (w : World) (hcap : xs.length ≤ cap) (hcm : cap ≤ maxLen) (hcap' : ys.length ≤ cap') (hcm' : cap' ≤ maxLen) (hR : UnitRow w a xs) (hQ : UnitRow w a' ys) :
    Calls Try.prog 37 #[.slice a xs.length cap, .slice a' ys.length cap', .func (.func 38) #[] #[]] w fun e w' => e = .returned (.bool (pickEqB xs ys)) ∧ Below w.heap.size w w' := by
  have HR := hide hR
  have HQ := hide hQ
  clear hR hQ
  unfold maxLen at hcm hcm'
  have hlen : (xs.length : Int) ≤ 9223372036854775807 := by omega
  have hlen' : (ys.length : Int) ≤ 9223372036854775807 := by omega
  by_cases hne : xs.length = ys.length
  · have hyx := hide hne.symm
    rw [unhide hyx]
    clear hne hlen' hcap' hcm'
    go_enter Try.func37, Try.ntmps37
    go_wp2_with fail
    go_loopw [17] (fun i w' => ∃ k : Nat, k ≤ xs.length ∧ i = .int .i64 k ∧ xs.take k = ys.take k ∧ Below w.heap.size w w') (fun i _ => xs.length - (intOf i).toNat)
    case atStart => exact ⟨0, Nat.zero_le _, rfl, rfl, Below.refl _ _⟩
    case round =>
      obtain ⟨k, hk, rfl, ht, hB⟩ := hrel
      have HT := hide ht
      clear ht
      by_cases hkl : k < xs.length
      · have hkl2 : k < ys.length := by rw [unhide hyx]; exact hkl
        obtain ⟨b, off, rfl⟩ := (unhide HR).get (by omega)
        obtain ⟨b', off', rfl⟩ := (unhide HQ).get (by omega)
        obtain ⟨ai, ci, c0, h4, h5, h6⟩ := ((unhide HR).below hB).at hkl
        obtain ⟨ai', ci', d0, h4', h5', h6'⟩ := ((unhide HQ).below hB).at hkl2
        have hkl' : (k : Int) < (xs.length : Int) := by omega
        have hk0 : (0 : Int) ≤ (k : Int) := by omega
        have HB1 := hide (pick_at hkl hkl2)
        have HB2 := hide (fun h => ptake_step hkl hkl2 h (unhide HT))
        generalize xs[k] = f at *
        generalize ys[k] = g at *
        have H6 := hide (And.intro h6 h6')
        clear h6 h6'
        go_wp2_with fail
        refine (implUSame_any ai ai' ci ci' f g _ h4 h5 h4' h5' (unhide H6).1 (unhide H6).2).mono ?_
        rintro e w1 ⟨rfl, hb1⟩
        have hB1 := bl_trans hB hb1
        clear c0 d0
        cases hxy : unitEqB f g
        · go_wp2_with fail
          go_ret
          exact ⟨ret_bool (unhide HB1 hxy), hB1⟩
        · go_wp2_with fail
          exact ⟨⟨k + 1, by omega, by go_num, unhide HB2 hxy, hB1⟩, by simp [intOf]; omega⟩
      · go_wp2_with fail
        go_ret
        exact ⟨ret_bool (ptake_end (unhide hyx) hkl (unhide HT)), hB⟩
  · have hne' : ¬ (xs.length : Int) = (ys.length : Int) := by omega
    have HE := hide (pick_len hne)
    go_enter Try.func37, Try.ntmps37
    go_wp2_with fail
    go_ret
    exact ⟨ret_bool (unhide HE), Below.refl _ _⟩

set_option maxHeartbeats 1000000 in
theorem implPSame_any (a a' : Option Addr) (cap cap' : Nat) (xs ys : List (List FunD)) (w : World) (hcap : xs.length ≤ cap) (hcm : cap ≤ maxLen) (hcap' : ys.length ≤ cap') (hcm' : cap' ≤ maxLen) (hR : UnitRow w a xs) (hQ : UnitRow w a' ys) :
    Calls Try.prog 18 #[.slice a xs.length cap, .slice a' ys.length cap'] w fun e w' => e = .returned (.bool (pickEqB xs ys)) ∧ Below w.heap.size w w' := by
  have HR := hide hR
  have HQ := hide hQ
  clear hR hQ
  go_enter Try.func18, Try.ntmps18
  go_wp2_with fail
  refine (equalFuncU_any a a' _ _ xs ys _ hcap hcm hcap' hcm' (unhide HR) (unhide HQ)).mono ?_
  rintro e w1 ⟨rfl, hb1⟩
  go_wp2_with fail
  go_ret
  exact ⟨rfl, hb1⟩
end Go.Proofs.Ytekikhjghnjgaat.PSame
