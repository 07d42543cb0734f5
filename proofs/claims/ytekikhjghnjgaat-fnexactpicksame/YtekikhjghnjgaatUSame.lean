/- The contracts of UnitSame of both sides. -/
import Derived.Test.YtekikhjghnjgaatSame
import Derived.Test.YtekikhjghnjgaatKeep
import Derived.Deep.RegionHeld3
namespace Go.Proofs.Ytekikhjghnjgaat.USame
open Go.ChangeShapes Go.WideShapes Go.ChangeAt Go.RowKit Go.Joins
open Go.Proofs.Ytekikhjghnjgaat.Base Go.Proofs.Ytekikhjghnjgaat.InsA Go.Proofs.Ytekikhjghnjgaat.Funs Go.Proofs.Ytekikhjghnjgaat.Open Go.Proofs.Ytekikhjghnjgaat.Keep Go.Proofs.Ytekikhjghnjgaat.Same
set_option linter.unusedVariables false
set_option maxRecDepth 100000

def sameB (f g : FunD) : Bool := funEqB f.nm g.nm f.wk g.wk f.body g.body
def unitEqB : List FunD → List FunD → Bool
  | [], [] => true
  | x :: xs, y :: ys => sameB x y && unitEqB xs ys
  | _, _ => false
theorem sameB_iff (f g : FunD) : sameB f g = true ↔ f = g := by
  obtain ⟨a, b, c⟩ := f
  obtain ⟨d, e, h⟩ := g
  simp [sameB, funEqB, bytes_eq, bodyEqB_iff, and_assoc]
theorem unitEqB_iff (xs : List FunD) : ∀ ys, unitEqB xs ys = true ↔ xs = ys := by
  induction xs with
  | nil => intro ys; cases ys <;> simp [unitEqB]
  | cons x xs ih => intro ys; cases ys <;> simp [unitEqB, sameB_iff, ih]
theorem unit_ne {xs ys : List FunD} (h : xs ≠ ys) : false = unitEqB xs ys := by
  cases hb : unitEqB xs ys
  · rfl
  · exact absurd ((unitEqB_iff xs ys).1 hb) h
theorem unit_len {xs ys : List FunD} (h : xs.length ≠ ys.length) : false = unitEqB xs ys := unit_ne (fun e => h (by rw [e]))
theorem unit_at {xs ys : List FunD} {k : Nat} (hx : k < xs.length) (hy : k < ys.length) (h : sameB xs[k] ys[k] = false) : false = unitEqB xs ys := by
  refine unit_ne (fun e => ?_)
  subst e
  rw [(sameB_iff _ _).2 rfl] at h
  cases h
theorem utake_step {xs ys : List FunD} {k : Nat} (hx : k < xs.length) (hy : k < ys.length) (h : sameB xs[k] ys[k] = true) (ht : xs.take k = ys.take k) : xs.take (k + 1) = ys.take (k + 1) := by
  rw [List.take_succ_eq_append_getElem hx, List.take_succ_eq_append_getElem hy, ht, (sameB_iff _ _).1 h]
theorem utake_end {xs ys : List FunD} {k : Nat} (hl : ys.length = xs.length) (hk : ¬ k < xs.length) (ht : xs.take k = ys.take k) : true = unitEqB xs ys := by
  rw [List.take_of_length_le (by omega), List.take_of_length_le (by omega)] at ht
  exact ((unitEqB_iff _ _).2 ht).symm

set_option maxHeartbeats 2000000 in
theorem specUSame_any (a a' : Option Addr) (cap cap' : Nat) (xs ys : List FunD) (w : World) (hcap : xs.length ≤ cap) (hcm : cap ≤ maxLen) (hcap' : ys.length ≤ cap') (hcm' : cap' ≤ maxLen) (hR : FunRow w a xs) (hQ : FunRow w a' ys) :
    Calls Try.prog 36 #[.slice a xs.length cap, .slice a' ys.length cap'] w fun e w' => e = .returned (.bool (unitEqB xs ys)) ∧ Below w.heap.size w w' := by
  have HR := hide hR
  have HQ := hide hQ
  clear hR hQ
  unfold maxLen at hcm hcm'
  have hlen : (xs.length : Int) ≤ 9223372036854775807 := by omega
  have hlen' : (ys.length : Int) ≤ 9223372036854775807 := by omega
  by_cases hne : xs.length = ys.length
  · have hyx := hide hne.symm
    rw [unhide hyx]
    clear hne hlen' hcap' hcm'
    go_enter Try.func36, Try.ntmps36
    go_wp2_with fail
    go_loopw [5] (fun i w' => ∃ k : Nat, k ≤ xs.length ∧ i = .int .i64 k ∧ xs.take k = ys.take k ∧ Below w.heap.size w w') (fun i _ => xs.length - (intOf i).toNat)
    case atStart => exact ⟨0, Nat.zero_le _, rfl, rfl, Below.refl _ _⟩
    case round =>
      obtain ⟨k, hk, rfl, ht, hB⟩ := hrel
      have HT := hide ht
      clear ht
      by_cases hkl : k < xs.length
      · have hkl2 : k < ys.length := by rw [unhide hyx]; exact hkl
        obtain ⟨b, off, rfl⟩ := (unhide HR).get (by omega)
        obtain ⟨b', off', rfl⟩ := (unhide HQ).get (by omega)
        obtain ⟨ai, ci, c0, c1, c2, hn, h4, h5, h6⟩ := ((unhide HR).below hB).at hkl
        obtain ⟨ai', ci', d0, d1, d2, hn', h4', h5', h6'⟩ := ((unhide HQ).below hB).at hkl2
        have hkl' : (k : Int) < (xs.length : Int) := by omega
        have hk0 : (0 : Int) ≤ (k : Int) := by omega
        have HB1 := hide (unit_at hkl hkl2)
        have HB2 := hide (fun h => utake_step hkl hkl2 h (unhide HT))
        have HD : Hid (sameB xs[k] ys[k] = funEqB xs[k].nm ys[k].nm xs[k].wk ys[k].wk xs[k].body ys[k].body) := rfl
        generalize xs[k] = f at *
        generalize ys[k] = g at *
        have hS0 := And.intro h6 (And.intro h6' (And.intro c0 (And.intro c1 (And.intro c2 (And.intro d0 (And.intro d1 (And.intro d2 hB)))))))
        have HST : Hid (Stable (fun w' => InsRow w' ai f.body ∧ InsRow w' ai' g.body ∧ w'.cell? ⟨b, off + k * 3, none⟩ = some (.string f.nm) ∧ w'.cell? ⟨b, off + k * 3 + 1, none⟩ = some (.bool f.wk) ∧ w'.cell? ⟨b, off + k * 3 + 2, none⟩ = some (.slice ai f.body.length ci) ∧ w'.cell? ⟨b', off' + k * 3, none⟩ = some (.string g.nm) ∧ w'.cell? ⟨b', off' + k * 3 + 1, none⟩ = some (.bool g.wk) ∧ w'.cell? ⟨b', off' + k * 3 + 2, none⟩ = some (.slice ai' g.body.length ci') ∧ Below w.heap.size w w')) := (Stable.row _ _).and ((Stable.row _ _).and ((Stable.cell _ _).and ((Stable.cell _ _).and ((Stable.cell _ _).and ((Stable.cell _ _).and ((Stable.cell _ _).and ((Stable.cell _ _).and (Stable.below w))))))))
        clear c0 c1 c2 d0 d1 d2 hB h6 h6'
        go_wp2_with fail
        go_region_held3 (fun w' => InsRow w' ai f.body ∧ InsRow w' ai' g.body ∧ w'.cell? ⟨b, off + k * 3, none⟩ = some (.string f.nm) ∧ w'.cell? ⟨b, off + k * 3 + 1, none⟩ = some (.bool f.wk) ∧ w'.cell? ⟨b, off + k * 3 + 2, none⟩ = some (.slice ai f.body.length ci) ∧ w'.cell? ⟨b', off' + k * 3, none⟩ = some (.string g.nm) ∧ w'.cell? ⟨b', off' + k * 3 + 1, none⟩ = some (.bool g.wk) ∧ w'.cell? ⟨b', off' + k * 3 + 2, none⟩ = some (.slice ai' g.body.length ci') ∧ Below w.heap.size w w')
          (first | assumption | (refine (unhide HST).1 _ _ hbk ?_; assumption) | (refine (unhide HST).2 _ ?_; assumption))
          (first | (go_at_call 58; refine (specSame_any f.nm g.nm f.wk g.wk ai ai' ci ci' f.body g.body _ h4 h5 h4' h5' (by apply s0; assumption) (by apply s1; assumption)).mono ?_; rintro e wk1 ⟨rfl, hbk⟩))
        have hS1 : (fun w' => InsRow w' ai f.body ∧ InsRow w' ai' g.body ∧ w'.cell? ⟨b, off + k * 3, none⟩ = some (.string f.nm) ∧ w'.cell? ⟨b, off + k * 3 + 1, none⟩ = some (.bool f.wk) ∧ w'.cell? ⟨b, off + k * 3 + 2, none⟩ = some (.slice ai f.body.length ci) ∧ w'.cell? ⟨b', off' + k * 3, none⟩ = some (.string g.nm) ∧ w'.cell? ⟨b', off' + k * 3 + 1, none⟩ = some (.bool g.wk) ∧ w'.cell? ⟨b', off' + k * 3 + 2, none⟩ = some (.slice ai' g.body.length ci') ∧ Below w.heap.size w w') wk1 := by assumption
        have hB1 := hS1.2.2.2.2.2.2.2.2
        clear hS0 hS1
        cases hxy : funEqB f.nm g.nm f.wk g.wk f.body g.body
        · go_wp2_with fail
          go_ret
          exact ⟨ret_bool (unhide HB1 ((unhide HD).trans hxy)), hB1⟩
        · go_wp2_with fail
          exact ⟨⟨k + 1, by omega, by go_num, unhide HB2 ((unhide HD).trans hxy), hB1⟩, by simp [intOf]; omega⟩
      · go_wp2_with fail
        go_ret
        exact ⟨ret_bool (utake_end (unhide hyx) hkl (unhide HT)), hB⟩
  · have hne' : ¬ (xs.length : Int) = (ys.length : Int) := by omega
    have HE := hide (unit_len hne)
    go_enter Try.func36, Try.ntmps36
    go_wp2_with fail
    go_ret
    exact ⟨ret_bool (unhide HE), Below.refl _ _⟩

set_option maxHeartbeats 2000000 in
theorem equalFunc_any (a a' : Option Addr) (cap cap' : Nat) (xs ys : List FunD) (w : World) (hcap : xs.length ≤ cap) (hcm : cap ≤ maxLen) (hcap' : ys.length ≤ cap') (hcm' : cap' ≤ maxLen) (hR : FunRow w a xs) (hQ : FunRow w a' ys) :
    Calls Try.prog 59 #[.slice a xs.length cap, .slice a' ys.length cap', .func (.func 60) #[] #[]] w fun e w' => e = .returned (.bool (unitEqB xs ys)) ∧ Below w.heap.size w w' := by
  have HR := hide hR
  have HQ := hide hQ
  clear hR hQ
  unfold maxLen at hcm hcm'
  have hlen : (xs.length : Int) ≤ 9223372036854775807 := by omega
  have hlen' : (ys.length : Int) ≤ 9223372036854775807 := by omega
  by_cases hne : xs.length = ys.length
  · have hyx := hide hne.symm
    rw [unhide hyx]
    clear hne hlen' hcap' hcm'
    go_enter Try.func59, Try.ntmps59
    go_wp2_with fail
    go_loopw [17] (fun i w' => ∃ k : Nat, k ≤ xs.length ∧ i = .int .i64 k ∧ xs.take k = ys.take k ∧ Below w.heap.size w w') (fun i _ => xs.length - (intOf i).toNat)
    case atStart => exact ⟨0, Nat.zero_le _, rfl, rfl, Below.refl _ _⟩
    case round =>
      obtain ⟨k, hk, rfl, ht, hB⟩ := hrel
      have HT := hide ht
      clear ht
      by_cases hkl : k < xs.length
      · have hkl2 : k < ys.length := by rw [unhide hyx]; exact hkl
        obtain ⟨b, off, rfl⟩ := (unhide HR).get (by omega)
        obtain ⟨b', off', rfl⟩ := (unhide HQ).get (by omega)
        obtain ⟨ai, ci, c0, c1, c2, hn, h4, h5, h6⟩ := ((unhide HR).below hB).at hkl
        obtain ⟨ai', ci', d0, d1, d2, hn', h4', h5', h6'⟩ := ((unhide HQ).below hB).at hkl2
        have hkl' : (k : Int) < (xs.length : Int) := by omega
        have hk0 : (0 : Int) ≤ (k : Int) := by omega
        have HB1 := hide (unit_at hkl hkl2)
        have HB2 := hide (fun h => utake_step hkl hkl2 h (unhide HT))
        have HD : Hid (sameB xs[k] ys[k] = funEqB xs[k].nm ys[k].nm xs[k].wk ys[k].wk xs[k].body ys[k].body) := rfl
        generalize xs[k] = f at *
        generalize ys[k] = g at *
        have H6 := hide (And.intro h6 h6')
        have e0 : ∀ o, (wr.alloc o).cell? ⟨b', off' + k * 3, none⟩ = some (.string g.nm) := fun o => (Stable.cell _ _).alloc d0 o
        have e1 : ∀ o, (wr.alloc o).cell? ⟨b', off' + k * 3 + 1, none⟩ = some (.bool g.wk) := fun o => (Stable.cell _ _).alloc d1 o
        have e2 : ∀ o, (wr.alloc o).cell? ⟨b', off' + k * 3 + 2, none⟩ = some (.slice ai' g.body.length ci') := fun o => (Stable.cell _ _).alloc d2 o
        clear h6 h6'
        go_wp2_with fail
        refine (implSame_any f.nm g.nm f.wk g.wk ai ai' ci ci' f.body g.body _ h4 h5 h4' h5' ((unhide H6).1.below (below_alloc2 _ _ _)) ((unhide H6).2.below (below_alloc2 _ _ _))).mono ?_
        rintro e w1 ⟨rfl, hb1⟩
        have hB1 := bl_trans (bl_alloc (bl_alloc hB _) _) hb1
        clear c0 c1 c2 d0 d1 d2 e0 e1 e2
        cases hxy : funEqB f.nm g.nm f.wk g.wk f.body g.body
        · go_wp2_with fail
          go_ret
          exact ⟨ret_bool (unhide HB1 ((unhide HD).trans hxy)), hB1⟩
        · go_wp2_with fail
          exact ⟨⟨k + 1, by omega, by go_num, unhide HB2 ((unhide HD).trans hxy), hB1⟩, by simp [intOf]; omega⟩
      · go_wp2_with fail
        go_ret
        exact ⟨ret_bool (utake_end (unhide hyx) hkl (unhide HT)), hB⟩
  · have hne' : ¬ (xs.length : Int) = (ys.length : Int) := by omega
    have HE := hide (unit_len hne)
    go_enter Try.func59, Try.ntmps59
    go_wp2_with fail
    go_ret
    exact ⟨ret_bool (unhide HE), Below.refl _ _⟩

set_option maxHeartbeats 1000000 in
theorem implUSame_any (a a' : Option Addr) (cap cap' : Nat) (xs ys : List FunD) (w : World) (hcap : xs.length ≤ cap) (hcm : cap ≤ maxLen) (hcap' : ys.length ≤ cap') (hcm' : cap' ≤ maxLen) (hR : FunRow w a xs) (hQ : FunRow w a' ys) :
    Calls Try.prog 38 #[.slice a xs.length cap, .slice a' ys.length cap'] w fun e w' => e = .returned (.bool (unitEqB xs ys)) ∧ Below w.heap.size w w' := by
  have HR := hide hR
  have HQ := hide hQ
  clear hR hQ
  go_enter Try.func38, Try.ntmps38
  go_wp2_with fail
  refine (equalFunc_any a a' _ _ xs ys _ hcap hcm hcap' hcm' (unhide HR) (unhide HQ)).mono ?_
  rintro e w1 ⟨rfl, hb1⟩
  go_wp2_with fail
  go_ret
  exact ⟨rfl, hb1⟩
end Go.Proofs.Ytekikhjghnjgaat.USame
