/- The contracts of both sides' FoldTwo. -/
import Derived.Test.YthbbmookhcalkaaGreatDoorFoldD
import Derived.Test.YthbbmookhcalkaaGreatDoorBTxt
import Derived.Test.YthbbmookhcalkaaGreatDoorTxtI
import Derived.Test.YthbbmookhcalkaaGreatDoorUnitM
namespace Go.Proofs.YthbbmookhcalkaaGreatDoor.FTwo
open Go.ChangeShapes Go.WideShapes Go.ChangeAt Go.RowKit Go.Joins Go.WideMaps Go.Maps
open Go.Proofs.YthbbmookhcalkaaGreatDoor.Base Go.Proofs.YthbbmookhcalkaaGreatDoor.InsA Go.Proofs.YthbbmookhcalkaaGreatDoor.Name Go.Proofs.YthbbmookhcalkaaGreatDoor.InsB Go.Proofs.YthbbmookhcalkaaGreatDoor.Text Go.Proofs.YthbbmookhcalkaaGreatDoor.Funs Go.Proofs.YthbbmookhcalkaaGreatDoor.Open Go.Proofs.YthbbmookhcalkaaGreatDoor.FunS Go.Proofs.YthbbmookhcalkaaGreatDoor.Keep Go.Proofs.YthbbmookhcalkaaGreatDoor.Same Go.Proofs.YthbbmookhcalkaaGreatDoor.UnitS Go.Proofs.YthbbmookhcalkaaGreatDoor.UnitM Go.Proofs.YthbbmookhcalkaaGreatDoor.Refs Go.Proofs.YthbbmookhcalkaaGreatDoor.KeepD Go.Proofs.YthbbmookhcalkaaGreatDoor.KeepA Go.Proofs.YthbbmookhcalkaaGreatDoor.BTxt Go.Proofs.YthbbmookhcalkaaGreatDoor.TxtI Go.Proofs.YthbbmookhcalkaaGreatDoor.FoldD
set_option linter.unusedVariables false
set_option maxRecDepth 100000

/-- What l10Two answers. -/
noncomputable def twoR (fs : List FunD) : Int × Int × Bool := match twoN fs with | none => (0, 0, false) | some (i, k) => ((i : Int), (k : Int), true)
theorem twoR_none {fs : List FunD} (h : TwoIs fs 0 none) : twoR fs = (0, 0, false) := by unfold twoR; rw [twoN_of h]
theorem twoR_some {fs : List FunD} {i k : Nat} (h : TwoIs fs 0 (some (i, k))) : twoR fs = ((i : Int), (k : Int), true) := by unfold twoR; rw [twoN_of h]
theorem twoE_yes {fs : List FunD} (h : keepOkB fs = true) : twoE fs = twoR fs := by unfold twoE twoR; rw [if_pos h]; cases twoN fs <;> rfl
/-- What is known while the pairs are gone through. -/
def NoAhead (fs : List FunD) (i : Nat) : Prop := ∀ i' k', i' < i → i' < k' → k' < fs.length → ¬ OneB fs i' k'
def NoBetween (fs : List FunD) (i k : Nat) : Prop := ∀ k', i < k' → k' < k → ¬ OneB fs i k'
theorem noAhead_zero (fs : List FunD) : NoAhead fs 0 := fun i' k' h => by omega
theorem noBetween_zero (fs : List FunD) (i : Nat) : NoBetween fs i (i + 1) := fun k' h1 h2 => by omega
theorem noBetween_step {fs : List FunD} {i k : Nat} (h : NoBetween fs i k) (hn : ¬ OneB fs i k) : NoBetween fs i (k + 1) := fun k' h1 h2 => by
  by_cases e : k' = k
  · subst e; exact hn
  · exact h k' h1 (by omega)
theorem noAhead_step {fs : List FunD} {i k : Nat} (h : NoAhead fs i) (hb : NoBetween fs i k) (hk : ¬ k < fs.length) : NoAhead fs (i + 1) := fun i' k' h1 h2 h3 => by
  by_cases e : i' = i
  · subst e; exact hb k' h2 (by omega)
  · exact h i' k' (by omega) h2 h3
theorem two_no {fs : List FunD} {i : Nat} (h : NoAhead fs i) (hi : ¬ i < fs.length) : TwoIs fs 0 none := fun i' k' _ h2 h3 => h i' k' (by omega) h2 h3

/-- The map from the last function on: a body's text is at the nearest function behind. -/
def BD (fs : List FunD) : Nat → DataW Unit
  | 0 => .map []
  | m + 1 => (BD fs m).put (keyS (bodyT (fs.getD (fs.length - 1 - m) default).body)) (.lit (.int .i64 ((fs.length - 1 - m : Nat) : Int)))
theorem BD_is (fs : List FunD) : ∀ m, Tidy (BD fs m)
  | 0 => tidy_empty
  | m + 1 => (BD_is fs m).put (keyS_is _) _
theorem keyS_iff {a b : ByteArray} : keyS a = keyS b ↔ a = b := by
  constructor
  · intro h
    by_cases e : a.toList = b.toList
    · exact Same.bytes_eq.1 e
    · exact absurd h (keyS_ne e)
  · intro h; rw [h]
/-- What the map tells of a body, m functions from the last on: the nearest one of the same body. -/
theorem BD_tells {fs : List FunD} (hok : ∀ f ∈ fs, allOk f.body = true) : ∀ m, m ≤ fs.length → ∀ xs, allOk xs = true →
    (has (BD fs m) (keyS (bodyT xs)) = true ∧ ∃ i, fs.length - m ≤ i ∧ i < fs.length ∧ (fs.getD i default).body = xs ∧ (∀ z, (BD fs m).atKey (keyS (bodyT xs)) z = .lit (.int .i64 (i : Int))) ∧ ∀ j, fs.length - m ≤ j → j < i → (fs.getD j default).body ≠ xs) ∨
    (has (BD fs m) (keyS (bodyT xs)) = false ∧ ∀ i, fs.length - m ≤ i → i < fs.length → (fs.getD i default).body ≠ xs)
  | 0, _, xs, hx => .inr ⟨rfl, fun i h1 h2 => by omega⟩
  | m + 1, hm, xs, hx => by
    have hl : fs.length - 1 - m < fs.length := by omega
    have hA : allOk (fs.getD (fs.length - 1 - m) default).body = true := by
      rw [List.getD, List.getElem?_eq_getElem hl]; exact hok _ (List.getElem_mem hl)
    unfold BD
    by_cases e : (fs.getD (fs.length - 1 - m) default).body = xs
    · refine .inl ⟨?_, fs.length - 1 - m, by omega, hl, e, fun z => ?_, fun j h1 h2 => by omega⟩
      · rw [e]; exact has_put_same (BD_is fs m).isMap (keyS_is _) _
      · rw [e]; exact atKey_put_same (BD_is fs m).isMap (keyS_is _) _ _
    · have hne : keyS (bodyT xs) ≠ keyS (bodyT (fs.getD (fs.length - 1 - m) default).body) := fun h => e (bodyT_inj hA hx (keyS_iff.1 h).symm)
      rw [has_put_other hne]
      rcases BD_tells hok m (by omega) xs hx with ⟨h1, i, h2, h3, h4, h5, h6⟩ | ⟨h1, h2⟩
      · refine .inl ⟨h1, i, by omega, h3, h4, fun z => by rw [atKey_put_other hne]; exact h5 z, fun j k1 k2 => ?_⟩
        by_cases ej : j = fs.length - 1 - m
        · subst ej; exact e
        · exact h6 j (by omega) k2
      · refine .inr ⟨h1, fun i k1 k2 => ?_⟩
        by_cases ei : i = fs.length - 1 - m
        · subst ei; exact e
        · exact h2 i (by omega) k2
set_option maxHeartbeats 2000000 in
theorem specTwo_any (a : Option Addr) (cap : Nat) (fs : List FunD) (w : World) (hcap : fs.length ≤ cap) (hcm : cap ≤ maxLen) (hR : FunRow w a fs) (t0 t1 : Int) (t2 : Bool) (ht : twoR fs = (t0, t1, t2)) :
    Calls Tryz.prog 84 #[.slice a fs.length cap] w fun e w' => e = .returned (.tuple #[.int .i64 t0, .int .i64 t1, .bool t2]) ∧ Below w.heap.size w w' := by
  have HR := hide hR
  have HT := hide ht
  clear hR ht
  have hcm' := hcm
  unfold maxLen at hcm
  have hlen : (fs.length : Int) ≤ 9223372036854775807 := by omega
  go_enter Tryz.func84, Tryz.ntmps84
  go_wp2_with fail
  go_loopw [5] (fun i w' => ∃ k : Nat, k ≤ fs.length ∧ i = .int .i64 k ∧ Hid (NoAhead fs k) ∧ Below w.heap.size w w') (fun i _ => fs.length - (intOf i).toNat)
  case atStart => exact ⟨0, Nat.zero_le _, rfl, noAhead_zero fs, Below.refl _ _⟩
  case round =>
    obtain ⟨i, hi, rfl, HA, hB⟩ := hrel
    by_cases hil : i < fs.length
    · have hil' : (i : Int) < (fs.length : Int) := by omega
      have hi0 : (0 : Int) ≤ (i : Int) := by omega
      go_wp2_with fail
      go_loopw [6] (fun v w' => ∃ k : Nat, i < k ∧ k ≤ fs.length ∧ v = .int .i64 k ∧ Hid (NoBetween fs i k) ∧ Below w.heap.size w w') (fun v _ => fs.length - (intOf v).toNat)
      case atStart => exact ⟨i + 1, by omega, by omega, by go_num, noBetween_zero fs i, hB⟩
      case round =>
        obtain ⟨k, hik, hk, rfl, HN, hBk⟩ := hrel
        by_cases hkl : k < fs.length
        · have hkl' : (k : Int) < (fs.length : Int) := by omega
          have hk0 : (0 : Int) ≤ (k : Int) := by omega
          obtain ⟨b, off, rfl⟩ := (unhide HR).get (by omega)
          obtain ⟨ai, ci, _, _, c2, _, h4, h5, h6⟩ := ((unhide HR).below hBk).at hil
          obtain ⟨aj, cj, _, _, d2, _, g4, g5, g6⟩ := ((unhide HR).below hBk).at hkl
          have H6 := hide h6
          have G6 := hide g6
          have HO := hide (oneB_is hil hkl)
          clear h6 g6
          generalize fs[i] = f at *
          generalize fs[k] = g at *
          cases hq : bodyEqB f.body g.body
          · have HX := hide (noBetween_step (unhide HN) (fun h => by rw [(unhide HO).1 h] at hq; cases hq))
            have HST : Hid (Stable (fun w' => InsRow w' ai f.body ∧ InsRow w' aj g.body ∧ w'.cell? ⟨b, off + i * 3 + 2, none⟩ = some (.slice ai f.body.length ci) ∧ w'.cell? ⟨b, off + k * 3 + 2, none⟩ = some (.slice aj g.body.length cj) ∧ Below w.heap.size w w')) := (Stable.row _ _).and ((Stable.row _ _).and ((Stable.cell _ _).and ((Stable.cell _ _).and (Stable.below w))))
            have hS0 : (fun w' => InsRow w' ai f.body ∧ InsRow w' aj g.body ∧ w'.cell? ⟨b, off + i * 3 + 2, none⟩ = some (.slice ai f.body.length ci) ∧ w'.cell? ⟨b, off + k * 3 + 2, none⟩ = some (.slice aj g.body.length cj) ∧ Below w.heap.size w w') wr := ⟨unhide H6, unhide G6, c2, d2, hBk⟩
            go_wp2_with fail
            go_region_held3 (fun w' => InsRow w' ai f.body ∧ InsRow w' aj g.body ∧ w'.cell? ⟨b, off + i * 3 + 2, none⟩ = some (.slice ai f.body.length ci) ∧ w'.cell? ⟨b, off + k * 3 + 2, none⟩ = some (.slice aj g.body.length cj) ∧ Below w.heap.size w w') (first | assumption | (refine (unhide HST).1 _ _ hbk ?_; assumption) | (refine (unhide HST).2 _ ?_; assumption))
              (first | (go_at_call 108; refine (specBody_any ai aj ci cj f.body g.body _ h4 h5 g4 g5 (by apply s0; assumption) (by apply s1; assumption)).mono ?_; rw [hq]; rintro e wk1 ⟨rfl, hbk⟩))
            have hS1 : (fun w' => InsRow w' ai f.body ∧ InsRow w' aj g.body ∧ w'.cell? ⟨b, off + i * 3 + 2, none⟩ = some (.slice ai f.body.length ci) ∧ w'.cell? ⟨b, off + k * 3 + 2, none⟩ = some (.slice aj g.body.length cj) ∧ Below w.heap.size w w') wk1 := by assumption
            have hb1 := hS1.2.2.2.2
            clear hS0 hS1
            go_wp2_with fail
            exact ⟨⟨k + 1, by omega, by omega, by go_num, unhide HX, hb1⟩, by simp [intOf]; omega⟩
          · have HE := hide ((unhide HT).symm.trans (twoR_some (two_first (unhide HA) hik hkl ((unhide HO).2 hq) (unhide HN))))
            have HST : Hid (Stable (fun w' => InsRow w' ai f.body ∧ InsRow w' aj g.body ∧ w'.cell? ⟨b, off + i * 3 + 2, none⟩ = some (.slice ai f.body.length ci) ∧ w'.cell? ⟨b, off + k * 3 + 2, none⟩ = some (.slice aj g.body.length cj) ∧ Below w.heap.size w w')) := (Stable.row _ _).and ((Stable.row _ _).and ((Stable.cell _ _).and ((Stable.cell _ _).and (Stable.below w))))
            have hS0 : (fun w' => InsRow w' ai f.body ∧ InsRow w' aj g.body ∧ w'.cell? ⟨b, off + i * 3 + 2, none⟩ = some (.slice ai f.body.length ci) ∧ w'.cell? ⟨b, off + k * 3 + 2, none⟩ = some (.slice aj g.body.length cj) ∧ Below w.heap.size w w') wr := ⟨unhide H6, unhide G6, c2, d2, hBk⟩
            go_wp2_with fail
            go_region_held3 (fun w' => InsRow w' ai f.body ∧ InsRow w' aj g.body ∧ w'.cell? ⟨b, off + i * 3 + 2, none⟩ = some (.slice ai f.body.length ci) ∧ w'.cell? ⟨b, off + k * 3 + 2, none⟩ = some (.slice aj g.body.length cj) ∧ Below w.heap.size w w') (first | assumption | (refine (unhide HST).1 _ _ hbk ?_; assumption) | (refine (unhide HST).2 _ ?_; assumption))
              (first | (go_at_call 108; refine (specBody_any ai aj ci cj f.body g.body _ h4 h5 g4 g5 (by apply s0; assumption) (by apply s1; assumption)).mono ?_; rw [hq]; rintro e wk1 ⟨rfl, hbk⟩))
            have hS1 : (fun w' => InsRow w' ai f.body ∧ InsRow w' aj g.body ∧ w'.cell? ⟨b, off + i * 3 + 2, none⟩ = some (.slice ai f.body.length ci) ∧ w'.cell? ⟨b, off + k * 3 + 2, none⟩ = some (.slice aj g.body.length cj) ∧ Below w.heap.size w w') wk1 := by assumption
            have hb1 := hS1.2.2.2.2
            clear hS0 hS1
            go_wp2_with fail
            have he := unhide HE
            simp only [Prod.mk.injEq] at he
            obtain ⟨rfl, rfl, rfl⟩ := he
            exact bodyPost_ret (by simp [results, Tryz.results84, go_sem]) rfl ⟨rfl, hb1⟩
        · have hkl' : ¬ (k : Int) < (fs.length : Int) := by omega
          have HX := hide (noAhead_step (unhide HA) (unhide HN) hkl)
          go_wp2_with fail
          exact ⟨⟨i + 1, by omega, by go_num, unhide HX, hBk⟩, by simp [intOf]; omega⟩
    · have hil' : ¬ (i : Int) < (fs.length : Int) := by omega
      have HE := hide ((unhide HT).symm.trans (twoR_none (two_no (unhide HA) hil)))
      go_wp2_with fail
      have he := unhide HE
      simp only [Prod.mk.injEq] at he
      obtain ⟨rfl, rfl, rfl⟩ := he
      exact bodyPost_ret (by simp [results, Tryz.results84, go_sem]) rfl ⟨rfl, hB⟩
/-- What is told of the functions from j on. -/
def enc3 : Option (Nat × Nat) → Int × Int × Bool
  | none => (0, 0, false)
  | some (i, k) => ((i : Int), (k : Int), true)
theorem twoR_enc {fs : List FunD} {r : Option (Nat × Nat)} (h : TwoIs fs 0 r) : twoR fs = enc3 r := by
  unfold twoR
  rw [twoN_of h]
  cases r <;> rfl
theorem map_made (w : World) : (Instr.makeMap 58 none).run Tryz.prog w = .ok (.map (some w.heap.size)) (w.alloc (.map #[] 0)) := by
  simp [Instr.makeMap]
theorem map_under {w w' : World} {P : Program} {k b n : Nat} {R : Value → Option (DataW Unit × List MemPlace)} {D : DataW Unit} (h : w.ownsMap P k R b n D) (hb : Below w.heap.size w w') : w'.ownsMap P k R b n D := by
  obtain ⟨es, clock, hh, F, hs, hD⟩ := h
  exact ⟨es, clock, (hb.block b (Array.getElem?_eq_some_iff.1 hh).1).trans hh, F, hs, hD⟩
set_option maxHeartbeats 4000000 in
theorem implFoldTwo_any (a : Option Addr) (cap : Nat) (fs : List FunD) (w : World) (hcap : fs.length ≤ cap) (hcm : cap ≤ maxLen) (hR : FunRow w a fs) (HT : Hid (Lib.TabIs Tryz.prog w "internal/strconv.uint64pow10" .u64 Lib.pow10Tab)) (t0 t1 : Int) (t2 : Bool) (ht : twoE fs = (t0, t1, t2)) :
    Calls Tryz.prog 49 #[.slice a fs.length cap] w fun e w' => e = .returned (.tuple #[.int .i64 t0, .int .i64 t1, .bool t2]) ∧ Below w.heap.size w w' := by
  have HR := hide hR
  have HTT := hide ht
  clear hR ht
  cases hok : keepOkB fs
  · have he := (unhide HTT).symm.trans (twoE_no hok)
    simp only [Prod.mk.injEq] at he
    obtain ⟨rfl, rfl, rfl⟩ := he
    go_enter Tryz.func49, Tryz.ntmps49
    go_wp2_with fail
    refine (implKeepOk_any a cap fs _ hcap hcm (unhide HR)).mono ?_
    rw [hok]
    rintro e w1 ⟨rfl, hb1⟩
    go_wp2_with fail
    exact bodyPost_ret (by simp [results, Tryz.results49, go_sem]) rfl ⟨rfl, hb1⟩
  obtain ⟨hl1, hl40, hfo, _, _⟩ := keep_parts hok
  have HT2 := hide ((twoE_yes hok).symm.trans (unhide HTT))
  have HAO : Hid (∀ f ∈ fs, allOk f.body = true) := fun f hf => (fun_parts (hfo f hf)).2.2.2
  have HF10 : Hid (∀ f ∈ fs, f.body.length ≤ 10) := fun f hf => (fun_parts (hfo f hf)).2.2.1
  have HBS : Hid (∀ f ∈ fs, (bodyT f.body).size ≤ maxLen) := fun f hf => by
    have h1 := body_le (unhide HAO f hf) _ (Nat.le_refl _)
    have h2 := unhide HF10 f hf
    unfold bodyT maxLen
    omega
  have HBD := hide (BD_tells (unhide HAO))
  clear hfo
  have hmm := map_made
  go_enter Tryz.func49, Tryz.ntmps49
  go_wp2_with fail
  refine (implKeepOk_any a cap fs _ hcap hcm (unhide HR)).mono ?_
  rw [hok]
  rintro e w1 ⟨rfl, hb1⟩
  go_wp2_with fail
  go_loopw [5, 6, 7, 9] (fun v0 v1 v2 v w' => ∃ (m : Nat) (r : Option (Nat × Nat)), m ≤ fs.length ∧ v = .int .i64 ((fs.length : Int) - 1 - (m : Int)) ∧ v0 = .int .i64 (enc3 r).1 ∧ v1 = .int .i64 (enc3 r).2.1 ∧ v2 = .bool (enc3 r).2.2 ∧ Hid (TwoIs fs (fs.length - m) r) ∧ w'.ownsMap Tryz.prog 9 (plainElem Tryz.prog 3) w1.heap.size m (BD fs m) ∧ Below w1.heap.size w1 w') (fun v0 v1 v2 v _ => (intOf v + 1).toNat)
  case atStart => exact ⟨0, none, Nat.zero_le _, by go_num, rfl, rfl, rfl, two_end fs, World.ownsMap_made _ _ _ _, (Below.refl _ _).alloc (Nat.le_refl _) _⟩
  case round =>
    obtain ⟨m, r, hm, rfl, rfl, rfl, rfl, HW, hown, hBm⟩ := hrel
    clear hmm
    by_cases hml : m < fs.length
    · obtain ⟨j, hj⟩ : ∃ j, fs.length - 1 - m = j := ⟨_, rfl⟩
      have hjl : j < fs.length := by omega
      have hjv : (fs.length : Int) - 1 - (m : Int) = (j : Int) := by omega
      have hj1 : fs.length - m = j + 1 := by omega
      have hj2 : fs.length - (m + 1) = j := by omega
      have hjn : (fs.length : Int) - 1 - ((m + 1 : Nat) : Int) = (j : Int) - 1 := by omega
      have HJN := hide hjn
      have HJ2 := hide hj2
      rw [hj1] at HW
      rw [hjv]
      have hj0 : (0 : Int) ≤ (j : Int) := by omega
      have hjl' : (j : Int) < (fs.length : Int) := by omega
      obtain ⟨b, off, rfl⟩ := (unhide HR).get (by omega)
      have hBw : Below w.heap.size w wr := bl_trans hb1 hBm
      obtain ⟨ai, ci, c0, c1, c2, _, h4, h5, h6⟩ := ((unhide HR).below hBw).at hjl
      have H6 := hide h6
      have HBJ := unhide HBD m (by omega) fs[j].body (unhide HAO _ (List.getElem_mem _))
      have HAJ := hide (unhide HAO fs[j] (List.getElem_mem _))
      have h10 := unhide HF10 fs[j] (List.getElem_mem _)
      have hsz := unhide HBS fs[j] (List.getElem_mem _)
      have hgj : fs.getD j default = fs[j] := by simp [List.getD, List.getElem?_eq_getElem hjl]
      have HPUT : Hid (BD fs (m + 1) = (BD fs m).put (keyS (bodyT fs[j].body)) (.lit (.int .i64 (j : Int)))) := by show _ = _; rw [BD, hj, hgj]
      have HMISS : Hid ((∀ k', j < k' → k' < fs.length → ¬ OneB fs j k') → TwoIs fs j r) := fun h => two_miss (unhide HW) h
      have HHIT : Hid (∀ k, j < k → k < fs.length → (fs.getD k default).body = fs[j].body → (∀ k', j < k' → k' < k → (fs.getD k' default).body ≠ fs[j].body) → TwoIs fs j (some (j, k))) := fun k h1 h2 h3 h4 => two_hit h1 h2 (by show (fs.getD j default).body = _; rw [hgj, h3]) (fun k' k1 k2 k3 => h4 k' k1 k2 (by have : (fs.getD j default).body = (fs.getD k' default).body := k3; rw [hgj] at this; exact this.symm))
      have HONE : Hid (∀ k', OneB fs j k' → (fs.getD k' default).body = fs[j].body) := fun k' h => by
        have : (fs.getD j default).body = (fs.getD k' default).body := h
        rw [hgj] at this
        exact this.symm
      rw [hj1] at HBJ
      have hwf : (Lit.int .i64 (j : Int)).wf = true := by
        unfold Lit.wf
        rw [Bool.and_eq_true, decide_eq_true_iff, decide_eq_true_iff]
        exact ⟨by show (-9223372036854775808 : Int) ≤ _; omega, by show _ ≤ (9223372036854775807 : Int); omega⟩
      have hkey : keyOf Tryz.prog 9 (.string (bodyT fs[j].body)) = some (keyS (bodyT fs[j].body)) := keyOf_string_mk Tryz.underlying9 hsz
      have hms := hown.size_le
      have HOWN := hide hown
      clear h6 hown hgj hj hjv hj1 hj2 hjn HBD HW
      generalize fs[j] = f at *
      go_wp2_with fail
      refine (bodyText_any f.nm f.wk ai ci f.body _ h4 h5 h10 (unhide HAJ) (unhide H6) (hide (tab_stays Go.Proofs.YthbbmookhcalkaaGreatDoor.Text.gPow (unhide HT) hBw (Nat.le_refl _)))).mono ?_
      rintro e w2 ⟨rfl, hb2⟩
      have hown2 := map_under (unhide HOWN) hb2
      have hB2 := Below.trans hBm (hb2.mono hBm.size)
      clear HOWN c0 c1 c2 hBm hBw hb2 h4 h5
      generalize bodyT f.body = tt at *
      rcases HBJ with ⟨hh, k, hk1, hk2, hk3, hk4, hk5⟩ | ⟨hh, hno⟩
      · have HX := hide (unhide HHIT k (by omega) hk2 hk3 (fun k' h1 h2 => hk5 k' (by omega) h2))
        have HK4 := hide hk4
        clear hk3 hk4 hk5 HMISS HHIT HONE
        go_wp2_with (first
          | (at_lookup; refine wpList_lookup_own_ok_int _ rfl _ _ 58 rfl 9 3 .i64 lawS Tryz.underlying58 Tryz.underlying3 (zeroI _) w1.heap.size m _ rfl hown2 _ _ rfl hkey ?_; intro c hat hwc)
          | (at_mapUpdate; refine wpList_mapUpdate_own _ rfl _ _ _ 58 rfl 9 3 lawS Tryz.underlying58 _ w1.heap.size m _ rfl hown2 (by unfold maxLen; omega) _ _ _ rfl rfl hkey _ [] (plainElem_int Tryz.underlying3 hwf) ?_; intro w3 hown3 hgrow3)
          | go_in)
        have hB3 : Below w1.heap.size w1 w3 := hB2.grown hgrow3 hB2.size (fun q hq => by cases hq; exact Nat.le_refl _)
        have hc : c = (k : Int) := by
          have := unhide HK4 (.lit (.int .i64 0))
          rw [this] at hat
          injection hat with h1
          injection h1 with _ h2
          exact h2.symm
        subst hc
        exact ⟨⟨m + 1, some (j, k), by omega, by rw [unhide HJN]; first | done | go_num, rfl, rfl, rfl, by rw [unhide HJ2]; first | done | exact HX, by rw [unhide HPUT]; first | done | exact hown3, hB3⟩, by simp [intOf] <;> omega⟩
      · have HX := hide (unhide HMISS (fun k' h1 h2 h3 => hno k' (by omega) h2 (unhide HONE k' h3)))
        clear hno HMISS HHIT HONE
        go_wp2_with (first
          | (at_lookup; refine wpList_lookup_own_ok_int _ rfl _ _ 58 rfl 9 3 .i64 lawS Tryz.underlying58 Tryz.underlying3 (zeroI _) w1.heap.size m _ rfl hown2 _ _ rfl hkey ?_; intro c hat hwc)
          | (at_mapUpdate; refine wpList_mapUpdate_own _ rfl _ _ _ 58 rfl 9 3 lawS Tryz.underlying58 _ w1.heap.size m _ rfl hown2 (by unfold maxLen; omega) _ _ _ rfl rfl hkey _ [] (plainElem_int Tryz.underlying3 hwf) ?_; intro w3 hown3 hgrow3)
          | go_in)
        have hB3 : Below w1.heap.size w1 w3 := hB2.grown hgrow3 hB2.size (fun q hq => by cases hq; exact Nat.le_refl _)
        exact ⟨⟨m + 1, r, by omega, by rw [unhide HJN]; first | done | go_num, rfl, rfl, rfl, by rw [unhide HJ2]; first | done | exact HX, by rw [unhide HPUT]; first | done | exact hown3, hB3⟩, by simp [intOf] <;> omega⟩
    · have hme : m = fs.length := by omega
      subst hme
      have hlt : ¬ (0 : Int) ≤ (fs.length : Int) - 1 - (fs.length : Int) := by omega
      rw [Nat.sub_self] at HW
      have HE := hide ((unhide HT2).symm.trans (twoR_enc (unhide HW)))
      go_wp2_with fail
      rw [← unhide HE]
      exact bodyPost_ret (by simp [results, Tryz.results49, go_sem]) rfl ⟨rfl, bl_trans hb1 hBm⟩
end Go.Proofs.YthbbmookhcalkaaGreatDoor.FTwo
