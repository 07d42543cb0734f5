/- The contracts of the program's queue of names: put and next. -/
import Derived.Test.YthbbmookhcalkaaGreatDoorKeepQ
import Derived.Test.YthbbmookhcalkaaGreatDoorPkb32a49b0
import Derived.Test.YthbbmookhcalkaaGreatDoorUnitM
import Derived.Deep.QuietTactic
import Derived.BigQuiet
import Derived.RegionTactic
import Derived.BigRegion
namespace Go.Proofs.YthbbmookhcalkaaGreatDoor.KeepP
open Go.ChangeShapes Go.WideShapes Go.ChangeAt Go.RowKit Go.Joins Go.WideMaps Go.Maps Go.Deep
open Go.Proofs.YthbbmookhcalkaaGreatDoor.Base Go.Proofs.YthbbmookhcalkaaGreatDoor.InsA Go.Proofs.YthbbmookhcalkaaGreatDoor.InsB Go.Proofs.YthbbmookhcalkaaGreatDoor.Funs Go.Proofs.YthbbmookhcalkaaGreatDoor.Open Go.Proofs.YthbbmookhcalkaaGreatDoor.FunS Go.Proofs.YthbbmookhcalkaaGreatDoor.Keep Go.Proofs.YthbbmookhcalkaaGreatDoor.UnitS Go.Proofs.YthbbmookhcalkaaGreatDoor.UnitM Go.Proofs.YthbbmookhcalkaaGreatDoor.Refs Go.Proofs.YthbbmookhcalkaaGreatDoor.WantsI Go.Proofs.YthbbmookhcalkaaGreatDoor.KeepD Go.Proofs.YthbbmookhcalkaaGreatDoor.KeepQ
set_option linter.unusedVariables false
set_option maxRecDepth 100000

end Go.Proofs.YthbbmookhcalkaaGreatDoor.KeepP
/- The contracts of the program's unitsOk, rowsByName, PickAt, PickTwo: names kept in a map to what goes ahead. -/
namespace Go.Proofs.YthbbmookhcalkaaGreatDoor.PickM
open Go.ChangeShapes Go.WideShapes Go.ChangeAt Go.RowKit Go.Joins Go.WideMaps Go.Maps
open Go.Proofs.YthbbmookhcalkaaGreatDoor.Base Go.Proofs.YthbbmookhcalkaaGreatDoor.InsA Go.Proofs.YthbbmookhcalkaaGreatDoor.Funs Go.Proofs.YthbbmookhcalkaaGreatDoor.Open Go.Proofs.YthbbmookhcalkaaGreatDoor.FunS Go.Proofs.YthbbmookhcalkaaGreatDoor.Keep Go.Proofs.YthbbmookhcalkaaGreatDoor.UnitS Go.Proofs.YthbbmookhcalkaaGreatDoor.UnitM Go.Proofs.YthbbmookhcalkaaGreatDoor.UU Go.Proofs.YthbbmookhcalkaaGreatDoor.PickD Go.Proofs.YthbbmookhcalkaaGreatDoor.PickS
set_option linter.unusedVariables false
set_option maxRecDepth 100000



theorem five_forty {us : List (List FunD)} (h : ∀ u ∈ us, u.length ≤ 5) : ∀ u ∈ us, u.length ≤ 40 := fun u hu => Nat.le_trans (h u hu) (by decide)
theorem ok_five {us : List (List FunD)} {m : Nat} (h : unitsOkB us m = true) : ∀ u ∈ us, u.length ≤ 5 := fun u hu => unit_le (units_each h u hu)
theorem ok_forty {us : List (List FunD)} {m : Nat} (h : unitsOkB us m = true) : ∀ u ∈ us, u.length ≤ 40 := five_forty (ok_five h)


end Go.Proofs.YthbbmookhcalkaaGreatDoor.PickM
/- The contracts of what is reached: l4Walk of the specification, reachedFrom of the program. -/
namespace Go.Proofs.YthbbmookhcalkaaGreatDoor.KeepW
open Go.ChangeShapes Go.WideShapes Go.ChangeAt Go.RowKit Go.Joins Go.WideMaps Go.Maps Go.Deep
open Go.Proofs.YthbbmookhcalkaaGreatDoor.Base Go.Proofs.YthbbmookhcalkaaGreatDoor.InsA Go.Proofs.YthbbmookhcalkaaGreatDoor.InsB Go.Proofs.YthbbmookhcalkaaGreatDoor.Funs Go.Proofs.YthbbmookhcalkaaGreatDoor.Open Go.Proofs.YthbbmookhcalkaaGreatDoor.FunS Go.Proofs.YthbbmookhcalkaaGreatDoor.Keep Go.Proofs.YthbbmookhcalkaaGreatDoor.UnitS Go.Proofs.YthbbmookhcalkaaGreatDoor.UnitM Go.Proofs.YthbbmookhcalkaaGreatDoor.Refs Go.Proofs.YthbbmookhcalkaaGreatDoor.UU Go.Proofs.YthbbmookhcalkaaGreatDoor.PickD Go.Proofs.YthbbmookhcalkaaGreatDoor.PickS Go.Proofs.YthbbmookhcalkaaGreatDoor.PickM Go.Proofs.YthbbmookhcalkaaGreatDoor.WantsI Go.Proofs.YthbbmookhcalkaaGreatDoor.Concat Go.Proofs.YthbbmookhcalkaaGreatDoor.KeepC Go.Proofs.YthbbmookhcalkaaGreatDoor.KeepD Go.Proofs.YthbbmookhcalkaaGreatDoor.KeepQ Go.Proofs.YthbbmookhcalkaaGreatDoor.KeepP
set_option linter.unusedVariables false
set_option maxRecDepth 100000

/-- What is told of a walk: functions in a new row, their bodies where they were. -/
def Walked (w w' : World) (o : Option (List FunD)) (v : Value) (ok : Bool) : Prop :=
  match o with
  | some out => ok = true ∧ ∃ vs : List (FunD × Value), vs.map Prod.fst = out ∧ (∀ u ∈ vs, BodyAt w u) ∧ w'.ownsRow w.heap.size 28 3 v vs.length (vs.flatMap encV)
  | none => ok = false ∧ v = .slice none 0 0
/-- .. as the call's end. -/
def WalkEnd (w : World) (o : Option (List FunD)) (e : Ending) (w' : World) : Prop := ∃ v ok, e = .returned (.tuple #[v, .bool ok]) ∧ Walked w w' o v ok ∧ Below w.heap.size w w'
theorem walk_stuck {us : List (List FunD)} {entry s : ByteArray} {n : Nat} {ns : List ByteArray} {fs : List FunD} (hst : stK us entry n = (ns, fs)) (hn : fs.length = n) (hs : ns[n]? = some s) (hb : bestE us s = none) : walkB us entry = none := by
  have h1 : goK us (stK us entry n) = stK us entry n := go_none (s := s) (by rw [hst]; simp only; rw [hn]; exact hs) hb
  rw [walk_end (by rw [hst]; exact hn) h1, hst]
  unfold resK
  have := (List.getElem?_eq_some_iff.1 hs).1
  rw [if_neg (by simp only; omega)]
theorem walk_done {us : List (List FunD)} {entry : ByteArray} {n : Nat} {ns : List ByteArray} {fs : List FunD} (hst : stK us entry n = (ns, fs)) (hn : fs.length = n) (hl : ns.length = n) : walkB us entry = some fs := by
  have h1 : goK us (stK us entry n) = stK us entry n := go_done (by rw [hst]; simp only; omega)
  rw [walk_end (by rw [hst]; exact hn) h1, hst]
  unfold resK
  rw [if_pos (by simp only; omega)]
theorem walk_step {us : List (List FunD)} {entry s : ByteArray} {n : Nat} {ns : List ByteArray} {fs : List FunD} {x : Ent} (hst : stK us entry n = (ns, fs)) (hn : fs.length = n) (hs : ns[n]? = some s) (hb : bestE us s = some x) : stK us entry (n + 1) = (addN ns (refsOf x.2.2.body), fs ++ [x.2.2]) := by
  rw [stK, go_some (s := s) (x := x) (by rw [hst]; simp only; rw [hn]; exact hs) hb, hst]
theorem row_form {w : World} {B : Nat} {e : TypeId} {z n : Nat} {v : Value} {xs : List Value} (h : w.ownsRow B e z v n xs) : ∃ a c, v = .slice a n c := by
  obtain ⟨_, ⟨rfl, rfl⟩ | ⟨g, cap, cur, rfl, _⟩⟩ := h
  · exact ⟨_, _, rfl⟩
  · exact ⟨_, _, rfl⟩
def flen (us : List (List FunD)) : Nat := us.flatten.length
/-- What holds of the units at all. -/
structure Small (us : List (List FunD)) : Prop where
  few : flen us ≤ 500
  body : ∀ f ∈ us.flatten, f.body.length ≤ 100
  size : ∀ f ∈ us.flatten, ∀ x ∈ f.body, x.s.size ≤ maxLen
theorem small_sizes {w : World} {a : Option Addr} {us : List (List FunD)} (h : UnitRow w a us) : ∀ f ∈ us.flatten, ∀ x ∈ f.body, x.s.size ≤ maxLen := fun f hf x hx => by
  obtain ⟨u, hu, hf⟩ := List.mem_flatten.1 hf
  exact ((h.sizes u hu).2 f hf).2.2 x hx
theorem st_facts {us : List (List FunD)} {entry : ByteArray} (hS : Small us) (he : entry.size ≤ maxLen) {n : Nat} {ns : List ByteArray} {fs : List FunD} (hst : stK us entry n = (ns, fs)) (hn : fs.length = n) : n ≤ flen us ∧ n ≤ ns.length ∧ ns.length ≤ 1 + n * 100 ∧ ∀ s ∈ ns, s.size ≤ maxLen := by
  have h1 := stK_bound us entry n
  have h2 := (stK_inv us entry n).le
  have h3 := stK_names us entry hS.body n
  have h4 := stK_sized us entry he hS.size n
  rw [hst] at h1 h2 h3 h4
  simp only at h1 h2 h3 h4
  exact ⟨by unfold flen; omega, by omega, h3, h4⟩
theorem best_tup {us : List (List FunD)} {s : ByteArray} : (bestE us s = none → pickAt us s = (0, 0, false)) ∧ ∀ x, bestE us s = some x → pickAt us s = ((x.1 : Int), (x.2.1 : Int), true) := by
  unfold pickAt bestE
  exact ⟨fun h => by rw [h]; rfl, fun x h => by rw [h]; rfl⟩
/-- Where the function lies that goes ahead. -/
theorem best_cells {w : World} {b off : Nat} {us : List (List FunD)} {s : ByteArray} {x : Ent} (hR : UnitRow w (some ⟨b, off, none⟩) us) (h : bestE us s = some x) : ∃ bu ou lu cu ai ci, w.cell? ⟨b, off + x.1, none⟩ = some (.slice (some ⟨bu, ou, none⟩) lu cu) ∧ x.1 < us.length ∧ x.2.1 < lu ∧ w.cell? ⟨bu, ou + x.2.1 * 3, none⟩ = some (.string x.2.2.nm) ∧ w.cell? ⟨bu, ou + x.2.1 * 3 + 1, none⟩ = some (.bool x.2.2.wk) ∧ w.cell? ⟨bu, ou + x.2.1 * 3 + 2, none⟩ = some (.slice ai x.2.2.body.length ci) ∧ x.2.2.nm.size ≤ maxLen ∧ x.2.2.body.length ≤ ci ∧ ci ≤ maxLen ∧ InsRow w ai x.2.2.body := by
  obtain ⟨hi, hk, e, _⟩ := best_mem h
  obtain ⟨au, cu, c0, h4, h5, h6⟩ := hR.at hi
  obtain ⟨bu, ou, rfl⟩ := h6.get (by omega)
  obtain ⟨ai, ci, d0, d1, d2, k1, k2, k3, k4⟩ := h6.at hk
  rw [e] at d0 d1 d2 k1 k2 k4
  exact ⟨bu, ou, _, cu, ai, ci, c0, hi, hk, d0, d1, d2, k1, k2, k3, k4⟩
theorem best_ne {us : List (List FunD)} {s : ByteArray} {x : Ent} (h : bestE us s = some x) : 0 < us.length := by
  obtain ⟨hi, _⟩ := best_mem h
  omega
theorem funV_new2 (w : World) (o : Obj) (u : FunD × Value) : ∀ j x, (encV u)[j]? = some x → ((w.alloc o).alloc (.cells #[.string u.1.nm, .bool u.1.wk, u.2] 28)).cell? ((⟨w.heap.size + 1, 0, none⟩ : Addr).add j) = some x := by
  have := funV_new (w.alloc o) u
  rwa [World.size_alloc] at this
/-- Where f's own copy lies, behind the append. -/
theorem copy_cells {w1 w3 : World} {o2 : Obj} {v c0 c1 c2 : Value} {B n z : Nat} {e : TypeId} {xs : List Value} (h : w1.ownsRow B e z v n xs) (hg : ((w1.alloc (.cells #[c0, c1, c2] 28)).alloc o2).grownBy w3 v.ownBlock) : w3.cell? ⟨w1.heap.size, 0, none⟩ = some c0 ∧ w3.cell? ⟨w1.heap.size, 1, none⟩ = some c1 ∧ w3.cell? ⟨w1.heap.size, 2, none⟩ = some c2 := by
  have hb : w3.heap[w1.heap.size]? = some (.cells #[c0, c1, c2] 28) := by
    rw [hg.block _ (by simp; omega) (fun e => by have := (World.ownsRow.lt h _ e.symm).2; omega)]
    exact box_below (new_block w1 _) (below_alloc1 _ o2)
  exact (box3 hb).1
theorem str_two (w : World) (o : Obj) (s : ByteArray) : StrOwn ((w.alloc (.cells #[.string s] 9)).alloc o) w.heap.size (.slice (some ⟨w.heap.size, 0, none⟩) 1 1) [s] :=
  ⟨by simp, .inr ⟨w.heap.size, 1, #[.string s], rfl, Nat.le_refl _, box_below (new_block w _) (below_alloc1 _ o), Nat.le_refl _, by unfold maxLen; omega, rfl, rfl⟩⟩
theorem fun_two (w : World) (o : Obj) : ((w.alloc o).alloc (.cells #[] 28)).ownsRow w.heap.size 28 3 (.slice (some ⟨w.heap.size + 1, 0, none⟩) 0 0) 0 [] :=
  ⟨by simp, .inr ⟨w.heap.size + 1, 0, #[], rfl, by omega, by simpa using new_block (w.alloc o) (.cells #[] 28), Nat.le_refl _, Nat.zero_le _, rfl, rfl⟩⟩

set_option maxHeartbeats 8000000 in
theorem specWalk_any (a : Option Addr) (cap : Nat) (us : List (List FunD)) (entry : ByteArray) (w : World) (hes : entry.size ≤ maxLen) (hcap : us.length ≤ cap) (hcm : cap ≤ maxLen) (hsm : Small us) (hR : UnitRow w a us) :
    Calls Tryz.prog 97 #[.slice a us.length cap, .string entry] w (WalkEnd w (walkB us entry)) := by
  have HR := hide hR
  have HSM := hide hsm
  have hfew := hsm.few
  clear hR hsm
  obtain ⟨i0, hi, hz0, hz1, hz2⟩ := info_parts infoStr
  obtain ⟨i1, hi1, hy0, hy1, hy2⟩ := info_fun
  go_enter Tryz.func97, Tryz.ntmps97
  go_wp2_with fail
  go_loopw [6, 7, 8] (fun nv ov i w' => ∃ (n : Nat) (ns : List ByteArray) (fs : List FunD) (vs : List (FunD × Value)), i = .int .i64 n ∧ fs.length = n ∧ Hid (stK us entry n = (ns, fs)) ∧ Hid (vs.map Prod.fst = fs) ∧ Hid (∀ u ∈ vs, BodyAt w u) ∧ StrOwn w' w.heap.size nv ns ∧ w'.ownsRow w.heap.size 28 3 ov vs.length (vs.flatMap encV) ∧ Below w.heap.size w w') (fun _ _ i _ => flen us + 1 - (intOf i).toNat)
  case atStart => exact ⟨0, [entry], [], [], rfl, rfl, rfl, rfl, (fun u hu => by cases hu), str_two w _ entry, fun_two w _, below_alloc2 _ _ _⟩
  case round =>
    obtain ⟨n, ns, fs, vs, rfl, hn, HST, HV, HBD, hN, hO, hB⟩ := hrel
    have HN := hide hN
    have HO := hide hO
    have hs := hB.size
    obtain ⟨hnF, hnl, hnn, hns⟩ := st_facts (unhide HSM) hes (unhide HST) hn
    have HNS := hide hns
    have hvl : vs.length = n := by rw [← hn, ← unhide HV, List.length_map]
    obtain ⟨na, nc, e1, hnc, hncm, hcc⟩ := hN.at
    subst e1
    clear hN hO hns
    by_cases hlt : n < ns.length
    · have hlt' : (n : Int) < (ns.length : Int) := by omega
      obtain h0 | ⟨gb, go, rfl, hg⟩ := hcc
      · rw [h0] at hlt; simp at hlt
      have r0 := hg n hlt
      have hsn := unhide HNS ns[n] (List.getElem_mem _)
      have hsq : ns[n]? = some ns[n] := List.getElem?_eq_getElem hlt
      obtain ⟨hb0, hb1⟩ := best_tup (us := us) (s := ns[n])
      have HWN := hide (walk_stuck (unhide HST) hn hsq)
      have HWS := hide (fun x => walk_step (x := x) (unhide HST) hn hsq)
      clear hg hsq
      generalize ns[n] = s at *
      cases hbe : bestE us s with
      | none =>
        have HT := hide (hb0 hbe)
        have HW := hide (unhide HWN hbe)
        clear hb0 hb1 HWN HWS
        go_wp2_with fail
        refine (specAt_any a cap us s _ hsn hcap hcm ((unhide HR).below hB)).mono ?_
        rintro e w1 ⟨rfl, hw1⟩
        rw [unhide HT]
        unfold tup3
        go_wp2_with fail
        go_ret2
        exact ⟨_, _, rfl, by rw [unhide HW]; exact ⟨rfl, rfl⟩, bl_trans hB hw1⟩
      | some x =>
        have HT := hide (hb1 x hbe)
        have HW := hide (unhide HWS x hbe)
        have hxf := (best_flat hbe).1
        have h100 := (unhide HSM).body _ hxf
        have HXS := hide (refs_sized ((unhide HSM).size _ hxf))
        have hrl := refs_len x.2.2.body
        obtain ⟨ub, uo, rfl⟩ := (unhide HR).get (best_ne hbe)
        obtain ⟨bu, ou, lu, cu, ai, ci, u0, hxi, hxk, d00, d10, d20, k1, k2, k3, k4⟩ := best_cells (unhide HR) hbe
        have HK4 := hide k4
        have HBX : Hid (BodyAt w (x.2.2, .slice ai x.2.2.body.length ci)) := ⟨ai, ci, rfl, k1, k2, k3, k4⟩
        clear hb0 hb1 HWN HWS k4 hbe hxf
        obtain ⟨x1, x2, f⟩ := x
        simp only at *
        have hxi' : (x1 : Int) < (us.length : Int) := by omega
        have hxk' : (x2 : Int) < (lu : Int) := by omega
        go_wp2_with fail
        refine (specAt_any _ cap us s _ hsn hcap hcm ((unhide HR).below hB)).mono ?_
        rintro e w1 ⟨rfl, hw1⟩
        rw [unhide HT]
        unfold tup3
        have hB1 := bl_trans hB hw1
        have hs1 := hB1.size
        have HN1 := hide ((unhide HN).below hw1)
        have HO1 := hide (row_below (unhide HO) hw1)
        have u1 := (Stable.cell ⟨ub, uo + x1, none⟩ (.slice (some ⟨bu, ou, none⟩) lu cu)).1 _ _ hB1 u0
        have d0 := (Stable.cell ⟨bu, ou + x2 * 3, none⟩ (.string f.nm)).1 _ _ hB1 d00
        have d1 := (Stable.cell ⟨bu, ou + x2 * 3 + 1, none⟩ (.bool f.wk)).1 _ _ hB1 d10
        have d2 := (Stable.cell ⟨bu, ou + x2 * 3 + 2, none⟩ (.slice ai f.body.length ci)).1 _ _ hB1 d20
        clear HN HO hw1 hB r0 u0 d00 d10 d20 HT
        go_wp2_with (first
          | (at_builtin; refine wpList_append_own_at _ rfl _ _ 23 rfl w.heap.size 28 i1 (.agg #[.string ⟨#[]⟩, .bool false, .slice none 0 0]) 3 48 Tryz.underlying23 hi1 hy0 hy1 hy2 rfl (by decide) _ vs.length (vs.flatMap encV) rfl (World.ownsRow.alloc (World.ownsRow.alloc (unhide HO1) _) _) ⟨w1.heap.size + 1, 0, none⟩ 1 1 (encV (f, .slice ai f.body.length ci)) rfl rfl (funV_new2 w1 _ (f, .slice ai f.body.length ci)) (by simp [encV, Value.oneCell']) (by unfold maxLen; omega) (by omega) (by simp; omega) ?_; intro v3 w3 hown3 hgrow3 _ _; obtain ⟨g0, g1, g2⟩ := copy_cells (unhide HO1) hgrow3))
        have hB3 : Below w.heap.size w w3 := (bl_alloc (bl_alloc hB1 _) _).grown hgrow3 (bl_alloc (bl_alloc hB1 _) _).size (fun j hj => (World.ownsRow.lt (unhide HO1) j hj).1)
        have HN3 : Hid (StrOwn w3 w.heap.size (.slice (some ⟨gb, go, none⟩) ns.length nc) ns) := World.ownsRow.kept (World.ownsRow.alloc (World.ownsRow.alloc (unhide HN1) _) _) hgrow3 (row_ne (unhide HN1) (unhide HO1) (by decide))
        have HO3 := hide (vals_snoc hown3)
        have HK3 := hide ((unhide HK4).below hB3)
        have HV' : Hid ((vs ++ [(f, Value.slice ai f.body.length ci)]).map Prod.fst = fs ++ [f]) := by show _ = _; rw [List.map_append, unhide HV]; rfl
        have HBD' := hide (body_append (unhide HBD) (fun u hu => by rw [List.mem_singleton.1 hu]; exact unhide HBX))
        have hnb : gb < w3.heap.size := (World.ownsRow.lt (unhide HN3) gb rfl).2
        clear HN1 HO1 hown3 hgrow3 hB1 u1 d0 d1 d2 HBX HBD HV HK4
        generalize vs ++ [(f, Value.slice ai f.body.length ci)] = vs' at *
        refine (specRefsOf_any ai ci f.body _ (by omega) k2 k3 (unhide HK3)).mono ?_
        rintro e w4 ⟨rv, rfl, hV, hw4⟩
        have HN4 := hide ((unhide HN3).below hw4)
        have HO4 := hide (row_below (unhide HO3) hw4)
        have hB4 := bl_trans hB3 hw4
        have hs3 := hB3.size
        have HRV := hide hV
        have hne : rv.ownBlock = none ∨ rv.ownBlock ≠ some gb := by
          cases hrb : rv.ownBlock with
          | none => exact .inl rfl
          | some g => exact .inr (fun e => by have e' : g = gb := by simpa using e
                                              have := (World.ownsRow.lt hV g hrb).1
                                              omega)
        obtain ⟨ra, rc, e2, hrc, hrcm, _⟩ := hV.at
        subst e2
        clear HN3 HO3 HK3 hV hw4 hB3 g0 g1 g2
        generalize refsOf f.body = rs at *
        go_wp2_with fail
        go_loopw [6, 14] (fun nv i w' => ∃ (j nc : Nat) (na : Option Addr) (nl : List ByteArray), j ≤ rs.length ∧ i = .int .i64 j ∧ nv = .slice na nl.length nc ∧ nl.length ≤ ns.length + j ∧ Hid (addN ns (rs.take j) = nl) ∧ StrOwn w' w.heap.size (.slice na nl.length nc) nl ∧ StrOwn w' w3.heap.size (.slice ra rs.length rc) rs ∧ Hid ((Value.slice ra rs.length rc).ownBlock = none ∨ (Value.slice ra rs.length rc).ownBlock ≠ (Value.slice na nl.length nc).ownBlock) ∧ w'.ownsRow w.heap.size 28 3 v3 vs'.length (vs'.flatMap encV) ∧ Below w.heap.size w w') (fun _ i _ => rs.length - (intOf i).toNat)
        case atStart => exact ⟨0, nc, _, ns, Nat.zero_le _, rfl, rfl, by omega, by show _ = _; simp [addN], unhide HN4, unhide HRV, hne, unhide HO4, hB4⟩
        case round =>
          obtain ⟨j, nc', na, nl, hj, rfl, rfl, hll, HA, hN5, hR5, HNE, hO5, hB5⟩ := hrel
          have HN5 := hide hN5
          have HR5 := hide hR5
          have HO5 := hide hO5
          have hs5 := hB5.size
          obtain ⟨ra', rc', e3, _, _, hcc5⟩ := hR5.at
          obtain ⟨rfl, rfl⟩ : ra = ra' ∧ rc = rc' := by simpa using e3
          clear hN5 hR5 hO5 HN4 HO4 HRV hB4 hne e3
          by_cases hjl : j < rs.length
          · have hjl' : (j : Int) < (rs.length : Int) := by omega
            obtain h0 | ⟨b5, o5, rfl, hg5⟩ := hcc5
            · rw [h0] at hjl; simp at hjl
            have r5 := hg5 j hjl
            have HSN := hide (addN_snoc ns hjl)
            clear hg5
            generalize rs[j] = r at *
            cases hh : hasB nl r
            · have HNL : Hid (addN ns (rs.take (j + 1)) = nl ++ [r]) := by show _ = _; rw [unhide HSN, unhide HA, addOne_new hh]
              go_wp2_with fail
              refine (specHas_any _ nl r _ (unhide HN5).at).mono ?_
              rintro e w6 ⟨rfl, hw6⟩
              rw [hh]
              have HN6 := hide ((unhide HN5).below hw6)
              have HR6 := hide ((unhide HR5).below hw6)
              have HO6 := hide (row_below (unhide HO5) hw6)
              have hB6 := bl_trans hB5 hw6
              have hs6 := hB6.size
              replace r5 := (Stable.cell ⟨b5, o5 + j, none⟩ (.string r)).1 _ _ hw6 r5
              clear HN5 HR5 HO5 hB5 hw6
              go_wp2_with (first
                | (at_builtin; refine wpList_append_own_at _ rfl _ _ 60 rfl w.heap.size 9 i0 (.string ⟨#[]⟩) 1 16 Tryz.underlying60 hi hz0 hz1 hz2 rfl (by decide) _ nl.length (nl.map Value.string) rfl (World.ownsRow.alloc (unhide HN6) _) ⟨w6.heap.size, 0, none⟩ 1 1 [.string r] rfl rfl (cell_one_new _ _ _) (by simp [Value.oneCell']) (by unfold maxLen; omega) (by omega) (by simp; omega) ?_; intro v7 w7 hown7 hgrow7 _ hat7))
              have hB7 : Below w.heap.size w w7 := (bl_alloc hB6 _).grown hgrow7 (bl_alloc hB6 _).size (fun j hj => (World.ownsRow.lt (unhide HN6) j hj).1)
              have HN7 := hide (str_snoc hown7)
              have HR7 : Hid (StrOwn w7 w3.heap.size (.slice (some ⟨b5, o5, none⟩) rs.length rc) rs) := World.ownsRow.kept (World.ownsRow.alloc (unhide HR6) _) hgrow7 (unhide HNE)
              have HO7 : Hid (w7.ownsRow w.heap.size 28 3 v3 vs'.length (vs'.flatMap encV)) := World.ownsRow.kept (World.ownsRow.alloc (unhide HO6) _) hgrow7 (row_ne (unhide HO6) (unhide HN6) (by decide))
              have hb5 : b5 < w6.heap.size := (World.ownsRow.lt (unhide HR6) b5 rfl).2
              have HNE7 : Hid ((Value.slice (some ⟨b5, o5, none⟩) rs.length rc).ownBlock = none ∨ (Value.slice (some ⟨b5, o5, none⟩) rs.length rc).ownBlock ≠ v7.ownBlock) := by
                rcases hat7 with e | e
                · rw [e]; exact unhide HNE
                · rw [e]; refine .inr (fun h => ?_); have h' : b5 = w6.heap.size + 1 := by simpa [Value.ownBlock] using h
                  omega
              obtain ⟨a7, c7, e7, _⟩ := (unhide HN7).at
              subst e7
              exact ⟨⟨j + 1, c7, a7, nl ++ [r], by omega, by go_num, rfl, by simp; omega, unhide HNL, unhide HN7, unhide HR7, unhide HNE7, unhide HO7, hB7⟩, by simp [intOf]; omega⟩
            · have HNL : Hid (addN ns (rs.take (j + 1)) = nl) := by show _ = _; rw [unhide HSN, unhide HA, addOne_has hh]
              go_wp2_with fail
              refine (specHas_any _ nl r _ (unhide HN5).at).mono ?_
              rintro e w6 ⟨rfl, hw6⟩
              rw [hh]
              go_wp2_with fail
              exact ⟨⟨j + 1, nc', na, nl, by omega, by go_num, rfl, by omega, unhide HNL, (unhide HN5).below hw6, (unhide HR5).below hw6, unhide HNE, row_below (unhide HO5) hw6, bl_trans hB5 hw6⟩, by simp [intOf]; omega⟩
          · have hjl' : ¬ (j : Int) < (rs.length : Int) := by omega
            have hje : j = rs.length := by omega
            subst hje
            have HW' : Hid (stK us entry (n + 1) = (nl, fs ++ [f])) := by show _ = _; rw [unhide HW, ← unhide HA, List.take_length]
            have hnF' : n + 1 ≤ flen us := (st_facts (unhide HSM) hes (unhide HW') (by simp; omega)).1
            go_wp2_with fail
            exact ⟨⟨n + 1, nl, fs ++ [f], vs', by go_num, by simp; omega, unhide HW', unhide HV', unhide HBD', unhide HN5, unhide HO5, hB5⟩, by simp [intOf]; omega⟩
    · have hlt' : ¬ (n : Int) < (ns.length : Int) := by omega
      have HW := hide (walk_done (unhide HST) hn (by omega))
      obtain ⟨oa, oc, eo⟩ := row_form (unhide HO)
      subst eo
      clear hvl
      go_wp2_with fail
      go_ret2
      exact ⟨_, _, rfl, by rw [unhide HW]; exact ⟨rfl, vs, unhide HV, unhide HBD, unhide HO⟩, hB⟩
end Go.Proofs.YthbbmookhcalkaaGreatDoor.KeepW
