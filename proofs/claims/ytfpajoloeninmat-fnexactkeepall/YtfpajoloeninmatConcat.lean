/- The contracts of slices.Grow and slices.Concat at functions: the functions of all units in one row. -/
import Derived.Test.YtfpajoloeninmatUU
import Derived.Lib.AppendZeros
import Derived.Deep.AppendSrc
import Derived.Deep.Upon
import Derived.OwnWalk
namespace Go.Proofs.Ytfpajoloeninmat.Concat
open Go.ChangeShapes Go.WideShapes Go.ChangeAt Go.RowKit Go.Joins Go.Deep
open Go.Proofs.Ytfpajoloeninmat.Base Go.Proofs.Ytfpajoloeninmat.InsA Go.Proofs.Ytfpajoloeninmat.Funs Go.Proofs.Ytfpajoloeninmat.Open Go.Proofs.Ytfpajoloeninmat.Keep Go.Proofs.Ytfpajoloeninmat.UU
set_option linter.unusedVariables false
set_option maxRecDepth 100000

/-- A function's three cells: its body is a slice somewhere. -/
def encV (u : FunD × Value) : List Value := [.string u.1.nm, .bool u.1.wk, u.2]
def BodyAt (w : World) (u : FunD × Value) : Prop := ∃ ai ci, u.2 = .slice ai u.1.body.length ci ∧ u.1.nm.size ≤ maxLen ∧ u.1.body.length ≤ ci ∧ ci ≤ maxLen ∧ InsRow w ai u.1.body
theorem BodyAt.below {w w' : World} {u : FunD × Value} (h : BodyAt w u) (hb : Below w.heap.size w w') : BodyAt w' u := by
  obtain ⟨ai, ci, h0, h1, h2, h3, h4⟩ := h
  exact ⟨ai, ci, h0, h1, h2, h3, h4.below hb⟩
theorem body_append {w : World} {us vs : List (FunD × Value)} (h : ∀ u ∈ us, BodyAt w u) (k : ∀ u ∈ vs, BodyAt w u) : ∀ u ∈ us ++ vs, BodyAt w u := fun u hu => (List.mem_append.1 hu).elim (h u) (k u)
theorem encV_len (us : List (FunD × Value)) : (us.flatMap encV).length = us.length * 3 := by
  induction us with
  | nil => rfl
  | cons u r ih => rw [List.flatMap_cons, List.length_append, ih]; simp [encV]; omega
theorem flatV_at (us : List (FunD × Value)) : ∀ (i : Nat) (h : i < us.length), (us.flatMap encV)[i * 3]? = some (.string us[i].1.nm) ∧ (us.flatMap encV)[i * 3 + 1]? = some (.bool us[i].1.wk) ∧ (us.flatMap encV)[i * 3 + 2]? = some us[i].2 := by
  induction us with
  | nil => intro i h; simp at h
  | cons x r ih =>
    intro i h
    match i with
    | 0 => simp [encV]
    | i + 1 =>
      have hl : (encV x).length = 3 := rfl
      obtain ⟨h0, h1, h2⟩ := ih i (by simpa using h)
      rw [List.flatMap_cons]
      refine ⟨?_, ?_, ?_⟩
      · rw [List.getElem?_append_right (by rw [hl]; omega), hl, show (i + 1) * 3 - 3 = i * 3 by omega, h0]; simp
      · rw [List.getElem?_append_right (by rw [hl]; omega), hl, show (i + 1) * 3 + 1 - 3 = i * 3 + 1 by omega, h1]; simp
      · rw [List.getElem?_append_right (by rw [hl]; omega), hl, show (i + 1) * 3 + 2 - 3 = i * 3 + 2 by omega, h2]; simp
theorem encV_one (us : List (FunD × Value)) {w : World} (hb : ∀ u ∈ us, BodyAt w u) : ∀ v ∈ us.flatMap encV, v.oneCell' = true := by
  intro v hv
  obtain ⟨u, hu, hv⟩ := List.mem_flatMap.1 hv
  obtain ⟨ai, ci, h0, _⟩ := hb u hu
  simp only [encV, List.mem_cons, List.not_mem_nil, or_false] at hv
  rcases hv with rfl | rfl | rfl
  · rfl
  · rfl
  · rw [h0]; rfl
/-- The cells of functions in a row. -/
theorem vals_of {w : World} {a : Option Addr} {fs : List FunD} (h : FunRow w a fs) : ∃ us : List (FunD × Value), us.map Prod.fst = fs ∧ (∀ u ∈ us, BodyAt w u) ∧ ∀ ad, a = some ad → ∀ j v, (us.flatMap encV)[j]? = some v → w.cell? (ad.add j) = some v := by
  rcases h with rfl | ⟨b, off, rfl, h⟩
  · exact ⟨[], rfl, (fun u hu => by cases hu), fun ad _ j v hj => by simp at hj⟩
  · have each : ∀ i, i < fs.length → ∃ v : Value, (w.cell? ⟨b, off + i * 3, none⟩ = some (.string (fs.getD i default).nm) ∧ w.cell? ⟨b, off + i * 3 + 1, none⟩ = some (.bool (fs.getD i default).wk) ∧ w.cell? ⟨b, off + i * 3 + 2, none⟩ = some v) ∧ BodyAt w (fs.getD i default, v) := fun i hi => by
      obtain ⟨ai, ci, h0, h1, h2, h3, h4, h5, h6⟩ := h i hi
      have e : fs.getD i default = fs[i] := by simp [List.getD, List.getElem?_eq_getElem hi]
      rw [e]
      exact ⟨_, ⟨h0, h1, h2⟩, ai, ci, rfl, h3, h4, h5, h6⟩
    obtain ⟨f, hf⟩ := choose_lt each
    refine ⟨(List.range fs.length).map fun i => (fs.getD i default, f i), ?_, ?_, ?_⟩
    · refine List.ext_getElem (by simp) fun i h1 h2 => ?_
      simp [List.getD, List.getElem?_eq_getElem (show i < fs.length by simpa using h1)]
    · intro u hu
      obtain ⟨i, hi, rfl⟩ := List.mem_map.1 hu
      exact (hf i (by simpa using hi)).2
    · rintro ad e j v hj
      cases e
      have hj' : j < fs.length * 3 := by
        have := (List.getElem?_eq_some_iff.1 hj).1
        rw [encV_len] at this
        simpa using this
      have hi : j / 3 < fs.length := by omega
      obtain ⟨h0, h1, h2⟩ := flatV_at ((List.range fs.length).map fun i => (fs.getD i default, f i)) (j / 3) (by simpa using hi)
      obtain ⟨⟨c0, c1, c2⟩, _⟩ := hf (j / 3) hi
      have hr : j % 3 = 0 ∨ j % 3 = 1 ∨ j % 3 = 2 := by omega
      rw [add_plain]
      rcases hr with hr | hr | hr
      · have e : j = j / 3 * 3 := by omega
        rw [← e] at h0
        rw [h0] at hj
        cases hj
        rw [show off + j = off + j / 3 * 3 by omega, c0]
        simp
      · have e : j = j / 3 * 3 + 1 := by omega
        rw [← e] at h1
        rw [h1] at hj
        cases hj
        rw [show off + j = off + j / 3 * 3 + 1 by omega, c1]
        simp
      · have e : j = j / 3 * 3 + 2 := by omega
        rw [← e] at h2
        rw [h2] at hj
        cases hj
        rw [show off + j = off + j / 3 * 3 + 2 by omega, c2]
        simp
/-- A row of one's own that holds functions' cells. -/
theorem vals_row {w : World} {B : Nat} {v : Value} {us : List (FunD × Value)} (h : w.ownsRow B 52 3 v us.length (us.flatMap encV)) (hb : ∀ u ∈ us, BodyAt w u) : ∃ a cap, v = .slice a (us.map Prod.fst).length cap ∧ (us.map Prod.fst).length ≤ cap ∧ cap ≤ maxLen ∧ FunRow w a (us.map Prod.fst) := by
  obtain ⟨hl, ⟨rfl, h0⟩ | ⟨g, cap, cur, rfl, hB, hg, hn, hm, hs, ht⟩⟩ := h
  · have : us = [] := List.length_eq_zero_iff.1 h0
    subst this
    exact ⟨none, 0, rfl, Nat.le_refl _, Nat.zero_le _, .inl rfl⟩
  · refine ⟨_, cap, by rw [List.length_map], by rw [List.length_map]; exact hn, hm, .inr ⟨g, 0, rfl, fun i hi => ?_⟩⟩
    have hi' : i < us.length := by simpa using hi
    obtain ⟨h0, h1, h2⟩ := flatV_at us i hi'
    have t : ∀ j v, j < us.length * 3 → (us.flatMap encV)[j]? = some v → w.cell? ⟨g, j, none⟩ = some v := fun j v hj e => by
      rw [cell_of_block hg]
      rw [← ht, List.getElem?_take_of_lt hj] at e
      simpa using e
    obtain ⟨ai, ci, e2, k1, k2, k3, k4⟩ := hb us[i] (List.getElem_mem _)
    simp only [Nat.zero_add, List.getElem_map]
    exact ⟨ai, ci, t _ _ (by omega) h0, t _ _ (by omega) h1, by rw [t _ _ (by omega) h2, e2], k1, k2, k3, k4⟩

theorem infoFunP : (Try.prog.info? 52).map (fun i => (i.zero, i.size, i.bytes)) = some (some (.agg #[.string ⟨#[]⟩, .bool false, .slice none 0 0]), 3, 48) := by kernel_rfl
theorem info_fun : ∃ i, Try.prog.info? 52 = some i ∧ i.zero = some (.agg #[.string ⟨#[]⟩, .bool false, .slice none 0 0]) ∧ i.size = 3 ∧ i.bytes = 48 := by
  obtain ⟨i, hi, h⟩ := Option.map_eq_some_iff.1 infoFunP
  simp only [Prod.mk.injEq] at h
  exact ⟨i, hi, h⟩
/-- The functions of a row behind those of a row of one's own. -/
theorem append_vals {w0 w : World} (h0w : Below w0.heap.size w0 w) {B : Nat} {v : Value} {us : List (FunD × Value)} (ty : TypeId) (hB : B ≤ w.heap.size) (h : w.ownsRow B 52 3 v us.length (us.flatMap encV)) {a : Option Addr} {ci : Nat} {fs : List FunD} (hr : FunRow w0 a fs) (hsz : us.length + fs.length ≤ 1000000) :
    ∃ vs v' w', vs.map Prod.fst = fs ∧ (∀ u ∈ vs, BodyAt w0 u) ∧ (Builtin.append_ #[37, 37] ty #[v, .slice a fs.length ci]).run Try.prog w = .ok v' w' ∧ w'.ownsRow B 52 3 v' (us ++ vs).length ((us ++ vs).flatMap encV) ∧ w.grownBy w' v.ownBlock := by
  obtain ⟨vs, rfl, hb, hc⟩ := vals_of hr
  obtain ⟨i, hi, hz0, hz1, hz2⟩ := info_fun
  rw [List.length_map] at hsz ⊢
  cases a with
  | none =>
    have hnil : vs = [] := by
      rcases hr with hr | ⟨b, off, e, _⟩
      · simpa using hr
      · cases e
    subst hnil
    refine ⟨[], v, w, rfl, hb, ?_, by simpa using h, World.grownBy.refl _ _⟩
    obtain ⟨_, ⟨rfl, h0⟩ | ⟨g, cap, cur, rfl, _, _, hn, _⟩⟩ := h
    · exact run_append_nothing w _ _ ty _ i Try.underlying37 hi _ _ _ (Nat.le_refl _) _ (Src.ofNil w Try.underlying37 ci)
    · exact run_append_nothing w _ _ ty _ i Try.underlying37 hi _ _ _ hn _ (Src.ofNil w Try.underlying37 ci)
  | some ad =>
    obtain ⟨v', w', hr', ho', hg', _⟩ := run_append_own (P := Try.prog) w B 37 ty 52 i _ 3 48 Try.underlying37 hi hz0 hz1 hz2 rfl (by decide) v us.length (us.flatMap encV) h ad vs.length ci (vs.flatMap encV) (encV_len vs) (fun j x hj => (Stable.cell _ _).1 _ _ h0w (hc ad rfl j x hj)) (encV_one vs hb) (by unfold maxLen; omega) (by omega) hB
    exact ⟨vs, v', w', rfl, hb, hr', by rw [List.length_append, List.flatMap_append]; exact ho', hg'⟩

theorem grow_zeros (n : Nat) (h0 : 0 < n) (hn : n ≤ 1000) (ty : TypeId) (w : World) : (Builtin.append_ #[37, 3] ty #[.slice none 0 0, .int .i64 (n : Int)]).run Try.prog w = .ok (.slice (some ⟨w.heap.size, 0, none⟩) n (grownCap w n 0 52)) (w.drew.alloc (.cells (Builtin.zeroCells #[.string ⟨#[]⟩, .bool false, .slice none 0 0] n ++ Builtin.zeroCells #[.string ⟨#[]⟩, .bool false, .slice none 0 0] (grownCap w n 0 52 - n)) 52)) := by
  obtain ⟨i, hi, hz0, hz1, hz2⟩ := info_fun
  exact Lib.run_append_nil_zeros w _ _ ty _ i _ .i64 .i64 Try.underlying37 Try.underlying3 hi hz0 n h0 (by rw [hz1]; decide) (by omega) (by rw [hz2]; omega)
set_option maxHeartbeats 1000000 in
theorem grow_any (n : Nat) (hn : n ≤ 1000) (w : World) :
    Calls Try.prog 62 #[.slice none 0 0, .int .i64 (n : Int)] w fun e w' => ∃ v, e = .returned v ∧ w'.ownsRow w.heap.size 52 3 v 0 [] ∧ Below w.heap.size w w' := by
  by_cases h0 : 0 < n
  · have h0' : (0 : Int) < (n : Int) := by omega
    have hgr := grow_zeros n h0 hn
    have hge := grownCap_ge w n 0 52
    have hcm : grownCap w n 0 52 ≤ maxLen := grownCap_le_maxLen w n 0 _ (by unfold maxLen; omega)
    have HSZ : Hid ((Builtin.zeroCells #[.string ⟨#[]⟩, .bool false, .slice none 0 0] n ++ Builtin.zeroCells #[.string ⟨#[]⟩, .bool false, .slice none 0 0] (grownCap w n 0 52 - n)).size = grownCap w n 0 52 * 3) := by
      show _ = _
      simp only [Array.size_append, size_zeroCells]
      simp
      omega
    go_enter Try.func62, Try.ntmps62
    go_wp2_with (first
      | (at_builtin; refine Lib.wpList_append_run _ rfl _ _ _ _ rfl _ _ rfl rfl _ _ (hgr _ _) ?_)
      | go_in)
    go_ret
    exact ⟨_, rfl, ⟨rfl, .inr ⟨w.heap.size, _, _, rfl, Nat.le_refl _, heap_alloc_new w _, Nat.zero_le _, hcm, unhide HSZ, by simp⟩⟩, (below_alloc1 w _).drew⟩
  · have hn0 : n = 0 := by omega
    subst hn0
    go_enter Try.func62, Try.ntmps62
    go_wp2_with fail
    go_ret
    exact ⟨_, rfl, World.ownsRow_nil _ _ _ _, Below.refl _ _⟩

theorem flatten_succ {us : List (List FunD)} {k : Nat} (h : k < us.length) : (us.take (k + 1)).flatten = (us.take k).flatten ++ us[k] := by
  rw [List.take_succ_eq_append_getElem h, List.flatten_append]
  simp
theorem flatten_le {us : List (List FunD)} (h5 : ∀ u ∈ us, u.length ≤ 5) : ∀ k, k ≤ us.length → (us.take k).flatten.length ≤ k * 5
  | 0, _ => by simp
  | k + 1, hk => by
    have := flatten_le h5 k (by omega)
    have := h5 us[k] (List.getElem_mem _)
    rw [flatten_succ (by omega), List.length_append]
    omega

set_option maxHeartbeats 2000000 in
theorem concat_any (a : Option Addr) (cap : Nat) (us : List (List FunD)) (w : World) (hcap : us.length ≤ cap) (hcm : cap ≤ maxLen) (h8 : us.length ≤ 8) (hu5 : ∀ u ∈ us, u.length ≤ 5) (hR : UnitRow w a us) :
    Calls Try.prog 34 #[.slice a us.length cap] w fun e w' => ∃ a' cap', e = .returned (.slice a' us.flatten.length cap') ∧ us.flatten.length ≤ cap' ∧ cap' ≤ maxLen ∧ FunRow w' a' us.flatten ∧ Below w.heap.size w w' := by
  have HR := hide hR
  have H5 := hide hu5
  clear hR hu5
  go_enter Try.func34, Try.ntmps34
  go_wp2_with fail
  go_loopw [3, 11] (fun z i w' => ∃ k n : Nat, k ≤ us.length ∧ i = .int .i64 k ∧ z = .int .i64 n ∧ n ≤ k * 5 ∧ Hid (n = (us.take k).flatten.length) ∧ w' = w) (fun _ i _ => us.length - (intOf i).toNat)
  case atStart => exact ⟨0, 0, Nat.zero_le _, rfl, rfl, Nat.le_refl _, rfl, rfl⟩
  case round =>
    obtain ⟨k, n, hk, rfl, rfl, hn, HN, hw⟩ := hrel
    replace hw := hw.symm
    subst hw
    by_cases hkl : k < us.length
    · obtain ⟨b, off, rfl⟩ := (unhide HR).get (by omega)
      obtain ⟨ai, ci, c0, h4, h5, h6⟩ := (unhide HR).at hkl
      have hkl' : (k : Int) < (us.length : Int) := by omega
      have hl5 := unhide H5 us[k] (List.getElem_mem _)
      have HS : Hid (n + us[k].length = (us.take (k + 1)).flatten.length) := by show _ = _; rw [flatten_succ hkl, List.length_append, unhide HN]
      clear h6
      generalize us[k] = u at *
      go_wp2_with fail
      exact ⟨⟨k + 1, n + u.length, by omega, by go_num, by go_num, by omega, unhide HS, trivial⟩, by simp [intOf]; omega⟩
    · have hke : k = us.length := by omega
      subst hke
      go_wp2_with fail
      refine (grow_any n (by omega) _).mono ?_
      rintro e w1 ⟨v, rfl, hO, hb1⟩
      have HO := hide hO
      clear hO
      go_wp2_with fail
      go_loopw [6, 27] (fun v i w' => ∃ (k : Nat) (vs : List (FunD × Value)), k ≤ us.length ∧ i = .int .i64 k ∧ Hid (vs.map Prod.fst = (us.take k).flatten) ∧ Hid (∀ u ∈ vs, BodyAt w u) ∧ w'.ownsRow w.heap.size 52 3 v vs.length (vs.flatMap encV) ∧ Below w.heap.size w w') (fun _ i _ => us.length - (intOf i).toNat)
      case atStart => exact ⟨0, [], Nat.zero_le _, rfl, rfl, (fun u hu => by cases hu), unhide HO, hb1⟩
      case round =>
        obtain ⟨k, vs, hk, rfl, HV, HBD, hO, hB⟩ := hrel
        have HO := hide hO
        clear hO
        by_cases hkl : k < us.length
        · obtain ⟨b, off, rfl⟩ := (unhide HR).get (by omega)
          obtain ⟨ai, ci, c00, h4, h5, h6⟩ := (unhide HR).at hkl
          have c0 := (Stable.cell ⟨b, off + k, none⟩ (.slice ai us[k].length ci)).1 _ _ hB c00
          have hkl' : (k : Int) < (us.length : Int) := by omega
          have hl5 := unhide H5 us[k] (List.getElem_mem _)
          have hvl : vs.length ≤ k * 5 := by
            have := flatten_le (unhide H5) k (by omega)
            rw [← unhide HV, List.length_map] at this
            exact this
          have HFS := hide (flatten_succ hkl)
          have hs := hB.size
          have hap := fun ty => append_vals hB (ci := ci) ty hs (unhide HO) h6 (by omega)
          have HAP := hide hap
          clear h6 c00 hap
          generalize us[k] = u at *
          go_wp2_with (first
            | (at_builtin; obtain ⟨ws, v', w', hws, hbd, hrun, hown, hgr⟩ := unhide HAP _; refine Lib.wpList_append_run _ rfl _ _ _ _ rfl _ _ rfl rfl _ _ hrun ?_)
            | go_in)
          have hB1 := hB.grown hgr hs (fun j hj => (World.ownsRow.lt (unhide HO) j hj).1)
          exact ⟨⟨k + 1, vs ++ ws, by omega, by go_num, by show _ = _; rw [unhide HFS, List.map_append, unhide HV, hws], body_append (unhide HBD) hbd, hown, hB1⟩, by simp [intOf]; omega⟩
        · have hke : k = us.length := by omega
          subst hke
          have HV' : Hid (vs.map Prod.fst = us.flatten) := by show _ = _; rw [unhide HV, List.take_length]
          obtain ⟨ra, rc, hv, hr1, hr2, hr3⟩ := vals_row (unhide HO) (fun u hu => (unhide HBD u hu).below hB)
          rw [unhide HV'] at hv hr1 hr3
          have HR3 := hide hr3
          clear hr3
          subst hv
          go_wp2_with fail
          go_ret
          exact ⟨ra, rc, rfl, hr1, hr2, unhide HR3, hB⟩
end Go.Proofs.Ytfpajoloeninmat.Concat
