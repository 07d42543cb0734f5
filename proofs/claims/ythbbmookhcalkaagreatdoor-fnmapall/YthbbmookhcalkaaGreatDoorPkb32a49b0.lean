/- Rows of units: reading them as an argument, and the contracts of the laws' helpers on them. -/
import Derived.Test.YthbbmookhcalkaaGreatDoorUnits
import Derived.Deep.RegionHeld3
import Derived.Test.YthbbmookhcalkaaGreatDoorPk3f82c290
import Derived.OwnWalk
namespace Go.Proofs.YthbbmookhcalkaaGreatDoor.UU
open Go.ChangeShapes Go.WideShapes Go.ChangeAt Go.RowKit Go.Joins Go.Deep
open Go.Proofs.YthbbmookhcalkaaGreatDoor.Base Go.Proofs.YthbbmookhcalkaaGreatDoor.InsA Go.Proofs.YthbbmookhcalkaaGreatDoor.Funs Go.Proofs.YthbbmookhcalkaaGreatDoor.Open Go.Proofs.YthbbmookhcalkaaGreatDoor.Keep Go.Proofs.YthbbmookhcalkaaGreatDoor.Units
set_option linter.unusedVariables false
set_option maxRecDepth 100000

/-- The cell of a unit, and the row of its functions. -/
def UnitAt (w : World) (b o : Nat) (fs : List FunD) : Prop :=
  ∃ ai ci, w.cell? ⟨b, o, none⟩ = some (.slice ai fs.length ci) ∧ fs.length ≤ ci ∧ ci ≤ maxLen ∧ FunRow w ai fs
/-- These units lie in a row of memory. -/
def UnitRow (w : World) (a : Option Addr) (us : List (List FunD)) : Prop :=
  us = [] ∨ ∃ b off, a = some ⟨b, off, none⟩ ∧ ∀ i (h : i < us.length), UnitAt w b (off + i) us[i]

theorem UnitAt.below {w w' : World} {b o : Nat} {fs : List FunD} (h : UnitAt w b o fs) (hb : Below w.heap.size w w') : UnitAt w' b o fs := by
  obtain ⟨ai, ci, h0, h1, h2, h3⟩ := h
  exact ⟨ai, ci, (hb.cell (p := ⟨b, o, none⟩) (World.block_lt_of_cell? w _ h0)).trans h0, h1, h2, h3.below hb⟩
theorem UnitRow.below {w w' : World} {a : Option Addr} {us : List (List FunD)} (h : UnitRow w a us) (hb : Below w.heap.size w w') : UnitRow w' a us := by
  rcases h with h | ⟨b, off, ha, h⟩
  · exact .inl h
  · exact .inr ⟨b, off, ha, fun i hi => (h i hi).below hb⟩
theorem UnitRow.get {w : World} {a : Option Addr} {us : List (List FunD)} (h : UnitRow w a us) (h0 : 0 < us.length) : ∃ b off, a = some ⟨b, off, none⟩ := by
  rcases h with h | ⟨b, off, ha, _⟩
  · rw [h] at h0; simp at h0
  · exact ⟨b, off, ha⟩
theorem UnitRow.at {w : World} {b off k : Nat} {us : List (List FunD)} (h : UnitRow w (some ⟨b, off, none⟩) us) (hk : k < us.length) : UnitAt w b (off + k) us[k] := by
  rcases h with h | ⟨b', off', ha, h⟩
  · subst h; simp at hk
  · simp only [Option.some.injEq, Addr.mk.injEq, and_true] at ha
    obtain ⟨rfl, rfl⟩ := ha
    exact h k hk
/-- The sizes of all that is in functions. -/
def Fits (fs : List FunD) : Prop := fs.length ≤ maxLen ∧ ∀ f ∈ fs, f.nm.size ≤ maxLen ∧ f.body.length ≤ maxLen ∧ ∀ x ∈ f.body, x.s.size ≤ maxLen
theorem UnitRow.sizes {w : World} {a : Option Addr} {us : List (List FunD)} (h : UnitRow w a us) : ∀ u ∈ us, Fits u := by
  intro u hu
  obtain ⟨i, hi, rfl⟩ := List.getElem_of_mem hu
  rcases h with h | ⟨b, off, ha, h⟩
  · subst h; simp at hi
  · obtain ⟨ai, ci, _, h4, h5, h6⟩ := h i hi
    exact ⟨by omega, h6.sizes⟩
theorem Stable.urow (a : Option Addr) (us : List (List FunD)) : Stable (fun w => UnitRow w a us) := ⟨fun w w' hb hs => hs.below hb, fun w hs => hs⟩


/-- A slice of functions of the program's own, its blocks from R up to E. -/
def OwnFE (w : World) (R E : Nat) (fs : List FunD) : Prop := ∃ C Rs, w.heap[R]? = some (.cells C 28) ∧ FilledF w C R Rs fs fs.length ∧ R < E ∧ ∀ i, i < fs.length → Rs i < E
theorem OwnFE.funs {w : World} {R E : Nat} {fs : List FunD} (h : OwnFE w R E fs) : OwnFuns w R fs fs.length := by
  obtain ⟨C, Rs, hC, hF, _⟩ := h
  exact ⟨C, Rs, hC, hF⟩
theorem OwnFE.of {w : World} {R : Nat} {fs : List FunD} (h : OwnFuns w R fs fs.length) : OwnFE w R w.heap.size fs := by
  obtain ⟨C, Rs, hC, hF⟩ := h
  refine ⟨C, Rs, hC, hF, (Array.getElem?_eq_some_iff.1 hC).1, fun i hi => ?_⟩
  obtain ⟨_, _, _, _, D, hD, _⟩ := hF.2 i hi hi
  exact (Array.getElem?_eq_some_iff.1 hD).1
theorem filledF_below {w w' : World} {C : Array Value} {R k : Nat} {Rs : Nat → Nat} {fs : List FunD} (h : FilledF w C R Rs fs k) (hb : Below w.heap.size w w') : FilledF w' C R Rs fs k :=
  ⟨h.1, fun i hi hk => by obtain ⟨h0, h1, h2, h3, h4⟩ := h.2 i hi hk; exact ⟨h0, h1, h2, h3, h4.below hb⟩⟩
theorem OwnFE.below {w w' : World} {R E : Nat} {fs : List FunD} (h : OwnFE w R E fs) (hb : Below w.heap.size w w') : OwnFE w' R E fs := by
  obtain ⟨C, Rs, hC, hF, hr⟩ := h
  exact ⟨C, Rs, box_below hC hb, filledF_below hF hb, hr⟩
theorem OwnFE.set {w : World} {R E B o : Nat} {fs : List FunD} (h : OwnFE w R E fs) (hB : B < R) (v : Value) : OwnFE (w.setCell ⟨B, o, none⟩ v) R E fs := by
  obtain ⟨C, Rs, hC, hF, hr⟩ := h
  refine ⟨C, Rs, (Below.heap_setCell w ⟨B, o, none⟩ v R (by show R ≠ B; omega)).trans hC, ⟨hF.1, fun i hi hk => ?_⟩, hr⟩
  obtain ⟨h0, h1, h2, h3, h4⟩ := hF.2 i hi hk
  exact ⟨h0, h1, h2, h3, own_set h4 (by omega) v⟩
/-- The first k units lie in these cells, each in blocks of its own, one behind the other. -/
def FilledU (w : World) (C : Array Value) (R : Nat) (Rs Es : Nat → Nat) (us : List (List FunD)) (k : Nat) : Prop :=
  C.size = us.length ∧ (∀ i (h : i < us.length), i < k → C[i]? = some (.slice (some ⟨Rs i, 0, none⟩) us[i].length us[i].length) ∧ R < Rs i ∧ Es i ≤ w.heap.size ∧ OwnFE w (Rs i) (Es i) us[i]) ∧ ∀ i j, i < j → j < k → Es i ≤ Rs j
/-- A slice of units of the program's own. -/
def OwnUnits (w : World) (R : Nat) (us : List (List FunD)) (k : Nat) : Prop := ∃ C Rs Es, w.heap[R]? = some (.cells C 23) ∧ FilledU w C R Rs Es us k
theorem OwnUnits.row {w : World} {R : Nat} {us : List (List FunD)} (h : OwnUnits w R us us.length) (hs : ∀ u ∈ us, Fits u) : UnitRow w (some ⟨R, 0, none⟩) us := by
  obtain ⟨C, Rs, Es, hC, hF⟩ := h
  refine .inr ⟨R, 0, rfl, fun i hi => ?_⟩
  obtain ⟨h0, h3, _, h4⟩ := hF.2.1 i hi hi
  obtain ⟨k1, k2⟩ := hs _ (List.getElem_mem hi)
  simp only [Nat.zero_add]
  exact ⟨_, _, by rw [cell_of_block hC]; exact h0, Nat.le_refl _, k1, h4.funs.row k2⟩


end Go.Proofs.YthbbmookhcalkaaGreatDoor.UU
/- The contracts of the specification's l3Ok, l3At, PickAt, l3Strong, l3Two, PickTwo. -/
namespace Go.Proofs.YthbbmookhcalkaaGreatDoor.PickS
open Go.ChangeShapes Go.WideShapes Go.ChangeAt Go.RowKit Go.Joins
open Go.Proofs.YthbbmookhcalkaaGreatDoor.Base Go.Proofs.YthbbmookhcalkaaGreatDoor.InsA Go.Proofs.YthbbmookhcalkaaGreatDoor.Funs Go.Proofs.YthbbmookhcalkaaGreatDoor.Open Go.Proofs.YthbbmookhcalkaaGreatDoor.FunS Go.Proofs.YthbbmookhcalkaaGreatDoor.Keep Go.Proofs.YthbbmookhcalkaaGreatDoor.UnitS Go.Proofs.YthbbmookhcalkaaGreatDoor.UU Go.Proofs.YthbbmookhcalkaaGreatDoor.PickD
set_option linter.unusedVariables false
set_option maxRecDepth 100000


/-- Three answers as one value. -/
def tup3 (t : Int × Int × Bool) : Value := .tuple #[.int .i64 t.1, .int .i64 t.2.1, .bool t.2.2]
/-- What the loop keeps: the first that has the name, if there is one. -/
def FirstIs (l : List Ent) (a b : Int) : Prop := (l = [] ∧ a = -1 ∧ b = -1) ∨ ∃ x, l.head? = some x ∧ a = (x.1 : Int) ∧ b = (x.2.1 : Int)
theorem first_put {l : List Ent} {a b : Int} (h : FirstIs l a b) (ha : a < 0) (x : Ent) : FirstIs (l ++ [x]) (x.1 : Int) (x.2.1 : Int) := by
  rcases h with ⟨rfl, _, _⟩ | ⟨y, _, e, _⟩
  · exact .inr ⟨x, rfl, rfl, rfl⟩
  · omega
theorem first_keep {l : List Ent} {a b : Int} (h : FirstIs l a b) (ha : ¬ a < 0) (x : Ent) : FirstIs (l ++ [x]) a b := by
  rcases h with ⟨rfl, e, _⟩ | ⟨y, hy, e, e'⟩
  · omega
  · exact .inr ⟨y, by cases l <;> simp_all, e, e'⟩
theorem at_strong {us : List (List FunD)} {s : ByteArray} {k j : Nat} (hk : k < us.length) (hst : strong (hitsTo us s k) = []) (hj : j < us[k].length) (h : findI us[k] s = (j : Int)) (hw : us[k][j].wk = false) :
    ((k : Int), (j : Int), true) = pickAt us s := by
  have e : ∀ n, k < n → n ≤ us.length → (strong (hitsTo us s n)).head? = some (k, j, us[k][j]) := by
    intro n
    induction n with
    | zero => intro h; omega
    | succ n ih =>
      intro hn hl
      by_cases hkn : n = k
      · subst hkn
        rw [hits_hit hk hj h, strong_append, hst, strong_one hw]
        rfl
      · rw [hitsTo, strong_append, List.head?_append, ih (by omega) (by omega)]
        rfl
  unfold pickAt bestOf hits
  rw [e _ hk (Nat.le_refl _)]
  rfl
theorem at_end {us : List (List FunD)} {s : ByteArray} {a b : Int} (hst : strong (hitsTo us s us.length) = []) (h : FirstIs (hitsTo us s us.length) a b) : pickAt us s = if a < 0 then (0, 0, false) else (a, b, true) := by
  unfold pickAt bestOf hits
  rw [hst]
  rcases h with ⟨e, ha, hb⟩ | ⟨x, e, ha, hb⟩
  · rw [e, if_pos (by omega)]; rfl
  · rw [e, if_neg (by omega), ha, hb]; rfl

set_option maxHeartbeats 1000000 in
theorem specAt_any (a : Option Addr) (cap : Nat) (us : List (List FunD)) (s : ByteArray) (w : World) (hs : s.size ≤ maxLen) (hcap : us.length ≤ cap) (hcm : cap ≤ maxLen) (hR : UnitRow w a us) :
    Calls Tryz.prog 121 #[.slice a us.length cap, .string s] w fun e w' => e = .returned (tup3 (pickAt us s)) ∧ Below w.heap.size w w' := by
  have HR := hide hR
  clear hR
  unfold maxLen at hcm
  have hlen : (us.length : Int) ≤ 9223372036854775807 := by omega
  go_enter Tryz.func121, Tryz.ntmps121
  go_wp2_with fail
  go_loopw [7, 8, 9] (fun av bv i w' => ∃ (k : Nat) (za zb : Int), k ≤ us.length ∧ i = .int .i64 k ∧ av = .int .i64 za ∧ bv = .int .i64 zb ∧ Hid (strong (hitsTo us s k) = []) ∧ Hid (FirstIs (hitsTo us s k) za zb) ∧ Below w.heap.size w w') (fun _ _ i _ => us.length - (intOf i).toNat)
  case atStart => exact ⟨0, -1, -1, Nat.zero_le _, rfl, rfl, rfl, rfl, .inl ⟨rfl, rfl, rfl⟩, Below.refl _ _⟩
  case round =>
    obtain ⟨k, za, zb, hk, rfl, rfl, rfl, HS, HF, hB⟩ := hrel
    by_cases hkl : k < us.length
    · obtain ⟨b, off, rfl⟩ := (unhide HR).get (by omega)
      obtain ⟨ai, ci, c0, h4, h5, h6⟩ := ((unhide HR).below hB).at hkl
      have H6 := hide h6
      clear h6
      have hkl' : (k : Int) < (us.length : Int) := by omega
      by_cases hf : findI us[k] s < 0
      · have HM := hide (hits_miss hkl hf)
        go_wp2_with fail
        refine (specFind_any ai ci us[k] s _ hs h4 h5 (unhide H6)).mono ?_
        rintro e w1 ⟨rfl, hb1⟩
        go_wp2_with fail
        exact ⟨⟨k + 1, za, zb, by omega, by go_num, rfl, rfl, by rw [unhide HM]; exact unhide HS, by rw [unhide HM]; exact unhide HF, bl_trans hB hb1⟩, by simp [intOf]; omega⟩
      · obtain ⟨j, hlt, hfe⟩ := find_at hf
        have HM := hide (hits_hit hkl hlt hfe)
        have HA := hide (at_strong hkl (unhide HS) hlt hfe)
        obtain ⟨b', off', rfl⟩ := (unhide H6).get (by omega)
        go_wp2_with fail
        refine (specFind_any _ ci us[k] s _ hs h4 h5 (unhide H6)).mono ?_
        rintro e w1 ⟨rfl, hb1⟩
        obtain ⟨ai', ci', d0, d1, d2, _⟩ := ((unhide H6).below hb1).at hlt
        have c1 := (Stable.cell ⟨b, off + k, none⟩ (.slice (some ⟨b', off', none⟩) us[k].length ci)).1 _ _ hb1 c0
        rw [hfe]
        have hB1 := bl_trans hB hb1
        have hlt' : (j : Int) < (us[k].length : Int) := by omega
        clear c0 d0 d2 hb1 hB hf hfe
        cases hw : us[k][j].wk
        · rw [hw] at d1
          go_wp2_with fail
          go_ret3
          exact ⟨by rw [← unhide HA hw]; rfl, hB1⟩
        · rw [hw] at d1
          have HS' : Hid (strong (hitsTo us s (k + 1)) = []) := by show _ = _; rw [unhide HM, strong_append, unhide HS, strong_none hw]; rfl
          by_cases hz : za < 0
          · have HF' : Hid (FirstIs (hitsTo us s (k + 1)) (k : Int) (j : Int)) := by show FirstIs _ _ _; rw [unhide HM]; exact first_put (unhide HF) hz (k, j, us[k][j])
            go_wp2_with fail
            exact ⟨⟨k + 1, k, j, by omega, by go_num, rfl, rfl, unhide HS', unhide HF', hB1⟩, by simp [intOf]; omega⟩
          · have HF' : Hid (FirstIs (hitsTo us s (k + 1)) za zb) := by show FirstIs _ _ _; rw [unhide HM]; exact first_keep (unhide HF) hz (k, j, us[k][j])
            go_wp2_with fail
            exact ⟨⟨k + 1, za, zb, by omega, by go_num, rfl, rfl, unhide HS', unhide HF', hB1⟩, by simp [intOf]; omega⟩
    · have hke : k = us.length := by omega
      subst hke
      have HE := hide (at_end (unhide HS) (unhide HF))
      by_cases hz : za < 0
      · go_wp2_with fail
        go_ret3
        exact ⟨by rw [unhide HE, if_pos hz]; rfl, hB⟩
      · go_wp2_with fail
        go_ret3
        exact ⟨by rw [unhide HE, if_neg (by omega)]; rfl, hB⟩

def pickAtB (us : List (List FunD)) (s : ByteArray) : Int × Int × Bool := if unitsOkB us 8 then pickAt us s else (0, 0, false)

theorem strong_hit {us : List (List FunD)} {s : ByteArray} {k j : Nat} (hk : k < us.length) (hj : j < us[k].length) (h : findI us[k] s = (j : Int)) : (strong (hitsTo us s (k + 1))).length = (strong (hitsTo us s k)).length + if us[k][j].wk then 0 else 1 := by
  rw [hits_hit hk hj h, strong_append, List.length_append]
  cases hw : us[k][j].wk
  · rw [strong_one hw]; rfl
  · rw [strong_none hw]; rfl
theorem strong_le (us : List (List FunD)) (s : ByteArray) : ∀ n, (strong (hitsTo us s n)).length ≤ n
  | 0 => Nat.le_refl _
  | n + 1 => by
    have := strong_le us s n
    rw [hitsTo, strong_append, List.length_append]
    have h1 : (strong (hitU s (us.getD n []) n)).length ≤ 1 := by
      refine Nat.le_trans (List.length_filter_le _ _) ?_
      unfold hitU
      split <;> simp
    omega
def strongN (us : List (List FunD)) (s : ByteArray) : Nat := (strong (hits us s)).length


/-- The first name, by units and in these by functions, that more than one strong function has. -/
def twice (us : List (List FunD)) (x : Ent) : Bool := decide (1 < strongN us x.2.2.nm)
def twoOf (us : List (List FunD)) : Option Ent := (flat us).find? (twice us)
def twoB (o : Option Ent) : ByteArray × Bool := match o with | some x => (x.2.2.nm, true) | none => (⟨#[]⟩, false)
def tup2 (t : ByteArray × Bool) : Value := .tuple #[.string t.1, .bool t.2]
theorem flat_succ {us : List (List FunD)} {n : Nat} (h : n < us.length) : flatTo us (n + 1) = flatTo us n ++ rowE n us[n] us[n].length := by rw [flatTo, getD_at h]
theorem rowE_succ {u : List FunD} {k : Nat} (i : Nat) (h : k < u.length) : rowE i u (k + 1) = rowE i u k ++ [(i, k, u[k])] := by rw [rowE, getF_at h]
theorem flat_has {us : List (List FunD)} {n k : Nat} (hn : n < us.length) (hk : k < us[n].length) : ∃ r, flat us = (flatTo us n ++ rowE n us[n] k) ++ (n, k, us[n][k]) :: r := by
  have h1 : ∀ m, k < m → m ≤ us[n].length → ∃ r, rowE n us[n] m = rowE n us[n] k ++ (n, k, us[n][k]) :: r := by
    intro m
    induction m with
    | zero => intro h; omega
    | succ m ih =>
      intro hm hl
      by_cases e : m = k
      · subst e; exact ⟨[], by rw [rowE_succ n hk]⟩
      · obtain ⟨r, hr⟩ := ih (by omega) (by omega)
        exact ⟨r ++ [(n, m, us[n][m])], by rw [rowE_succ n (by omega), hr]; simp⟩
  have h2 : ∀ m, n < m → m ≤ us.length → ∃ r, flatTo us m = (flatTo us n ++ rowE n us[n] k) ++ (n, k, us[n][k]) :: r := by
    intro m
    induction m with
    | zero => intro h; omega
    | succ m ih =>
      intro hm hl
      by_cases e : m = n
      · subst e
        obtain ⟨r, hr⟩ := h1 _ hk (Nat.le_refl _)
        exact ⟨r, by rw [flat_succ hn, hr]; simp⟩
      · obtain ⟨r, hr⟩ := ih (by omega) (by omega)
        exact ⟨r ++ rowE m (us.getD m []) (us.getD m []).length, by rw [flatTo, hr]; simp⟩
  exact h2 _ hn (Nat.le_refl _)
theorem two_hit {us : List (List FunD)} {n k : Nat} (hn : n < us.length) (hk : k < us[n].length) (hno : (flatTo us n ++ rowE n us[n] k).find? (twice us) = none) (h : 1 < strongN us us[n][k].nm) : (us[n][k].nm, true) = twoB (twoOf us) := by
  obtain ⟨r, hr⟩ := flat_has hn hk
  unfold twoOf
  rw [hr, List.find?_append, hno]
  have : twice us (n, k, us[n][k]) = true := decide_eq_true h
  simp [this, twoB]
theorem two_step {us : List (List FunD)} {n k : Nat} (hn : n < us.length) (hk : k < us[n].length) (hno : (flatTo us n ++ rowE n us[n] k).find? (twice us) = none) (h : ¬ 1 < strongN us us[n][k].nm) : (flatTo us n ++ rowE n us[n] (k + 1)).find? (twice us) = none := by
  have : twice us (n, k, us[n][k]) = false := decide_eq_false h
  rw [rowE_succ n hk, ← List.append_assoc, List.find?_append, hno]
  simp [this]


def pickTwoB (us : List (List FunD)) : ByteArray × Bool := if unitsOkB us 8 then twoB (twoOf us) else (⟨#[]⟩, false)
end Go.Proofs.YthbbmookhcalkaaGreatDoor.PickS
