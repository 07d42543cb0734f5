/- The contracts of the specification's l6Deeper and GraphDeep. -/
import Derived.Test.YtpcdafifblghiaaGraphK
import Derived.Deep.QuietTactic
import Derived.BigQuiet
namespace Go.Proofs.Ytpcdafifblghiaa.GraphN
open Go.ChangeShapes Go.WideShapes Go.ChangeAt Go.RowKit Go.Joins Go.WideMaps Go.Maps Go.Sort Go.Shelf Go.Deep
open Go.Proofs.Ytpcdafifblghiaa.Base Go.Proofs.Ytpcdafifblghiaa.InsA Go.Proofs.Ytpcdafifblghiaa.InsB Go.Proofs.Ytpcdafifblghiaa.Funs Go.Proofs.Ytpcdafifblghiaa.Open Go.Proofs.Ytpcdafifblghiaa.FunS Go.Proofs.Ytpcdafifblghiaa.Keep Go.Proofs.Ytpcdafifblghiaa.UnitS Go.Proofs.Ytpcdafifblghiaa.UnitM Go.Proofs.Ytpcdafifblghiaa.Refs Go.Proofs.Ytpcdafifblghiaa.Mark Go.Proofs.Ytpcdafifblghiaa.PickD Go.Proofs.Ytpcdafifblghiaa.PickP Go.Proofs.Ytpcdafifblghiaa.WantsS Go.Proofs.Ytpcdafifblghiaa.WantsL Go.Proofs.Ytpcdafifblghiaa.WantsI Go.Proofs.Ytpcdafifblghiaa.KeepC Go.Proofs.Ytpcdafifblghiaa.KeepD Go.Proofs.Ytpcdafifblghiaa.KeepA Go.Proofs.Ytpcdafifblghiaa.KeepR Go.Proofs.Ytpcdafifblghiaa.KeepI Go.Proofs.Ytpcdafifblghiaa.WayD Go.Proofs.Ytpcdafifblghiaa.GraphD Go.Proofs.Ytpcdafifblghiaa.GraphI Go.Proofs.Ytpcdafifblghiaa.GraphJ Go.Proofs.Ytpcdafifblghiaa.GraphS Go.Proofs.Ytpcdafifblghiaa.GraphK
set_option linter.unusedVariables false
set_option maxRecDepth 100000

/-- Numbers in a block. -/
def NumsAt (w : World) (M n : Nat) (D : Nat → Int) : Prop := ∃ C, w.heap[M]? = some (.cells C 3) ∧ C.size = n ∧ ∀ u, u < n → C[u]? = some (.int .i64 (D u))
theorem NumsAt.below {w w' : World} {M n : Nat} {D : Nat → Int} (h : NumsAt w M n D) (hb : Below w.heap.size w w') : NumsAt w' M n D := by
  obtain ⟨C, h1, h2⟩ := h
  exact ⟨C, box_below h1 hb, h2⟩
theorem NumsAt.cell {w : World} {M n u : Nat} {D : Nat → Int} (h : NumsAt w M n D) (hu : u < n) : w.cell? ⟨M, u, none⟩ = some (.int .i64 (D u)) := by
  obtain ⟨C, h1, h2, h3⟩ := h
  rw [cell_of_block h1]; exact h3 u hu
theorem NumsAt.thaw {w : World} {M n : Nat} {D : Nat → Int} (h : NumsAt w M n D) (u : Nat) : w.frozen? ⟨M, u, none⟩ = false := by
  obtain ⟨C, h1, h2, h3⟩ := h
  exact unfrozen_of_block h1 u
theorem NumsAt.lt {w : World} {M n : Nat} {D : Nat → Int} (h : NumsAt w M n D) : M < w.heap.size := by
  obtain ⟨C, h1, h2, h3⟩ := h
  exact (Array.getElem?_eq_some_iff.1 h1).1
theorem NumsAt.congr {w : World} {M n : Nat} {D D' : Nat → Int} (h : NumsAt w M n D) (e : ∀ u, u < n → D u = D' u) : NumsAt w M n D' := by
  obtain ⟨C, h1, h2, h3⟩ := h
  exact ⟨C, h1, h2, fun u hu => by rw [← e u hu]; exact h3 u hu⟩
def setD (D : Nat → Int) (k : Nat) (z : Int) (u : Nat) : Int := if u = k then z else D u
theorem NumsAt.set {w : World} {M n k : Nat} {D : Nat → Int} (h : NumsAt w M n D) (hk : k < n) (z : Int) : NumsAt (w.setCell ⟨M, k, none⟩ (.int .i64 z)) M n (setD D k z) := by
  obtain ⟨C, h1, h2, h3⟩ := h
  refine ⟨_, block_setCell h1 _, by simpa using h2, fun u hu => ?_⟩
  unfold setD
  by_cases e : u = k
  · subst e
    rw [if_pos rfl, Array.getElem?_setIfInBounds_self_of_lt (by omega)]
  · rw [if_neg e, Array.getElem?_setIfInBounds_ne (fun e' => e e'.symm)]
    exact h3 u hu
theorem infoIntN : (Try.prog.info? 3).map (fun i => (i.zero, i.size, i.bytes)) = some (some (.int .i64 0), 1, 8) := by kernel_rfl
theorem makeInts (n : Nat) (hn : n ≤ 1048576) (w : World) : (Instr.makeSlice 75 (.int .i64 (n : Int)) (.int .i64 (n : Int))).run Try.prog w = .ok (.slice (some ⟨w.heap.size, 0, none⟩) n n) (w.alloc (.cells (madeCells #[.int .i64 0] n) 3)) := by
  obtain ⟨i, hi, h⟩ := Option.map_eq_some_iff.1 infoIntN
  simp only [Prod.mk.injEq] at h
  obtain ⟨h1, h2, h3⟩ := h
  have := run_make (P := Try.prog) w 75 3 i _ Try.underlying75 hi h1 .i64 .i64 (n : Int) (n : Int) (by omega) (Int.le_refl _) (by rw [h3]; omega) (by omega)
  rw [h2] at this
  simpa [Value.cells] using this
theorem nums_made (w : World) (n : Nat) : NumsAt (w.alloc (.cells (madeCells #[.int .i64 0] n) 3)) w.heap.size n (fun _ => 0) := ⟨_, new_block w _, by simp [size_madeCells], fun u hu => made_at hu⟩

/-- How many calls within one another, a round on. -/
def cst (D : Nat → Nat) (s : Nat × Bool) : Nat := wt s.2 + D s.1
def nextD (fs : List FunD) (D : Nat → Nat) (u : Nat) : Nat := most (cst D) (steps fs u) 0
theorem nextD_deep (fs : List FunD) (i u : Nat) : nextD fs (deep (steps fs) i) u = deep (steps fs) (i + 1) u := rfl
theorem most_snoc (f : Nat × Bool → Nat) (l : List (Nat × Bool)) (s : Nat × Bool) : most f (l ++ [s]) 0 = max (most f l 0) (f s) := by
  unfold most
  rw [List.foldl_append]; rfl
theorem most_le {f : Nat × Bool → Nat} {m : Nat} : ∀ {l : List (Nat × Bool)}, (∀ s ∈ l, f s ≤ m) → most f l 0 ≤ m := fun {l} h => by
  rcases most_is f l 0 with e | ⟨s, hs, e⟩
  · rw [e]; exact Nat.zero_le _
  · rw [e]; exact h s hs
/-- .. of the first k functions, and of the first j instructions of the next one. -/
def outK (fs : List FunD) (D : Nat → Nat) (k : Nat) (u : Nat) : Int := if u < k then (nextD fs D u : Int) else 0
def outJ (fs : List FunD) (D : Nat → Nat) (k : Nat) (xs : List InsD) (j : Nat) (u : Nat) : Int := if u = k then (most (cst D) (stpL fs (xs.take j)) 0 : Nat) else outK fs D k u
theorem outJ_zero {fs : List FunD} {D : Nat → Nat} {k : Nat} {xs : List InsD} {u : Nat} : outK fs D k u = outJ fs D k xs 0 u := by
  unfold outJ
  split
  · rename_i h; subst h; simp [outK, stpL, most]
  · rfl
theorem outJ_end {fs : List FunD} {D : Nat → Nat} {k : Nat} (hk : k < fs.length) {u : Nat} : outJ fs D k fs[k].body fs[k].body.length u = outK fs D (k + 1) u := by
  unfold outJ
  rw [List.take_length]
  split
  · rename_i h; subst h; unfold outK nextD; rw [if_pos (by omega), steps_at hk]; rfl
  · unfold outK
    by_cases h : u < k
    · rw [if_pos h, if_pos (by omega)]
    · rw [if_neg h, if_neg (by omega)]
theorem outJ_skip {fs : List FunD} {D : Nat → Nat} {k j : Nat} {xs : List InsD} (hj : j < xs.length) (h : refsB xs[j].o = false) (u : Nat) : outJ fs D k xs j u = outJ fs D k xs (j + 1) u := by
  unfold outJ
  rw [stpL_snoc fs hj, h]; rfl
theorem outJ_put {fs : List FunD} {D : Nat → Nat} {k j : Nat} {xs : List InsD} (hj : j < xs.length) (h : refsB xs[j].o = true) (u : Nat) : setD (outJ fs D k xs j) k ((max (most (cst D) (stpL fs (xs.take j)) 0) (cst D (stepOf fs xs[j])) : Nat) : Int) u = outJ fs D k xs (j + 1) u := by
  unfold outJ setD
  rw [stpL_snoc fs hj, h, if_pos rfl, most_snoc]
  by_cases e : u = k
  · rw [if_pos e, if_pos e]
  · rw [if_neg e, if_neg e]; exact if_neg e
theorem l1Max_any (a b : Int) (w : World) : Calls Try.prog 91 #[.int .i64 a, .int .i64 b] w fun e w' => e = .returned (.int .i64 (max a b)) ∧ w' = w := by
  by_cases h : b < a
  · have e : max a b = a := by omega
    rw [e]
    go_enter Try.func91, Try.ntmps91
    go_wp2_with fail
    go_ret
    exact ⟨rfl, rfl⟩
  · have e : max a b = b := by omega
    rw [e]
    go_enter Try.func91, Try.ntmps91
    go_wp2_with fail
    go_ret
    exact ⟨rfl, rfl⟩

set_option maxHeartbeats 4000000 in
theorem specDeeper_any (a : Option Addr) (cap : Nat) (fs : List FunD) (M : Nat) (D : Nat → Nat) (w : World) (hok : keepOkB fs = true) (hcap : fs.length ≤ cap) (hcm : cap ≤ maxLen) (hR : FunRow w a fs) (hD : NumsAt w M fs.length (fun u => (D u : Int))) (hd : ∀ u, D u ≤ 100000) :
    Calls Try.prog 65 #[.slice a fs.length cap, .slice (some ⟨M, 0, none⟩) fs.length fs.length] w fun e w' => e = .returned (.slice (some ⟨w.heap.size, 0, none⟩) fs.length fs.length) ∧ NumsAt w' w.heap.size fs.length (fun u => (nextD fs D u : Int)) ∧ Below w.heap.size w w' := by
  have HR := hide hR
  have HD := hide hD
  have h40 := (keep_parts hok).2.1
  have HPO := hide (keep_parts hok).2.2.1
  have HREF : Hid (∀ f ∈ fs, ∀ x ∈ f.body, refsB x.o = true → 0 ≤ findI fs x.s) := fun f hf x hx h => ref_ok hok hf hx h
  have HLT := hide (steps_lt hok)
  have HSZ := hide hR.sizes
  have hcm' := hcm
  unfold maxLen at hcm
  have hlen : (fs.length : Int) ≤ 9223372036854775807 := by omega
  have hmk := makeInts fs.length (by omega)
  have hMw := hD.lt
  have HO0 : Hid (NumsAt (w.alloc (.cells (madeCells #[.int .i64 0] fs.length) 3)) w.heap.size fs.length (outK fs D 0)) := (nums_made w fs.length).congr (fun u _ => by unfold outK; rw [if_neg (by omega)])
  have HBD : Hid (∀ s : Nat × Bool, cst D s ≤ 100001) := fun s => by
    have := hd s.1
    unfold cst wt
    split <;> omega
  have HDB := hide hd
  clear hR hD hok hd
  go_enter Try.func65, Try.ntmps65
  go_wp2_with fail
  clear hmk
  go_loopw [6] (fun i w' => ∃ (k : Nat), k ≤ fs.length ∧ i = .int .i64 k ∧ NumsAt w' w.heap.size fs.length (outK fs D k) ∧ Below w.heap.size w w') (fun i _ => fs.length - (intOf i).toNat)
  case atStart => exact ⟨0, Nat.zero_le _, rfl, unhide HO0, below_alloc1 _ _⟩
  case round =>
    obtain ⟨k, hk, rfl, hO, hB⟩ := hrel
    clear HO0
    by_cases hkl : k < fs.length
    · have hkl' : (k : Int) < (fs.length : Int) := by omega
      obtain ⟨b, off, rfl⟩ := (unhide HR).get (by omega)
      obtain ⟨ai, ci, hn, h4, h5, hbody⟩ : ∃ ai ci, fs[k].nm.size ≤ maxLen ∧ fs[k].body.length ≤ ci ∧ ci ≤ maxLen ∧ (∀ w', Below w.heap.size w w' → w'.cell? ⟨b, off + k * 3 + 2, none⟩ = some (.slice ai fs[k].body.length ci) ∧ InsRow w' ai fs[k].body) := by
        obtain ⟨ai, ci, c0, c1, c2, hn, h4, h5, h6⟩ := (unhide HR).at hkl
        exact ⟨ai, ci, hn, h4, h5, fun w' hb => ⟨(Stable.cell _ _).1 _ _ hb c2, h6.below hb⟩⟩
      have HB := hide hbody
      have h10 := fun_le (unhide HPO _ (List.getElem_mem hkl))
      have HJ0 := hide (hO.congr (fun u _ => outJ_zero (xs := fs[k].body) (u := u)))
      have HJE := hide (fun u => outJ_end (D := D) hkl (u := u))
      have HJS := hide (fun j (hj : j < fs[k].body.length) (h : refsB fs[k].body[j].o = false) u => outJ_skip (fs := fs) (D := D) (k := k) (j := j) (xs := fs[k].body) hj h u)
      have HJP := hide (fun j (hj : j < fs[k].body.length) (h : refsB fs[k].body[j].o = true) u => outJ_put (fs := fs) (D := D) (k := k) (j := j) (xs := fs[k].body) hj h u)
      have HRF := hide (unhide HREF fs[k] (List.getElem_mem hkl))
      have HZF := hide (unhide HSZ fs[k] (List.getElem_mem hkl)).2.2
      clear hbody hO
      generalize fs[k].body = xs at *
      unfold maxLen at h5
      go_wp2_with fail
      go_loopw [7] (fun i w' => ∃ (j : Nat), j ≤ xs.length ∧ i = .int .i64 j ∧ NumsAt w' w.heap.size fs.length (outJ fs D k xs j) ∧ Below w.heap.size w w') (fun i _ => xs.length - (intOf i).toNat)
      case atStart => exact ⟨0, Nat.zero_le _, rfl, unhide HJ0, hB⟩
      case round =>
        obtain ⟨j, hj, rfl, hO, hB⟩ := hrel
        clear HJ0
        obtain ⟨c2, hrow⟩ := unhide HB _ hB
        by_cases hjl : j < xs.length
        · have hjl' : (j : Int) < (xs.length : Int) := by omega
          obtain ⟨b5, o5, rfl⟩ := hrow.get (by omega)
          obtain ⟨x0, x1, x2, hxs⟩ := hrow.cells hjl
          have HS := hide (unhide HJS j hjl)
          have HP := hide (unhide HJP j hjl)
          have HF := hide (unhide HRF xs[j] (List.getElem_mem _))
          have hst : stepOf fs xs[j] = ((findI fs xs[j].s).toNat, xs[j].o == 3) := rfl
          have HST := hide hst
          have hO1 := hide hO
          have HXM : Hid (xs[j] ∈ xs) := List.getElem_mem _
          have hmx : most (cst D) (stpL fs (xs.take j)) 0 ≤ 100001 := most_le (fun s _ => unhide HBD s)
          have hcst := unhide HBD (stepOf fs xs[j])
          have hok : outJ fs D k xs j k = ((most (cst D) (stpL fs (xs.take j)) 0 : Nat) : Int) := by unfold outJ; rw [if_pos rfl]
          have HOK := hide hok
          clear hrow hst hok
          generalize xs[j] = x at *
          generalize most (cst D) (stpL fs (xs.take j)) 0 = mm at *
          cases hr : refsB x.o
          · have HX := hide ((unhide hO1).congr (fun u _ => unhide HS hr u))
            go_wp2_with fail
            refine (specRefs_any x.o x.n x.s _).mono ?_
            rintro e w5 ⟨rfl, hb5⟩
            rw [hr]
            have hbw := bl_trans (below_alloc1 _ _) hb5
            have HX5 := hide ((unhide HX).below hbw)
            have hB5 := bl_trans hB hbw
            clear x0 x1 x2 hb5 hbw hO hO1 HX c2
            go_wp2_with fail
            exact ⟨⟨j + 1, by omega, by go_num, unhide HX5, hB5⟩, by simp [intOf]; omega⟩
          · have h0f := unhide HF hr
            have hxz : x.s.size ≤ maxLen := by
              have := unhide HXM
              exact unhide HZF x this
            have HX := hide (unhide HP hr)
            have hbw0 := below_alloc1 wr (.cells #[.int .i64 x.o, .int .i64 x.n, .string x.s] 28)
            go_wp2_with fail
            refine (specRefs_any x.o x.n x.s _).mono ?_
            rintro e w5 ⟨rfl, hb5⟩
            rw [hr]
            have hbw := bl_trans hbw0 hb5
            have hIb := box_below (new_block wr (.cells #[.int .i64 x.o, .int .i64 x.n, .string x.s] 28)) hb5
            obtain ⟨⟨y0, y1, y2⟩, _⟩ := box3 hIb
            have HR5 := hide ((unhide HR).below (bl_trans hB hbw))
            have HO5 := hide ((unhide hO1).below hbw)
            have HD5 := hide ((unhide HD).below (bl_trans hB hbw))
            have hB5 := bl_trans hB hbw
            clear x0 x1 x2 hb5 hbw hO hO1 c2 hbw0
            go_wp2_with fail
            refine (specFind_any _ cap fs x.s _ hxz hcap hcm' (unhide HR5)).mono ?_
            rintro e w6 ⟨rfl, hb6⟩
            have hcc := unhide HST
            obtain ⟨tt, htt⟩ : ∃ tt : Nat, findI fs x.s = tt := ⟨_, (Int.toNat_of_nonneg h0f).symm⟩
            rw [htt] at hcc ⊢
            have htl := (find_is htt).1
            have hDb := unhide HDB tt
            have htl' : (tt : Int) < (fs.length : Int) := by omega
            have HO6 := hide ((unhide HO5).below hb6)
            have dt := ((unhide HD5).below hb6).cell htl
            have z1 := (Stable.cell _ _).1 _ _ hb6 y0
            have hB6 := bl_trans hB5 hb6
            have m0 := (unhide HO6).cell hkl
            have f0 := (unhide HO6).thaw k
            rw [unhide HOK] at m0
            simp only [Int.toNat_natCast] at hcc
            have HX2 : Hid (∀ z : Int, z = ((max mm (cst D (stepOf fs x)) : Nat) : Int) → NumsAt (w6.setCell ⟨w.heap.size, k, none⟩ (.int .i64 z)) w.heap.size fs.length (outJ fs D k xs (j + 1)) ∧ Below w.heap.size w (w6.setCell ⟨w.heap.size, k, none⟩ (.int .i64 z))) := fun z hz => by
              subst hz
              exact ⟨((unhide HO6).set hkl _).congr (fun u _ => unhide HX u), But.down hB6 ((But.refl _ w6).set k _) (Nat.le_refl _)⟩
            rw [hcc] at HX2
            have HCC := hide hcc
            clear HX HO5 HO6 HD5 hB5 hb6 y0 y1 y2 HR5 htt hcc HP HS hB6 hIb
            cases h3 : (x.o == 3)
            · rw [h3] at HX2
              have h3' : ¬ x.o = 3 := by simpa using h3
              have HY := hide (unhide HX2 (max (mm : Int) (D tt : Int)) (by unfold cst wt; simp; omega))
              clear HX2
              go_wp2_with fail
              refine (l1Max_any _ _ _).mono ?_
              rintro e w7 ⟨rfl, rfl⟩
              go_wp2_with fail
              exact ⟨⟨j + 1, by omega, by go_num, (unhide HY).1, (unhide HY).2⟩, by simp [intOf]; omega⟩
            · rw [h3] at HX2
              have h3' : x.o = 3 := by simpa using h3
              have HY := hide (unhide HX2 (max (mm : Int) ((D tt : Int) + 1)) (by unfold cst wt; simp; omega))
              clear HX2
              go_wp2_with fail
              refine (l1Max_any _ _ _).mono ?_
              rintro e w7 ⟨rfl, rfl⟩
              go_wp2_with fail
              exact ⟨⟨j + 1, by omega, by go_num, (unhide HY).1, (unhide HY).2⟩, by simp [intOf]; omega⟩
        · have hjl' : ¬ (j : Int) < (xs.length : Int) := by omega
          have hje : j = xs.length := by omega
          rw [hje] at hO
          have HX := hide (hO.congr (fun u _ => unhide HJE u))
          clear hO hje hrow
          go_wp2_with fail
          exact ⟨⟨k + 1, by omega, by go_num, unhide HX, hB⟩, by simp [intOf]; omega⟩
    · have hkl' : ¬ (k : Int) < (fs.length : Int) := by omega
      have HX : Hid (NumsAt wr w.heap.size fs.length (fun u => (nextD fs D u : Int))) := hO.congr (fun u hu => by unfold outK; rw [if_pos (by omega)])
      clear hO
      go_wp2_with fail
      go_ret
      exact ⟨rfl, unhide HX, hB⟩

theorem way_calls {E : StepF} : ∀ {k u c v : Nat}, WayG E k u c v → c ≤ k
  | 0, u, c, v, h => by obtain ⟨rfl, _⟩ := h; exact Nat.le_refl _
  | k + 1, u, c, v, h => by
    obtain ⟨t, b, c', _, h2, rfl⟩ := h
    have := way_calls h2
    have : wt b ≤ 1 := by unfold wt; split <;> omega
    omega
theorem deep_bound (E : StepF) (i u : Nat) : deep E i u ≤ i := by
  obtain ⟨k, v, hk, hw⟩ := deep_way E i u
  have := way_calls hw
  omega
/-- What GraphDeep answers. -/
def DeepR (fs : List FunD) (r : Int) : Prop := (keepOkB fs = false ∧ r = -1) ∨ (keepOkB fs = true ∧ Deepest (steps fs) r)
theorem deepR_one {fs : List FunD} {r r' : Int} (h : DeepR fs r) (h' : DeepR fs r') : r = r' := by
  rcases h with ⟨h1, rfl⟩ | ⟨h1, h2⟩ <;> rcases h' with ⟨h1', rfl⟩ | ⟨h1', h2'⟩
  · rfl
  · rw [h1] at h1'; cases h1'
  · rw [h1] at h1'; cases h1'
  · exact deepest_one h2 h2'
/-- Whether two rows of numbers are the same. -/
def IntsEnd (w : World) (n : Nat) (A B : Nat → Int) (e : Ending) (w' : World) : Prop := ∃ b : Bool, e = .returned (.bool b) ∧ (b = true ↔ ∀ u, u < n → A u = B u) ∧ Below w.heap.size w w'
set_option maxHeartbeats 1000000 in
theorem ints_any (M M' n : Nat) (A B : Nat → Int) (w : World) (hn : n ≤ 1000) (hA : NumsAt w M n A) (hB : NumsAt w M' n B) :
    Calls Try.prog 66 #[.slice (some ⟨M, 0, none⟩) n n, .slice (some ⟨M', 0, none⟩) n n] w (IntsEnd w n A B) := by
  have HA := hide hA
  have HB := hide hB
  clear hA hB
  go_enter Try.func66, Try.ntmps66
  go_wp2_with fail
  go_loopw [5] (fun i w' => ∃ k : Nat, k ≤ n ∧ i = .int .i64 k ∧ Hid (∀ u, u < k → A u = B u) ∧ Below w.heap.size w w') (fun i _ => n - (intOf i).toNat)
  case atStart => exact ⟨0, Nat.zero_le _, rfl, fun u hu => by omega, Below.refl _ _⟩
  case round =>
    obtain ⟨k, hk, rfl, HN, hb⟩ := hrel
    by_cases hkl : k < n
    · have hkl' : (k : Int) < (n : Int) := by omega
      have a0 := ((unhide HA).below hb).cell hkl
      have b0 := ((unhide HB).below hb).cell hkl
      by_cases h : A k = B k
      · have HX : Hid (∀ u, u < k + 1 → A u = B u) := fun u hu => by
          by_cases e : u = k
          · rw [e]; exact h
          · exact unhide HN u (by omega)
        rw [h] at a0
        generalize B k = z at *
        clear h
        have hk0 : (0 : Int) ≤ (k : Int) := by omega
        go_wp2_with fail
        go_quiet (fail)
        go_wp2_with fail
        exact ⟨⟨k + 1, by omega, by go_num, unhide HX, by first | exact hb | exact bl_drewN hb _ | exact hb.drew⟩, by simp [intOf]; omega⟩
      · have HX : Hid (false = true ↔ ∀ u, u < n → A u = B u) := by
          show _ ↔ _
          exact ⟨fun h' => absurd h' (by decide), fun h' => absurd (h' k hkl) h⟩
        have hk0 : (0 : Int) ≤ (k : Int) := by omega
        generalize A k = y at *
        generalize B k = z at *
        go_wp2_with fail
        go_quiet (fail)
        go_wp2_with fail
        go_ret
        exact ⟨false, rfl, unhide HX, by first | exact hb | exact bl_drewN hb _ | exact hb.drew⟩
    · have HX : Hid (∀ u, u < n → A u = B u) := fun u hu => unhide HN u (by omega)
      go_wp2_with fail
      go_ret
      exact ⟨true, rfl, ⟨fun _ => unhide HX, fun _ => rfl⟩, hb⟩
/-- What a call of GraphDeep leaves. -/
def DeepEnd (w : World) (fs : List FunD) (e : Ending) (w' : World) : Prop := ∃ r : Int, e = .returned (.int .i64 r) ∧ DeepR fs r ∧ Below w.heap.size w w'
set_option maxHeartbeats 4000000 in
theorem specDeep_any (a : Option Addr) (cap : Nat) (fs : List FunD) (w : World) (hcap : fs.length ≤ cap) (hcm : cap ≤ maxLen) (hR : FunRow w a fs) :
    Calls Try.prog 36 #[.slice a fs.length cap] w (DeepEnd w fs) := by
  have HR := hide hR
  clear hR
  cases hok : keepOkB fs
  · have HE : Hid (DeepR fs (-1)) := .inl ⟨hok, rfl⟩
    go_enter Try.func36, Try.ntmps36
    go_wp2_with fail
    refine (specKeepOk_any a cap fs _ hcap hcm (unhide HR)).mono ?_
    rintro e w1 ⟨rfl, hb1⟩
    rw [hok]
    go_wp2_with fail
    go_ret
    exact ⟨-1, rfl, unhide HE, hb1⟩
  have h40 := (keep_parts hok).2.1
  have h1 := (keep_parts hok).1
  have HOK := hide hok
  have HC := hide (steps_lt hok)
  have hmk := makeInts fs.length (by omega)
  obtain ⟨q, hq⟩ : ∃ q : Nat, q = 2 * fs.length * fs.length := ⟨_, rfl⟩
  have hq2 : q ≤ 80 * 40 := by rw [hq]; exact Nat.mul_le_mul (by omega) h40
  have hqi : 2 * (fs.length : Int) * (fs.length : Int) = (q : Int) := by rw [hq]; push_cast; rfl
  have hqn : fs.length * fs.length ≤ q := by rw [hq, Nat.mul_assoc]; omega
  have hw1 : IntKind.i64.wrap (2 * (fs.length : Int)) = 2 * (fs.length : Int) := by rw [IntKind.wrap_i64]; omega
  obtain ⟨N, hN⟩ : ∃ N : Nat, N = q + fs.length + 2 := ⟨_, rfl⟩
  have hNi : (q : Int) + (fs.length : Int) + 2 = (N : Int) := by omega
  have HSP : Hid (Deepest (steps fs) (if fs.length < deep (steps fs) N 0 then -1 else (deep (steps fs) N 0 : Int))) := deepest_spec (n := fs.length) (unhide HC) (by omega) (by omega)
  have hN5 : N ≤ 5000 := by omega
  clear hq hqn hN hok
  have HDB := hide (deep_bound (steps fs))
  have HST := hide (fun i => deepest_still (E := steps fs) (n := fs.length) (i := i) (unhide HC) (by omega))
  go_enter Try.func36, Try.ntmps36
  go_wp2_with fail
  refine (specKeepOk_any a cap fs _ hcap hcm (unhide HR)).mono ?_
  rintro e w1 ⟨rfl, hb1⟩
  rw [unhide HOK]
  have HM0 : Hid (NumsAt (w1.alloc (.cells (madeCells #[.int .i64 0] fs.length) 3)) w1.heap.size fs.length (fun u => (deep (steps fs) 0 u : Int))) := (nums_made w1 fs.length).congr (fun u _ => rfl)
  go_wp2_with fail
  clear hmk
  go_loopw [3, 5] (fun v i w' => ∃ (k M : Nat), k ≤ N ∧ i = .int .i64 k ∧ v = .slice (some ⟨M, 0, none⟩) fs.length fs.length ∧ NumsAt w' M fs.length (fun u => (deep (steps fs) k u : Int)) ∧ Below w.heap.size w w') (fun _ i _ => N - (intOf i).toNat)
  case atStart => exact ⟨0, w1.heap.size, Nat.zero_le _, rfl, rfl, unhide HM0, bl_alloc hb1 _⟩
  case round =>
    obtain ⟨k, M, hk, rfl, rfl, hM, hB⟩ := hrel
    clear HM0 hb1
    have h0' : (0 : Int) < (fs.length : Int) := by omega
    by_cases hkl : k < N
    · have hkl' : (k : Int) < (N : Int) := by omega
      have HM := hide hM
      clear hM
      go_wp2_with fail
      refine (specDeeper_any a cap fs M (deep (steps fs) k) _ (unhide HOK) hcap hcm ((unhide HR).below hB) (unhide HM) (fun u => by have := unhide HDB k u; omega)).mono ?_
      rintro e w2 ⟨rfl, hN2, hb2⟩
      have HN2 := hide hN2
      have HM2 := hide ((unhide HM).below hb2)
      have hB2 := bl_trans hB hb2
      clear hN2 hb2 hB HM
      go_wp2_with fail
      refine (ints_any wr.heap.size M fs.length _ _ _ (by omega) (unhide HN2) (unhide HM2)).mono ?_
      rintro e w3 ⟨bb, rfl, hbb, hb3⟩
      have HN3 := hide ((unhide HN2).below hb3)
      have hB3 := bl_trans hB2 hb3
      have m0 := ((unhide HM2).below hb3).cell (u := 0) (by omega)
      clear hb3 hB2 HN2 HM2
      cases bb
      · clear hbb m0
        go_wp2_with fail
        exact ⟨⟨k + 1, wr.heap.size, by omega, by go_num, rfl, unhide HN3, hB3⟩, by simp [intOf]; omega⟩
      · have HE : Hid (DeepR fs (deep (steps fs) k 0 : Int)) := .inr ⟨unhide HOK, unhide HST k (fun u hu => by have h := hbb.1 rfl u hu; have h2 : ((deep (steps fs) (k + 1) u : Nat) : Int) = (deep (steps fs) k u : Nat) := h; omega)⟩
        clear hbb HN3
        generalize (deep (steps fs) k 0 : Int) = dd at *
        go_wp2_with fail
        go_ret
        exact ⟨dd, rfl, unhide HE, hB3⟩
    · have hkl' : ¬ (k : Int) < (N : Int) := by omega
      have hke : k = N := by omega
      rw [hke] at hM
      have m0 := hM.cell (u := 0) (by omega)
      clear hM
      by_cases hf : fs.length < deep (steps fs) N 0
      · have HE : Hid (DeepR fs (-1)) := .inr ⟨unhide HOK, by have := unhide HSP; rw [if_pos hf] at this; exact this⟩
        have hf' : (fs.length : Int) < (deep (steps fs) N 0 : Int) := by omega
        generalize (deep (steps fs) N 0 : Int) = dd at *
        go_wp2_with fail
        go_ret
        exact ⟨-1, rfl, unhide HE, hB⟩
      · have HE : Hid (DeepR fs (deep (steps fs) N 0 : Int)) := .inr ⟨unhide HOK, by have := unhide HSP; rw [if_neg hf] at this; exact this⟩
        have hf' : ¬ (fs.length : Int) < (deep (steps fs) N 0 : Int) := by omega
        generalize (deep (steps fs) N 0 : Int) = dd at *
        go_wp2_with fail
        go_ret
        exact ⟨dd, rfl, unhide HE, hB⟩
end Go.Proofs.Ytpcdafifblghiaa.GraphN
