/- The program's FoldOne and FoldAll. -/
import Derived.Test.YthbbmookhcalkaaGreatDoorFoldL
namespace Go.Proofs.YthbbmookhcalkaaGreatDoor.FoldP
open Go.ChangeShapes Go.WideShapes Go.ChangeAt Go.RowKit Go.Joins Go.WideMaps Go.Maps Go.Deep
open Go.Proofs.YthbbmookhcalkaaGreatDoor.Base Go.Proofs.YthbbmookhcalkaaGreatDoor.InsA Go.Proofs.YthbbmookhcalkaaGreatDoor.Name Go.Proofs.YthbbmookhcalkaaGreatDoor.InsB Go.Proofs.YthbbmookhcalkaaGreatDoor.Funs Go.Proofs.YthbbmookhcalkaaGreatDoor.Open Go.Proofs.YthbbmookhcalkaaGreatDoor.FunS Go.Proofs.YthbbmookhcalkaaGreatDoor.Keep Go.Proofs.YthbbmookhcalkaaGreatDoor.UnitS Go.Proofs.YthbbmookhcalkaaGreatDoor.UnitM Go.Proofs.YthbbmookhcalkaaGreatDoor.UU Go.Proofs.YthbbmookhcalkaaGreatDoor.Concat Go.Proofs.YthbbmookhcalkaaGreatDoor.KeepC Go.Proofs.YthbbmookhcalkaaGreatDoor.KeepD Go.Proofs.YthbbmookhcalkaaGreatDoor.KeepA Go.Proofs.YthbbmookhcalkaaGreatDoor.KeepO Go.Proofs.YthbbmookhcalkaaGreatDoor.Mark Go.Proofs.YthbbmookhcalkaaGreatDoor.MarkV Go.Proofs.YthbbmookhcalkaaGreatDoor.BTxt Go.Proofs.YthbbmookhcalkaaGreatDoor.FoldR Go.Proofs.YthbbmookhcalkaaGreatDoor.FoldN Go.Proofs.YthbbmookhcalkaaGreatDoor.FoldT Go.Proofs.YthbbmookhcalkaaGreatDoor.FoldD Go.Proofs.YthbbmookhcalkaaGreatDoor.FoldC Go.Proofs.YthbbmookhcalkaaGreatDoor.FoldK Go.Proofs.YthbbmookhcalkaaGreatDoor.FoldI Go.Proofs.YthbbmookhcalkaaGreatDoor.FoldJ Go.Proofs.YthbbmookhcalkaaGreatDoor.FoldL
open Go.Proofs.YthbbmookhcalkaaGreatDoor.FTwo (implFoldTwo_any)
set_option linter.unusedVariables false
set_option maxRecDepth 100000

theorem two_near (fs : List FunD) (j : Nat) : ∀ m, m ≤ fs.length → (∃ k, j < k ∧ k < m ∧ OneB fs j k ∧ ∀ k', j < k' → k' < k → ¬ OneB fs j k') ∨ ∀ k', j < k' → k' < m → ¬ OneB fs j k'
  | 0, _ => .inr fun k' h1 h2 => by omega
  | m + 1, hm => by
    rcases two_near fs j m (by omega) with ⟨k, h1, h2, h3⟩ | h
    · exact .inl ⟨k, h1, by omega, h3⟩
    · by_cases hj : j < m
      · by_cases ho : OneB fs j m
        · exact .inl ⟨m, hj, by omega, ho, fun k' h1 h2 => h k' h1 h2⟩
        · refine .inr fun k' h1 h2 => ?_
          by_cases e : k' = m
          · subst e; exact ho
          · exact h k' h1 (by omega)
      · exact .inr fun k' h1 h2 => h k' h1 (by omega)
theorem two_from (fs : List FunD) : ∀ d, d ≤ fs.length → ∃ r, TwoIs fs (fs.length - d) r
  | 0, _ => ⟨none, by rw [Nat.sub_zero]; exact two_end fs⟩
  | d + 1, hd => by
    obtain ⟨r, hr⟩ := two_from fs d (by omega)
    have e : fs.length - d = fs.length - (d + 1) + 1 := by omega
    rw [e] at hr
    rcases two_near fs (fs.length - (d + 1)) fs.length (Nat.le_refl _) with ⟨k, h1, h2, h3, h4⟩ | h
    · exact ⟨_, two_hit h1 h2 h3 h4⟩
    · exact ⟨r, two_miss hr h⟩
/-- There are two, or none. -/
theorem two_ex (fs : List FunD) : ∃ r, TwoIs fs 0 r := by
  obtain ⟨r, hr⟩ := two_from fs fs.length (Nat.le_refl _)
  rw [Nat.sub_self] at hr
  exact ⟨r, hr⟩
theorem one_no {fs : List FunD} (h : keepOkB fs = false) : foldOneL fs = [] := by simp [foldOneL, h]
theorem all_no {fs : List FunD} (h : keepOkB fs = false) : foldAllL fs = [] := by simp [foldAllL, h]
theorem one_none {fs : List FunD} (hk : keepOkB fs = true) (h : TwoIs fs 0 none) : foldOneL fs = left fs (rt (List.range fs.length)) := by
  unfold foldOneL
  rw [if_pos hk, twoN_of h]
  exact (left_id (prg_of hk)).symm.trans (left_congr (prg_of hk) (fun i _ => (rt_range _ i).symm))
theorem one_some {fs : List FunD} {i k : Nat} (hk : keepOkB fs = true) (h : TwoIs fs 0 (some (i, k))) : foldOneL fs = left fs (rt ((List.range fs.length).set k i)) := by
  have h1 := h.2.1
  have h2 := h.2.2.1
  unfold foldOneL
  rw [if_pos hk, twoN_of h]
  refine left_congr (prg_of hk) (fun x hx => ?_)
  have hg : ∀ j, j < fs.length → (List.range fs.length).getD j j = j := fun j hj => by simp [List.getD, hj]
  rw [rt_set (range_links _) (by simp; omega) h1 (hg i (by omega)) (hg k h2) x x (Nat.le_refl _) (by simp; omega)]
  unfold upd
  rw [rt_range]
  rfl
/-- How many links stand at themselves, read off memory. -/
def cntR (w : World) (G n : Nat) : Nat := ((List.range n).filter fun i => match w.cell? ⟨G, i, none⟩ with | some (.int .i64 z) => z == (i : Int) | _ => false).length
theorem cntR_is {w0 w : World} {a : Option Addr} {fs : List FunD} {M G lc : Nat} {L : List Nat} (h : Ch w0 w a fs M G lc L) : cntR w G fs.length = (stays (rt L) fs.length).length := by
  unfold cntR stays
  congr 1
  refine List.filter_congr fun i hi => ?_
  rw [List.mem_range] at hi
  rw [(h.cell hi).1]
  show (((L.getD i i : Nat) : Int) == (i : Int)) = (rt L i == i)
  have h1 := rt_iff h.ok (i := i) (by rw [h.len]; exact hi)
  rw [Bool.eq_iff_iff, beq_iff_eq, beq_iff_eq, h1]
  omega
theorem bodies_of {fs : List FunD} (h : keepOkB fs = true) : ∀ f ∈ fs, 0 < f.body.length ∧ f.body.length ≤ 1000 := fun f hf => by
  obtain ⟨_, p2, p3, _⟩ := fun_parts ((keep_parts h).2.2.1 f hf)
  omega
theorem Copied.from {w w1 w2 : World} {fs : List FunD} {e : Ending} {B : Nat} (hB : Below w.heap.size w w1) (h : Copied w1 fs e w2) : Copied w fs e w2 := by
  obtain ⟨v, vs, h1, h2, h3, h4⟩ := h
  exact ⟨v, vs, h1, h2, h3.base hB.size, bl_trans hB h4⟩
set_option maxHeartbeats 4000000 in
theorem implFoldOne_any (a : Option Addr) (cap : Nat) (fs : List FunD) (w : World) (hcap : fs.length ≤ cap) (hcm : cap ≤ maxLen) (hR : FunRow w a fs) (HT : Hid (Lib.TabIs Tryz.prog w "internal/strconv.uint64pow10" .u64 Lib.pow10Tab)) :
    Calls Tryz.prog 16 #[.slice a fs.length cap] w (Copied w (foldOneL fs)) := by
  have HR := hide hR
  clear hR
  cases hok : keepOkB fs
  · go_enter Tryz.func16, Tryz.ntmps16
    go_wp2_with fail
    refine (implKeepOk_any a cap fs _ hcap hcm (unhide HR)).mono ?_
    rw [hok]
    rintro e w1 ⟨rfl, hb1⟩
    go_wp2_with fail
    go_ret
    exact ⟨_, [], rfl, (one_no hok).symm, OwnFs.nil _ _, hb1⟩
  have HS := hide (small_of hok)
  have HBD := hide (bodies_of hok)
  have h0 := (unhide HS).pos
  have hl := (unhide HS).few
  obtain ⟨r, hr⟩ := two_ex fs
  have HTW := hide hr
  clear hr
  go_enter Tryz.func16, Tryz.ntmps16
  go_wp2_with fail
  refine (implKeepOk_any a cap fs _ hcap hcm (unhide HR)).mono ?_
  rw [hok]
  rintro e w1 ⟨rfl, hb1⟩
  have HT1 := hide (tab_stays Go.Proofs.YthbbmookhcalkaaGreatDoor.Text.gPow (unhide HT) hb1 (Nat.le_refl _))
  have HB1 := hide hb1
  have HR1 := hide ((unhide HR).below hb1)
  clear hb1
  go_wp2_with fail
  refine (chainOf_any a cap fs _ hcap hcm h0 hl (unhide HR1)).mono ?_
  rintro e w2 ⟨M, G, lc, rfl, hC⟩
  have hbx := below_alloc1 w2 (.cells #[.slice a fs.length cap, .map (some M), .slice (some ⟨G, 0, none⟩) fs.length lc] 71)
  have HX := hide (new_block w2 (.cells #[.slice a fs.length cap, .map (some M), .slice (some ⟨G, 0, none⟩) fs.length lc] 71))
  have hGl := hC.lk.lt
  have HC := hide (hC.below hbx)
  clear hC hbx
  have HRW := hide (unhide HC).row
  have HTB := hide (tab_stays Go.Proofs.YthbbmookhcalkaaGreatDoor.Text.gPow (unhide HT1) (unhide HC).bel (Nat.le_refl _))
  cases r with
  | none =>
    have HE := hide (one_none hok (unhide HTW))
    have HW := hide (twoE_none (unhide HTW))
    go_wp2_with fail
    refine (implFoldTwo_any a cap fs _ hcap hcm (unhide HRW) HTB 0 0 false (unhide HW)).mono ?_
    rintro e w3 ⟨rfl, hb3⟩
    replace HX := hide (box_below (unhide HX) hb3)
    replace HC := hide ((unhide HC).below hb3)
    clear hb3
    obtain ⟨⟨x0, x1, x2⟩, _⟩ := box3 (unhide HX)
    go_wp2_with fail
    refine (left_any a cap fs M G lc _ w1 _ h0 hl (unhide HBD) (unhide HC)).mono ?_
    rintro e w4 hcp
    obtain ⟨v, vs, rfl, h2, h3, h4⟩ := hcp
    have H2 := hide h2
    have H3 := hide h3
    clear h2 h3
    go_wp2_with fail
    go_ret
    have hBB := bl_trans (unhide HB1) (unhide HC).bel
    exact ⟨v, vs, rfl, (unhide H2).trans (unhide HE).symm, (unhide H3).base hBB.size, bl_trans hBB h4⟩
  | some ik =>
    obtain ⟨i, k⟩ := ik
    have HE := hide (one_some hok (unhide HTW))
    have HW := hide (twoE_some hok (unhide HTW))
    have hik := (unhide HTW).2.1
    have hkl := (unhide HTW).2.2.1
    have hkl' : (k : Int) < (fs.length : Int) := by omega
    have hk0 : (0 : Int) ≤ (k : Int) := by omega
    go_wp2_with fail
    refine (implFoldTwo_any a cap fs _ hcap hcm (unhide HRW) HTB (i : Int) (k : Int) true (unhide HW)).mono ?_
    rintro e w3 ⟨rfl, hb3⟩
    replace HX := hide (box_below (unhide HX) hb3)
    replace HC := hide ((unhide HC).below hb3)
    clear hb3
    obtain ⟨⟨x0, x1, x2⟩, _⟩ := box3 (unhide HX)
    obtain ⟨cc0, cc1⟩ := (unhide HC).cell hkl
    have HX5 := hide ((Below.heap_setCell w3 ⟨G, k, none⟩ (.int .i64 (i : Int)) w2.heap.size (by show w2.heap.size ≠ G; omega)).trans (unhide HX))
    have HC5 := hide (Ch.store (unhide HC) hkl (Nat.le_of_lt hik))
    obtain ⟨⟨z0, z1, z2⟩, _⟩ := box3 (unhide HX5)
    generalize (List.range fs.length).getD k k = z at *
    go_wp2_with fail
    refine (left_any a cap fs M G lc _ w1 _ h0 hl (unhide HBD) (unhide HC5)).mono ?_
    rintro e w4 hcp
    obtain ⟨v, vs, rfl, h2, h3, h4⟩ := hcp
    have H2 := hide h2
    have H3 := hide h3
    clear h2 h3
    go_wp2_with fail
    go_ret
    have hBB := bl_trans (unhide HB1) (unhide HC5).bel
    exact ⟨v, vs, rfl, (unhide H2).trans (unhide HE).symm, (unhide H3).base hBB.size, bl_trans hBB h4⟩
set_option maxHeartbeats 4000000 in
theorem implFoldAll_any (a : Option Addr) (cap : Nat) (fs : List FunD) (w : World) (hcap : fs.length ≤ cap) (hcm : cap ≤ maxLen) (hR : FunRow w a fs) (HT : Hid (Lib.TabIs Tryz.prog w "internal/strconv.uint64pow10" .u64 Lib.pow10Tab)) :
    Calls Tryz.prog 12 #[.slice a fs.length cap] w (Copied w (foldAllL fs)) := by
  have HR := hide hR
  clear hR
  cases hok : keepOkB fs
  · go_enter Tryz.func12, Tryz.ntmps12
    go_wp2_with fail
    refine (implKeepOk_any a cap fs _ hcap hcm (unhide HR)).mono ?_
    rw [hok]
    rintro e w1 ⟨rfl, hb1⟩
    go_wp2_with fail
    go_ret
    exact ⟨_, [], rfl, (all_no hok).symm, OwnFs.nil _ _, hb1⟩
  have HS := hide (small_of hok)
  have HP := hide (prg_of hok)
  have HBD := hide (bodies_of hok)
  have h0 := (unhide HS).pos
  have hl := (unhide HS).few
  go_enter Tryz.func12, Tryz.ntmps12
  go_wp2_with fail
  refine (implKeepOk_any a cap fs _ hcap hcm (unhide HR)).mono ?_
  rw [hok]
  rintro e w1 ⟨rfl, hb1⟩
  have HT1 := hide (tab_stays Go.Proofs.YthbbmookhcalkaaGreatDoor.Text.gPow (unhide HT) hb1 (Nat.le_refl _))
  have HB1 := hide hb1
  have HR1 := hide ((unhide HR).below hb1)
  clear hb1
  go_wp2_with fail
  refine (chainOf_any a cap fs _ hcap hcm h0 hl (unhide HR1)).mono ?_
  rintro e w2 ⟨M, G, lc, rfl, hC⟩
  have hbx := below_alloc1 w2 (.cells #[.slice a fs.length cap, .map (some M), .slice (some ⟨G, 0, none⟩) fs.length lc] 71)
  have HX := hide (new_block w2 (.cells #[.slice a fs.length cap, .map (some M), .slice (some ⟨G, 0, none⟩) fs.length lc] 71))
  have hGl := hC.lk.lt
  have HC := hide (hC.below hbx)
  have HST : Hid (St fs (rt (List.range fs.length))) := st_congr (unhide HP) (fun i _ => (rt_range _ i).symm) id_st
  clear hC hbx
  go_wp2_with fail
  go_loopw [] (fun w' => ∃ L, Hid (St fs (rt L)) ∧ Hid (w'.heap[w2.heap.size]? = some (.cells #[.slice a fs.length cap, .map (some M), .slice (some ⟨G, 0, none⟩) fs.length lc] 71)) ∧ Hid (Ch w1 w' a fs M G lc L)) (fun w' => cntR w' G fs.length)
  case atStart => exact ⟨_, HST, HX, HC⟩
  case round =>
    clear HST HX HC
    obtain ⟨L, HST, HX, HC⟩ := hrel
    have HCN := hide (cntR_is (unhide HC))
    have HXL := hide (Array.getElem?_eq_some_iff.1 (unhide HX)).1
    obtain ⟨⟨x0, x1, x2⟩, _⟩ := box3 (unhide HX)
    go_wp2_with fail
    refine (linkTwice_any a cap fs M G lc L w1 _ (unhide HP) (unhide HS) HT1 (unhide HST) (unhide HC)).mono ?_
    rintro e w3 ⟨bb, L', rfl, hC3, hS3, hf, ht, hO3⟩
    have HC3 := hide hC3
    have HS3 := hide hS3
    have HX3 := hide ((hO3.2 w2.heap.size (unhide HXL) (by omega)).trans (unhide HX))
    have HF := hide hf
    have HTT := hide ht
    clear hC3 hS3 hf ht hO3 x0 x1 x2
    obtain ⟨⟨x0, x1, x2⟩, _⟩ := box3 (unhide HX3)
    cases bb
    · obtain ⟨hLe, hClo⟩ := unhide HF rfl
      have HE := hide (all_of hok hClo (unhide HST).fine)
      subst hLe
      go_wp2_with fail
      refine (left_any a cap fs M G lc _ w1 _ h0 hl (unhide HBD) (unhide HC3)).mono ?_
      rintro e w4 hcp
      obtain ⟨v, vs, rfl, h2, h3, h4⟩ := hcp
      have H2 := hide h2
      have H3 := hide h3
      clear h2 h3
      go_wp2_with fail
      go_ret
      have hBB := bl_trans (unhide HB1) (unhide HC3).bel
      exact ⟨v, vs, rfl, (unhide H2).trans (unhide HE).symm, (unhide H3).base hBB.size, bl_trans hBB h4⟩
    · go_wp2_with fail
      exact ⟨⟨L', HS3, HX3, HC3⟩, by rw [cntR_is (unhide HC3), unhide HCN]; exact unhide HTT trivial⟩
end Go.Proofs.YthbbmookhcalkaaGreatDoor.FoldP
