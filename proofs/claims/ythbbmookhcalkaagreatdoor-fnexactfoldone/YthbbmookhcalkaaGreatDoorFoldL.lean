/- The program's chain of functions that become one: linkTwice. -/
import Derived.Test.YthbbmookhcalkaaGreatDoorFoldJ
namespace Go.Proofs.YthbbmookhcalkaaGreatDoor.FoldL
open Go.ChangeShapes Go.WideShapes Go.ChangeAt Go.RowKit Go.Joins Go.WideMaps Go.Maps Go.Deep
open Go.Proofs.YthbbmookhcalkaaGreatDoor.Base Go.Proofs.YthbbmookhcalkaaGreatDoor.InsA Go.Proofs.YthbbmookhcalkaaGreatDoor.Name Go.Proofs.YthbbmookhcalkaaGreatDoor.InsB Go.Proofs.YthbbmookhcalkaaGreatDoor.Funs Go.Proofs.YthbbmookhcalkaaGreatDoor.Open Go.Proofs.YthbbmookhcalkaaGreatDoor.FunS Go.Proofs.YthbbmookhcalkaaGreatDoor.Keep Go.Proofs.YthbbmookhcalkaaGreatDoor.UnitS Go.Proofs.YthbbmookhcalkaaGreatDoor.UnitM Go.Proofs.YthbbmookhcalkaaGreatDoor.UU Go.Proofs.YthbbmookhcalkaaGreatDoor.Concat Go.Proofs.YthbbmookhcalkaaGreatDoor.KeepC Go.Proofs.YthbbmookhcalkaaGreatDoor.KeepD Go.Proofs.YthbbmookhcalkaaGreatDoor.KeepA Go.Proofs.YthbbmookhcalkaaGreatDoor.KeepO Go.Proofs.YthbbmookhcalkaaGreatDoor.Mark Go.Proofs.YthbbmookhcalkaaGreatDoor.MarkV Go.Proofs.YthbbmookhcalkaaGreatDoor.BTxt Go.Proofs.YthbbmookhcalkaaGreatDoor.FoldR Go.Proofs.YthbbmookhcalkaaGreatDoor.FoldN Go.Proofs.YthbbmookhcalkaaGreatDoor.FoldT Go.Proofs.YthbbmookhcalkaaGreatDoor.FoldC Go.Proofs.YthbbmookhcalkaaGreatDoor.FoldK Go.Proofs.YthbbmookhcalkaaGreatDoor.FoldI Go.Proofs.YthbbmookhcalkaaGreatDoor.FoldJ
open Go.Proofs.YthbbmookhcalkaaGreatDoor.FTwo (map_made)
set_option linter.unusedVariables false
set_option maxRecDepth 100000

theorem Ch.grown {w0 w w' : World} {a : Option Addr} {fs : List FunD} {M G lc F : Nat} {L : List Nat} (h : Ch w0 w a fs M G lc L) (hg : w.grownBy w' (some F)) (hF : w0.heap.size ≤ F) (hM : M ≠ F) (hG : G ≠ F) : Ch w0 w' a fs M G lc L :=
  ⟨h.row0, h.bel.grown hg h.bel.size (fun j hj => by cases hj; exact hF), map_under h.map (hg.block M (map_inside h.map) (fun e => by cases e; exact hM rfl)), World.ownsRow.kept h.lk hg (.inr (fun e => by simp only [Value.ownBlock, Option.some.injEq] at e; exact hG e)), h.len, h.ok⟩
/-- The blocks of a world ahead stand, but for one. -/
def Oth (w w' : World) (G : Nat) : Prop := w.heap.size ≤ w'.heap.size ∧ ∀ j, j < w.heap.size → j ≠ G → w'.heap[j]? = w.heap[j]?
theorem Oth.below {w w' w'' : World} {G : Nat} (h : Oth w w' G) (hb : Below w'.heap.size w' w'') : Oth w w'' G := ⟨Nat.le_trans h.1 hb.size, fun j h1 h2 => (hb.block j (Nat.lt_of_lt_of_le h1 h.1)).trans (h.2 j h1 h2)⟩
theorem Oth.set {w w' : World} {G : Nat} (h : Oth w w' G) (k : Nat) (v : Value) : Oth w (w'.setCell ⟨G, k, none⟩ v) G := ⟨by rw [World.size_setCell]; exact h.1, fun j h1 h2 => (Below.heap_setCell w' ⟨G, k, none⟩ v j h2).trans (h.2 j h1 h2)⟩
theorem Oth.grown {w w' w'' : World} {G F : Nat} (h : Oth w w' G) (hg : w'.grownBy w'' (some F)) (hF : w.heap.size ≤ F) : Oth w w'' G := ⟨Nat.le_trans h.1 hg.size, fun j h1 h2 => (hg.block j (Nat.lt_of_lt_of_le h1 h.1) (fun e => by cases e; omega)).trans (h.2 j h1 h2)⟩
set_option maxHeartbeats 8000000 in
theorem linkTwice_any (a : Option Addr) (cap : Nat) (fs : List FunD) (M G lc : Nat) (L : List Nat) (w0 w : World) (hp : Prg fs) (hs : Small fs) (HT : Hid (Lib.TabIs Tryz.prog w0 "internal/strconv.uint64pow10" .u64 Lib.pow10Tab)) (hst : St fs (rt L)) (h : Ch w0 w a fs M G lc L) :
    Calls Tryz.prog 43 #[.agg #[.slice a fs.length cap, .map (some M), .slice (some ⟨G, 0, none⟩) fs.length lc]] w fun e w' => ∃ (b : Bool) (L' : List Nat), e = .returned (.bool b) ∧ Ch w0 w' a fs M G lc L' ∧ St fs (rt L') ∧ (b = false → L' = L ∧ Clo fs (rt L)) ∧ (b = true → (stays (rt L') fs.length).length < (stays (rt L) fs.length).length) ∧ Oth w w' G := by
  obtain ⟨b, off, rfl⟩ := h.row0.get hs.pos
  have hB := below_alloc1 w (.cells #[.slice (some ⟨b, off, none⟩) fs.length cap, .map (some M), .slice (some ⟨G, 0, none⟩) fs.length lc] 71)
  have HX := hide (new_block w (.cells #[.slice (some ⟨b, off, none⟩) fs.length cap, .map (some M), .slice (some ⟨G, 0, none⟩) fs.length lc] 71))
  have hMl := map_inside h.map
  have hGl := h.lk.lt
  have hw0 := h.bel.size
  have HC := hide (h.below hB)
  have HOT : Hid (Oth w (w.alloc (.cells #[.slice (some ⟨b, off, none⟩) fs.length cap, .map (some M), .slice (some ⟨G, 0, none⟩) fs.length lc] 71)) G) := ⟨hB.size, fun j h1 _ => hB.block j h1⟩
  have HP := hide hp
  have HS := hide hs
  have HST := hide hst
  have h0 := hs.pos
  have hl := hs.few
  obtain ⟨⟨x0, x1, x2⟩, _⟩ := box3 (unhide HX)
  have hmm := map_made
  clear h hB hp hs hst
  go_enter Tryz.func43, Tryz.ntmps43
  go_upto_region 3 with fail
  try rw [World.size_alloc]
  have hbm := below_alloc1 (w.alloc (.cells #[.slice (some ⟨b, off, none⟩) fs.length cap, .map (some M), .slice (some ⟨G, 0, none⟩) fs.length lc] 71)) (.map #[] 0)
  replace HX := hide (box_below (unhide HX) hbm)
  replace HC := hide ((unhide HC).below hbm)
  replace HOT := hide ((unhide HOT).below hbm)
  have HM : Hid (((w.alloc (.cells #[.slice (some ⟨b, off, none⟩) fs.length cap, .map (some M), .slice (some ⟨G, 0, none⟩) fs.length lc] 71)).alloc (.map #[] 0)).ownsMap Tryz.prog 9 (plainElem Tryz.prog 3) (w.alloc (.cells #[.slice (some ⟨b, off, none⟩) fs.length cap, .map (some M), .slice (some ⟨G, 0, none⟩) fs.length lc] 71)).heap.size 0 (.map [])) := World.ownsMap_made (H := Unit) _ _ _ _
  rw [World.size_alloc] at HM
  clear hbm hmm x0 x1 x2
  generalize (w.alloc (.cells #[.slice (some ⟨b, off, none⟩) fs.length cap, .map (some M), .slice (some ⟨G, 0, none⟩) fs.length lc] 71)).alloc (.map #[] 0) = W at *
  obtain ⟨⟨x0, x1, x2⟩, _⟩ := box3 (unhide HX)
  go_wp2_with fail
  go_loopw [3, 14] (fun v i w' => ∃ (k : Nat) (bb : Bool) (L' : List Nat) (D : DataW Unit) (m : Nat), k ≤ fs.length ∧ i = .int .i64 k ∧ v = .bool bb ∧ m ≤ k ∧ Hid (FI fs L' k D bb) ∧ Hid (St fs (rt L')) ∧ Hid (bb = false → L' = L) ∧ Hid (bb = true → (stays (rt L') fs.length).length < (stays (rt L) fs.length).length) ∧ Hid ((stays (rt L') fs.length).length ≤ (stays (rt L) fs.length).length) ∧ Hid (w'.ownsMap Tryz.prog 9 (plainElem Tryz.prog 3) (w.heap.size + 1) m D) ∧ Hid (w'.heap[w.heap.size]? = some (.cells #[.slice (some ⟨b, off, none⟩) fs.length cap, .map (some M), .slice (some ⟨G, 0, none⟩) fs.length lc] 71)) ∧ Hid (Ch w0 w' (some ⟨b, off, none⟩) fs M G lc L') ∧ Hid (Oth w w' G)) (fun _ i _ => fs.length - (intOf i).toNat)
  case atStart => exact ⟨0, false, L, .map [], 0, Nat.zero_le _, rfl, rfl, Nat.le_refl _, fi_zero _ _, HST, fun _ => rfl, (fun e => by cases e), Nat.le_refl _, HM, HX, HC, HOT⟩
  case round =>
    clear HX HC HOT HM HST x0 x1 x2
    obtain ⟨k, bb, L', D, m, hk, rfl, rfl, hmk, HFI, HST, HLE, HLT, HCN, HM, HX, HC, HOT⟩ := hrel
    obtain ⟨⟨x0, x1, x2⟩, _⟩ := box3 (unhide HX)
    have HLN := hide (unhide HC).len
    have HLK := hide (unhide HC).ok
    by_cases hkl : k < fs.length
    · have hkl' : (k : Int) < (fs.length : Int) := by omega
      have hk0 : (0 : Int) ≤ (k : Int) := by omega
      obtain ⟨ai, ci, c0, c1, c2, hn, h4, h5, h6⟩ := (unhide HC).row.at hkl
      have hbx := below_alloc1 wr (.cells #[.string fs[k].nm, .bool fs[k].wk, .slice ai fs[k].body.length ci] 28)
      have HF := hide (new_block wr (.cells #[.string fs[k].nm, .bool fs[k].wk, .slice ai fs[k].body.length ci] 28))
      have H6 := hide (h6.below hbx)
      have HSZ := hide (unhide HC).row.sizes
      replace HX := hide (box_below (unhide HX) hbx)
      replace HC := hide ((unhide HC).below hbx)
      replace HM := hide (map_under (unhide HM) (hbx.block _ (map_inside (unhide HM))))
      replace HOT := hide ((unhide HOT).below hbx)
      have HRN : Hid (mapB (tf fs (rt L')) fs[k].body = ren fs (rt L') (bdA fs k)) := by
        show _ = _
        unfold ren bdA
        rw [getD_is hkl]
      have HB10 : Hid (1 ≤ fs[k].body.length ∧ fs[k].body.length ≤ 10) := by
        have := ((unhide HS).bd k hkl).2
        unfold bdA at this
        rw [getD_is hkl] at this
        exact this
      clear h6 hbx x0 x1 x2
      obtain ⟨⟨x0, x1, x2⟩, _⟩ := box3 (unhide HX)
      generalize fs[k] = f at *
      obtain ⟨nm, wk, xs⟩ := f
      simp only at *
      cases hq : (L'.getD k k == k)
      · have hne : L'.getD k k ≠ k := by simpa using hq
        have HSK := hide (fi_skip (unhide HFI) hne)
        go_wp2_with fail
        refine (stays_any (some ⟨b, off, none⟩) cap fs M G lc L' k w0 _ hkl hl (unhide HC)).mono ?_
        rw [hq]
        rintro e w2 ⟨rfl, hb2⟩
        replace HX := hide (box_below (unhide HX) hb2)
        replace HC := hide ((unhide HC).below hb2)
        replace HM := hide (map_under (unhide HM) (hb2.block _ (map_inside (unhide HM))))
        replace HOT := hide ((unhide HOT).below hb2)
        go_wp2_with fail
        exact ⟨⟨k + 1, bb, L', D, m, by omega, by go_num, rfl, by omega, HSK, HST, HLE, HLT, HCN, HM, HX, HC, HOT⟩, by simp [intOf]; omega⟩
      · have hee : L'.getD k k = k := by simpa using hq
        have HRT := hide (rt_root (fs := fs) (unhide HLK) (unhide HLN))
        have HTS := hide ((unhide HS).text (st_lt (unhide HRT)) hkl)
        have HTO := hide ((unhide HS).ok (st_lt (unhide HRT)) hkl)
        have HPUT := hide (fun h => fi_put (unhide HS) (unhide HLK) (unhide HLN) (unhide HFI) hkl hee h)
        have HLINK := hide (fun h => fi_link (unhide HP) (unhide HS) (unhide HLK) (unhide HLN) (unhide HST) (unhide HFI) hkl hee h)
        rw [← unhide HRN] at HTS HTO HPUT HLINK
        go_wp2_with fail
        refine (stays_any (some ⟨b, off, none⟩) cap fs M G lc L' k w0 _ hkl hl (unhide HC)).mono ?_
        rw [hq]
        rintro e w2 ⟨rfl, hb2⟩
        replace HX := hide (box_below (unhide HX) hb2)
        replace HF := hide (box_below (unhide HF) hb2)
        replace HC := hide ((unhide HC).below hb2)
        replace HM := hide (map_under (unhide HM) (hb2.block _ (map_inside (unhide HM))))
        replace HOT := hide ((unhide HOT).below hb2)
        replace H6 := hide ((unhide H6).below hb2)
        clear hb2 x0 x1 x2 c0 c1 c2
        obtain ⟨⟨x0, x1, x2⟩, _⟩ := box3 (unhide HX)
        obtain ⟨⟨y0, y1, y2⟩, _⟩ := box3 (unhide HF)
        have hmf : (Instr.makeFunc (.func 82) #[.agg #[.slice (some ⟨b, off, none⟩) fs.length cap, .map (some M), .slice (some ⟨G, 0, none⟩) fs.length lc]] #[]).run Tryz.prog w2 = .ok (.func (.func 82) #[.agg #[.slice (some ⟨b, off, none⟩) fs.length cap, .map (some M), .slice (some ⟨G, 0, none⟩) fs.length lc]] #[]) w2 := rfl
        have hb1 := (unhide HB10).1
        have hb2 := (unhide HB10).2
        go_wp2_with fail
        refine (withTold_any (.agg #[.slice (some ⟨b, off, none⟩) fs.length cap, .map (some M), .slice (some ⟨G, 0, none⟩) fs.length lc]) (fun w' => Below w2.heap.size w2 w') (tf fs (rt L')) nm wk ai ci xs w2 (Stable.below w2) (fun w' b i v hb hp => hp.setCell (p := ⟨b, i, none⟩) hb v) (fun s w' hs hp => told_any _ cap fs M G lc L' s w0 w' h0 hl hs ((unhide HC).below hp)) (Below.refl _ _) h4 h5 (by omega) (by omega) hn (unhide H6)).mono ?_
        rintro e w3 ⟨v, rfl, hI, hb3⟩
        dsimp only at hI ⊢
        obtain ⟨vi, vc, rfl, hv4, hv5, hvr⟩ := hI.row (tf_sizes (unhide HSZ) (unhide H6).sizes)
        have HVR := hide hvr
        have hys10 : (mapB (tf fs (rt L')) xs).length ≤ 10 := by rw [mapB_len]; exact hb2
        replace HX := hide (box_below (unhide HX) hb3)
        replace HC := hide ((unhide HC).below hb3)
        replace HM := hide (map_under (unhide HM) (hb3.block _ (map_inside (unhide HM))))
        replace HOT := hide ((unhide HOT).below hb3)
        clear hb3 H6 HF x0 x1 x2 y0 y1 y2 hI hmf hvr hb1 hb2 HB10 HSZ HRN
        generalize mapB (tf fs (rt L')) xs = ys at *
        go_wp2_with fail
        refine (bodyText_any nm wk vi vc ys _ hv4 hv5 hys10 (unhide HTO) (unhide HVR) (hide (tab_stays Go.Proofs.YthbbmookhcalkaaGreatDoor.Text.gPow (unhide HT) (unhide HC).bel (Nat.le_refl _)))).mono ?_
        rintro e w4 ⟨rfl, hb4⟩
        replace HX := hide (box_below (unhide HX) hb4)
        replace HC := hide ((unhide HC).below hb4)
        replace HM := hide (map_under (unhide HM) (hb4.block _ (map_inside (unhide HM))))
        replace HOT := hide ((unhide HOT).below hb4)
        clear hb4 HVR hv4 hv5 hys10 HTO
        have hts := unhide HTS
        clear HTS
        generalize bodyT ys = tt at *
        have hkey : keyOf Tryz.prog 9 (.string tt) = some (keyS tt) := keyOf_string_mk Tryz.underlying9 hts
        have hown := unhide HM
        obtain ⟨⟨x0, x1, x2⟩, _⟩ := box3 (unhide HX)
        cases hh : has D (keyS tt)
        · have HPT := hide (unhide HPUT hh)
          have hwf : (Lit.int .i64 (k : Int)).wf = true := by
            unfold Lit.wf
            rw [Bool.and_eq_true, decide_eq_true_iff, decide_eq_true_iff]
            exact ⟨by show (-9223372036854775808 : Int) ≤ _; omega, by show _ ≤ (9223372036854775807 : Int); omega⟩
          clear HPUT HLINK
          go_wp2_with (first
            | (at_lookup; refine wpList_lookup_own_ok_int _ rfl _ _ 58 rfl 9 3 .i64 lawS Tryz.underlying58 Tryz.underlying3 (zeroI _) (w.heap.size + 1) m _ rfl hown _ _ rfl hkey ?_; intro c hat hwc)
            | (at_mapUpdate; refine wpList_mapUpdate_own _ rfl _ _ _ 58 rfl 9 3 lawS Tryz.underlying58 _ (w.heap.size + 1) m _ rfl hown (by unfold maxLen; omega) _ _ _ rfl rfl hkey _ [] (plainElem_int Tryz.underlying3 hwf) ?_; intro w5 hown5 hgrow5)
            | go_in)
          have HM5 := hide hown5
          have HC5 := hide (Ch.grown (unhide HC) hgrow5 (by omega) (by omega) (by omega))
          have HX5 := hide ((hgrow5.block w.heap.size (by have := (unhide HOT).1; have := (Array.getElem?_eq_some_iff.1 (unhide HX)).1; omega) (fun e => by simp at e)).trans (unhide HX))
          have HOT5 := hide ((unhide HOT).grown hgrow5 (by omega))
          exact ⟨⟨k + 1, bb, L', _, m + 1, by omega, by go_num, rfl, by omega, HPT, HST, HLE, HLT, HCN, HM5, HX5, HC5, HOT5⟩, by simp [intOf]; omega⟩
        · obtain ⟨i, hik, hval, hFI, hSt, hcnt⟩ := unhide HLINK hh
          have HFI2 := hide hFI
          have HST2 := hide hSt
          have HVAL := hide (hval (.lit (.int .i64 0)))
          have hcl := (unhide HC).cell hkl
          have HC5 := hide (Ch.store (unhide HC) hkl (Nat.le_of_lt hik))
          have HX5 := hide ((Below.heap_setCell w4 ⟨G, k, none⟩ (.int .i64 (i : Int)) w.heap.size (by show w.heap.size ≠ G; omega)).trans (unhide HX))
          have HM5 := hide (map_under (unhide HM) (Below.heap_setCell w4 ⟨G, k, none⟩ (.int .i64 (i : Int)) (w.heap.size + 1) (by show w.heap.size + 1 ≠ G; omega)))
          have HOT5 := hide ((unhide HOT).set k (.int .i64 (i : Int)))
          have HC2 : Hid ((stays (rt (L'.set k i)) fs.length).length < (stays (rt L) fs.length).length) := Nat.lt_of_lt_of_le hcnt (unhide HCN)
          obtain ⟨cc0, cc1⟩ := hcl
          generalize L'.getD k k = z at *
          clear hval hFI hSt hcnt HPUT HLINK
          go_wp2_with (first
            | (at_lookup; refine wpList_lookup_own_ok_int _ rfl _ _ 58 rfl 9 3 .i64 lawS Tryz.underlying58 Tryz.underlying3 (zeroI _) (w.heap.size + 1) m _ rfl hown _ _ rfl hkey ?_; intro c hat hwc; have hc : c = (i : Int) := (by rw [unhide HVAL] at hat; injection hat with h1; injection h1 with _ h2; exact h2.symm); subst hc; clear hat)
            | go_in)
          exact ⟨⟨k + 1, true, L'.set k i, D, m, by omega, by go_num, rfl, by omega, HFI2, HST2, (fun e => by cases e), fun _ => unhide HC2, hide (Nat.le_of_lt (unhide HC2)), HM5, HX5, HC5, HOT5⟩, by simp [intOf]; omega⟩
    · have hke : k = fs.length := by omega
      have HEND : Hid (bb = false → L' = L ∧ Clo fs (rt L)) := fun e => by
        have e2 := unhide HLE e
        subst e
        subst e2
        have hf := unhide HFI
        rw [hke] at hf
        exact ⟨rfl, fi_end (unhide HLK) (unhide HLN) (unhide HST) hf⟩
      go_wp2_with fail
      go_ret
      exact ⟨bb, L', rfl, unhide HC, unhide HST, unhide HEND, unhide HLT, unhide HOT⟩
end Go.Proofs.YthbbmookhcalkaaGreatDoor.FoldL
