/- The program's chain of functions that become one: left. -/
import Derived.Test.YthbbmookhcalkaaGreatDoorFoldI
import Derived.Test.YthbbmookhcalkaaGreatDoorFoldK
namespace Go.Proofs.YthbbmookhcalkaaGreatDoor.FoldJ
open Go.ChangeShapes Go.WideShapes Go.ChangeAt Go.RowKit Go.Joins Go.WideMaps Go.Maps Go.Deep
open Go.Proofs.YthbbmookhcalkaaGreatDoor.Base Go.Proofs.YthbbmookhcalkaaGreatDoor.InsA Go.Proofs.YthbbmookhcalkaaGreatDoor.Name Go.Proofs.YthbbmookhcalkaaGreatDoor.InsB Go.Proofs.YthbbmookhcalkaaGreatDoor.Funs Go.Proofs.YthbbmookhcalkaaGreatDoor.Open Go.Proofs.YthbbmookhcalkaaGreatDoor.FunS Go.Proofs.YthbbmookhcalkaaGreatDoor.Keep Go.Proofs.YthbbmookhcalkaaGreatDoor.UnitS Go.Proofs.YthbbmookhcalkaaGreatDoor.UnitM Go.Proofs.YthbbmookhcalkaaGreatDoor.UU Go.Proofs.YthbbmookhcalkaaGreatDoor.Concat Go.Proofs.YthbbmookhcalkaaGreatDoor.KeepC Go.Proofs.YthbbmookhcalkaaGreatDoor.KeepD Go.Proofs.YthbbmookhcalkaaGreatDoor.KeepA Go.Proofs.YthbbmookhcalkaaGreatDoor.KeepO Go.Proofs.YthbbmookhcalkaaGreatDoor.Mark Go.Proofs.YthbbmookhcalkaaGreatDoor.MarkV Go.Proofs.YthbbmookhcalkaaGreatDoor.FoldR Go.Proofs.YthbbmookhcalkaaGreatDoor.FoldN Go.Proofs.YthbbmookhcalkaaGreatDoor.FoldT Go.Proofs.YthbbmookhcalkaaGreatDoor.FoldC Go.Proofs.YthbbmookhcalkaaGreatDoor.FoldK Go.Proofs.YthbbmookhcalkaaGreatDoor.FoldI
set_option linter.unusedVariables false
set_option maxRecDepth 100000

theorem insO_addr {w : World} {B : Nat} {v : Value} {xs : List InsD} (h : InsO w B v xs) (h0 : 0 < xs.length) : ∃ g c, v = .slice (some ⟨g, 0, none⟩) xs.length c := by
  obtain ⟨_, ⟨e, e2⟩ | ⟨g, cap, cur, e, _⟩⟩ := h
  · omega
  · exact ⟨g, cap, e⟩
theorem leftF_at {fs : List FunD} {r : Nat → Nat} {k : Nat} (hk : k < fs.length) : leftF fs r k = ⟨fs[k].nm, fs[k].wk, mapB (tf fs r) fs[k].body⟩ := by
  unfold leftF nmA bdA ren
  rw [getD_is hk]
theorem tf_sizes {fs : List FunD} {r : Nat → Nat} {xs : List InsD} (hz : ∀ f ∈ fs, f.nm.size ≤ maxLen ∧ f.body.length ≤ maxLen ∧ ∀ x ∈ f.body, x.s.size ≤ maxLen) (hx : ∀ x ∈ xs, x.s.size ≤ maxLen) : ∀ x ∈ mapB (tf fs r) xs, x.s.size ≤ maxLen := by
  intro y hy
  unfold mapB at hy
  obtain ⟨x, hx', rfl⟩ := List.mem_map.1 hy
  unfold mapI
  split
  · show (tf fs r x.s).size ≤ maxLen
    unfold tf nmA
    by_cases hi : r (idx fs x.s) < fs.length
    · rw [getD_is hi]; exact (hz _ (List.getElem_mem hi)).1
    · rw [List.getD, List.getElem?_eq_none (by omega)]
      show (0 : Nat) ≤ _
      omega
  · exact hx x hx'
set_option maxHeartbeats 8000000 in
theorem left_any (a : Option Addr) (cap : Nat) (fs : List FunD) (M G lc : Nat) (L : List Nat) (w0 w : World) (h0 : 0 < fs.length) (hl : fs.length ≤ 40) (hbd : ∀ f ∈ fs, 0 < f.body.length ∧ f.body.length ≤ 1000) (h : Ch w0 w a fs M G lc L) :
    Calls Tryz.prog 44 #[.agg #[.slice a fs.length cap, .map (some M), .slice (some ⟨G, 0, none⟩) fs.length lc]] w (Copied w (left fs (rt L))) := by
  obtain ⟨b, off, rfl⟩ := h.row0.get h0
  have hB := below_alloc1 w (.cells #[.slice (some ⟨b, off, none⟩) fs.length cap, .map (some M), .slice (some ⟨G, 0, none⟩) fs.length lc] 71)
  have HX := hide (new_block w (.cells #[.slice (some ⟨b, off, none⟩) fs.length cap, .map (some M), .slice (some ⟨G, 0, none⟩) fs.length lc] 71))
  have HC := hide (h.below hB)
  have HC0 := hide h
  have HBD := hide hbd
  have HSZ := hide h.row0.sizes
  have HLN := hide h.len
  have HLK := hide h.ok
  have HB := hide hB
  obtain ⟨i1, hi1, hy0, hy1, hy2⟩ := info_fun
  obtain ⟨⟨x0, x1, x2⟩, _⟩ := box3 (unhide HX)
  clear h hB hbd
  go_enter Tryz.func44, Tryz.ntmps44
  go_wp2_with fail
  go_loopw [3, 9] (fun v i w' => ∃ (k : Nat) (vs : List (FunD × Value)), k ≤ fs.length ∧ i = .int .i64 k ∧ vs.length ≤ k ∧ Hid (vs.map Prod.fst = leftN fs (rt L) k) ∧ Hid (OwnFs w' (w.heap.size + 1) v vs) ∧ Hid (w'.heap[w.heap.size]? = some (.cells #[.slice (some ⟨b, off, none⟩) fs.length cap, .map (some M), .slice (some ⟨G, 0, none⟩) fs.length lc] 71)) ∧ Hid (Below w.heap.size w w')) (fun _ i _ => fs.length - (intOf i).toNat)
  case atStart => exact ⟨0, [], Nat.zero_le _, rfl, Nat.le_refl _, rfl, OwnFs.nil _ _, HX, HB⟩
  case round =>
    clear HX HC HB x0 x1 x2
    obtain ⟨k, vs, hk, rfl, hvk, HV, HO, HX, HB⟩ := hrel
    have HC := hide ((unhide HC0).below (unhide HB))
    obtain ⟨⟨x0, x1, x2⟩, _⟩ := box3 (unhide HX)
    by_cases hkl : k < fs.length
    · have hkl' : (k : Int) < (fs.length : Int) := by omega
      have hk0 : (0 : Int) ≤ (k : Int) := by omega
      obtain ⟨ai, ci, c0, c1, c2, hn, h4, h5, h6⟩ := (unhide HC).row.at hkl
      have hbx := below_alloc1 wr (.cells #[.string fs[k].nm, .bool fs[k].wk, .slice ai fs[k].body.length ci] 28)
      have HF := hide (new_block wr (.cells #[.string fs[k].nm, .bool fs[k].wk, .slice ai fs[k].body.length ci] 28))
      have H6 := hide (h6.below hbx)
      replace HX := hide (box_below (unhide HX) hbx)
      replace HC := hide ((unhide HC).below hbx)
      replace HO := hide ((unhide HO).below hbx)
      replace HB := hide (bl_trans (unhide HB) hbx)
      obtain ⟨hb0, hb1⟩ := unhide HBD fs[k] (List.getElem_mem hkl)
      have HLF := hide (leftF_at (r := rt L) hkl)
      clear h6 hbx x0 x1 x2
      obtain ⟨⟨x0, x1, x2⟩, _⟩ := box3 (unhide HX)
      generalize fs[k] = f at *
      obtain ⟨nm, wk, xs⟩ := f
      simp only at *
      cases hq : (L.getD k k == k)
      · have hne : rt L k ≠ k := fun e => by
          have := (rt_iff (unhide HLK) (by rw [unhide HLN]; exact hkl)).1 e
          rw [this, beq_self_eq_true] at hq; cases hq
        have HSK := hide (leftN_skip (fs := fs) hne)
        go_wp2_with fail
        refine (stays_any (some ⟨b, off, none⟩) cap fs M G lc L k w0 _ hkl hl (unhide HC)).mono ?_
        rw [hq]
        rintro e w2 ⟨rfl, hb2⟩
        replace HX := hide (box_below (unhide HX) hb2)
        replace HC := hide ((unhide HC).below hb2)
        replace HO := hide ((unhide HO).below hb2)
        replace HB := hide (bl_trans (unhide HB) hb2)
        go_wp2_with fail
        exact ⟨⟨k + 1, vs, by omega, by go_num, by omega, hide ((unhide HV).trans (unhide HSK).symm), HO, HX, HB⟩, by simp [intOf]; omega⟩
      · have hee : rt L k = k := (rt_iff (unhide HLK) (by rw [unhide HLN]; exact hkl)).2 (by simpa using hq)
        have HMO := hide (leftN_more (fs := fs) hee)
        go_wp2_with fail
        refine (stays_any (some ⟨b, off, none⟩) cap fs M G lc L k w0 _ hkl hl (unhide HC)).mono ?_
        rw [hq]
        rintro e w2 ⟨rfl, hb2⟩
        replace HX := hide (box_below (unhide HX) hb2)
        replace HF := hide (box_below (unhide HF) hb2)
        replace HC := hide ((unhide HC).below hb2)
        replace HO := hide ((unhide HO).below hb2)
        replace HB := hide (bl_trans (unhide HB) hb2)
        replace H6 := hide ((unhide H6).below hb2)
        clear hb2 x0 x1 x2 c0 c1 c2
        obtain ⟨⟨x0, x1, x2⟩, _⟩ := box3 (unhide HX)
        obtain ⟨⟨y0, y1, y2⟩, _⟩ := box3 (unhide HF)
        have hmf : (Instr.makeFunc (.func 82) #[.agg #[.slice (some ⟨b, off, none⟩) fs.length cap, .map (some M), .slice (some ⟨G, 0, none⟩) fs.length lc]] #[]).run Tryz.prog w2 = .ok (.func (.func 82) #[.agg #[.slice (some ⟨b, off, none⟩) fs.length cap, .map (some M), .slice (some ⟨G, 0, none⟩) fs.length lc]] #[]) w2 := rfl
        go_wp2_with fail
        refine (withTold_any (.agg #[.slice (some ⟨b, off, none⟩) fs.length cap, .map (some M), .slice (some ⟨G, 0, none⟩) fs.length lc]) (fun w' => Below w2.heap.size w2 w') (tf fs (rt L)) nm wk ai ci xs w2 (Stable.below w2) (fun w' b i v hb hp => hp.setCell (p := ⟨b, i, none⟩) hb v) (fun s w' hs hp => told_any _ cap fs M G lc L s w0 w' h0 hl hs ((unhide HC).below hp)) (Below.refl _ _) h4 h5 hb0 hb1 hn (unhide H6)).mono ?_
        rintro e w3 ⟨v, rfl, hI, hb3⟩
        dsimp only at hI ⊢
        obtain ⟨g, c, rfl⟩ := insO_addr hI (by rw [mapB_len]; exact hb0)
        have hms : ∀ x ∈ mapB (tf fs (rt L)) xs, x.s.size ≤ maxLen := tf_sizes (unhide HSZ) (unhide H6).sizes
        have HBO : Hid (BodyO w3 w2.heap.size (⟨nm, wk, mapB (tf fs (rt L)) xs⟩, .slice (some ⟨g, 0, none⟩) (mapB (tf fs (rt L)) xs).length c)) := ⟨hI, hn, hms, by simp [Value.ownBlock]⟩
        have hs2 : w.heap.size + 1 ≤ w2.heap.size := (Array.getElem?_eq_some_iff.1 (unhide HX)).1
        have HO2 := HO
        have HB2 := HB
        replace HX := hide (box_below (unhide HX) hb3)
        have HB3 := hide hb3
        clear hb3 HC H6 HF HO HB x0 x1 x2 y0 y1 y2 hI hmf
        generalize hys : mapB (tf fs (rt L)) xs = ys at *
        go_wp2_with (first
          | (at_builtin; refine wpList_append_own_at _ rfl _ _ 23 rfl (w.heap.size + 1) 28 i1 (.agg #[.string ⟨#[]⟩, .bool false, .slice none 0 0]) 3 48 Tryz.underlying23 hi1 hy0 hy1 hy2 rfl (by decide) _ vs.length (vs.flatMap encV) rfl (row_below (unhide HO2).1 (bl_alloc (unhide HB3) _)) ⟨w3.heap.size, 0, none⟩ 1 1 (encV (⟨nm, wk, ys⟩, .slice (some ⟨g, 0, none⟩) ys.length c)) rfl rfl (funV_new w3 (⟨nm, wk, ys⟩, .slice (some ⟨g, 0, none⟩) ys.length c)) (by simp [encV, Value.oneCell']) (by unfold maxLen; omega) (by omega) (Nat.le_trans hs2 (bl_alloc (unhide HB3) _).size) ?_; intro v3 w4 hown4 hgrow4 _ _)
          | go_in)
        have hB4 : Below w.heap.size w w4 := (bl_trans (unhide HB2) (bl_alloc (unhide HB3) _)).grown hgrow4 (bl_trans (unhide HB2) (bl_alloc (unhide HB3) _)).size (fun j hj => by have := (World.ownsRow.lt (unhide HO2).1 j hj).1; omega)
        have HX4 := hide ((hgrow4.block _ (by have h1 := (unhide HB3).size; simp only [World.size_alloc]; omega) (fun e => by have h1 := (World.ownsRow.lt (unhide HO2).1 _ e.symm).1; omega)).trans (box_below (unhide HX) (below_alloc1 _ _)))
        have HO4 := hide (OwnFs.snoc (unhide HO2) (bl_alloc (unhide HB3) _) (BodyO.below (unhide HBO) (below_alloc1 _ _)) hs2 hown4 hgrow4)
        exact ⟨⟨k + 1, vs ++ [((⟨nm, wk, ys⟩ : FunD), Value.slice (some ⟨g, 0, none⟩) ys.length c)], by omega, by go_num, by simp; omega, by rw [List.map_append, unhide HV, unhide HMO, unhide HLF]; rfl, HO4, HX4, hB4⟩, by simp [intOf]; omega⟩
    · have hke : k = fs.length := by omega
      subst hke
      go_wp2_with fail
      go_ret
      exact ⟨_, vs, rfl, unhide HV, (unhide HO).base (by omega), unhide HB⟩
end Go.Proofs.YthbbmookhcalkaaGreatDoor.FoldJ
