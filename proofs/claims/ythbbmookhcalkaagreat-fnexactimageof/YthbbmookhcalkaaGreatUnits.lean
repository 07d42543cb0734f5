/- The contracts of the laws' helpers on slices of functions. -/
import Derived.Test.YthbbmookhcalkaaGreatKeep
import Derived.Deep.RegionHeld3
namespace Go.Proofs.YthbbmookhcalkaaGreat.Units
open Go.ChangeShapes Go.WideShapes Go.ChangeAt Go.RowKit Go.Joins
open Go.Proofs.YthbbmookhcalkaaGreat.Base Go.Proofs.YthbbmookhcalkaaGreat.InsA Go.Proofs.YthbbmookhcalkaaGreat.Funs Go.Proofs.YthbbmookhcalkaaGreat.Open Go.Proofs.YthbbmookhcalkaaGreat.Keep
set_option linter.unusedVariables false
set_option maxRecDepth 100000

def szFL : List FunD → Int → Int
  | [], l => l
  | f :: r, l => if szF f.nm f.body l < 0 then -1 else szFL r (szF f.nm f.body l)
def szFs (fs : List FunD) (l : Int) : Int := if l - fs.length < 0 then -1 else szFL fs (l - fs.length)

set_option maxHeartbeats 1000000 in
theorem szFunS_any (a : Option Addr) (cap : Nat) (fs : List FunD) (l : Int) (w : World) (hl0 : 0 ≤ l) (hl1 : l ≤ 1048576) (hcap : fs.length ≤ cap) (hcm : cap ≤ maxLen) (hrow : FunRow w a fs) :
    Calls Tryz.prog 4 #[.slice a fs.length cap, .int .i64 l] w fun e w' => e = .returned (.int .i64 (szFs fs l)) ∧ Below w.heap.size w w' := by
  have HR := hide hrow
  clear hrow
  unfold maxLen at hcm
  have hxl : (fs.length : Int) ≤ 9223372036854775807 := by omega
  by_cases hlt : l < fs.length
  · go_enter Tryz.func4, Tryz.ntmps4
    go_wp2
    go_ret
    exact ⟨ret_int (by unfold szFs; rw [if_pos (by omega)]), Below.refl _ _⟩
  · go_enter Tryz.func4, Tryz.ntmps4
    go_wp2_with fail
    go_loopw [1, 5] (fun lf i w' => ∃ (k : Nat) (z : Int), k ≤ fs.length ∧ i = .int .i64 k ∧ lf = .int .i64 z ∧ 0 ≤ z ∧ z ≤ 1048576 ∧ szFL fs (l - fs.length) = szFL (fs.drop k) z ∧ Below w.heap.size w w') (fun _ i _ => fs.length - (intOf i).toNat)
    case atStart => exact ⟨0, _, Nat.zero_le _, rfl, rfl, by omega, by omega, by simp, Below.refl _ _⟩
    case round =>
      obtain ⟨k, z, hk, rfl, rfl, hz0, hz1, hsz, hB⟩ := hrel
      have HS := hide hsz
      clear hsz
      by_cases hkl : k < fs.length
      · have hrow := (unhide HR).below hB
        obtain ⟨b, off, rfl⟩ := hrow.get (by omega)
        obtain ⟨ai, ci, c0, c1, c2, hn, h4, h5, h6⟩ := hrow.at hkl
        have H6 := hide h6
        clear hrow h6
        have hkl' : (k : Int) < (fs.length : Int) := by omega
        have hdr : fs.drop k = fs[k] :: fs.drop (k + 1) := List.drop_eq_getElem_cons hkl
        have HD := hide hdr
        clear hdr
        generalize fs[k] = f at *
        by_cases hneg : szF f.nm f.body z < 0
        · go_wp2_with fail
          refine (szFun_any f.nm f.wk ai ci f.body z _ hz0 hz1 hn h4 h5 (unhide H6)).mono ?_
          rintro e w1 ⟨rfl, hb1⟩
          go_wp2_with fail
          go_ret
          exact ⟨ret_int (by unfold szFs; rw [if_neg (by omega), unhide HS, unhide HD]; simp only [szFL]; rw [if_pos hneg]), bl_trans hB hb1⟩
        · have hz2 : szF f.nm f.body z ≤ 1048576 := szF_bd _ _ hz0 hz1
          go_wp2_with fail
          refine (szFun_any f.nm f.wk ai ci f.body z _ hz0 hz1 hn h4 h5 (unhide H6)).mono ?_
          rintro e w1 ⟨rfl, hb1⟩
          go_wp2_with fail
          exact ⟨⟨k + 1, _, by omega, by go_num, rfl, by omega, hz2, by rw [unhide HS, unhide HD]; simp only [szFL]; rw [if_neg (by omega)], bl_trans hB hb1⟩, by simp [intOf]; omega⟩
      · have hke : fs.drop k = [] := List.drop_of_length_le (by omega)
        have HE := hide hke
        clear hke
        go_wp2_with fail
        go_ret
        exact ⟨ret_int (by unfold szFs; rw [if_neg (by omega), unhide HS, unhide HE]; rfl), hB⟩

theorem szFL_len {fs : List FunD} : ∀ {l : Int}, 0 ≤ l → l ≤ 1048576 → 0 ≤ szFL fs l → ∀ f ∈ fs, f.body.length ≤ 1048576 := by
  induction fs with
  | nil => intro l _ _ _ f hf; cases hf
  | cons g r ih =>
    intro l h0 h1 h f hf
    simp only [szFL] at h
    by_cases hn : szF g.nm g.body l < 0
    · rw [if_pos hn] at h; omega
    · rw [if_neg hn] at h
      rcases List.mem_cons.1 hf with rfl | hf
      · exact szF_len' (nm := f.nm) h1 (by omega)
      · exact ih (by omega) (szF_bd _ _ h0 h1) h f hf
theorem szFs_len {fs : List FunD} {l : Int} (h1 : l ≤ 1048576) (h : 0 ≤ szFs fs l) : fs.length ≤ 1048576 ∧ ∀ f ∈ fs, f.body.length ≤ 1048576 := by
  unfold szFs at h
  by_cases hn : l - fs.length < 0
  · rw [if_pos hn] at h; omega
  · rw [if_neg hn] at h
    exact ⟨by omega, szFL_len (by omega) (by omega) h⟩
theorem szFL_bd (fs : List FunD) : ∀ l : Int, 0 ≤ l → l ≤ 1048576 → szFL fs l ≤ 1048576 := by
  induction fs with
  | nil => intro l _ h1; exact h1
  | cons f r ih =>
    intro l h0 h1
    simp only [szFL]
    by_cases h : szF f.nm f.body l < 0
    · rw [if_pos h]; omega
    · rw [if_neg h]; exact ih _ (by omega) (szF_bd _ _ h0 h1)
theorem szFs_bd (fs : List FunD) {l : Int} (h0 : 0 ≤ l) (h1 : l ≤ 1048576) : szFs fs l ≤ 1048576 := by
  unfold szFs
  by_cases hn : l - fs.length < 0
  · rw [if_pos hn]; omega
  · rw [if_neg hn]; exact szFL_bd fs _ (by omega) (by omega)

/-- The first k functions lie in these cells, their instructions in blocks of their own. -/
def FilledF (w : World) (C : Array Value) (R : Nat) (Rs : Nat → Nat) (fs : List FunD) (k : Nat) : Prop :=
  C.size = fs.length * 3 ∧ ∀ i (h : i < fs.length), i < k → C[i * 3]? = some (.string fs[i].nm) ∧ C[i * 3 + 1]? = some (.bool fs[i].wk) ∧ C[i * 3 + 2]? = some (.slice (some ⟨Rs i, 0, none⟩) fs[i].body.length fs[i].body.length) ∧ R < Rs i ∧ OwnIns w (Rs i) fs[i].body fs[i].body.length
/-- A slice of functions of the program's own. -/
def OwnFuns (w : World) (R : Nat) (fs : List FunD) (k : Nat) : Prop := ∃ C Rs, w.heap[R]? = some (.cells C 51) ∧ FilledF w C R Rs fs k

theorem OwnFuns.row {w : World} {R : Nat} {fs : List FunD} (h : OwnFuns w R fs fs.length) (hs : ∀ f ∈ fs, f.nm.size ≤ maxLen ∧ f.body.length ≤ maxLen ∧ ∀ x ∈ f.body, x.s.size ≤ maxLen) : FunRow w (some ⟨R, 0, none⟩) fs := by
  obtain ⟨C, Rs, hC, hF⟩ := h
  refine .inr ⟨R, 0, rfl, fun i hi => ?_⟩
  obtain ⟨h0, h1, h2, h3, h4⟩ := hF.2 i hi hi
  obtain ⟨k1, k2, k3⟩ := hs _ (List.getElem_mem hi)
  simp only [Nat.zero_add]
  exact ⟨_, _, by rw [cell_of_block hC]; exact h0, by rw [cell_of_block hC]; exact h1, by rw [cell_of_block hC]; exact h2, k1, Nat.le_refl _, k2, h4.row k3⟩

theorem infoFun : (Tryz.prog.info? 51).map (fun i => (i.zero, i.size, i.bytes)) = some (some (.agg #[.string ⟨#[]⟩, .bool false, .slice none 0 0]), 3, 48) := by kernel_rfl
theorem makeFun (n : Nat) (hn : n ≤ 1048576) (w : World) : (Instr.makeSlice 31 (.int .i64 (n : Int)) (.int .i64 (n : Int))).run Tryz.prog w = .ok (.slice (some ⟨w.heap.size, 0, none⟩) n n) (w.alloc (.cells (madeCells #[.string ⟨#[]⟩, .bool false, .slice none 0 0] (n * 3)) 51)) := by
  obtain ⟨i, hi, h⟩ := Option.map_eq_some_iff.1 infoFun
  simp only [Prod.mk.injEq] at h
  obtain ⟨h1, h2, h3⟩ := h
  have := run_make (P := Tryz.prog) w 31 51 i _ Tryz.underlying31 hi h1 .i64 .i64 (n : Int) (n : Int) (by omega) (Int.le_refl _) (by rw [h3]; omega) (by omega)
  rw [h2] at this
  simpa [Value.cells] using this

theorem ownf_step {w : World} {R k Q : Nat} {C : Array Value} {Rs : Nat → Nat} {fs : List FunD} (hC : w.heap[R]? = some (.cells C 51)) (hF : FilledF w C R Rs fs k) (hk : k < fs.length) (hQ : R < Q) (hO : OwnIns w Q fs[k].body fs[k].body.length) :
    OwnFuns (((w.setCell ⟨R, k * 3, none⟩ (.string fs[k].nm)).setCell ⟨R, k * 3 + 1, none⟩ (.bool fs[k].wk)).setCell ⟨R, k * 3 + 2, none⟩ (.slice (some ⟨Q, 0, none⟩) fs[k].body.length fs[k].body.length)) R fs (k + 1) := by
  have keep : ∀ {P n : Nat} {xs : List InsD}, R < P → OwnIns w P xs n → OwnIns (((w.setCell ⟨R, k * 3, none⟩ (.string fs[k].nm)).setCell ⟨R, k * 3 + 1, none⟩ (.bool fs[k].wk)).setCell ⟨R, k * 3 + 2, none⟩ (.slice (some ⟨Q, 0, none⟩) fs[k].body.length fs[k].body.length)) P xs n :=
    fun hP h => own_set (own_set (own_set h (by omega) _) (by omega) _) (by omega) _
  refine ⟨_, fun i => if i = k then Q else Rs i, block_setCell (block_setCell (block_setCell hC _) _) _, ?_, ?_⟩
  · simp [hF.1]
  · intro i hi hlt
    have hs := hF.1
    by_cases hik : i = k
    · subst hik
      refine ⟨?_, ?_, ?_, ?_, ?_⟩
      · rw [Array.getElem?_setIfInBounds_ne (by omega), Array.getElem?_setIfInBounds_ne (by omega), Array.getElem?_setIfInBounds_self_of_lt (by omega)]
      · rw [Array.getElem?_setIfInBounds_ne (by omega), Array.getElem?_setIfInBounds_self_of_lt (by simp; omega)]
      · rw [Array.getElem?_setIfInBounds_self_of_lt (by simp; omega)]; simp
      · simpa using hQ
      · simpa using keep hQ hO
    · obtain ⟨h0, h1, h2, h3, h4⟩ := hF.2 i hi (by omega)
      refine ⟨?_, ?_, ?_, ?_, ?_⟩
      · rw [Array.getElem?_setIfInBounds_ne (by omega), Array.getElem?_setIfInBounds_ne (by omega), Array.getElem?_setIfInBounds_ne (by omega), h0]
      · rw [Array.getElem?_setIfInBounds_ne (by omega), Array.getElem?_setIfInBounds_ne (by omega), Array.getElem?_setIfInBounds_ne (by omega), h1]
      · rw [Array.getElem?_setIfInBounds_ne (by omega), Array.getElem?_setIfInBounds_ne (by omega), Array.getElem?_setIfInBounds_ne (by omega), h2]; simp [hik]
      · simpa [hik] using h3
      · simpa [hik] using keep h3 h4
theorem FilledF.below {w w' : World} {C : Array Value} {R k : Nat} {Rs : Nat → Nat} {fs : List FunD} (h : FilledF w C R Rs fs k) (hb : Below w.heap.size w w') : FilledF w' C R Rs fs k :=
  ⟨h.1, fun i hi hk => by obtain ⟨h0, h1, h2, h3, h4⟩ := h.2 i hi hk; exact ⟨h0, h1, h2, h3, h4.below hb⟩⟩
theorem OwnFuns.below {w w' : World} {R k : Nat} {fs : List FunD} (h : OwnFuns w R fs k) (hb : Below w.heap.size w w') : OwnFuns w' R fs k := by
  obtain ⟨C, Rs, hC, hF⟩ := h
  exact ⟨C, Rs, box_below hC hb, hF.below hb⟩

set_option maxHeartbeats 1000000 in
theorem toFunS_any (a : Option Addr) (cap : Nat) (fs : List FunD) (w : World) (hlen : fs.length ≤ 1048576) (hls : ∀ f ∈ fs, f.body.length ≤ 1048576) (hcap : fs.length ≤ cap) (hcm : cap ≤ maxLen) (hrow : FunRow w a fs) :
    Calls Tryz.prog 7 #[.slice a fs.length cap] w fun e w' => e = .returned (.slice (some ⟨w.heap.size, 0, none⟩) fs.length fs.length) ∧ OwnFuns w' w.heap.size fs fs.length ∧ Below w.heap.size w w' := by
  have HR := hide hrow
  have HL := hide hls
  clear hrow hls
  have hmk := makeFun fs.length hlen
  go_enter Tryz.func7, Tryz.ntmps7
  go_wp2_with fail
  go_loopw [4] (fun i w' => ∃ k : Nat, k ≤ fs.length ∧ i = .int .i64 k ∧ OwnFuns w' w.heap.size fs k ∧ Below w.heap.size w w') (fun i _ => fs.length - (intOf i).toNat)
  case atStart => exact ⟨0, Nat.zero_le _, rfl, ⟨_, fun _ => 0, new_block w _, by simp [size_madeCells], fun i h h0 => by omega⟩, below_alloc1 _ _⟩
  case round =>
    obtain ⟨k, hk, rfl, hO, hB⟩ := hrel
    obtain ⟨C, Rs, hC, hF⟩ := hO
    have HC := hide hC
    have HF := hide hF
    clear hC hF hmk
    by_cases hkl : k < fs.length
    · have hrow := (unhide HR).below hB
      obtain ⟨b, off, rfl⟩ := hrow.get (by omega)
      obtain ⟨ai, ci, c0, c1, c2, hn, h4, h5, h6⟩ := hrow.at hkl
      have H6 := hide h6
      have hlk := unhide HL fs[k] (List.getElem_mem _)
      clear hrow h6
      have hkl' : (k : Int) < (fs.length : Int) := by omega
      go_wp2_with fail
      refine (toFun_any fs[k].nm fs[k].wk ai ci fs[k].body _ hlk h4 h5 (unhide H6)).mono ?_
      rintro e w2 ⟨Q, hQ, rfl, hO2, hb2⟩
      have HC2 := hide (box_below (unhide HC) hb2)
      have HF2 := hide ((unhide HF).below hb2)
      have HO2 := hide hO2
      have hCs : C.size = fs.length * 3 := (unhide HF).1
      have hRQ : w.heap.size < Q := Nat.lt_of_lt_of_le (Array.getElem?_eq_some_iff.1 (unhide HC)).1 hQ
      obtain ⟨v0, e0⟩ : ∃ v, w2.cell? ⟨w.heap.size, k * 3, none⟩ = some v := ⟨C[k * 3]'(by omega), by rw [cell_of_block (unhide HC2)]; exact Array.getElem?_eq_getElem _⟩
      obtain ⟨v1, e1⟩ : ∃ v, w2.cell? ⟨w.heap.size, k * 3 + 1, none⟩ = some v := ⟨C[k * 3 + 1]'(by omega), by rw [cell_of_block (unhide HC2)]; exact Array.getElem?_eq_getElem _⟩
      obtain ⟨v2, e2⟩ : ∃ v, w2.cell? ⟨w.heap.size, k * 3 + 2, none⟩ = some v := ⟨C[k * 3 + 2]'(by omega), by rw [cell_of_block (unhide HC2)]; exact Array.getElem?_eq_getElem _⟩
      have g0 := unfrozen_of_block (unhide HC2) (k * 3)
      have g1 := unfrozen_of_block (unhide HC2) (k * 3 + 1)
      have g2 := unfrozen_of_block (unhide HC2) (k * 3 + 2)
      have hB2 := bl_trans hB hb2
      clear hb2 hB hCs hO2 c0 c1 c2
      go_wp2_with fail
      exact ⟨⟨k + 1, by omega, by go_num, ownf_step (unhide HC2) (unhide HF2) hkl hRQ (unhide HO2), ((hB2.setCell (Nat.le_refl _) _).setCell (Nat.le_refl _) _).setCell (Nat.le_refl _) _⟩, by simp [intOf]; omega⟩
    · have hke : k = fs.length := by omega
      subst hke
      go_wp2_with fail
      go_ret
      exact ⟨rfl, ⟨C, Rs, unhide HC, unhide HF⟩, hB⟩

set_option maxHeartbeats 1000000 in
theorem eqFunS_same (a a' : Option Addr) (cap cap' : Nat) (fs : List FunD) (w : World) (hcap : fs.length ≤ cap) (hcm : cap ≤ maxLen) (hR : FunRow w a fs) (hQ : FunRow w a' fs) :
    Calls Tryz.prog 11 #[.slice a fs.length cap, .slice a' fs.length cap'] w fun e w' => e = .returned (.bool true) ∧ Below w.heap.size w w' := by
  have HR := hide hR
  have HQ := hide hQ
  clear hR hQ
  unfold maxLen at hcm
  have hlen : (fs.length : Int) ≤ 9223372036854775807 := by omega
  go_enter Tryz.func11, Tryz.ntmps11
  go_wp2_with fail
  go_loopw [5] (fun i w' => ∃ k : Nat, k ≤ fs.length ∧ i = .int .i64 k ∧ Below w.heap.size w w') (fun i _ => fs.length - (intOf i).toNat)
  case atStart => exact ⟨0, Nat.zero_le _, rfl, Below.refl _ _⟩
  case round =>
    obtain ⟨k, hk, rfl, hB⟩ := hrel
    by_cases hkl : k < fs.length
    · obtain ⟨b, off, rfl⟩ := (unhide HR).get (by omega)
      obtain ⟨b', off', rfl⟩ := (unhide HQ).get (by omega)
      obtain ⟨ai, ci, c0, c1, c2, hn, h4, h5, h6⟩ := ((unhide HR).below hB).at hkl
      obtain ⟨ai', ci', d0, d1, d2, _, h4', h5', h6'⟩ := ((unhide HQ).below hB).at hkl
      have hkl' : (k : Int) < (fs.length : Int) := by omega
      have hk0 : (0 : Int) ≤ (k : Int) := by omega
      generalize fs[k] = f at *
      have hS0 := And.intro h6 (And.intro h6' (And.intro c0 (And.intro c1 (And.intro c2 (And.intro d0 (And.intro d1 (And.intro d2 hB)))))))
      have HST : Hid (Stable (fun w' => InsRow w' ai f.body ∧ InsRow w' ai' f.body ∧ w'.cell? ⟨b, off + k * 3, none⟩ = some (.string f.nm) ∧ w'.cell? ⟨b, off + k * 3 + 1, none⟩ = some (.bool f.wk) ∧ w'.cell? ⟨b, off + k * 3 + 2, none⟩ = some (.slice ai f.body.length ci) ∧ w'.cell? ⟨b', off' + k * 3, none⟩ = some (.string f.nm) ∧ w'.cell? ⟨b', off' + k * 3 + 1, none⟩ = some (.bool f.wk) ∧ w'.cell? ⟨b', off' + k * 3 + 2, none⟩ = some (.slice ai' f.body.length ci') ∧ Below w.heap.size w w')) :=
        (Stable.row _ _).and ((Stable.row _ _).and ((Stable.cell _ _).and ((Stable.cell _ _).and ((Stable.cell _ _).and ((Stable.cell _ _).and ((Stable.cell _ _).and ((Stable.cell _ _).and (Stable.below w))))))))
      clear c0 c1 c2 d0 d1 d2 hB h6 h6'
      go_wp2_with fail
      go_region_held3 (fun w' => InsRow w' ai f.body ∧ InsRow w' ai' f.body ∧ w'.cell? ⟨b, off + k * 3, none⟩ = some (.string f.nm) ∧ w'.cell? ⟨b, off + k * 3 + 1, none⟩ = some (.bool f.wk) ∧ w'.cell? ⟨b, off + k * 3 + 2, none⟩ = some (.slice ai f.body.length ci) ∧ w'.cell? ⟨b', off' + k * 3, none⟩ = some (.string f.nm) ∧ w'.cell? ⟨b', off' + k * 3 + 1, none⟩ = some (.bool f.wk) ∧ w'.cell? ⟨b', off' + k * 3 + 2, none⟩ = some (.slice ai' f.body.length ci') ∧ Below w.heap.size w w')
        (first | assumption | (refine (unhide HST).1 _ _ hbk ?_; assumption) | (refine (unhide HST).2 _ ?_; assumption))
        (first | (go_at_call 29; refine (eqFun_same f.nm f.wk ai ai' ci ci' f.body _ h4 h5 (by apply s0; assumption) (by apply s1; assumption)).mono ?_; rintro e wk1 ⟨rfl, hbk⟩))
      have hS1 : (fun w' => InsRow w' ai f.body ∧ InsRow w' ai' f.body ∧ w'.cell? ⟨b, off + k * 3, none⟩ = some (.string f.nm) ∧ w'.cell? ⟨b, off + k * 3 + 1, none⟩ = some (.bool f.wk) ∧ w'.cell? ⟨b, off + k * 3 + 2, none⟩ = some (.slice ai f.body.length ci) ∧ w'.cell? ⟨b', off' + k * 3, none⟩ = some (.string f.nm) ∧ w'.cell? ⟨b', off' + k * 3 + 1, none⟩ = some (.bool f.wk) ∧ w'.cell? ⟨b', off' + k * 3 + 2, none⟩ = some (.slice ai' f.body.length ci') ∧ Below w.heap.size w w') wk1 := by assumption
      have hB1 := hS1.2.2.2.2.2.2.2.2
      clear hS0 hS1
      go_wp2_with fail
      exact ⟨⟨k + 1, by omega, by go_num, hB1⟩, by simp [intOf]; omega⟩
    · go_wp2_with fail
      go_ret
      exact ⟨rfl, hB⟩
end Go.Proofs.YthbbmookhcalkaaGreat.Units
