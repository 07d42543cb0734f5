/- The contracts of the laws' helpers on slices of instructions and on functions. -/
import Derived.Test.YthbbmookhcalkaaGreatInsA
import Derived.Deep.RegionHeld3
namespace Go.Proofs.YthbbmookhcalkaaGreat.Funs
open Go.ChangeShapes Go.WideShapes Go.ChangeAt Go.RowKit Go.Joins
open Go.Proofs.YthbbmookhcalkaaGreat.Base Go.Proofs.YthbbmookhcalkaaGreat.InsA
set_option linter.unusedVariables false
set_option maxRecDepth 100000

/-- An instruction as plain data. -/
structure InsD where
  o : Int
  n : Int
  s : ByteArray

/-- These instructions lie in a row of memory. -/
def InsRow (w : World) (a : Option Addr) (l : List InsD) : Prop :=
  l = [] ∨ ∃ b off, a = some ⟨b, off, none⟩ ∧ ∀ i (h : i < l.length), w.cell? ⟨b, off + i * 3, none⟩ = some (.int .i64 l[i].o) ∧ w.cell? ⟨b, off + i * 3 + 1, none⟩ = some (.int .i64 l[i].n) ∧ w.cell? ⟨b, off + i * 3 + 2, none⟩ = some (.string l[i].s) ∧ l[i].s.size ≤ maxLen

theorem InsRow.below {w w' : World} {a : Option Addr} {l : List InsD} (h : InsRow w a l) (hb : Below w.heap.size w w') : InsRow w' a l := by
  rcases h with h | ⟨b, off, ha, h⟩
  · exact .inl h
  · refine .inr ⟨b, off, ha, fun i hi => ?_⟩
    obtain ⟨h0, h1, h2, h3⟩ := h i hi
    have t : ∀ o v, w.cell? ⟨b, o, none⟩ = some v → w'.cell? ⟨b, o, none⟩ = some v := fun o v hc => (hb.cell (p := ⟨b, o, none⟩) (World.block_lt_of_cell? w _ hc)).trans hc
    exact ⟨t _ _ h0, t _ _ h1, t _ _ h2, h3⟩

/-- What is left of a number when the sizes are taken off, -1 when it is not enough. -/
def szL : List InsD → Int → Int
  | [], l => l
  | x :: r, l => if szI l x.s.size < 0 then -1 else szL r (szI l x.s.size)
def szLs (xs : List InsD) (l : Int) : Int := if l - xs.length < 0 then -1 else szL xs (l - xs.length)

set_option maxHeartbeats 1000000 in
theorem szInsS_any (a : Option Addr) (cap : Nat) (xs : List InsD) (l : Int) (w : World) (hl0 : 0 ≤ l) (hl1 : l ≤ 1048576) (hcap : xs.length ≤ cap) (hcm : cap ≤ maxLen) (hrow : InsRow w a xs) :
    Calls Tryz.prog 36 #[.slice a xs.length cap, .int .i64 l] w fun e w' => e = .returned (.int .i64 (szLs xs l)) ∧ Below w.heap.size w w' := by
  have HR := hide hrow
  clear hrow
  unfold maxLen at hcm
  have hxl : (xs.length : Int) ≤ 9223372036854775807 := by omega
  by_cases hlt : l < xs.length
  · go_enter Tryz.func36, Tryz.ntmps36
    go_wp2
    go_ret
    exact ⟨ret_int (by unfold szLs; rw [if_pos (by omega)]), Below.refl _ _⟩
  · go_enter Tryz.func36, Tryz.ntmps36
    go_wp2_with fail
    go_loopw [1, 5] (fun lf i w' => ∃ (k : Nat) (z : Int), k ≤ xs.length ∧ i = .int .i64 k ∧ lf = .int .i64 z ∧ 0 ≤ z ∧ z ≤ 1048576 ∧ szL xs (l - xs.length) = szL (xs.drop k) z ∧ Below w.heap.size w w') (fun _ i _ => xs.length - (intOf i).toNat)
    case atStart => exact ⟨0, _, Nat.zero_le _, rfl, rfl, by omega, by omega, by simp, Below.refl _ _⟩
    case round =>
      obtain ⟨k, z, hk, rfl, rfl, hz0, hz1, hsz, hB⟩ := hrel
      have HS := hide hsz
      clear hsz
      by_cases hkl : k < xs.length
      · have hrow := (unhide HR).below hB
        rcases hrow with hnil | ⟨b, off, rfl, hcells⟩
        · rw [hnil] at hkl; simp at hkl
        · obtain ⟨c0, c1, c2, hsm⟩ := hcells k hkl
          clear hcells
          have hkl' : (k : Int) < (xs.length : Int) := by omega
          have hdr : xs.drop k = xs[k] :: xs.drop (k + 1) := List.drop_eq_getElem_cons hkl
          have HD := hide hdr
          clear hdr
          generalize xs[k] = x at *
          by_cases hneg : z < x.s.size
          · have hz : szI z x.s.size < 0 := by rw [← szI_neg hneg]; omega
            go_wp2_with (go_at_call 52; refine (szIns_any _ _ _ _ _ hz0 hz1 hsm).mono ?_; rintro e w1 ⟨rfl, hb1⟩)
            go_ret
            exact ⟨ret_int (by unfold szLs; rw [if_neg (by omega), unhide HS, unhide HD]; simp only [szL]; rw [if_pos hz]), bl_trans hB hb1⟩
          · have hz : 0 ≤ szI z x.s.size := by rw [← szI_pos hneg]; omega
            have hz2 : szI z x.s.size ≤ 1048576 := by rw [← szI_pos hneg]; omega
            go_wp2_with (go_at_call 52; refine (szIns_any _ _ _ _ _ hz0 hz1 hsm).mono ?_; rintro e w1 ⟨rfl, hb1⟩)
            exact ⟨⟨k + 1, _, by omega, by go_num, rfl, hz, hz2, by rw [unhide HS, unhide HD]; simp only [szL]; rw [if_neg (by omega)], bl_trans hB hb1⟩, by simp [intOf]; omega⟩
      · have hke : xs.drop k = [] := List.drop_of_length_le (by omega)
        have HE := hide hke
        clear hke
        go_wp2_with fail
        go_ret
        exact ⟨ret_int (by unfold szLs; rw [if_neg (by omega), unhide HS, unhide HE]; rfl), hB⟩

/-- The first k instructions lie in these cells. -/
def Filled (C : Array Value) (xs : List InsD) (k : Nat) : Prop :=
  C.size = xs.length * 3 ∧ ∀ i (h : i < xs.length), i < k → C[i * 3]? = some (.int .i64 xs[i].o) ∧ C[i * 3 + 1]? = some (.int .i64 xs[i].n) ∧ C[i * 3 + 2]? = some (.string xs[i].s)
/-- A slice of instructions of the program's own, in a block of its own. -/
def OwnIns (w : World) (R : Nat) (xs : List InsD) (k : Nat) : Prop := ∃ C, w.heap[R]? = some (.cells C 61) ∧ Filled C xs k

theorem infoIns : (Tryz.prog.info? 61).map (fun i => (i.zero, i.size, i.bytes)) = some (some (.agg #[.int .i64 0, .int .i64 0, .string ⟨#[]⟩]), 3, 32) := by kernel_rfl
theorem makeIns (n : Nat) (hn : n ≤ 1048576) (w : World) : (Instr.makeSlice 49 (.int .i64 (n : Int)) (.int .i64 (n : Int))).run Tryz.prog w = .ok (.slice (some ⟨w.heap.size, 0, none⟩) n n) (w.alloc (.cells (madeCells #[.int .i64 0, .int .i64 0, .string ⟨#[]⟩] (n * 3)) 61)) := by
  obtain ⟨i, hi, h⟩ := Option.map_eq_some_iff.1 infoIns
  simp only [Prod.mk.injEq] at h
  obtain ⟨h1, h2, h3⟩ := h
  have := run_make (P := Tryz.prog) w 49 61 i _ Tryz.underlying49 hi h1 .i64 .i64 (n : Int) (n : Int) (by omega) (Int.le_refl _) (by rw [h3]; omega) (by omega)
  rw [h2] at this
  simpa [Value.cells] using this

theorem own_step {w : World} {R k : Nat} {C : Array Value} {xs : List InsD} (hC : w.heap[R]? = some (.cells C 61)) (hF : Filled C xs k) (hk : k < xs.length) :
    OwnIns (((w.setCell ⟨R, k * 3, none⟩ (.int .i64 xs[k].o)).setCell ⟨R, k * 3 + 1, none⟩ (.int .i64 xs[k].n)).setCell ⟨R, k * 3 + 2, none⟩ (.string xs[k].s)) R xs (k + 1) := by
  refine ⟨_, block_setCell (block_setCell (block_setCell hC _) _) _, ?_, ?_⟩
  · simp [hF.1]
  · intro i hi hlt
    have hs := hF.1
    by_cases hik : i = k
    · subst hik
      refine ⟨?_, ?_, ?_⟩
      · rw [Array.getElem?_setIfInBounds_ne (by omega), Array.getElem?_setIfInBounds_ne (by omega), Array.getElem?_setIfInBounds_self_of_lt (by omega)]
      · rw [Array.getElem?_setIfInBounds_ne (by omega), Array.getElem?_setIfInBounds_self_of_lt (by simp; omega)]
      · rw [Array.getElem?_setIfInBounds_self_of_lt (by simp; omega)]
    · obtain ⟨h0, h1, h2⟩ := hF.2 i hi (by omega)
      refine ⟨?_, ?_, ?_⟩
      · rw [Array.getElem?_setIfInBounds_ne (by omega), Array.getElem?_setIfInBounds_ne (by omega), Array.getElem?_setIfInBounds_ne (by omega), h0]
      · rw [Array.getElem?_setIfInBounds_ne (by omega), Array.getElem?_setIfInBounds_ne (by omega), Array.getElem?_setIfInBounds_ne (by omega), h1]
      · rw [Array.getElem?_setIfInBounds_ne (by omega), Array.getElem?_setIfInBounds_ne (by omega), Array.getElem?_setIfInBounds_ne (by omega), h2]

set_option maxHeartbeats 1000000 in
theorem toInsS_any (a : Option Addr) (cap : Nat) (xs : List InsD) (w : World) (hlen : xs.length ≤ 1048576) (hcap : xs.length ≤ cap) (hcm : cap ≤ maxLen) (hrow : InsRow w a xs) :
    Calls Tryz.prog 42 #[.slice a xs.length cap] w fun e w' => e = .returned (.slice (some ⟨w.heap.size, 0, none⟩) xs.length xs.length) ∧ OwnIns w' w.heap.size xs xs.length ∧ Below w.heap.size w w' := by
  have HR := hide hrow
  clear hrow
  have hmk := makeIns xs.length hlen
  go_enter Tryz.func42, Tryz.ntmps42
  go_wp2_with fail
  go_loopw [4] (fun i w' => ∃ k : Nat, k ≤ xs.length ∧ i = .int .i64 k ∧ OwnIns w' w.heap.size xs k ∧ Below w.heap.size w w') (fun i _ => xs.length - (intOf i).toNat)
  case atStart => exact ⟨0, Nat.zero_le _, rfl, ⟨_, new_block w _, by simp [size_madeCells], fun i h h0 => by omega⟩, below_alloc1 _ _⟩
  case round =>
    obtain ⟨k, hk, rfl, hO, hB⟩ := hrel
    obtain ⟨C, hC, hF⟩ := hO
    have HC := hide hC
    have HF := hide hF
    clear hC hF hmk
    by_cases hkl : k < xs.length
    · have hrow := (unhide HR).below hB
      rcases hrow with hnil | ⟨b, off, rfl, hcells⟩
      · rw [hnil] at hkl; simp at hkl
      · obtain ⟨c0, c1, c2, hsm⟩ := hcells k hkl
        clear hcells
        have hkl' : (k : Int) < (xs.length : Int) := by omega
        go_wp2_with fail
        refine (toIns_any _ _ _ _).mono ?_
        rintro e w2 ⟨rfl, hb2⟩
        have HC2 := hide (box_below (unhide HC) hb2)
        have hCs : C.size = xs.length * 3 := (unhide HF).1
        obtain ⟨v0, e0⟩ : ∃ v, w2.cell? ⟨w.heap.size, k * 3, none⟩ = some v := ⟨C[k * 3]'(by omega), by rw [cell_of_block (unhide HC2)]; exact Array.getElem?_eq_getElem _⟩
        obtain ⟨v1, e1⟩ : ∃ v, w2.cell? ⟨w.heap.size, k * 3 + 1, none⟩ = some v := ⟨C[k * 3 + 1]'(by omega), by rw [cell_of_block (unhide HC2)]; exact Array.getElem?_eq_getElem _⟩
        obtain ⟨v2, e2⟩ : ∃ v, w2.cell? ⟨w.heap.size, k * 3 + 2, none⟩ = some v := ⟨C[k * 3 + 2]'(by omega), by rw [cell_of_block (unhide HC2)]; exact Array.getElem?_eq_getElem _⟩
        have g0 := unfrozen_of_block (unhide HC2) (k * 3)
        have g1 := unfrozen_of_block (unhide HC2) (k * 3 + 1)
        have g2 := unfrozen_of_block (unhide HC2) (k * 3 + 2)
        have hB2 := bl_trans hB hb2
        clear hb2 hB hCs
        go_wp2_with fail
        exact ⟨⟨k + 1, by omega, by go_num, own_step (unhide HC2) (unhide HF) hkl, ((hB2.setCell (Nat.le_refl _) _).setCell (Nat.le_refl _) _).setCell (Nat.le_refl _) _⟩, by simp [intOf]; omega⟩
    · have hke : k = xs.length := by omega
      subst hke
      go_wp2_with fail
      go_ret
      exact ⟨rfl, ⟨C, unhide HC, unhide HF⟩, hB⟩

theorem szL_bd (xs : List InsD) : ∀ l : Int, 0 ≤ l → l ≤ 1048576 → szL xs l ≤ 1048576 ∧ -1 ≤ szL xs l := by
  induction xs with
  | nil => intro l h0 h1; exact ⟨h1, by simp only [szL]; omega⟩
  | cons x r ih =>
    intro l h0 h1
    simp only [szL]
    by_cases h : szI l x.s.size < 0
    · rw [if_pos h]; omega
    · rw [if_neg h]
      refine ih _ (by omega) ?_
      unfold szI at *
      split <;> omega
theorem szLs_len {xs : List InsD} {l : Int} (h : 0 ≤ szLs xs l) (hl : l ≤ 1048576) : xs.length ≤ 1048576 := by
  unfold szLs at h
  by_cases hn : l - xs.length < 0
  · rw [if_pos hn] at h; omega
  · omega

theorem szL_neg (xs : List InsD) : ∀ l : Int, 0 ≤ l → szL xs l < 0 → szL xs l = -1 := by
  induction xs with
  | nil => intro l h0 h; simp only [szL] at h; omega
  | cons x r ih =>
    intro l h0 h
    simp only [szL] at h ⊢
    by_cases hn : szI l x.s.size < 0
    · rw [if_pos hn]
    · rw [if_neg hn] at h ⊢
      exact ih _ (by omega) h
theorem szLs_neg {xs : List InsD} {l : Int} (h : szLs xs l < 0) (h0 : 0 ≤ l) (h1 : l ≤ 1048576) : -1 = szLs xs l := by
  unfold szLs at h ⊢
  by_cases hn : l - xs.length < 0
  · rw [if_pos hn]
  · rw [if_neg hn] at h ⊢
    exact (szL_neg xs _ (by omega) h).symm

/-- What is left behind a function's size. -/
def szF (nm : ByteArray) (xs : List InsD) (l : Int) : Int := if szI l nm.size < 0 then -1 else szLs xs (szI l nm.size)

set_option maxHeartbeats 1000000 in
theorem szFun_any (nm : ByteArray) (wk : Bool) (a : Option Addr) (cap : Nat) (xs : List InsD) (l : Int) (w : World) (hl0 : 0 ≤ l) (hl1 : l ≤ 1048576) (hnm : nm.size ≤ maxLen) (hcap : xs.length ≤ cap) (hcm : cap ≤ maxLen) (hrow : InsRow w a xs) :
    Calls Tryz.prog 17 #[.agg #[.string nm, .bool wk, .slice a xs.length cap], .int .i64 l] w fun e w' => e = .returned (.int .i64 (szF nm xs l)) ∧ Below w.heap.size w w' := by
  have HR := hide hrow
  clear hrow
  have hnm2 := hnm
  unfold maxLen at hnm2
  by_cases hneg : l < nm.size
  · go_enter Tryz.func17, Tryz.ntmps17
    go_wp2_with fail
    go_ret
    exact ⟨ret_int (by unfold szF; rw [if_pos (by rw [← szI_neg hneg]; omega)]), below_alloc1 _ _⟩
  · have hb := szL_bd xs
    have e1 : szI l nm.size = l - nm.size := (szI_pos hneg).symm
    have HE := hide e1
    clear e1
    cases hd : decide (szLs xs (l - nm.size) < 0) with
    | true =>
      have hd' : szLs xs (l - nm.size) < 0 := by simpa using hd
      clear hd
      go_enter Tryz.func17, Tryz.ntmps17
      go_wp2_with (go_at_call 36; refine (szInsS_any _ _ _ _ _ (by omega) (by omega) hcap hcm ((unhide HR).below (below_alloc1 _ _))).mono ?_; rintro e w1 ⟨rfl, hb1⟩)
      go_ret
      exact ⟨ret_int (by unfold szF; rw [unhide HE, if_neg (by omega)]; exact szLs_neg hd' (by omega) (by omega)), bl_trans (below_alloc1 _ _) hb1⟩
    | false =>
      have hd' : 0 ≤ szLs xs (l - nm.size) := by simpa using hd
      clear hd
      go_enter Tryz.func17, Tryz.ntmps17
      go_wp2_with (go_at_call 36; refine (szInsS_any _ _ _ _ _ (by omega) (by omega) hcap hcm ((unhide HR).below (below_alloc1 _ _))).mono ?_; rintro e w1 ⟨rfl, hb1⟩)
      go_ret
      exact ⟨ret_int (by unfold szF; rw [unhide HE, if_neg (by omega)]), bl_trans (below_alloc1 _ _) hb1⟩

theorem szF_bd (nm : ByteArray) (xs : List InsD) {l : Int} (h0 : 0 ≤ l) (h1 : l ≤ 1048576) : szF nm xs l ≤ 1048576 := by
  unfold szF
  have hi : szI l nm.size ≤ 1048576 := by unfold szI; split <;> omega
  by_cases hn : szI l nm.size < 0
  · rw [if_pos hn]; omega
  · rw [if_neg hn]
    unfold szLs
    by_cases hm : szI l nm.size - xs.length < 0
    · rw [if_pos hm]; omega
    · rw [if_neg hm]; exact (szL_bd xs _ (by omega) (by omega)).1
theorem szF_len' {nm : ByteArray} {xs : List InsD} {l : Int} (h1 : l ≤ 1048576) (h : 0 ≤ szF nm xs l) : xs.length ≤ 1048576 := by
  unfold szF at h
  by_cases hn : szI l nm.size < 0
  · rw [if_pos hn] at h; omega
  · rw [if_neg hn] at h
    exact szLs_len h (by unfold szI; split <;> omega)
theorem szF_len {nm : ByteArray} {xs : List InsD} (h : 0 ≤ szF nm xs 1048576) : xs.length ≤ 1048576 := by
  unfold szF at h
  by_cases hn : szI 1048576 nm.size < 0
  · rw [if_pos hn] at h; omega
  · rw [if_neg hn] at h
    exact szLs_len h (by unfold szI; split <;> omega)

theorem own_set {w : World} {R k B o : Nat} {xs : List InsD} (h : OwnIns w R xs k) (hB : B ≠ R) (v : Value) : OwnIns (w.setCell ⟨B, o, none⟩ v) R xs k := by
  obtain ⟨C, hC, hF⟩ := h
  exact ⟨C, (Below.heap_setCell w ⟨B, o, none⟩ v R (Ne.symm hB)).trans hC, hF⟩

set_option maxHeartbeats 1000000 in
theorem toFun_any (nm : ByteArray) (wk : Bool) (a : Option Addr) (cap : Nat) (xs : List InsD) (w : World) (hlen : xs.length ≤ 1048576) (hcap : xs.length ≤ cap) (hcm : cap ≤ maxLen) (hrow : InsRow w a xs) :
    Calls Tryz.prog 22 #[.agg #[.string nm, .bool wk, .slice a xs.length cap]] w fun e w' => ∃ R : Nat, w.heap.size ≤ R ∧ e = .returned (.agg #[.string nm, .bool wk, .slice (some ⟨R, 0, none⟩) xs.length xs.length]) ∧ OwnIns w' R xs xs.length ∧ Below w.heap.size w w' := by
  have HR := hide hrow
  clear hrow
  go_enter Tryz.func22, Tryz.ntmps22
  go_wp2_with fail
  have hB0 := below_alloc3 w (.cells #[.string nm, .bool wk, .slice a xs.length cap] 45) (.cells #[.string ⟨#[]⟩, .bool false, .slice none 0 0] 51) (.cells #[.string nm, .bool wk, .slice none 0 0] 51)
  refine (toInsS_any a cap xs _ hlen hcap hcm ((unhide HR).below hB0)).mono ?_
  rintro e w1 ⟨rfl, hO, hb1⟩
  have n1 := new_block (w.alloc (.cells #[.string nm, .bool wk, .slice a xs.length cap] 45)) (.cells #[.string ⟨#[]⟩, .bool false, .slice none 0 0] 51)
  have n2 := new_block ((w.alloc (.cells #[.string nm, .bool wk, .slice a xs.length cap] 45)).alloc (.cells #[.string ⟨#[]⟩, .bool false, .slice none 0 0] 51)) (.cells #[.string nm, .bool wk, .slice none 0 0] 51)
  have HX := hide (box_below (box_below n1 (below_alloc1 _ (.cells #[.string nm, .bool wk, .slice none 0 0] 51))) hb1)
  have HY := hide (box_below n2 hb1)
  simp only [World.size_alloc] at HX HY hO
  have hB := bl_trans hB0 hb1
  have HO := hide hO
  clear hb1 hB0 n1 n2 hO
  obtain ⟨⟨c0, c1, c2⟩, f0, f1, f2⟩ := box3 (unhide HX)
  obtain ⟨⟨d0, d1, d2⟩, g0, g1, g2⟩ := box3 (unhide HY)
  go_wp2_with fail
  exact bodyPost_ret (v := .agg #[.string nm, .bool wk, .slice (some ⟨w.heap.size + 1 + 1 + 1, 0, none⟩) xs.length xs.length]) (by simp [results, Tryz.results22, go_sem, c0, c1, c2]) rfl ⟨_, by omega, rfl, own_set (own_set (own_set (own_set (unhide HO) (by omega) _) (by omega) _) (by omega) _) (by omega) _, (((hB.setCell (show w.heap.size ≤ w.heap.size + 1 + 1 by omega) _).setCell (show w.heap.size ≤ w.heap.size + 1 by omega) _).setCell (show w.heap.size ≤ w.heap.size + 1 by omega) _).setCell (show w.heap.size ≤ w.heap.size + 1 by omega) _⟩

theorem OwnIns.below {w w' : World} {R k : Nat} {xs : List InsD} (h : OwnIns w R xs k) (hb : Below w.heap.size w w') : OwnIns w' R xs k := by
  obtain ⟨C, hC, hF⟩ := h
  exact ⟨C, box_below hC hb, hF⟩
/-- A slice of its own, read: its cells. -/
theorem OwnIns.cells {w : World} {R k : Nat} {xs : List InsD} (h : OwnIns w R xs xs.length) (hk : k < xs.length) :
    w.cell? ⟨R, k * 3, none⟩ = some (.int .i64 xs[k].o) ∧ w.cell? ⟨R, k * 3 + 1, none⟩ = some (.int .i64 xs[k].n) ∧ w.cell? ⟨R, k * 3 + 2, none⟩ = some (.string xs[k].s) := by
  obtain ⟨C, hC, hF⟩ := h
  obtain ⟨h0, h1, h2⟩ := hF.2 k hk hk
  exact ⟨by rw [cell_of_block hC]; exact h0, by rw [cell_of_block hC]; exact h1, by rw [cell_of_block hC]; exact h2⟩

theorem InsRow.get {w : World} {a : Option Addr} {xs : List InsD} (h : InsRow w a xs) (h0 : 0 < xs.length) : ∃ b off, a = some ⟨b, off, none⟩ := by
  rcases h with h | ⟨b, off, ha, _⟩
  · rw [h] at h0; simp at h0
  · exact ⟨b, off, ha⟩
theorem InsRow.cells {w : World} {b off k : Nat} {xs : List InsD} (h : InsRow w (some ⟨b, off, none⟩) xs) (hk : k < xs.length) :
    w.cell? ⟨b, off + k * 3, none⟩ = some (.int .i64 xs[k].o) ∧ w.cell? ⟨b, off + k * 3 + 1, none⟩ = some (.int .i64 xs[k].n) ∧ w.cell? ⟨b, off + k * 3 + 2, none⟩ = some (.string xs[k].s) ∧ xs[k].s.size ≤ maxLen := by
  rcases h with h | ⟨b', off', ha, h⟩
  · subst h; simp at hk
  · simp only [Option.some.injEq, Addr.mk.injEq, and_true] at ha
    obtain ⟨rfl, rfl⟩ := ha
    exact h k hk
theorem OwnIns.row {w : World} {R : Nat} {xs : List InsD} (h : OwnIns w R xs xs.length) (hs : ∀ x ∈ xs, x.s.size ≤ maxLen) : InsRow w (some ⟨R, 0, none⟩) xs := by
  refine .inr ⟨R, 0, rfl, fun i hi => ?_⟩
  obtain ⟨c0, c1, c2⟩ := h.cells hi
  simp only [Nat.zero_add]
  exact ⟨c0, c1, c2, hs _ (List.getElem_mem _)⟩
theorem InsRow.sizes {w : World} {a : Option Addr} {xs : List InsD} (h : InsRow w a xs) : ∀ x ∈ xs, x.s.size ≤ maxLen := by
  intro x hx
  obtain ⟨i, hi, rfl⟩ := List.getElem_of_mem hx
  rcases h with h | ⟨b, off, ha, h⟩
  · subst h; simp at hi
  · exact (h i hi).2.2.2

set_option maxHeartbeats 400000 in
theorem eqIns_same (o n : Int) (t : ByteArray) (w : World) :
    Calls Tryz.prog 63 #[.agg #[.int .i64 o, .int .i64 n, .string t], .agg #[.int .i64 o, .int .i64 n, .string t]] w fun e w' => e = .returned (.bool true) ∧ Below w.heap.size w w' := by
  go_enter Tryz.func63, Tryz.ntmps63
  go_wp2
  go_ret
  exact ⟨rfl, below_alloc2 _ _ _⟩

theorem keep6 {W w w' : World} {p0 p1 p2 q0 q1 q2 : Addr} {v0 v1 v2 u0 u1 u2 : Value} (h : (w.cell? p0 = some v0 ∧ w.cell? p1 = some v1 ∧ w.cell? p2 = some v2) ∧ (w.cell? q0 = some u0 ∧ w.cell? q1 = some u1 ∧ w.cell? q2 = some u2) ∧ Below W.heap.size W w) (hb : Below w.heap.size w w') :
    (w'.cell? p0 = some v0 ∧ w'.cell? p1 = some v1 ∧ w'.cell? p2 = some v2) ∧ (w'.cell? q0 = some u0 ∧ w'.cell? q1 = some u1 ∧ w'.cell? q2 = some u2) ∧ Below W.heap.size W w' := by
  obtain ⟨⟨a0, a1, a2⟩, ⟨b0, b1, b2⟩, hW⟩ := h
  have t : ∀ p v, w.cell? p = some v → w'.cell? p = some v := fun p v hc => (hb.cell (p := p) (World.block_lt_of_cell? w _ hc)).trans hc
  exact ⟨⟨t _ _ a0, t _ _ a1, t _ _ a2⟩, ⟨t _ _ b0, t _ _ b1, t _ _ b2⟩, bl_trans hW hb⟩
theorem keep6_drew {W w : World} {p0 p1 p2 q0 q1 q2 : Addr} {v0 v1 v2 u0 u1 u2 : Value} (h : (w.cell? p0 = some v0 ∧ w.cell? p1 = some v1 ∧ w.cell? p2 = some v2) ∧ (w.cell? q0 = some u0 ∧ w.cell? q1 = some u1 ∧ w.cell? q2 = some u2) ∧ Below W.heap.size W w) :
    (w.drew.cell? p0 = some v0 ∧ w.drew.cell? p1 = some v1 ∧ w.drew.cell? p2 = some v2) ∧ (w.drew.cell? q0 = some u0 ∧ w.drew.cell? q1 = some u1 ∧ w.drew.cell? q2 = some u2) ∧ Below W.heap.size W w.drew :=
  ⟨h.1, h.2.1, h.2.2.drew⟩

set_option maxHeartbeats 1000000 in
theorem eqInsS_same (a a' : Option Addr) (cap cap' : Nat) (xs : List InsD) (w : World) (hcap : xs.length ≤ cap) (hcm : cap ≤ maxLen) (hR : InsRow w a xs) (hQ : InsRow w a' xs) :
    Calls Tryz.prog 49 #[.slice a xs.length cap, .slice a' xs.length cap'] w fun e w' => e = .returned (.bool true) ∧ Below w.heap.size w w' := by
  have HR := hide hR
  have HQ := hide hQ
  clear hR hQ
  unfold maxLen at hcm
  have hlen : (xs.length : Int) ≤ 9223372036854775807 := by omega
  go_enter Tryz.func49, Tryz.ntmps49
  go_wp2_with fail
  go_loopw [5] (fun i w' => ∃ k : Nat, k ≤ xs.length ∧ i = .int .i64 k ∧ Below w.heap.size w w') (fun i _ => xs.length - (intOf i).toNat)
  case atStart => exact ⟨0, Nat.zero_le _, rfl, Below.refl _ _⟩
  case round =>
    obtain ⟨k, hk, rfl, hB⟩ := hrel
    by_cases hkl : k < xs.length
    · obtain ⟨b, off, rfl⟩ := (unhide HR).get (by omega)
      obtain ⟨b', off', rfl⟩ := (unhide HQ).get (by omega)
      obtain ⟨c0, c1, c2, _⟩ := ((unhide HR).below hB).cells hkl
      obtain ⟨d0, d1, d2, _⟩ := ((unhide HQ).below hB).cells hkl
      have hkl' : (k : Int) < (xs.length : Int) := by omega
      have hk0 : (0 : Int) ≤ (k : Int) := by omega
      have hS0 := And.intro (And.intro c0 (And.intro c1 c2)) (And.intro (And.intro d0 (And.intro d1 d2)) hB)
      generalize xs[k] = x at *
      clear c0 c1 c2 d0 d1 d2 hB
      go_wp2_with fail
      go_region_held3 (fun w' => (w'.cell? ⟨b, off + k * 3, none⟩ = some (.int .i64 x.o) ∧ w'.cell? ⟨b, off + k * 3 + 1, none⟩ = some (.int .i64 x.n) ∧ w'.cell? ⟨b, off + k * 3 + 2, none⟩ = some (.string x.s)) ∧ (w'.cell? ⟨b', off' + k * 3, none⟩ = some (.int .i64 x.o) ∧ w'.cell? ⟨b', off' + k * 3 + 1, none⟩ = some (.int .i64 x.n) ∧ w'.cell? ⟨b', off' + k * 3 + 2, none⟩ = some (.string x.s)) ∧ Below w.heap.size w w') (first | assumption | (refine keep6 ?_ hbk; assumption) | (refine keep6_drew ?_; assumption)) (first | (go_at_call 63; refine (eqIns_same _ _ _ _).mono ?_; rintro e wk ⟨rfl, hbk⟩))
      have hS1 : (fun w' => (w'.cell? ⟨b, off + k * 3, none⟩ = some (.int .i64 x.o) ∧ w'.cell? ⟨b, off + k * 3 + 1, none⟩ = some (.int .i64 x.n) ∧ w'.cell? ⟨b, off + k * 3 + 2, none⟩ = some (.string x.s)) ∧ (w'.cell? ⟨b', off' + k * 3, none⟩ = some (.int .i64 x.o) ∧ w'.cell? ⟨b', off' + k * 3 + 1, none⟩ = some (.int .i64 x.n) ∧ w'.cell? ⟨b', off' + k * 3 + 2, none⟩ = some (.string x.s)) ∧ Below w.heap.size w w') wk := by assumption
      have hB1 := hS1.2.2
      go_wp2_with fail
      exact ⟨⟨k + 1, by omega, by go_num, hB1⟩, by simp [intOf]; omega⟩
    · go_wp2_with fail
      go_ret
      exact ⟨rfl, hB⟩

set_option maxHeartbeats 1000000 in
theorem eqFun_same (nm : ByteArray) (wk : Bool) (a a' : Option Addr) (cap cap' : Nat) (xs : List InsD) (w : World) (hcap : xs.length ≤ cap) (hcm : cap ≤ maxLen) (hR : InsRow w a xs) (hQ : InsRow w a' xs) :
    Calls Tryz.prog 29 #[.agg #[.string nm, .bool wk, .slice a xs.length cap], .agg #[.string nm, .bool wk, .slice a' xs.length cap']] w fun e w' => e = .returned (.bool true) ∧ Below w.heap.size w w' := by
  have HR := hide hR
  have HQ := hide hQ
  clear hR hQ
  go_enter Tryz.func29, Tryz.ntmps29
  go_wp2_with (go_at_call 49; refine (eqInsS_same a a' _ _ xs _ hcap hcm (by exact (unhide HR).below (below_alloc2 _ _ _)) (by exact (unhide HQ).below (below_alloc2 _ _ _))).mono ?_; rintro e w1 ⟨rfl, hb1⟩)
  go_ret
  exact ⟨rfl, bl_trans (below_alloc2 _ _ _) hb1⟩
end Go.Proofs.YthbbmookhcalkaaGreat.Funs
