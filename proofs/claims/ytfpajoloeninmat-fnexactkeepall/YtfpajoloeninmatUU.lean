/- Rows of units: reading them as an argument, and the contracts of the laws' helpers on them. -/
import Derived.Test.YtfpajoloeninmatUnits
import Derived.Deep.RegionHeld3
namespace Go.Proofs.Ytfpajoloeninmat.UU
open Go.ChangeShapes Go.WideShapes Go.ChangeAt Go.RowKit Go.Joins Go.Deep
open Go.Proofs.Ytfpajoloeninmat.Base Go.Proofs.Ytfpajoloeninmat.InsA Go.Proofs.Ytfpajoloeninmat.Funs Go.Proofs.Ytfpajoloeninmat.Open Go.Proofs.Ytfpajoloeninmat.Keep Go.Proofs.Ytfpajoloeninmat.Units
set_option linter.unusedVariables false
set_option maxRecDepth 100000

/-- The cell of a unit, and the row of its functions. -/
def UnitAt (w : World) (b o : Nat) (fs : List FunD) : Prop :=
  ∃ ai ci, w.cell? ⟨b, o, none⟩ = some (.slice ai fs.length ci) ∧ fs.length ≤ ci ∧ ci ≤ maxLen ∧ FunRow w ai fs
/-- These units lie in a row of memory. -/
def UnitRow (w : World) (a : Option Addr) (us : List (List FunD)) : Prop :=
  us = [] ∨ ∃ b off, a = some ⟨b, off, none⟩ ∧ ∀ i (h : i < us.length), UnitAt w b (off + i) us[i]

theorem UnitAt.below {w w' : World} {b o : Nat} {fs : List FunD} (h : UnitAt w b o fs) (hb : Below w.heap.size w w') : UnitAt w' b o fs := by
  obtain ⟨ai, ci, h0, h1, h2, h3⟩ := h
  exact ⟨ai, ci, (hb.cell (p := ⟨b, o, none⟩) (World.block_lt_of_cell? w _ h0)).trans h0, h1, h2, h3.below hb⟩
theorem UnitRow.below {w w' : World} {a : Option Addr} {us : List (List FunD)} (h : UnitRow w a us) (hb : Below w.heap.size w w') : UnitRow w' a us := by
  rcases h with h | ⟨b, off, ha, h⟩
  · exact .inl h
  · exact .inr ⟨b, off, ha, fun i hi => (h i hi).below hb⟩
theorem UnitRow.get {w : World} {a : Option Addr} {us : List (List FunD)} (h : UnitRow w a us) (h0 : 0 < us.length) : ∃ b off, a = some ⟨b, off, none⟩ := by
  rcases h with h | ⟨b, off, ha, _⟩
  · rw [h] at h0; simp at h0
  · exact ⟨b, off, ha⟩
theorem UnitRow.at {w : World} {b off k : Nat} {us : List (List FunD)} (h : UnitRow w (some ⟨b, off, none⟩) us) (hk : k < us.length) : UnitAt w b (off + k) us[k] := by
  rcases h with h | ⟨b', off', ha, h⟩
  · subst h; simp at hk
  · simp only [Option.some.injEq, Addr.mk.injEq, and_true] at ha
    obtain ⟨rfl, rfl⟩ := ha
    exact h k hk
/-- The sizes of all that is in functions. -/
def Fits (fs : List FunD) : Prop := fs.length ≤ maxLen ∧ ∀ f ∈ fs, f.nm.size ≤ maxLen ∧ f.body.length ≤ maxLen ∧ ∀ x ∈ f.body, x.s.size ≤ maxLen
theorem UnitRow.sizes {w : World} {a : Option Addr} {us : List (List FunD)} (h : UnitRow w a us) : ∀ u ∈ us, Fits u := by
  intro u hu
  obtain ⟨i, hi, rfl⟩ := List.getElem_of_mem hu
  rcases h with h | ⟨b, off, ha, h⟩
  · subst h; simp at hi
  · obtain ⟨ai, ci, _, h4, h5, h6⟩ := h i hi
    exact ⟨by omega, h6.sizes⟩
theorem Stable.urow (a : Option Addr) (us : List (List FunD)) : Stable (fun w => UnitRow w a us) := ⟨fun w w' hb hs => hs.below hb, fun w hs => hs⟩

theorem cellsUnit : Try.prog.cellsOf 34 = 1 := by kernel_rfl
theorem one {W : World} {base : Nat} {a : Addr} {i : Nat} {cs : List Value} (h : W.cells? base (a.add (i * 1)) 1 = some cs) :
    ∃ v0, cs = [v0] ∧ W.cell? (a.add (i * 1)) = some v0 := by
  obtain ⟨_, hlen, hcell⟩ := World.cells?_some h
  match cs, hlen with
  | [v0], _ =>
    have e0 := hcell 0 (by omega)
    rw [add_add] at e0
    exact ⟨v0, rfl, by simpa using e0⟩
theorem unitRow_of {H : Type} {enc : TypeId × Value → H} {W : World} {base : Nat} {spare : Nat → Bool} {held : Bool} {n : Nat} {v : Value} {y : DataW H × List MemPlace} (h : DataW.trod enc Try.prog W base spare held n 22 [v] = some y) :
    ∃ (a : Option Addr) (cap : Nat) (us : List (List FunD)), v = .slice a us.length cap ∧ us.length ≤ cap ∧ cap ≤ maxLen ∧ UnitRow W a us := by
  rcases open_slice Try.underlying22 h with ⟨hcs, _⟩ | ⟨a, len, cap, m, n', D, Pl, hcs, hb, hl, hm, hmm, hy, hx⟩
  · exact ⟨none, 0, [], by simpa using hcs, Nat.le_refl _, Nat.zero_le _, .inl rfl⟩
  · have hlm : len ≤ m := by rw [hmm]; split <;> omega
    rw [cellsUnit] at hx
    have each : ∀ i, i < len → ∃ fs : List FunD, ∃ ai ci, W.cell? (a.add (i * 1)) = some (.slice ai fs.length ci) ∧ fs.length ≤ ci ∧ ci ≤ maxLen ∧ FunRow W ai fs := fun i hi => by
      obtain ⟨cs', h1, h2⟩ := hx i (by omega)
      obtain ⟨v0, rfl, c0⟩ := one h1
      obtain ⟨ai, ci, fs, rfl, hl, hm, hr⟩ := funRow_of h2
      exact ⟨fs, ai, ci, c0, hl, hm, hr⟩
    obtain ⟨f, hf⟩ := choose_lt each
    refine ⟨some a, cap, (List.range len).map f, by simpa using hcs, by simpa using hl, hm, ?_⟩
    by_cases h0 : len = 0
    · subst h0; exact .inl rfl
    · obtain ⟨_, _, c00, _⟩ := hf 0 (by omega)
      have ha := addr_of (by simpa using c00)
      refine .inr ⟨a.block, a.off, by rw [← ha], fun i hi => ?_⟩
      have hi' : i < len := by simpa using hi
      obtain ⟨ai, ci, c0, hs⟩ := hf i hi'
      rw [ha, add_plain, Nat.mul_one] at c0
      simp only [List.getElem_map, List.getElem_range]
      exact ⟨ai, ci, c0, hs⟩
/-- Units that came in. -/
theorem units_of {H : Type} {enc : TypeId × Value → H} {W : World} {base b0 : Nat} {spare : Nat → Bool} {held : Bool} {v : Value} {r : Reach} {d : DataW H} {p : List MemPlace} (hv : Value.okWide Try.prog W r b0 22 v) (h : DataW.Trod enc Try.prog W base spare held 22 v d p) :
    ∃ (a : Option Addr) (cap : Nat) (us : List (List FunD)), v = .slice a us.length cap ∧ us.length ≤ cap ∧ cap ≤ maxLen ∧ UnitRow W a us := by
  obtain ⟨a, len, cap, rfl⟩ := okWide_slice Try.underlying22 hv
  obtain ⟨fuel, hf⟩ := h
  exact unitRow_of hf

def szUL : List (List FunD) → Int → Int
  | [], l => l
  | u :: r, l => if szFs u l < 0 then -1 else szUL r (szFs u l)
def szUs (us : List (List FunD)) (l : Int) : Int := if l - us.length < 0 then -1 else szUL us (l - us.length)

set_option maxHeartbeats 1000000 in
theorem szFunSS_any (a : Option Addr) (cap : Nat) (us : List (List FunD)) (l : Int) (w : World) (hl0 : 0 ≤ l) (hl1 : l ≤ 1048576) (hcap : us.length ≤ cap) (hcm : cap ≤ maxLen) (hrow : UnitRow w a us) :
    Calls Try.prog 8 #[.slice a us.length cap, .int .i64 l] w fun e w' => e = .returned (.int .i64 (szUs us l)) ∧ Below w.heap.size w w' := by
  have HR := hide hrow
  clear hrow
  unfold maxLen at hcm
  have hxl : (us.length : Int) ≤ 9223372036854775807 := by omega
  by_cases hlt : l < us.length
  · go_enter Try.func8, Try.ntmps8
    go_wp2
    go_ret
    exact ⟨ret_int (by unfold szUs; rw [if_pos (by omega)]), Below.refl _ _⟩
  · go_enter Try.func8, Try.ntmps8
    go_wp2_with fail
    go_loopw [1, 5] (fun lf i w' => ∃ (k : Nat) (z : Int), k ≤ us.length ∧ i = .int .i64 k ∧ lf = .int .i64 z ∧ 0 ≤ z ∧ z ≤ 1048576 ∧ szUL us (l - us.length) = szUL (us.drop k) z ∧ Below w.heap.size w w') (fun _ i _ => us.length - (intOf i).toNat)
    case atStart => exact ⟨0, _, Nat.zero_le _, rfl, rfl, by omega, by omega, by simp, Below.refl _ _⟩
    case round =>
      obtain ⟨k, z, hk, rfl, rfl, hz0, hz1, hsz, hB⟩ := hrel
      have HS := hide hsz
      clear hsz
      by_cases hkl : k < us.length
      · have hrow := (unhide HR).below hB
        obtain ⟨b, off, rfl⟩ := hrow.get (by omega)
        obtain ⟨ai, ci, c0, h4, h5, h6⟩ := hrow.at hkl
        have H6 := hide h6
        clear hrow h6
        have hkl' : (k : Int) < (us.length : Int) := by omega
        have hdr : us.drop k = us[k] :: us.drop (k + 1) := List.drop_eq_getElem_cons hkl
        have HD := hide hdr
        clear hdr
        generalize us[k] = f at *
        by_cases hneg : szFs f z < 0
        · go_wp2_with fail
          refine (szFunS_any ai ci f z _ hz0 hz1 h4 h5 (unhide H6)).mono ?_
          rintro e w1 ⟨rfl, hb1⟩
          go_wp2_with fail
          go_ret
          exact ⟨ret_int (by unfold szUs; rw [if_neg (by omega), unhide HS, unhide HD]; simp only [szUL]; rw [if_pos hneg]), bl_trans hB hb1⟩
        · have hz2 : szFs f z ≤ 1048576 := szFs_bd _ hz0 hz1
          go_wp2_with fail
          refine (szFunS_any ai ci f z _ hz0 hz1 h4 h5 (unhide H6)).mono ?_
          rintro e w1 ⟨rfl, hb1⟩
          go_wp2_with fail
          exact ⟨⟨k + 1, _, by omega, by go_num, rfl, by omega, hz2, by rw [unhide HS, unhide HD]; simp only [szUL]; rw [if_neg (by omega)], bl_trans hB hb1⟩, by simp [intOf]; omega⟩
      · have hke : us.drop k = [] := List.drop_of_length_le (by omega)
        have HE := hide hke
        clear hke
        go_wp2_with fail
        go_ret
        exact ⟨ret_int (by unfold szUs; rw [if_neg (by omega), unhide HS, unhide HE]; rfl), hB⟩

/-- Few enough for the helpers. -/
def FewF (fs : List FunD) : Prop := fs.length ≤ 1048576 ∧ ∀ f ∈ fs, f.body.length ≤ 1048576
def Few (us : List (List FunD)) : Prop := us.length ≤ 1048576 ∧ ∀ u ∈ us, FewF u
theorem szUL_len {us : List (List FunD)} : ∀ {l : Int}, 0 ≤ l → l ≤ 1048576 → 0 ≤ szUL us l → ∀ u ∈ us, FewF u := by
  induction us with
  | nil => intro l _ _ _ f hf; cases hf
  | cons g r ih =>
    intro l h0 h1 h f hf
    simp only [szUL] at h
    by_cases hn : szFs g l < 0
    · rw [if_pos hn] at h; omega
    · rw [if_neg hn] at h
      rcases List.mem_cons.1 hf with rfl | hf
      · exact szFs_len h1 (by omega)
      · exact ih (by omega) (szFs_bd _ h0 h1) h f hf
theorem szUs_len {us : List (List FunD)} {l : Int} (h1 : l ≤ 1048576) (h : 0 ≤ szUs us l) : Few us := by
  unfold szUs at h
  by_cases hn : l - us.length < 0
  · rw [if_pos hn] at h; omega
  · rw [if_neg hn] at h
    exact ⟨by omega, szUL_len (by omega) (by omega) h⟩
theorem szUL_bd (us : List (List FunD)) : ∀ l : Int, 0 ≤ l → l ≤ 1048576 → szUL us l ≤ 1048576 := by
  induction us with
  | nil => intro l _ h1; exact h1
  | cons f r ih =>
    intro l h0 h1
    simp only [szUL]
    by_cases h : szFs f l < 0
    · rw [if_pos h]; omega
    · rw [if_neg h]; exact ih _ (by omega) (szFs_bd _ h0 h1)
theorem szUs_bd (us : List (List FunD)) {l : Int} (h0 : 0 ≤ l) (h1 : l ≤ 1048576) : szUs us l ≤ 1048576 := by
  unfold szUs
  by_cases hn : l - us.length < 0
  · rw [if_pos hn]; omega
  · rw [if_neg hn]; exact szUL_bd us _ (by omega) (by omega)

/-- A slice of functions of the program's own, its blocks from R up to E. -/
def OwnFE (w : World) (R E : Nat) (fs : List FunD) : Prop := ∃ C Rs, w.heap[R]? = some (.cells C 52) ∧ FilledF w C R Rs fs fs.length ∧ R < E ∧ ∀ i, i < fs.length → Rs i < E
theorem OwnFE.funs {w : World} {R E : Nat} {fs : List FunD} (h : OwnFE w R E fs) : OwnFuns w R fs fs.length := by
  obtain ⟨C, Rs, hC, hF, _⟩ := h
  exact ⟨C, Rs, hC, hF⟩
theorem OwnFE.of {w : World} {R : Nat} {fs : List FunD} (h : OwnFuns w R fs fs.length) : OwnFE w R w.heap.size fs := by
  obtain ⟨C, Rs, hC, hF⟩ := h
  refine ⟨C, Rs, hC, hF, (Array.getElem?_eq_some_iff.1 hC).1, fun i hi => ?_⟩
  obtain ⟨_, _, _, _, D, hD, _⟩ := hF.2 i hi hi
  exact (Array.getElem?_eq_some_iff.1 hD).1
theorem filledF_below {w w' : World} {C : Array Value} {R k : Nat} {Rs : Nat → Nat} {fs : List FunD} (h : FilledF w C R Rs fs k) (hb : Below w.heap.size w w') : FilledF w' C R Rs fs k :=
  ⟨h.1, fun i hi hk => by obtain ⟨h0, h1, h2, h3, h4⟩ := h.2 i hi hk; exact ⟨h0, h1, h2, h3, h4.below hb⟩⟩
theorem OwnFE.below {w w' : World} {R E : Nat} {fs : List FunD} (h : OwnFE w R E fs) (hb : Below w.heap.size w w') : OwnFE w' R E fs := by
  obtain ⟨C, Rs, hC, hF, hr⟩ := h
  exact ⟨C, Rs, box_below hC hb, filledF_below hF hb, hr⟩
theorem OwnFE.set {w : World} {R E B o : Nat} {fs : List FunD} (h : OwnFE w R E fs) (hB : B < R) (v : Value) : OwnFE (w.setCell ⟨B, o, none⟩ v) R E fs := by
  obtain ⟨C, Rs, hC, hF, hr⟩ := h
  refine ⟨C, Rs, (Below.heap_setCell w ⟨B, o, none⟩ v R (by show R ≠ B; omega)).trans hC, ⟨hF.1, fun i hi hk => ?_⟩, hr⟩
  obtain ⟨h0, h1, h2, h3, h4⟩ := hF.2 i hi hk
  exact ⟨h0, h1, h2, h3, own_set h4 (by omega) v⟩
/-- The first k units lie in these cells, each in blocks of its own, one behind the other. -/
def FilledU (w : World) (C : Array Value) (R : Nat) (Rs Es : Nat → Nat) (us : List (List FunD)) (k : Nat) : Prop :=
  C.size = us.length ∧ (∀ i (h : i < us.length), i < k → C[i]? = some (.slice (some ⟨Rs i, 0, none⟩) us[i].length us[i].length) ∧ R < Rs i ∧ Es i ≤ w.heap.size ∧ OwnFE w (Rs i) (Es i) us[i]) ∧ ∀ i j, i < j → j < k → Es i ≤ Rs j
/-- A slice of units of the program's own. -/
def OwnUnits (w : World) (R : Nat) (us : List (List FunD)) (k : Nat) : Prop := ∃ C Rs Es, w.heap[R]? = some (.cells C 37) ∧ FilledU w C R Rs Es us k
theorem OwnUnits.row {w : World} {R : Nat} {us : List (List FunD)} (h : OwnUnits w R us us.length) (hs : ∀ u ∈ us, Fits u) : UnitRow w (some ⟨R, 0, none⟩) us := by
  obtain ⟨C, Rs, Es, hC, hF⟩ := h
  refine .inr ⟨R, 0, rfl, fun i hi => ?_⟩
  obtain ⟨h0, h3, _, h4⟩ := hF.2.1 i hi hi
  obtain ⟨k1, k2⟩ := hs _ (List.getElem_mem hi)
  simp only [Nat.zero_add]
  exact ⟨_, _, by rw [cell_of_block hC]; exact h0, Nat.le_refl _, k1, h4.funs.row k2⟩

theorem infoUnit : (Try.prog.info? 37).map (fun i => (i.zero, i.size, i.bytes)) = some (some (.slice none 0 0), 1, 24) := by kernel_rfl
theorem makeUnit (n : Nat) (hn : n ≤ 1048576) (w : World) : (Instr.makeSlice 26 (.int .i64 (n : Int)) (.int .i64 (n : Int))).run Try.prog w = .ok (.slice (some ⟨w.heap.size, 0, none⟩) n n) (w.alloc (.cells (madeCells #[.slice none 0 0] n) 37)) := by
  obtain ⟨i, hi, h⟩ := Option.map_eq_some_iff.1 infoUnit
  simp only [Prod.mk.injEq] at h
  obtain ⟨h1, h2, h3⟩ := h
  have := run_make (P := Try.prog) w 26 37 i _ Try.underlying26 hi h1 .i64 .i64 (n : Int) (n : Int) (by omega) (Int.le_refl _) (by rw [h3]; omega) (by omega)
  rw [h2] at this
  simpa [Value.cells] using this
theorem ownu_step {w : World} {R k Q S : Nat} {C : Array Value} {Rs Es : Nat → Nat} {us : List (List FunD)} (hC : w.heap[R]? = some (.cells C 37)) (hF : FilledU w C R Rs Es us k) (hk : k < us.length) (hQ : R < Q) (hSQ : ∀ i, i < k → Es i ≤ Q) (hO : OwnFE w Q S us[k]) (hS : S ≤ w.heap.size) :
    OwnUnits (w.setCell ⟨R, k, none⟩ (.slice (some ⟨Q, 0, none⟩) us[k].length us[k].length)) R us (k + 1) := by
  refine ⟨_, fun i => if i = k then Q else Rs i, fun i => if i = k then S else Es i, block_setCell hC _, ?_, ?_, ?_⟩
  · simp [hF.1]
  · intro i hi hlt
    have hs := hF.1
    by_cases hik : i = k
    · subst hik
      refine ⟨?_, ?_, ?_, ?_⟩
      · rw [Array.getElem?_setIfInBounds_self_of_lt (by omega)]; simp
      · simpa using hQ
      · simpa using hS
      · simpa using hO.set hQ _
    · obtain ⟨h0, h3, h5, h4⟩ := hF.2.1 i hi (by omega)
      refine ⟨?_, ?_, ?_, ?_⟩
      · rw [Array.getElem?_setIfInBounds_ne (by omega), h0]; simp [hik]
      · simpa [hik] using h3
      · simpa [hik] using h5
      · simpa [hik] using h4.set h3 _
  · intro i j hij hj
    have hik : i ≠ k := by omega
    by_cases hjk : j = k
    · subst hjk
      simpa [hik] using hSQ i hij
    · simpa [hik, hjk] using hF.2.2 i j hij (by omega)
theorem FilledU.below {w w' : World} {C : Array Value} {R k : Nat} {Rs Es : Nat → Nat} {us : List (List FunD)} (h : FilledU w C R Rs Es us k) (hb : Below w.heap.size w w') : FilledU w' C R Rs Es us k :=
  ⟨h.1, fun i hi hk => by obtain ⟨h0, h3, h5, h4⟩ := h.2.1 i hi hk; exact ⟨h0, h3, Nat.le_trans h5 hb.size, h4.below hb⟩, h.2.2⟩
theorem OwnUnits.below {w w' : World} {R k : Nat} {us : List (List FunD)} (h : OwnUnits w R us k) (hb : Below w.heap.size w w') : OwnUnits w' R us k := by
  obtain ⟨C, Rs, Es, hC, hF⟩ := h
  exact ⟨C, Rs, Es, box_below hC hb, hF.below hb⟩

set_option maxHeartbeats 1000000 in
theorem toFunSS_any (a : Option Addr) (cap : Nat) (us : List (List FunD)) (w : World) (hfew : Few us) (hcap : us.length ≤ cap) (hcm : cap ≤ maxLen) (hrow : UnitRow w a us) :
    Calls Try.prog 10 #[.slice a us.length cap] w fun e w' => e = .returned (.slice (some ⟨w.heap.size, 0, none⟩) us.length us.length) ∧ OwnUnits w' w.heap.size us us.length ∧ Below w.heap.size w w' := by
  have HR := hide hrow
  have HL := hide hfew.2
  have hlen := hfew.1
  clear hrow hfew
  have hmk := makeUnit us.length hlen
  go_enter Try.func10, Try.ntmps10
  go_wp2_with fail
  go_loopw [4] (fun i w' => ∃ k : Nat, k ≤ us.length ∧ i = .int .i64 k ∧ OwnUnits w' w.heap.size us k ∧ Below w.heap.size w w') (fun i _ => us.length - (intOf i).toNat)
  case atStart => exact ⟨0, Nat.zero_le _, rfl, ⟨_, fun _ => 0, fun _ => 0, new_block w _, by simp [size_madeCells], fun i h h0 => by omega, fun i j _ h => by omega⟩, below_alloc1 _ _⟩
  case round =>
    obtain ⟨k, hk, rfl, hO, hB⟩ := hrel
    obtain ⟨C, Rs, Es, hC, hF⟩ := hO
    have HC := hide hC
    have HF := hide hF
    clear hC hF hmk
    by_cases hkl : k < us.length
    · have hrow := (unhide HR).below hB
      obtain ⟨b, off, rfl⟩ := hrow.get (by omega)
      obtain ⟨ai, ci, c0, h4, h5, h6⟩ := hrow.at hkl
      have H6 := hide h6
      obtain ⟨hl1, hl2⟩ := unhide HL us[k] (List.getElem_mem _)
      have HL2 := hide hl2
      clear hrow h6 hl2
      have hkl' : (k : Int) < (us.length : Int) := by omega
      go_wp2_with fail
      refine (toFunS_any ai ci us[k] _ hl1 (unhide HL2) h4 h5 (unhide H6)).mono ?_
      rintro e w2 ⟨rfl, hO2, hb2⟩
      have HC2 := hide (box_below (unhide HC) hb2)
      have HF2 := hide ((unhide HF).below hb2)
      have HO2 := hide hO2
      have HSQ : Hid (∀ i, i < k → Es i ≤ wr.heap.size) := fun i hi => ((unhide HF).2.1 i (by omega) hi).2.2.1
      have hCs : C.size = us.length := (unhide HF).1
      have hRQ : w.heap.size < wr.heap.size := (Array.getElem?_eq_some_iff.1 (unhide HC)).1
      obtain ⟨v0, e0⟩ : ∃ v, w2.cell? ⟨w.heap.size, k, none⟩ = some v := ⟨C[k]'(by omega), by rw [cell_of_block (unhide HC2)]; exact Array.getElem?_eq_getElem _⟩
      have g0 := unfrozen_of_block (unhide HC2) k
      have hB2 := bl_trans hB hb2
      clear hb2 hB hCs hO2 c0
      go_wp2_with fail
      exact ⟨⟨k + 1, by omega, by go_num, ownu_step (unhide HC2) (unhide HF2) hkl hRQ (unhide HSQ) (OwnFE.of (unhide HO2)) (Nat.le_refl _), hB2.setCell (Nat.le_refl _) _⟩, by simp [intOf]; omega⟩
    · have hke : k = us.length := by omega
      subst hke
      go_wp2_with fail
      go_ret
      exact ⟨rfl, ⟨C, Rs, Es, unhide HC, unhide HF⟩, hB⟩

set_option maxHeartbeats 1000000 in
theorem eqFunSS_same (a a' : Option Addr) (cap cap' : Nat) (us : List (List FunD)) (w : World) (hcap : us.length ≤ cap) (hcm : cap ≤ maxLen) (hR : UnitRow w a us) (hQ : UnitRow w a' us) :
    Calls Try.prog 13 #[.slice a us.length cap, .slice a' us.length cap'] w fun e w' => e = .returned (.bool true) ∧ Below w.heap.size w w' := by
  have HR := hide hR
  have HQ := hide hQ
  clear hR hQ
  unfold maxLen at hcm
  have hlen : (us.length : Int) ≤ 9223372036854775807 := by omega
  go_enter Try.func13, Try.ntmps13
  go_wp2_with fail
  go_loopw [5] (fun i w' => ∃ k : Nat, k ≤ us.length ∧ i = .int .i64 k ∧ Below w.heap.size w w') (fun i _ => us.length - (intOf i).toNat)
  case atStart => exact ⟨0, Nat.zero_le _, rfl, Below.refl _ _⟩
  case round =>
    obtain ⟨k, hk, rfl, hB⟩ := hrel
    by_cases hkl : k < us.length
    · obtain ⟨b, off, rfl⟩ := (unhide HR).get (by omega)
      obtain ⟨b', off', rfl⟩ := (unhide HQ).get (by omega)
      obtain ⟨ai, ci, c0, h4, h5, h6⟩ := ((unhide HR).below hB).at hkl
      obtain ⟨ai', ci', d0, h4', h5', h6'⟩ := ((unhide HQ).below hB).at hkl
      have hkl' : (k : Int) < (us.length : Int) := by omega
      have hk0 : (0 : Int) ≤ (k : Int) := by omega
      generalize us[k] = f at *
      have hS0 := And.intro h6 (And.intro h6' (And.intro c0 (And.intro d0 hB)))
      have HST : Hid (Stable (fun w' => FunRow w' ai f ∧ FunRow w' ai' f ∧ w'.cell? ⟨b, off + k, none⟩ = some (.slice ai f.length ci) ∧ w'.cell? ⟨b', off' + k, none⟩ = some (.slice ai' f.length ci') ∧ Below w.heap.size w w')) :=
        (Stable.frow _ _).and ((Stable.frow _ _).and ((Stable.cell _ _).and ((Stable.cell _ _).and (Stable.below w))))
      clear c0 d0 hB h6 h6'
      go_wp2_with fail
      go_region_held3 (fun w' => FunRow w' ai f ∧ FunRow w' ai' f ∧ w'.cell? ⟨b, off + k, none⟩ = some (.slice ai f.length ci) ∧ w'.cell? ⟨b', off' + k, none⟩ = some (.slice ai' f.length ci') ∧ Below w.heap.size w w')
        (first | assumption | (refine (unhide HST).1 _ _ hbk ?_; assumption) | (refine (unhide HST).2 _ ?_; assumption))
        (first | (go_at_call 23; refine (eqFunS_same ai ai' ci ci' f _ h4 h5 (by apply s0; assumption) (by apply s1; assumption)).mono ?_; rintro e wk1 ⟨rfl, hbk⟩))
      have hS1 : (fun w' => FunRow w' ai f ∧ FunRow w' ai' f ∧ w'.cell? ⟨b, off + k, none⟩ = some (.slice ai f.length ci) ∧ w'.cell? ⟨b', off' + k, none⟩ = some (.slice ai' f.length ci') ∧ Below w.heap.size w w') wk1 := by assumption
      have hB1 := hS1.2.2.2.2
      clear hS0 hS1
      go_wp2_with fail
      exact ⟨⟨k + 1, by omega, by go_num, hB1⟩, by simp [intOf]; omega⟩
    · go_wp2_with fail
      go_ret
      exact ⟨rfl, hB⟩
end Go.Proofs.Ytfpajoloeninmat.UU
