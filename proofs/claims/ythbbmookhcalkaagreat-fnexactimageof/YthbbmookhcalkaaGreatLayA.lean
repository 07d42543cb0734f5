/- Layings as arguments: rows of names and rows of such rows, read; the laws' helpers on them: sizes, copies, comparisons. -/
import Derived.Test.YthbbmookhcalkaaGreatLayN
import Derived.Test.YthbbmookhcalkaaGreatMark
namespace Go.Proofs.YthbbmookhcalkaaGreat.LayA
open Go.ChangeShapes Go.WideShapes Go.ChangeAt Go.RowKit Go.Joins Go.Deep
open Go.Proofs.YthbbmookhcalkaaGreat.Base Go.Proofs.YthbbmookhcalkaaGreat.Funs Go.Proofs.YthbbmookhcalkaaGreat.Open Go.Proofs.YthbbmookhcalkaaGreat.Keep Go.Proofs.YthbbmookhcalkaaGreat.Refs Go.Proofs.YthbbmookhcalkaaGreat.Mark Go.Proofs.YthbbmookhcalkaaGreat.LayN
set_option linter.unusedVariables false
set_option maxRecDepth 100000

/-- These texts lie in a row of memory. -/
def TextRow (w : World) (a : Option Addr) (ss : List ByteArray) : Prop :=
  ss = [] ∨ ∃ b off, a = some ⟨b, off, none⟩ ∧ ∀ i (h : i < ss.length), w.cell? ⟨b, off + i, none⟩ = some (.string ss[i]) ∧ ss[i].size ≤ maxLen
/-- The cell of a list of texts, and their row. -/
def TextAt (w : World) (b o : Nat) (ss : List ByteArray) : Prop :=
  ∃ ai ci, w.cell? ⟨b, o, none⟩ = some (.slice ai ss.length ci) ∧ ss.length ≤ ci ∧ ci ≤ maxLen ∧ TextRow w ai ss
/-- These lists of texts lie in a row of memory. -/
def TextsRow (w : World) (a : Option Addr) (st : List (List ByteArray)) : Prop :=
  st = [] ∨ ∃ b off, a = some ⟨b, off, none⟩ ∧ ∀ i (h : i < st.length), TextAt w b (off + i) st[i]
theorem TextRow.below {w w' : World} {a : Option Addr} {ss : List ByteArray} (h : TextRow w a ss) (hb : Below w.heap.size w w') : TextRow w' a ss := by
  rcases h with h | ⟨b, off, ha, h⟩
  · exact .inl h
  · exact .inr ⟨b, off, ha, fun i hi => ⟨cell_below hb (h i hi).1, (h i hi).2⟩⟩
theorem TextRow.get {w : World} {a : Option Addr} {ss : List ByteArray} (h : TextRow w a ss) (h0 : 0 < ss.length) : ∃ b off, a = some ⟨b, off, none⟩ := by
  rcases h with h | ⟨b, off, ha, _⟩
  · rw [h] at h0; simp at h0
  · exact ⟨b, off, ha⟩
theorem TextRow.cells {w : World} {b off k : Nat} {ss : List ByteArray} (h : TextRow w (some ⟨b, off, none⟩) ss) (hk : k < ss.length) :
    w.cell? ⟨b, off + k, none⟩ = some (.string ss[k]) ∧ ss[k].size ≤ maxLen := by
  rcases h with h | ⟨b', off', ha, h⟩
  · subst h; simp at hk
  · simp only [Option.some.injEq, Addr.mk.injEq, and_true] at ha
    obtain ⟨rfl, rfl⟩ := ha
    exact h k hk
theorem TextRow.str {w : World} {a : Option Addr} {cap : Nat} {ss : List ByteArray} (h : TextRow w a ss) (hl : ss.length ≤ cap) (hm : cap ≤ maxLen) : StrAt w (.slice a ss.length cap) ss := by
  refine ⟨a, cap, rfl, hl, hm, ?_⟩
  rcases h with h | ⟨b, off, ha, h⟩
  · exact .inl h
  · exact .inr ⟨b, off, ha, fun i hi => (h i hi).1⟩
theorem TextRow.sizes {w : World} {a : Option Addr} {ss : List ByteArray} (h : TextRow w a ss) : ∀ s ∈ ss, s.size ≤ maxLen := by
  intro s hs
  obtain ⟨i, hi, rfl⟩ := List.getElem_of_mem hs
  rcases h with h | ⟨b, off, ha, h⟩
  · subst h; simp at hi
  · exact (h i hi).2
theorem TextAt.below {w w' : World} {b o : Nat} {ss : List ByteArray} (h : TextAt w b o ss) (hb : Below w.heap.size w w') : TextAt w' b o ss := by
  obtain ⟨ai, ci, h0, h1, h2, h3⟩ := h
  exact ⟨ai, ci, cell_below hb h0, h1, h2, h3.below hb⟩
theorem TextsRow.below {w w' : World} {a : Option Addr} {st : List (List ByteArray)} (h : TextsRow w a st) (hb : Below w.heap.size w w') : TextsRow w' a st := by
  rcases h with h | ⟨b, off, ha, h⟩
  · exact .inl h
  · exact .inr ⟨b, off, ha, fun i hi => (h i hi).below hb⟩
theorem TextsRow.get {w : World} {a : Option Addr} {st : List (List ByteArray)} (h : TextsRow w a st) (h0 : 0 < st.length) : ∃ b off, a = some ⟨b, off, none⟩ := by
  rcases h with h | ⟨b, off, ha, _⟩
  · rw [h] at h0; simp at h0
  · exact ⟨b, off, ha⟩
theorem TextsRow.at {w : World} {b off k : Nat} {st : List (List ByteArray)} (h : TextsRow w (some ⟨b, off, none⟩) st) (hk : k < st.length) : TextAt w b (off + k) st[k] := by
  rcases h with h | ⟨b', off', ha, h⟩
  · subst h; simp at hk
  · simp only [Option.some.injEq, Addr.mk.injEq, and_true] at ha
    obtain ⟨rfl, rfl⟩ := ha
    exact h k hk
/-- The sizes of all that is in such rows. -/
def FitT (st : List (List ByteArray)) : Prop := ∀ ss ∈ st, ss.length ≤ maxLen ∧ ∀ s ∈ ss, s.size ≤ maxLen
theorem TextsRow.sizes {w : World} {a : Option Addr} {st : List (List ByteArray)} (h : TextsRow w a st) : FitT st := by
  intro ss hs
  obtain ⟨i, hi, rfl⟩ := List.getElem_of_mem hs
  rcases h with h | ⟨b, off, ha, h⟩
  · subst h; simp at hi
  · obtain ⟨ai, ci, _, h1, h2, h3⟩ := h i hi
    exact ⟨by omega, h3.sizes⟩
theorem Stable.trow (a : Option Addr) (ss : List ByteArray) : Stable (fun w => TextRow w a ss) := ⟨fun w w' hb hs => hs.below hb, fun w hs => hs⟩
theorem Stable.tsrow (a : Option Addr) (st : List (List ByteArray)) : Stable (fun w => TextsRow w a st) := ⟨fun w w' hb hs => hs.below hb, fun w hs => hs⟩

theorem textRow_of {H : Type} {enc : TypeId × Value → H} {W : World} {base : Nat} {spare : Nat → Bool} {held : Bool} {n : Nat} {v : Value} {y : DataW H × List MemPlace} (h : DataW.trod enc Tryz.prog W base spare held n 65 [v] = some y) :
    ∃ (a : Option Addr) (cap : Nat) (xs : List ByteArray), v = .slice a xs.length cap ∧ xs.length ≤ cap ∧ cap ≤ maxLen ∧ TextRow W a xs := by
  rcases open_slice Tryz.underlying65 h with ⟨hcs, _⟩ | ⟨a, len, cap, m, n', D, Pl, hcs, hb, hl, hm, hmm, hy, hx⟩
  · exact ⟨none, 0, [], by simpa using hcs, Nat.le_refl _, Nat.zero_le _, .inl rfl⟩
  · have hlm : len ≤ m := by rw [hmm]; split <;> omega
    rw [show Tryz.prog.cellsOf 9 = 1 by kernel_rfl] at hx
    have each : ∀ i, i < len → ∃ x : ByteArray, W.cell? (a.add i) = some (.string x) ∧ x.size ≤ maxLen := fun i hi => by
      obtain ⟨cs', h1, h2⟩ := hx i (by omega)
      obtain ⟨v0, rfl, c0⟩ := one h1
      obtain ⟨ss, e0, _, ws⟩ := DataW.trod_string Tryz.underlying9 h2
      simp at e0
      subst e0
      exact ⟨ss, c0, ws⟩
    obtain ⟨f, hf⟩ := choose_lt each
    refine ⟨some a, cap, (List.range len).map f, by simpa using hcs, by simpa using hl, hm, ?_⟩
    by_cases h0 : len = 0
    · subst h0; exact .inl rfl
    · have ha := addr_of (by simpa using (hf 0 (by omega)).1)
      refine .inr ⟨a.block, a.off, by rw [← ha], fun i hi => ?_⟩
      have hi' : i < len := by simpa using hi
      have c0 := hf i hi'
      rw [ha, add_plain] at c0
      simp only [List.getElem_map, List.getElem_range]
      exact c0
theorem textsRow_of {H : Type} {enc : TypeId × Value → H} {W : World} {base : Nat} {spare : Nat → Bool} {held : Bool} {n : Nat} {v : Value} {y : DataW H × List MemPlace} (h : DataW.trod enc Tryz.prog W base spare held n 24 [v] = some y) :
    ∃ (a : Option Addr) (cap : Nat) (st : List (List ByteArray)), v = .slice a st.length cap ∧ st.length ≤ cap ∧ cap ≤ maxLen ∧ TextsRow W a st := by
  rcases open_slice Tryz.underlying24 h with ⟨hcs, _⟩ | ⟨a, len, cap, m, n', D, Pl, hcs, hb, hl, hm, hmm, hy, hx⟩
  · exact ⟨none, 0, [], by simpa using hcs, Nat.le_refl _, Nat.zero_le _, .inl rfl⟩
  · have hlm : len ≤ m := by rw [hmm]; split <;> omega
    rw [show Tryz.prog.cellsOf 65 = 1 by kernel_rfl] at hx
    have each : ∀ i, i < len → ∃ xs : List ByteArray, ∃ ai ci, W.cell? (a.add i) = some (.slice ai xs.length ci) ∧ xs.length ≤ ci ∧ ci ≤ maxLen ∧ TextRow W ai xs := fun i hi => by
      obtain ⟨cs', h1, h2⟩ := hx i (by omega)
      obtain ⟨v0, rfl, c0⟩ := one h1
      obtain ⟨ai, ci, xs, rfl, hl, hm, hr⟩ := textRow_of h2
      exact ⟨xs, ai, ci, c0, hl, hm, hr⟩
    obtain ⟨f, hf⟩ := choose_lt each
    refine ⟨some a, cap, (List.range len).map f, by simpa using hcs, by simpa using hl, hm, ?_⟩
    by_cases h0 : len = 0
    · subst h0; exact .inl rfl
    · obtain ⟨_, _, c00, _⟩ := hf 0 (by omega)
      have ha := addr_of (by simpa using c00)
      refine .inr ⟨a.block, a.off, by rw [← ha], fun i hi => ?_⟩
      have hi' : i < len := by simpa using hi
      obtain ⟨ai, ci, c0, hs⟩ := hf i hi'
      rw [ha, add_plain] at c0
      simp only [List.getElem_map, List.getElem_range]
      exact ⟨ai, ci, c0, hs⟩
theorem cellsLay : Tryz.prog.cellsOf 26 = 2 := by kernel_rfl
/-- A laying that came in by value. -/
theorem lay_of {H : Type} {enc : TypeId × Value → H} {W : World} {base b0 : Nat} {spare : Nat → Bool} {held : Bool} {v : Value} {r : Reach} {dd : DataW H} {pp : List MemPlace} (hv : Value.okWide Tryz.prog W r b0 26 v) (h : DataW.Trod enc Tryz.prog W base spare held 26 v dd pp) :
    ∃ (na sa : Option Addr) (nc sc : Nat) (ns : List Int) (st : List (List ByteArray)), v = .agg #[.slice na ns.length nc, .slice sa st.length sc] ∧ ns.length ≤ nc ∧ nc ≤ maxLen ∧ st.length ≤ sc ∧ sc ≤ maxLen ∧ NumRow W na ns ∧ TextsRow W sa st := by
  obtain ⟨cs, rfl, hsz⟩ := okWide_struct Tryz.underlying26 hv
  rw [cellsLay] at hsz
  obtain ⟨l⟩ := cs
  match l, hsz with
  | [c0, c1], _ =>
    obtain ⟨fuel, hf⟩ := h
    obtain ⟨xs, n, _, _, _, hxl, hx⟩ := DataW.trod_struct Tryz.underlying26 hf
    have hxl' : xs.length = 2 := hxl
    have g0 := hx 0 _ rfl
    have g1 := hx 1 _ rfl
    rw [List.getElem?_eq_getElem (by omega)] at g0 g1
    simp only [Value.cells] at g0 g1
    obtain ⟨na, nc, ns, e0, hl1, hm1, hr1⟩ := numRow_of g0
    obtain ⟨sa, sc, st, e1, hl2, hm2, hr2⟩ := textsRow_of g1
    subst e0 e1
    exact ⟨na, sa, nc, sc, ns, st, rfl, hl1, hm1, hl2, hm2, hr1, hr2⟩

/-- What is left of a number when the sizes are taken off, -1 when it is not enough. -/
def szT : List ByteArray → Int → Int
  | [], l => l
  | x :: r, l => if l - (x.size : Int) < 0 then -1 else szT r (l - (x.size : Int))
def szTs (ss : List ByteArray) (l : Int) : Int := if l - ss.length < 0 then -1 else szT ss (l - ss.length)
def szTL : List (List ByteArray) → Int → Int
  | [], l => l
  | x :: r, l => if szTs x l < 0 then -1 else szTL r (szTs x l)
def szTLs (st : List (List ByteArray)) (l : Int) : Int := if l - st.length < 0 then -1 else szTL st (l - st.length)
def szN (n : Nat) (l : Int) : Int := if l - n < 0 then -1 else l - n
def szLayI (n : Nat) (st : List (List ByteArray)) (l : Int) : Int := if l - n < 0 then -1 else szTLs st (l - n)
theorem szT_bd (ss : List ByteArray) : ∀ l : Int, l ≤ 1048576 → szT ss l ≤ 1048576 := by
  induction ss with
  | nil => intro l h1; exact h1
  | cons x r ih =>
    intro l h1
    simp only [szT]
    by_cases h : l - (x.size : Int) < 0
    · rw [if_pos h]; omega
    · rw [if_neg h]; exact ih _ (by omega)
theorem szTs_bd (ss : List ByteArray) {l : Int} (h1 : l ≤ 1048576) : szTs ss l ≤ 1048576 := by
  unfold szTs
  by_cases h : l - ss.length < 0
  · rw [if_pos h]; omega
  · rw [if_neg h]; exact szT_bd _ _ (by omega)
theorem szTs_len {ss : List ByteArray} {l : Int} (h1 : l ≤ 1048576) (h : 0 ≤ szTs ss l) : ss.length ≤ 1048576 := by
  unfold szTs at h
  by_cases hn : l - ss.length < 0
  · rw [if_pos hn] at h; omega
  · omega
theorem szTL_bd (st : List (List ByteArray)) : ∀ l : Int, l ≤ 1048576 → szTL st l ≤ 1048576 := by
  induction st with
  | nil => intro l h1; exact h1
  | cons x r ih =>
    intro l h1
    simp only [szTL]
    by_cases h : szTs x l < 0
    · rw [if_pos h]; omega
    · rw [if_neg h]; exact ih _ (szTs_bd _ h1)
/-- Few enough for the helpers. -/
def FewT (st : List (List ByteArray)) : Prop := st.length ≤ 1048576 ∧ ∀ ss ∈ st, ss.length ≤ 1048576
theorem szTL_len {st : List (List ByteArray)} : ∀ {l : Int}, l ≤ 1048576 → 0 ≤ szTL st l → ∀ ss ∈ st, ss.length ≤ 1048576 := by
  induction st with
  | nil => intro l _ _ f hf; cases hf
  | cons g r ih =>
    intro l h1 h f hf
    simp only [szTL] at h
    by_cases hn : szTs g l < 0
    · rw [if_pos hn] at h; omega
    · rw [if_neg hn] at h
      rcases List.mem_cons.1 hf with rfl | hf
      · exact szTs_len h1 (by omega)
      · exact ih (szTs_bd _ h1) h f hf
theorem szLay_few {n : Nat} {st : List (List ByteArray)} {l : Int} (h1 : l ≤ 1048576) (h : 0 ≤ szLayI n st l) : n ≤ 1048576 ∧ FewT st := by
  unfold szLayI at h
  by_cases hn : l - n < 0
  · rw [if_pos hn] at h; omega
  · rw [if_neg hn] at h
    unfold szTLs at h
    by_cases hm : l - n - st.length < 0
    · rw [if_pos hm] at h; omega
    · rw [if_neg hm] at h
      exact ⟨by omega, by omega, szTL_len (by omega) h⟩
theorem szLay_bd {n : Nat} {st : List (List ByteArray)} {l : Int} (h1 : l ≤ 1048576) : szLayI n st l ≤ 1048576 := by
  unfold szLayI
  by_cases hn : l - n < 0
  · rw [if_pos hn]; omega
  · rw [if_neg hn]
    unfold szTLs
    by_cases hm : l - n - st.length < 0
    · rw [if_pos hm]; omega
    · rw [if_neg hm]; exact szTL_bd _ _ (by omega)

set_option maxHeartbeats 1000000 in
theorem szStringS_any (a : Option Addr) (cap : Nat) (ss : List ByteArray) (l : Int) (w : World) (hl0 : 0 ≤ l) (hl1 : l ≤ 1048576) (hcap : ss.length ≤ cap) (hcm : cap ≤ maxLen) (hrow : TextRow w a ss) :
    Calls Tryz.prog 37 #[.slice a ss.length cap, .int .i64 l] w fun e w' => e = .returned (.int .i64 (szTs ss l)) ∧ Below w.heap.size w w' := by
  have HR := hide hrow
  clear hrow
  unfold maxLen at hcm
  have hxl : (ss.length : Int) ≤ 9223372036854775807 := by omega
  by_cases hlt : l < ss.length
  · go_enter Tryz.func37, Tryz.ntmps37
    go_wp2
    go_ret
    exact ⟨ret_int (by unfold szTs; rw [if_pos (by omega)]), Below.refl _ _⟩
  · go_enter Tryz.func37, Tryz.ntmps37
    go_wp2_with fail
    go_loopw [1, 5] (fun lf i w' => ∃ (k : Nat) (z : Int), k ≤ ss.length ∧ i = .int .i64 k ∧ lf = .int .i64 z ∧ 0 ≤ z ∧ z ≤ 1048576 ∧ szT ss (l - ss.length) = szT (ss.drop k) z ∧ Below w.heap.size w w') (fun _ i _ => ss.length - (intOf i).toNat)
    case atStart => exact ⟨0, _, Nat.zero_le _, rfl, rfl, by omega, by omega, by simp, Below.refl _ _⟩
    case round =>
      obtain ⟨k, z, hk, rfl, rfl, hz0, hz1, hsz, hB⟩ := hrel
      have HS := hide hsz
      clear hsz
      by_cases hkl : k < ss.length
      · have hrow := (unhide HR).below hB
        obtain ⟨b, off, rfl⟩ := hrow.get (by omega)
        obtain ⟨c0, hsm⟩ := hrow.cells hkl
        unfold maxLen at hsm
        clear hrow
        have hkl' : (k : Int) < (ss.length : Int) := by omega
        have hdr : ss.drop k = ss[k] :: ss.drop (k + 1) := List.drop_eq_getElem_cons hkl
        have HD := hide hdr
        clear hdr
        generalize ss[k] = x at *
        by_cases hneg : z < (x.size : Int)
        · go_wp2_with fail
          go_ret
          exact ⟨ret_int (by unfold szTs; rw [if_neg (by omega), unhide HS, unhide HD]; simp only [szT]; rw [if_pos (by omega)]), hB⟩
        · go_wp2_with fail
          exact ⟨⟨k + 1, z - (x.size : Int), by omega, by go_num, by go_num, by omega, by omega, by rw [unhide HS, unhide HD]; simp only [szT]; rw [if_neg (by omega)], hB⟩, by simp [intOf]; omega⟩
      · have hke : ss.drop k = [] := List.drop_of_length_le (by omega)
        have HE := hide hke
        clear hke
        go_wp2_with fail
        go_ret
        exact ⟨ret_int (by unfold szTs; rw [if_neg (by omega), unhide HS, unhide HE]; rfl), hB⟩
set_option maxHeartbeats 1000000 in
theorem szStringSS_any (a : Option Addr) (cap : Nat) (us : List (List ByteArray)) (l : Int) (w : World) (hl0 : 0 ≤ l) (hl1 : l ≤ 1048576) (hcap : us.length ≤ cap) (hcm : cap ≤ maxLen) (hrow : TextsRow w a us) :
    Calls Tryz.prog 19 #[.slice a us.length cap, .int .i64 l] w fun e w' => e = .returned (.int .i64 (szTLs us l)) ∧ Below w.heap.size w w' := by
  have HR := hide hrow
  clear hrow
  unfold maxLen at hcm
  have hxl : (us.length : Int) ≤ 9223372036854775807 := by omega
  by_cases hlt : l < us.length
  · go_enter Tryz.func19, Tryz.ntmps19
    go_wp2
    go_ret
    exact ⟨ret_int (by unfold szTLs; rw [if_pos (by omega)]), Below.refl _ _⟩
  · go_enter Tryz.func19, Tryz.ntmps19
    go_wp2_with fail
    go_loopw [1, 5] (fun lf i w' => ∃ (k : Nat) (z : Int), k ≤ us.length ∧ i = .int .i64 k ∧ lf = .int .i64 z ∧ 0 ≤ z ∧ z ≤ 1048576 ∧ szTL us (l - us.length) = szTL (us.drop k) z ∧ Below w.heap.size w w') (fun _ i _ => us.length - (intOf i).toNat)
    case atStart => exact ⟨0, _, Nat.zero_le _, rfl, rfl, by omega, by omega, by simp, Below.refl _ _⟩
    case round =>
      obtain ⟨k, z, hk, rfl, rfl, hz0, hz1, hsz, hB⟩ := hrel
      have HS := hide hsz
      clear hsz
      by_cases hkl : k < us.length
      · have hrow := (unhide HR).below hB
        obtain ⟨b, off, rfl⟩ := hrow.get (by omega)
        obtain ⟨ai, ci, c0, h4, h5, h6⟩ := hrow.at hkl
        have H6 := hide h6
        clear hrow h6
        have hkl' : (k : Int) < (us.length : Int) := by omega
        have hdr : us.drop k = us[k] :: us.drop (k + 1) := List.drop_eq_getElem_cons hkl
        have HD := hide hdr
        clear hdr
        generalize us[k] = f at *
        by_cases hneg : szTs f z < 0
        · go_wp2_with fail
          refine (szStringS_any ai ci f z _ hz0 hz1 h4 h5 (unhide H6)).mono ?_
          rintro e w1 ⟨rfl, hb1⟩
          go_wp2_with fail
          go_ret
          exact ⟨ret_int (by unfold szTLs; rw [if_neg (by omega), unhide HS, unhide HD]; simp only [szTL]; rw [if_pos hneg]), bl_trans hB hb1⟩
        · have hz2 : szTs f z ≤ 1048576 := szTs_bd _ hz1
          go_wp2_with fail
          refine (szStringS_any ai ci f z _ hz0 hz1 h4 h5 (unhide H6)).mono ?_
          rintro e w1 ⟨rfl, hb1⟩
          go_wp2_with fail
          exact ⟨⟨k + 1, _, by omega, by go_num, rfl, by omega, hz2, by rw [unhide HS, unhide HD]; simp only [szTL]; rw [if_neg (by omega)], bl_trans hB hb1⟩, by simp [intOf]; omega⟩
      · have hke : us.drop k = [] := List.drop_of_length_le (by omega)
        have HE := hide hke
        clear hke
        go_wp2_with fail
        go_ret
        exact ⟨ret_int (by unfold szTLs; rw [if_neg (by omega), unhide HS, unhide HE]; rfl), hB⟩
theorem box2 {w : World} {B : Nat} {v0 v1 : Value} {t : TypeId} (h : w.heap[B]? = some (.cells #[v0, v1] t)) :
    (w.cell? ⟨B, 0, none⟩ = some v0 ∧ w.cell? ⟨B, 1, none⟩ = some v1) ∧ (w.frozen? ⟨B, 0, none⟩ = false ∧ w.frozen? ⟨B, 1, none⟩ = false) :=
  ⟨⟨by rw [cell_of_block h]; rfl, by rw [cell_of_block h]; rfl⟩, unfrozen_of_block h 0, unfrozen_of_block h 1⟩
set_option maxHeartbeats 1000000 in
theorem szIntS_any (a : Option Addr) (cap n : Nat) (l : Int) (w : World) (hl0 : 0 ≤ l) (hl1 : l ≤ 1048576) (hcap : n ≤ cap) (hcm : cap ≤ maxLen) :
    Calls Tryz.prog 18 #[.slice a n cap, .int .i64 l] w fun e w' => e = .returned (.int .i64 (szN n l)) ∧ Below w.heap.size w w' := by
  unfold maxLen at hcm
  have hxl : (n : Int) ≤ 9223372036854775807 := by omega
  by_cases hlt : l < n
  · go_enter Tryz.func18, Tryz.ntmps18
    go_wp2
    go_ret
    exact ⟨ret_int (by unfold szN; rw [if_pos (by omega)]), Below.refl _ _⟩
  · go_enter Tryz.func18, Tryz.ntmps18
    go_wp2
    go_ret
    exact ⟨ret_int (by unfold szN; rw [if_neg (by omega)]), Below.refl _ _⟩
set_option maxHeartbeats 1000000 in
theorem szLay_any (na sa : Option Addr) (nc sc n : Nat) (st : List (List ByteArray)) (l : Int) (w : World) (hl0 : 0 ≤ l) (hl1 : l ≤ 1048576) (h1 : n ≤ nc) (h2 : nc ≤ maxLen) (h3 : st.length ≤ sc) (h4 : sc ≤ maxLen) (hT : TextsRow w sa st) :
    Calls Tryz.prog 5 #[.agg #[.slice na n nc, .slice sa st.length sc], .int .i64 l] w fun e w' => e = .returned (.int .i64 (szLayI n st l)) ∧ Below w.heap.size w w' := by
  have HT := hide hT
  clear hT
  have HX := hide (new_block w (.cells #[.slice na n nc, .slice sa st.length sc] 26))
  have hB0 := below_alloc1 w (.cells #[.slice na n nc, .slice sa st.length sc] 26)
  by_cases hlt : l - (n : Int) < 0
  · have HN : szN n l = -1 := by unfold szN; rw [if_pos hlt]
    have HE : Hid (szLayI n st l = -1) := by show szLayI n st l = _; unfold szLayI; rw [if_pos hlt]
    clear hlt
    go_enter Tryz.func5, Tryz.ntmps5
    go_wp2_with fail
    refine (szIntS_any na nc n l _ hl0 hl1 h1 h2).mono ?_
    rw [HN]
    rintro e w1 ⟨rfl, hb1⟩
    have hB1 := bl_trans hB0 hb1
    clear hB0 hb1
    go_wp2_with fail
    go_ret
    exact ⟨ret_int (unhide HE).symm, hB1⟩
  · have HE : Hid (szLayI n st l = szTLs st (l - n)) := by show szLayI n st l = _; unfold szLayI; rw [if_neg hlt]
    have HN : Hid (szN n l = l - n) := by show szN n l = _; unfold szN; rw [if_neg hlt]
    have hlt0 : 0 ≤ l - (n : Int) := by omega
    have hlt1 : l - (n : Int) ≤ 1048576 := by omega
    clear hlt
    go_enter Tryz.func5, Tryz.ntmps5
    go_wp2_with fail
    refine (szIntS_any na nc n l _ hl0 hl1 h1 h2).mono ?_
    rw [unhide HN]
    rintro e w1 ⟨rfl, hb1⟩
    have hB1 := bl_trans hB0 hb1
    replace HX := hide (box_below (unhide HX) hb1)
    clear hB0 hb1
    have hX := box2 (unhide HX)
    generalize l - (n : Int) = z at *
    cases hd : decide (szTLs st z < 0) with
    | true =>
      have hd' : szTLs st z < 0 := by simpa using hd
      clear hd
      go_wp2_with fail
      refine (szStringSS_any sa sc st z _ hlt0 hlt1 h3 h4 ((unhide HT).below hB1)).mono ?_
      rintro e w2 ⟨rfl, hb2⟩
      have hB2 := bl_trans hB1 hb2
      clear hX hB1 hb2
      go_wp2_with fail
      go_ret
      exact ⟨ret_int (by
        rw [unhide HE]
        unfold szTLs at hd' ⊢
        by_cases hm : z - st.length < 0
        · rw [if_pos hm]
        · rw [if_neg hm] at hd' ⊢
          have key : ∀ (us : List (List ByteArray)) (l : Int), 0 ≤ l → szTL us l < 0 → -1 = szTL us l := by
            intro us
            induction us with
            | nil => intro l h0 h; simp only [szTL] at h; omega
            | cons x r ih =>
              intro l h0 h
              simp only [szTL] at h ⊢
              by_cases hn : szTs x l < 0
              · rw [if_pos hn]
              · rw [if_neg hn] at h ⊢
                exact ih _ (by omega) h
          exact key _ _ (by omega) hd'), hB2⟩
    | false =>
      have hd' : 0 ≤ szTLs st z := by simpa using hd
      clear hd
      go_wp2_with fail
      refine (szStringSS_any sa sc st z _ hlt0 hlt1 h3 h4 ((unhide HT).below hB1)).mono ?_
      rintro e w2 ⟨rfl, hb2⟩
      have hB2 := bl_trans hB1 hb2
      clear hX hB1 hb2
      go_wp2_with fail
      go_ret
      exact ⟨ret_int (unhide HE).symm, hB2⟩

/-- The first k texts lie in these cells. -/
def FilledT (C : Array Value) (ss : List ByteArray) (k : Nat) : Prop :=
  C.size = ss.length ∧ ∀ i (h : i < ss.length), i < k → C[i]? = some (.string ss[i])
def OwnText (w : World) (R : Nat) (ss : List ByteArray) (k : Nat) : Prop := ∃ C, w.heap[R]? = some (.cells C 9) ∧ FilledT C ss k
theorem OwnText.row {w : World} {R : Nat} {ss : List ByteArray} (h : OwnText w R ss ss.length) (hs : ∀ s ∈ ss, s.size ≤ maxLen) : TextRow w (some ⟨R, 0, none⟩) ss := by
  obtain ⟨C, hC, hF⟩ := h
  refine .inr ⟨R, 0, rfl, fun i hi => ?_⟩
  simp only [Nat.zero_add]
  rw [cell_of_block hC]
  exact ⟨hF.2 i hi hi, hs _ (List.getElem_mem _)⟩
theorem OwnText.below {w w' : World} {R k : Nat} {ss : List ByteArray} (h : OwnText w R ss k) (hb : Below w.heap.size w w') : OwnText w' R ss k := by
  obtain ⟨C, hC, hF⟩ := h
  exact ⟨C, box_below hC hb, hF⟩
theorem OwnText.set {w : World} {R k B o : Nat} {ss : List ByteArray} (h : OwnText w R ss k) (hB : B ≠ R) (v : Value) : OwnText (w.setCell ⟨B, o, none⟩ v) R ss k := by
  obtain ⟨C, hC, hF⟩ := h
  exact ⟨C, (Below.heap_setCell w ⟨B, o, none⟩ v R (Ne.symm hB)).trans hC, hF⟩
theorem text_step {w : World} {R k : Nat} {C : Array Value} {ss : List ByteArray} (hC : w.heap[R]? = some (.cells C 9)) (hF : FilledT C ss k) (hk : k < ss.length) :
    OwnText (w.setCell ⟨R, k, none⟩ (.string ss[k])) R ss (k + 1) := by
  refine ⟨_, block_setCell hC _, ?_, ?_⟩
  · simp [hF.1]
  · intro i hi hlt
    have hs := hF.1
    by_cases hik : i = k
    · subst hik
      rw [Array.getElem?_setIfInBounds_self_of_lt (by omega)]
    · rw [Array.getElem?_setIfInBounds_ne (by omega)]; exact hF.2 i hi (by omega)
theorem makeTexts (n : Nat) (hn : n ≤ 1048576) (w : World) : (Instr.makeSlice 65 (.int .i64 (n : Int)) (.int .i64 (n : Int))).run Tryz.prog w = .ok (.slice (some ⟨w.heap.size, 0, none⟩) n n) (w.alloc (.cells (madeCells #[.string ⟨#[]⟩] n) 9)) := by
  obtain ⟨i, hi, h⟩ := Option.map_eq_some_iff.1 infoStr
  simp only [Prod.mk.injEq] at h
  obtain ⟨h1, h2, h3⟩ := h
  have := run_make (P := Tryz.prog) w 65 9 i _ Tryz.underlying65 hi h1 .i64 .i64 (n : Int) (n : Int) (by omega) (Int.le_refl _) (by rw [h3]; omega) (by omega)
  rw [h2] at this
  simpa [Value.cells] using this
set_option maxHeartbeats 1000000 in
theorem toStringS_any (a : Option Addr) (cap : Nat) (xs : List ByteArray) (w : World) (hlen : xs.length ≤ 1048576) (hcap : xs.length ≤ cap) (hcm : cap ≤ maxLen) (hrow : TextRow w a xs) :
    Calls Tryz.prog 43 #[.slice a xs.length cap] w fun e w' => e = .returned (.slice (some ⟨w.heap.size, 0, none⟩) xs.length xs.length) ∧ OwnText w' w.heap.size xs xs.length ∧ Below w.heap.size w w' := by
  have HR := hide hrow
  clear hrow
  have hmk := makeTexts xs.length hlen
  go_enter Tryz.func43, Tryz.ntmps43
  go_wp2_with fail
  go_loopw [4] (fun i w' => ∃ k : Nat, k ≤ xs.length ∧ i = .int .i64 k ∧ OwnText w' w.heap.size xs k ∧ Below w.heap.size w w') (fun i _ => xs.length - (intOf i).toNat)
  case atStart => exact ⟨0, Nat.zero_le _, rfl, ⟨_, new_block w _, by simp [size_madeCells], fun i h h0 => by omega⟩, below_alloc1 _ _⟩
  case round =>
    obtain ⟨k, hk, rfl, hO, hB⟩ := hrel
    obtain ⟨C, hC, hF⟩ := hO
    have HC := hide hC
    have HF := hide hF
    clear hC hF hmk
    by_cases hkl : k < xs.length
    · have hrow := (unhide HR).below hB
      obtain ⟨b, off, rfl⟩ := hrow.get (by omega)
      obtain ⟨c0, _⟩ := hrow.cells hkl
      clear hrow
      have hkl' : (k : Int) < (xs.length : Int) := by omega
      have hCs : C.size = xs.length := (unhide HF).1
      obtain ⟨v0, e0⟩ : ∃ v, wr.cell? ⟨w.heap.size, k, none⟩ = some v := ⟨C[k]'(by omega), by rw [cell_of_block (unhide HC)]; exact Array.getElem?_eq_getElem _⟩
      have g0 := unfrozen_of_block (unhide HC) k
      clear hCs
      go_wp2_with fail
      exact ⟨⟨k + 1, by omega, by go_num, text_step (unhide HC) (unhide HF) hkl, hB.setCell (Nat.le_refl _) _⟩, by simp [intOf]; omega⟩
    · have hke : k = xs.length := by omega
      subst hke
      go_wp2_with fail
      go_ret
      exact ⟨rfl, ⟨C, unhide HC, unhide HF⟩, hB⟩

/-- The first k lists lie in these cells, their texts in blocks of their own. -/
def FilledTs (w : World) (C : Array Value) (R : Nat) (Rs : Nat → Nat) (st : List (List ByteArray)) (k : Nat) : Prop :=
  C.size = st.length ∧ ∀ i (h : i < st.length), i < k → C[i]? = some (.slice (some ⟨Rs i, 0, none⟩) st[i].length st[i].length) ∧ R < Rs i ∧ OwnText w (Rs i) st[i] st[i].length
def OwnTexts (w : World) (R : Nat) (st : List (List ByteArray)) (k : Nat) : Prop := ∃ C Rs, w.heap[R]? = some (.cells C 65) ∧ FilledTs w C R Rs st k
theorem OwnTexts.row {w : World} {R : Nat} {st : List (List ByteArray)} (h : OwnTexts w R st st.length) (hs : FitT st) : TextsRow w (some ⟨R, 0, none⟩) st := by
  obtain ⟨C, Rs, hC, hF⟩ := h
  refine .inr ⟨R, 0, rfl, fun i hi => ?_⟩
  obtain ⟨h0, h3, h4⟩ := hF.2 i hi hi
  obtain ⟨k1, k2⟩ := hs _ (List.getElem_mem hi)
  simp only [Nat.zero_add]
  exact ⟨_, _, by rw [cell_of_block hC]; exact h0, Nat.le_refl _, k1, h4.row k2⟩
theorem FilledTs.below {w w' : World} {C : Array Value} {R k : Nat} {Rs : Nat → Nat} {st : List (List ByteArray)} (h : FilledTs w C R Rs st k) (hb : Below w.heap.size w w') : FilledTs w' C R Rs st k :=
  ⟨h.1, fun i hi hk => by obtain ⟨h0, h3, h4⟩ := h.2 i hi hk; exact ⟨h0, h3, h4.below hb⟩⟩
theorem OwnTexts.below {w w' : World} {R k : Nat} {st : List (List ByteArray)} (h : OwnTexts w R st k) (hb : Below w.heap.size w w') : OwnTexts w' R st k := by
  obtain ⟨C, Rs, hC, hF⟩ := h
  exact ⟨C, Rs, box_below hC hb, hF.below hb⟩
theorem OwnTexts.set {w : World} {R k B o : Nat} {st : List (List ByteArray)} (h : OwnTexts w R st k) (hB : B < R) (v : Value) : OwnTexts (w.setCell ⟨B, o, none⟩ v) R st k := by
  obtain ⟨C, Rs, hC, hF⟩ := h
  refine ⟨C, Rs, (Below.heap_setCell w ⟨B, o, none⟩ v R (show R ≠ B by omega)).trans hC, hF.1, fun i hi hk => ?_⟩
  obtain ⟨h0, h3, h4⟩ := hF.2 i hi hk
  exact ⟨h0, h3, h4.set (by omega) _⟩
theorem texts_step {w : World} {R k Q : Nat} {C : Array Value} {Rs : Nat → Nat} {st : List (List ByteArray)} (hC : w.heap[R]? = some (.cells C 65)) (hF : FilledTs w C R Rs st k) (hk : k < st.length) (hQ : R < Q) (hO : OwnText w Q st[k] st[k].length) :
    OwnTexts (w.setCell ⟨R, k, none⟩ (.slice (some ⟨Q, 0, none⟩) st[k].length st[k].length)) R st (k + 1) := by
  refine ⟨_, fun i => if i = k then Q else Rs i, block_setCell hC _, ?_, ?_⟩
  · simp [hF.1]
  · intro i hi hlt
    have hs := hF.1
    by_cases hik : i = k
    · subst hik
      refine ⟨?_, ?_, ?_⟩
      · rw [Array.getElem?_setIfInBounds_self_of_lt (by omega)]; simp
      · simpa using hQ
      · simpa using hO.set (by omega) _
    · obtain ⟨h0, h3, h4⟩ := hF.2 i hi (by omega)
      refine ⟨?_, ?_, ?_⟩
      · rw [Array.getElem?_setIfInBounds_ne (by omega), h0]; simp [hik]
      · simpa [hik] using h3
      · simpa [hik] using h4.set (by omega) _
theorem infoTexts : (Tryz.prog.info? 65).map (fun i => (i.zero, i.size, i.bytes)) = some (some (.slice none 0 0), 1, 24) := by kernel_rfl
theorem makeTextss (n : Nat) (hn : n ≤ 1048576) (w : World) : (Instr.makeSlice 24 (.int .i64 (n : Int)) (.int .i64 (n : Int))).run Tryz.prog w = .ok (.slice (some ⟨w.heap.size, 0, none⟩) n n) (w.alloc (.cells (madeCells #[.slice none 0 0] n) 65)) := by
  obtain ⟨i, hi, h⟩ := Option.map_eq_some_iff.1 infoTexts
  simp only [Prod.mk.injEq] at h
  obtain ⟨h1, h2, h3⟩ := h
  have := run_make (P := Tryz.prog) w 24 65 i _ Tryz.underlying24 hi h1 .i64 .i64 (n : Int) (n : Int) (by omega) (Int.le_refl _) (by rw [h3]; omega) (by omega)
  rw [h2] at this
  simpa [Value.cells] using this
set_option maxHeartbeats 1000000 in
theorem toStringSS_any (a : Option Addr) (cap : Nat) (st : List (List ByteArray)) (w : World) (hlen : FewT st) (hcap : st.length ≤ cap) (hcm : cap ≤ maxLen) (hrow : TextsRow w a st) :
    Calls Tryz.prog 24 #[.slice a st.length cap] w fun e w' => e = .returned (.slice (some ⟨w.heap.size, 0, none⟩) st.length st.length) ∧ OwnTexts w' w.heap.size st st.length ∧ Below w.heap.size w w' := by
  have HR := hide hrow
  have HL := hide hlen.2
  have hn1 := hlen.1
  have hmk := makeTextss st.length hlen.1
  clear hrow hlen
  go_enter Tryz.func24, Tryz.ntmps24
  go_wp2_with fail
  go_loopw [4] (fun i w' => ∃ k : Nat, k ≤ st.length ∧ i = .int .i64 k ∧ OwnTexts w' w.heap.size st k ∧ Below w.heap.size w w') (fun i _ => st.length - (intOf i).toNat)
  case atStart => exact ⟨0, Nat.zero_le _, rfl, ⟨_, fun _ => 0, new_block w _, by simp [size_madeCells], fun i h h0 => by omega⟩, below_alloc1 _ _⟩
  case round =>
    obtain ⟨k, hk, rfl, hO, hB⟩ := hrel
    obtain ⟨C, Rs, hC, hF⟩ := hO
    have HC := hide hC
    have HF := hide hF
    clear hC hF hmk
    by_cases hkl : k < st.length
    · have hrow := (unhide HR).below hB
      obtain ⟨b, off, rfl⟩ := hrow.get (by omega)
      obtain ⟨ai, ci, c0, h4, h5, h6⟩ := hrow.at hkl
      have H6 := hide h6
      have hlk := unhide HL st[k] (List.getElem_mem _)
      clear hrow h6
      have hkl' : (k : Int) < (st.length : Int) := by omega
      go_wp2_with fail
      refine (toStringS_any ai ci st[k] _ hlk h4 h5 (unhide H6)).mono ?_
      rintro e w2 ⟨rfl, hO2, hb2⟩
      have HC2 := hide (box_below (unhide HC) hb2)
      have HF2 := hide ((unhide HF).below hb2)
      have HO2 := hide hO2
      have hCs : C.size = st.length := (unhide HF).1
      have hRQ : w.heap.size < wr.heap.size := (Array.getElem?_eq_some_iff.1 (unhide HC)).1
      obtain ⟨v0, e0⟩ : ∃ v, w2.cell? ⟨w.heap.size, k, none⟩ = some v := ⟨C[k]'(by omega), by rw [cell_of_block (unhide HC2)]; exact Array.getElem?_eq_getElem _⟩
      have g0 := unfrozen_of_block (unhide HC2) k
      have hB2 := bl_trans hB hb2
      clear hb2 hB hCs hO2 c0
      go_wp2_with fail
      exact ⟨⟨k + 1, by omega, by go_num, texts_step (unhide HC2) (unhide HF2) hkl hRQ (unhide HO2), hB2.setCell (Nat.le_refl _) _⟩, by simp [intOf]; omega⟩
    · have hke : k = st.length := by omega
      subst hke
      go_wp2_with fail
      go_ret
      exact ⟨rfl, ⟨C, Rs, unhide HC, unhide HF⟩, hB⟩
set_option maxHeartbeats 1000000 in
theorem eqStringSS_same (a a' : Option Addr) (cap cap' : Nat) (st : List (List ByteArray)) (w : World) (hcap : st.length ≤ cap) (hcm : cap ≤ maxLen) (hR : TextsRow w a st) (hQ : TextsRow w a' st) :
    Calls Tryz.prog 31 #[.slice a st.length cap, .slice a' st.length cap'] w fun e w' => e = .returned (.bool true) ∧ Below w.heap.size w w' := by
  have HR := hide hR
  have HQ := hide hQ
  clear hR hQ
  unfold maxLen at hcm
  have hlen : (st.length : Int) ≤ 9223372036854775807 := by omega
  go_enter Tryz.func31, Tryz.ntmps31
  go_wp2_with fail
  go_loopw [5] (fun i w' => ∃ k : Nat, k ≤ st.length ∧ i = .int .i64 k ∧ Below w.heap.size w w') (fun i _ => st.length - (intOf i).toNat)
  case atStart => exact ⟨0, Nat.zero_le _, rfl, Below.refl _ _⟩
  case round =>
    obtain ⟨k, hk, rfl, hB⟩ := hrel
    by_cases hkl : k < st.length
    · obtain ⟨b, off, rfl⟩ := (unhide HR).get (by omega)
      obtain ⟨b', off', rfl⟩ := (unhide HQ).get (by omega)
      obtain ⟨ai, ci, c0, h4, h5, h6⟩ := ((unhide HR).below hB).at hkl
      obtain ⟨ai', ci', d0, h4', h5', h6'⟩ := ((unhide HQ).below hB).at hkl
      have hkl' : (k : Int) < (st.length : Int) := by omega
      have hk0 : (0 : Int) ≤ (k : Int) := by omega
      generalize st[k] = f at *
      have hS0 := And.intro (h6.str h4 h5) (And.intro (h6'.str h4' h5') (And.intro c0 (And.intro d0 hB)))
      have HST : Hid (Stable (fun w' => StrAt w' (.slice ai f.length ci) f ∧ StrAt w' (.slice ai' f.length ci') f ∧ w'.cell? ⟨b, off + k, none⟩ = some (.slice ai f.length ci) ∧ w'.cell? ⟨b', off' + k, none⟩ = some (.slice ai' f.length ci') ∧ Below w.heap.size w w')) :=
        (Stable.strAt _ _).and ((Stable.strAt _ _).and ((Stable.cell _ _).and ((Stable.cell _ _).and (Stable.below w))))
      clear c0 d0 hB h6 h6'
      go_wp2_with fail
      go_region_held3 (fun w' => StrAt w' (.slice ai f.length ci) f ∧ StrAt w' (.slice ai' f.length ci') f ∧ w'.cell? ⟨b, off + k, none⟩ = some (.slice ai f.length ci) ∧ w'.cell? ⟨b', off' + k, none⟩ = some (.slice ai' f.length ci') ∧ Below w.heap.size w w')
        (first | assumption | (refine (unhide HST).1 _ _ hbk ?_; assumption) | (refine (unhide HST).2 _ ?_; assumption))
        (first | (go_at_call 50; refine (eqStringS_same _ _ f _ (by apply s0; assumption) (by apply s1; assumption)).mono ?_; rintro e wk1 ⟨rfl, hbk⟩))
      have hS1 : (fun w' => StrAt w' (.slice ai f.length ci) f ∧ StrAt w' (.slice ai' f.length ci') f ∧ w'.cell? ⟨b, off + k, none⟩ = some (.slice ai f.length ci) ∧ w'.cell? ⟨b', off' + k, none⟩ = some (.slice ai' f.length ci') ∧ Below w.heap.size w w') wk1 := by assumption
      have hB1 := hS1.2.2.2.2
      clear hS0 hS1
      go_wp2_with fail
      exact ⟨⟨k + 1, by omega, by go_num, hB1⟩, by simp [intOf]; omega⟩
    · go_wp2_with fail
      go_ret
      exact ⟨rfl, hB⟩
set_option maxHeartbeats 4000000 in
theorem toLay_any (na sa : Option Addr) (nc sc : Nat) (ns : List Int) (st : List (List ByteArray)) (w : World) (hl1 : ns.length ≤ 1048576) (hl2 : FewT st) (h1 : ns.length ≤ nc) (h2 : nc ≤ maxLen) (h3 : st.length ≤ sc) (h4 : sc ≤ maxLen) (hs : NumRow w na ns) (ho : TextsRow w sa st) :
    Calls Tryz.prog 8 #[.agg #[.slice na ns.length nc, .slice sa st.length sc]] w fun e w' => ∃ R S : Nat, w.heap.size ≤ R ∧ R < S ∧ S < w'.heap.size ∧ e = .returned (.agg #[.slice (some ⟨R, 0, none⟩) ns.length ns.length, .slice (some ⟨S, 0, none⟩) st.length st.length]) ∧ OwnNums w' R ns ns.length ∧ OwnTexts w' S st st.length ∧ Below w.heap.size w w' := by
  have HS := hide hs
  have HN := hide ho
  clear hs ho
  have hB0 := below_alloc3 w (.cells #[.slice na ns.length nc, .slice sa st.length sc] 26) (.cells #[.slice none 0 0, .slice none 0 0] 33) (.cells #[.slice none 0 0, .slice none 0 0] 33)
  have n0 := new_block w (.cells #[.slice na ns.length nc, .slice sa st.length sc] 26)
  have n1 := new_block (w.alloc (.cells #[.slice na ns.length nc, .slice sa st.length sc] 26)) (.cells #[.slice none 0 0, .slice none 0 0] 33)
  have n2 := new_block ((w.alloc (.cells #[.slice na ns.length nc, .slice sa st.length sc] 26)).alloc (.cells #[.slice none 0 0, .slice none 0 0] 33)) (.cells #[.slice none 0 0, .slice none 0 0] 33)
  replace n0 := box_below (box_below n0 (below_alloc1 _ (.cells #[.slice none 0 0, .slice none 0 0] 33))) (below_alloc1 _ (.cells #[.slice none 0 0, .slice none 0 0] 33))
  replace n1 := box_below n1 (below_alloc1 _ (.cells #[.slice none 0 0, .slice none 0 0] 33))
  simp only [World.size_alloc] at n1 n2
  have HX := hide n0
  have HY := hide n1
  have HZ := hide n2
  have hR0 := (Array.getElem?_eq_some_iff.1 n2).1
  clear n0 n1 n2
  go_enter Tryz.func8, Tryz.ntmps8
  go_wp2_with fail
  refine (toIntS_any na nc ns _ hl1 h1 h2 ((unhide HS).below hB0)).mono ?_
  rintro e w1 ⟨rfl, hO, hb1⟩
  simp only [World.size_alloc] at hO hR0
  have HO := hide hO
  have hR3 : w.heap.size + 1 + 1 + 1 < w1.heap.size := by obtain ⟨C, hC, _⟩ := hO; exact (Array.getElem?_eq_some_iff.1 hC).1
  replace HX := hide (box_below (unhide HX) hb1)
  replace HY := hide (box_below (unhide HY) hb1)
  replace HZ := hide (box_below (unhide HZ) hb1)
  have hB1 := bl_trans hB0 hb1
  clear hB0 hb1 hO hR0
  have hX := box2 (unhide HX)
  have hZ := box2 (unhide HZ)
  go_wp2_with fail
  clear hX hZ
  replace HX := hide (set_other (o := 0) (v := .slice (some ⟨w.heap.size + 1 + 1 + 1, 0, none⟩) ns.length ns.length) (unhide HX) (show w.heap.size + 1 + 1 ≠ w.heap.size by omega))
  replace HY := hide (set_other (o := 0) (v := .slice (some ⟨w.heap.size + 1 + 1 + 1, 0, none⟩) ns.length ns.length) (unhide HY) (show w.heap.size + 1 + 1 ≠ w.heap.size + 1 by omega))
  replace HZ : Hid ((w1.setCell ⟨w.heap.size + 1 + 1, 0, none⟩ (.slice (some ⟨w.heap.size + 1 + 1 + 1, 0, none⟩) ns.length ns.length)).heap[w.heap.size + 1 + 1]? = some (.cells #[.slice (some ⟨w.heap.size + 1 + 1 + 1, 0, none⟩) ns.length ns.length, .slice none 0 0] 33)) := block_setCell (unhide HZ) _
  replace HO := hide ((unhide HO).set (B := w.heap.size + 1 + 1) (o := 0) (by omega) (.slice (some ⟨w.heap.size + 1 + 1 + 1, 0, none⟩) ns.length ns.length))
  replace hB1 : Below w.heap.size w (w1.setCell ⟨w.heap.size + 1 + 1, 0, none⟩ (.slice (some ⟨w.heap.size + 1 + 1 + 1, 0, none⟩) ns.length ns.length)) := hB1.setCell (by show w.heap.size ≤ w.heap.size + 1 + 1; omega) _
  have hR4 : w.heap.size + 1 + 1 + 1 < (w1.setCell ⟨w.heap.size + 1 + 1, 0, none⟩ (.slice (some ⟨w.heap.size + 1 + 1 + 1, 0, none⟩) ns.length ns.length)).heap.size := by simpa using hR3
  clear hR3
  generalize w1.setCell ⟨w.heap.size + 1 + 1, 0, none⟩ (.slice (some ⟨w.heap.size + 1 + 1 + 1, 0, none⟩) ns.length ns.length) = w4 at *
  refine (toStringSS_any sa sc st _ hl2 h3 h4 ((unhide HN).below hB1)).mono ?_
  rintro e w5 ⟨rfl, hQ, hb5⟩
  have hS5 : w4.heap.size < w5.heap.size := by obtain ⟨C, Rs, hC, _⟩ := hQ; exact (Array.getElem?_eq_some_iff.1 hC).1
  replace HX := hide (box_below (unhide HX) hb5)
  replace HY := hide (box_below (unhide HY) hb5)
  replace HZ := hide (box_below (unhide HZ) hb5)
  replace HO := hide ((unhide HO).below hb5)
  have hB5 := bl_trans hB1 hb5
  have HQ := hide hQ
  clear hB1 hb5 hQ
  generalize w4.heap.size = S at *
  have hX := box2 (unhide HX)
  have hY := box2 (unhide HY)
  have hZ := box2 (unhide HZ)
  go_wp2_with fail
  refine bodyPost_ret (v := .agg #[.slice (some ⟨w.heap.size + 1 + 1 + 1, 0, none⟩) ns.length ns.length, .slice (some ⟨S, 0, none⟩) st.length st.length]) (by simp [results, Tryz.results8, go_sem, hY]) rfl ⟨w.heap.size + 1 + 1 + 1, S, by omega, hR4, by simpa using hS5, rfl, ?_, ?_, ?_⟩
  · repeat (with_reducible refine OwnNums.set ?_ (by omega) _)
    exact unhide HO
  · repeat (with_reducible refine OwnTexts.set ?_ (by omega) _)
    exact unhide HQ
  · repeat (with_reducible refine Below.setCell ?_ (by first | (show w.heap.size ≤ w.heap.size + 1 + 1; omega) | (show w.heap.size ≤ w.heap.size + 1; omega)) _)
    exact hB5
set_option maxHeartbeats 2000000 in
theorem eqLay_same (na sa na' sa' : Option Addr) (nc sc nc' sc' : Nat) (ns : List Int) (st : List (List ByteArray)) (w : World) (h1 : ns.length ≤ nc) (h2 : nc ≤ maxLen) (h3 : st.length ≤ sc) (h4 : sc ≤ maxLen) (hs : NumRow w na ns) (ho : TextsRow w sa st) (hs' : NumRow w na' ns) (ho' : TextsRow w sa' st) :
    Calls Tryz.prog 12 #[.agg #[.slice na ns.length nc, .slice sa st.length sc], .agg #[.slice na' ns.length nc', .slice sa' st.length sc']] w fun e w' => e = .returned (.bool true) ∧ Below w.heap.size w w' := by
  have HS := hide (And.intro hs (And.intro ho (And.intro hs' ho')))
  clear hs ho hs' ho'
  have hB0 := below_alloc2 w (.cells #[.slice na ns.length nc, .slice sa st.length sc] 33) (.cells #[.slice na' ns.length nc', .slice sa' st.length sc'] 33)
  have n0 := box_below (new_block w (.cells #[.slice na ns.length nc, .slice sa st.length sc] 33)) (below_alloc1 _ (.cells #[.slice na' ns.length nc', .slice sa' st.length sc'] 33))
  have n1 := new_block (w.alloc (.cells #[.slice na ns.length nc, .slice sa st.length sc] 33)) (.cells #[.slice na' ns.length nc', .slice sa' st.length sc'] 33)
  simp only [World.size_alloc] at n1
  have HX := hide n0
  have HY := hide n1
  clear n0 n1
  go_enter Tryz.func12, Tryz.ntmps12
  go_wp2_with fail
  refine (eqIntS_same na na' _ _ ns _ h1 h2 ((unhide HS).1.below hB0) ((unhide HS).2.2.1.below hB0)).mono ?_
  rintro e w2 ⟨rfl, hb2⟩
  replace HX := hide (box_below (unhide HX) hb2)
  replace HY := hide (box_below (unhide HY) hb2)
  have hB2 := bl_trans hB0 hb2
  clear hB0 hb2
  have hX := box2 (unhide HX)
  have hY := box2 (unhide HY)
  go_wp2_with fail
  refine (eqStringSS_same sa sa' _ _ st _ h3 h4 ((unhide HS).2.1.below hB2) ((unhide HS).2.2.2.below hB2)).mono ?_
  rintro e w3 ⟨rfl, hb3⟩
  have hB3 := bl_trans hB2 hb3
  clear hB2 hb3 hX hY
  go_wp2_with fail
  go_ret
  exact ⟨rfl, hB3⟩
end Go.Proofs.YthbbmookhcalkaaGreat.LayA
