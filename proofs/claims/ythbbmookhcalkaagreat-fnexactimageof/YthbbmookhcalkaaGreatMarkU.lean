/- The contract of the helper that writes marks into units. -/
import Derived.Test.YthbbmookhcalkaaGreatUU
import Derived.Test.YthbbmookhcalkaaGreatMarkF
namespace Go.Proofs.YthbbmookhcalkaaGreat.MarkU
open Go.ChangeShapes Go.WideShapes Go.ChangeAt Go.RowKit Go.Joins
open Go.Proofs.YthbbmookhcalkaaGreat.Base Go.Proofs.YthbbmookhcalkaaGreat.InsA Go.Proofs.YthbbmookhcalkaaGreat.Funs Go.Proofs.YthbbmookhcalkaaGreat.Open Go.Proofs.YthbbmookhcalkaaGreat.Keep Go.Proofs.YthbbmookhcalkaaGreat.Units Go.Proofs.YthbbmookhcalkaaGreat.Refs Go.Proofs.YthbbmookhcalkaaGreat.Mark Go.Proofs.YthbbmookhcalkaaGreat.MarkF Go.Proofs.YthbbmookhcalkaaGreat.UU
set_option linter.unusedVariables false
set_option maxRecDepth 100000

/-- How many marks functions take. -/
def cntL (ls : Nat → Nat) : Nat → Nat
  | 0 => 0
  | n + 1 => cntL ls n + (2 + ls n * 3)
theorem cntL_le {ls : Nat → Nat} {j : Nat} : ∀ n, j < n → cntL ls j + (2 + ls j * 3) ≤ cntL ls n
  | 0, h => by omega
  | n + 1, h => by
    rw [cntL]
    by_cases e : j = n
    · subst e; omega
    · have := cntL_le (ls := ls) n (show j < n by omega); omega

set_option maxHeartbeats 2000000 in
theorem markFunS_all (R E n cap k : Nat) (Rs ls : Nat → Nat) (hRE : R < E) (hk : 0 < k) (hn : n ≤ 1048576) (hbd : k + cntL ls n ≤ 1125899906842624) (w : World) (hM : MFun w R E Rs ls n) :
    Calls Tryz.prog 13 #[.slice (some ⟨R, 0, none⟩) n cap, .int .i64 k] w fun e w' => e = .returned (.int .i64 ((k + cntL ls n : Nat) : Int)) ∧ MFun w' R E Rs ls n ∧ Mid R E w w' := by
  have HM := hide hM
  clear hM
  go_enter Tryz.func13, Tryz.ntmps13
  go_wp2_with fail
  go_loopw [1, 5] (fun kk i w' => ∃ j q : Nat, j ≤ n ∧ i = .int .i64 j ∧ kk = .int .i64 (q : Int) ∧ q = k + cntL ls j ∧ MFun w' R E Rs ls n ∧ Mid R E w w') (fun _ i _ => n - (intOf i).toNat)
  case atStart => exact ⟨0, k, Nat.zero_le _, rfl, rfl, rfl, unhide HM, Mid.refl _ _ _⟩
  case round =>
    obtain ⟨j, q, hj, rfl, rfl, hq, hM, hb⟩ := hrel
    have HM := hide hM
    clear hM
    by_cases hjl : j < n
    · have hjl' : (j : Int) < (n : Int) := by omega
      have hlj := cntL_le (ls := ls) n hjl
      have hq0 : 0 < q := by omega
      have hqc : q + 1 + 1 + ls j * 3 ≤ 1125899906842624 := by omega
      have HQ : Hid (q + 1 + 1 + ls j * 3 = k + cntL ls (j + 1)) := by show _ = _; rw [cntL, hq]; omega
      clear hq hlj
      go_wp2_with fail
      refine (markText_any q hq0 (by omega) _).mono ?_
      rintro e w1 ⟨rfl, hb1⟩
      have hb' := hb.below hb1
      have HM1 := hide ((unhide HM).below hb1)
      clear hb1 hb HM
      obtain ⟨C, hC, hz, h2, h3⟩ := unhide HM1
      obtain ⟨v0, e0⟩ : ∃ v, w1.cell? ⟨R, j * 3, none⟩ = some v := ⟨C[j * 3]'(by omega), by rw [cell_of_block hC]; exact Array.getElem?_eq_getElem _⟩
      obtain ⟨v1, e1⟩ : ∃ v, w1.cell? ⟨R, j * 3 + 1, none⟩ = some v := ⟨C[j * 3 + 1]'(by omega), by rw [cell_of_block hC]; exact Array.getElem?_eq_getElem _⟩
      have e2 : w1.cell? ⟨R, j * 3 + 2, none⟩ = some (.slice (some ⟨Rs j, 0, none⟩) (ls j) (ls j)) := by rw [cell_of_block hC]; exact h2 j hjl
      have g0 := unfrozen_of_block hC (j * 3)
      have g1 := unfrozen_of_block hC (j * 3 + 1)
      have g2 := unfrozen_of_block hC (j * 3 + 2)
      obtain ⟨a3, b3, _⟩ := h3 j hjl
      clear hC hz h2 h3
      have hq' : (q : Int) ≤ 1125899906842622 := by omega
      have hq0' : (0 : Int) < (q : Int) := by omega
      go_wp2_with fail
      have HM2 := hide (((unhide HM1).set (j := j * 3) (.string (mk q)) (fun i _ => by omega)).set (j := j * 3 + 1) (.bool (((q : Int) + 1) % 3 == 0)) (fun i _ => by omega))
      have hb2 := (hb'.set (Nat.le_refl R) hRE (j * 3) (.string (mk q))).set (Nat.le_refl R) hRE (j * 3 + 1) (.bool (((q : Int) + 1) % 3 == 0))
      clear e0 e1 e2 g0 g1 g2 hb' HM1
      refine (markInsS_any (Rs j) (ls j) (ls j) (q + 1 + 1) (ls j * 3) (by omega) (by omega) (Nat.le_refl _) _ ((unhide HM2).marked hjl)).mono ?_
      rintro e w3 ⟨rfl, hm3, hb3⟩
      have HM3 := hide ((unhide HM2).mark hjl hb3 hm3)
      have hb4 := hb2.but (Nat.le_of_lt a3) b3 hb3
      clear hm3 hb3 hb2 HM2
      generalize hq3 : q + 1 + 1 + ls j * 3 = q3 at *
      go_wp2_with fail
      exact ⟨⟨j + 1, q3, by omega, by go_num, rfl, unhide HQ, unhide HM3, hb4⟩, by simp [intOf]; omega⟩
    · have hjl' : ¬ (j : Int) < (n : Int) := by omega
      have hje : j = n := by omega
      subst hje
      subst hq
      go_wp2_with fail
      go_ret
      exact ⟨rfl, unhide HM, hb⟩

theorem MFun.mid {w w' : World} {R E R1 E1 n : Nat} {Rs ls : Nat → Nat} (h : MFun w R E Rs ls n) (hm : Mid R1 E1 w w') (hap : E ≤ R1 ∨ E1 ≤ R) (hRE : R < E) : MFun w' R E Rs ls n := by
  obtain ⟨C, hC, hz, h2, h3⟩ := h
  exact ⟨C, hm.box hC (by omega), hz, h2, fun i hi => by obtain ⟨a, b, D, hD, hs⟩ := h3 i hi; exact ⟨a, b, D, hm.box hD (by omega), hs⟩⟩
theorem Mid.wide {R E R1 E1 : Nat} {w w' : World} (h : Mid R1 E1 w w') (hR : R ≤ R1) (hE : E1 ≤ E) : Mid R E w w' :=
  ⟨h.os, h.tape, h.output, h.size, fun k hk hr => h.block k hk (by omega)⟩
/-- Units whose cells lie in block R, each in blocks of its own up to E. -/
def MUnits (w : World) (R E : Nat) (Rs Es : Nat → Nat) (Qs ls : Nat → Nat → Nat) (ns : Nat → Nat) (n : Nat) : Prop :=
  ∃ C, w.heap[R]? = some (.cells C 31 (0, 0)) ∧ C.size = n ∧ (∀ i, i < n → C[i]? = some (.slice (some ⟨Rs i, 0, none⟩) (ns i) (ns i))) ∧ (∀ i, i < n → R < Rs i ∧ Rs i < Es i ∧ Es i ≤ E ∧ MFun w (Rs i) (Es i) (Qs i) (ls i) (ns i)) ∧ ∀ i j, i < j → j < n → Es i ≤ Rs j
theorem MUnits.below {w w' : World} {R E n : Nat} {Rs Es ns : Nat → Nat} {Qs ls : Nat → Nat → Nat} (h : MUnits w R E Rs Es Qs ls ns n) (hb : Below w.heap.size w w') : MUnits w' R E Rs Es Qs ls ns n := by
  obtain ⟨C, hC, hz, h2, h3, h4⟩ := h
  exact ⟨C, box_below hC hb, hz, h2, fun i hi => by obtain ⟨a, b, c, d⟩ := h3 i hi; exact ⟨a, b, c, d.below hb⟩, h4⟩
theorem MUnits.mark {w w' : World} {R E n j : Nat} {Rs Es ns : Nat → Nat} {Qs ls : Nat → Nat → Nat} (h : MUnits w R E Rs Es Qs ls ns n) (hj : j < n) (hm : Mid (Rs j) (Es j) w w') (hM : MFun w' (Rs j) (Es j) (Qs j) (ls j) (ns j)) : MUnits w' R E Rs Es Qs ls ns n := by
  obtain ⟨C, hC, hz, h2, h3, h4⟩ := h
  refine ⟨C, hm.box hC (.inl (h3 j hj).1), hz, h2, fun i hi => ?_, h4⟩
  obtain ⟨a, b, c, d⟩ := h3 i hi
  refine ⟨a, b, c, ?_⟩
  by_cases e : i = j
  · subst e; exact hM
  · rcases Nat.lt_or_gt_of_ne e with h | h
    · exact MFun.mid d hm (.inl (h4 i j h hj)) b
    · exact MFun.mid d hm (.inr (h4 j i h hi)) b
def bodyLen (u : List FunD) (i : Nat) : Nat := (u.getD i default).body.length
theorem OwnFE.mfun {w : World} {R E : Nat} {fs : List FunD} (h : OwnFE w R E fs) : ∃ Rs, MFun w R E Rs (bodyLen fs) fs.length := by
  obtain ⟨C, Rs, hC, ⟨hz, hF⟩, hRE, hE⟩ := h
  refine ⟨Rs, C, hC, hz, fun i hi => ?_, fun i hi => ?_⟩
  · obtain ⟨_, _, h2, _⟩ := hF i hi hi
    simpa [bodyLen, List.getD, List.getElem?_eq_getElem hi] using h2
  · obtain ⟨_, _, _, h3, D, hD, hS⟩ := hF i hi hi
    exact ⟨h3, hE i hi, D, hD, by simpa [bodyLen, List.getD, List.getElem?_eq_getElem hi] using hS.1⟩
def unitLen (us : List (List FunD)) (i : Nat) : Nat := (us.getD i []).length
def bodyLens (us : List (List FunD)) (i : Nat) : Nat → Nat := bodyLen (us.getD i [])
theorem OwnUnits.munits {w : World} {R : Nat} {us : List (List FunD)} (h : OwnUnits w R us us.length) : ∃ Rs Es Qs, MUnits w R w.heap.size Rs Es Qs (bodyLens us) (unitLen us) us.length := by
  obtain ⟨C, Rs, Es, hC, hz, hF, hap⟩ := h
  have : ∀ i, ∃ Q : Nat → Nat, i < us.length → MFun w (Rs i) (Es i) Q (bodyLens us i) (unitLen us i) := fun i => by
    by_cases hi : i < us.length
    · obtain ⟨_, _, _, h4⟩ := hF i hi hi
      obtain ⟨Q, hQ⟩ := OwnFE.mfun h4
      exact ⟨Q, fun _ => by simpa [bodyLens, unitLen, List.getD, List.getElem?_eq_getElem hi] using hQ⟩
    · exact ⟨fun _ => 0, fun h => absurd h hi⟩
  obtain ⟨Qs, hQs⟩ := Classical.axiomOfChoice this
  refine ⟨Rs, Es, Qs, C, hC, hz, fun i hi => ?_, fun i hi => ?_, hap⟩
  · obtain ⟨h0, _⟩ := hF i hi hi
    simpa [unitLen, List.getD, List.getElem?_eq_getElem hi] using h0
  · obtain ⟨_, h3, h5, C', Rs', _, _, hRE, _⟩ := hF i hi hi
    exact ⟨h3, hRE, h5, hQs i hi⟩

/-- How many marks units take. -/
def cntU (ls : Nat → Nat → Nat) (ns : Nat → Nat) : Nat → Nat
  | 0 => 0
  | n + 1 => cntU ls ns n + cntL (ls n) (ns n)
theorem cntU_le {ls : Nat → Nat → Nat} {ns : Nat → Nat} {j : Nat} : ∀ n, j < n → cntU ls ns j + cntL (ls j) (ns j) ≤ cntU ls ns n
  | 0, h => by omega
  | n + 1, h => by
    rw [cntU]
    by_cases e : j = n
    · subst e; omega
    · have := cntU_le (ls := ls) (ns := ns) n (show j < n by omega); omega
theorem cntL_ge (ls : Nat → Nat) : ∀ n, n * 2 ≤ cntL ls n
  | 0 => Nat.le_refl _
  | n + 1 => by have := cntL_ge ls n; rw [cntL]; omega


/-- What the sizes leave room for. -/
def lenF (fs : List FunD) : Nat := (fs.map fun f => f.body.length).sum
theorem szL_le (xs : List InsD) : ∀ l : Int, 0 ≤ l → szL xs l ≤ l := by
  induction xs with
  | nil => intro l _; exact Int.le_refl _
  | cons x r ih =>
    intro l h0
    simp only [szL]
    by_cases h : szI l x.s.size < 0
    · rw [if_pos h]; omega
    · rw [if_neg h]
      have h1 := ih _ (show 0 ≤ szI l x.s.size by omega)
      have h2 : szI l x.s.size ≤ l := by unfold szI; split <;> omega
      omega
theorem szF_le {nm : ByteArray} {xs : List InsD} {l : Int} (h0 : 0 ≤ l) (h : 0 ≤ szF nm xs l) : szF nm xs l + xs.length ≤ l := by
  unfold szF at h ⊢
  by_cases hn : szI l nm.size < 0
  · rw [if_pos hn] at h; omega
  · rw [if_neg hn] at h ⊢
    unfold szLs at h ⊢
    by_cases hm : szI l nm.size - xs.length < 0
    · rw [if_pos hm] at h; omega
    · rw [if_neg hm] at h ⊢
      have h1 := szL_le xs (szI l nm.size - xs.length) (by omega)
      have h2 : szI l nm.size ≤ l := by unfold szI; split <;> omega
      omega
theorem szFL_le (fs : List FunD) : ∀ l : Int, 0 ≤ l → 0 ≤ szFL fs l → szFL fs l + lenF fs ≤ l := by
  induction fs with
  | nil => intro l _ _; simp [szFL, lenF]
  | cons f r ih =>
    intro l h0 h
    simp only [szFL] at h ⊢
    by_cases hn : szF f.nm f.body l < 0
    · rw [if_pos hn] at h; omega
    · rw [if_neg hn] at h ⊢
      have h1 := ih _ (by omega) h
      have h2 := szF_le (nm := f.nm) (xs := f.body) h0 (by omega)
      have e : lenF (f :: r) = f.body.length + lenF r := by simp [lenF]
      rw [e]; omega
theorem szFs_le {fs : List FunD} {l : Int} (h0 : 0 ≤ l) (h : 0 ≤ szFs fs l) : szFs fs l + fs.length + lenF fs ≤ l := by
  unfold szFs at h ⊢
  by_cases hn : l - fs.length < 0
  · rw [if_pos hn] at h; omega
  · rw [if_neg hn] at h ⊢
    have := szFL_le fs _ (by omega) h
    omega
def lenU (us : List (List FunD)) : Nat := (us.map fun u => u.length + lenF u).sum
theorem cntL_len (fs : List FunD) : ∀ n, n ≤ fs.length → cntL (bodyLen fs) n ≤ 2 * n + 3 * lenF (fs.take n)
  | 0, _ => Nat.le_refl _
  | n + 1, hn => by
    have ih := cntL_len fs n (by omega)
    have e : lenF (fs.take (n + 1)) = lenF (fs.take n) + fs[n].body.length := by
      unfold lenF
      rw [List.take_succ_eq_append_getElem (by omega), List.map_append, List.sum_append]
      simp
    have e2 : bodyLen fs n = fs[n].body.length := by simp [bodyLen, List.getD, List.getElem?_eq_getElem (show n < fs.length by omega)]
    rw [cntL, e, e2]
    omega
theorem cntU_len (us : List (List FunD)) : ∀ n, n ≤ us.length → cntU (bodyLens us) (unitLen us) n ≤ 3 * lenU (us.take n)
  | 0, _ => Nat.le_refl _
  | n + 1, hn => by
    have ih := cntU_len us n (by omega)
    have e : lenU (us.take (n + 1)) = lenU (us.take n) + (us[n].length + lenF us[n]) := by
      unfold lenU
      rw [List.take_succ_eq_append_getElem (by omega), List.map_append, List.sum_append]
      simp
    have e1 : us.getD n [] = us[n] := by simp [List.getD, List.getElem?_eq_getElem (show n < us.length by omega)]
    have h1 := cntL_len us[n] us[n].length (Nat.le_refl _)
    rw [List.take_length] at h1
    rw [cntU, e, bodyLens, unitLen, e1]
    omega
end Go.Proofs.YthbbmookhcalkaaGreat.MarkU
