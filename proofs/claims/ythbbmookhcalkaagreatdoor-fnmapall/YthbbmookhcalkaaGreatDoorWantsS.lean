/- The contracts of the specification's l2Put, l2Wants. -/
import Derived.Test.YthbbmookhcalkaaGreatDoorPkbd957d2b
import Derived.Test.YthbbmookhcalkaaGreatDoorPk3f82c290
import Derived.Deep.AppendLies
import Derived.Maps.Range
namespace Go.Proofs.YthbbmookhcalkaaGreatDoor.WantsS
open Go.ChangeShapes Go.WideShapes Go.ChangeAt Go.RowKit Go.Joins
open Go.Proofs.YthbbmookhcalkaaGreatDoor.Base Go.Proofs.YthbbmookhcalkaaGreatDoor.InsA Go.Proofs.YthbbmookhcalkaaGreatDoor.InsB Go.Proofs.YthbbmookhcalkaaGreatDoor.Funs Go.Proofs.YthbbmookhcalkaaGreatDoor.Open Go.Proofs.YthbbmookhcalkaaGreatDoor.FunS Go.Proofs.YthbbmookhcalkaaGreatDoor.Keep Go.Proofs.YthbbmookhcalkaaGreatDoor.UnitS Go.Proofs.YthbbmookhcalkaaGreatDoor.Refs Go.Proofs.YthbbmookhcalkaaGreatDoor.Mark
set_option linter.unusedVariables false
set_option maxRecDepth 100000

def ltS (t s : ByteArray) : Bool := Op.bytesLess t.toList s.toList
/-- A text put among others, at the place k. -/
def putAt (ss : List ByteArray) (s : ByteArray) (k : Nat) : List ByteArray := ss.take k ++ [s] ++ ss.drop k
/-- What l2Put makes of a list. -/
def Put (ss : List ByteArray) (s : ByteArray) (out : List ByteArray) : Prop :=
  ∃ k, k ≤ ss.length ∧ (∀ i (h : i < ss.length), i < k → ltS ss[i] s = true) ∧ ((∃ h : k < ss.length, ss[k].toList = s.toList ∧ out = ss) ∨ ((∀ h : k < ss.length, ltS ss[k] s = false ∧ ss[k].toList ≠ s.toList) ∧ out = putAt ss s k))
theorem putAt_len (ss : List ByteArray) (s : ByteArray) {k : Nat} (hk : k ≤ ss.length) : (putAt ss s k).length = ss.length + 1 := by simp [putAt]; omega
theorem own_some {w : World} {B : Nat} {e : TypeId} {z n : Nat} {v : Value} {xs : List Value} (h : w.ownsRow B e z v n xs) (hn : v ≠ .slice none 0 0) : ∃ g c, v = .slice (some ⟨g, 0, none⟩) n c ∧ B ≤ g ∧ g < w.heap.size := by
  obtain ⟨_, ⟨rfl, _⟩ | ⟨g, cap, cur, rfl, hB, hg, _⟩⟩ := h
  · exact absurd rfl hn
  · exact ⟨g, cap, rfl, hB, (Array.getElem?_eq_some_iff.1 hg).1⟩
theorem own_take {w : World} {B g cap : Nat} {ss : List ByteArray} (h : StrOwn w B (.slice (some ⟨g, 0, none⟩) ss.length cap) ss) {k : Nat} (hk : k ≤ ss.length) : w.ownsRow B 9 1 (.slice (some ⟨g, 0, none⟩) k cap) k ((ss.take k).map Value.string) := by
  obtain ⟨_, ⟨hv, _⟩ | ⟨g', cap', cur, hv, hB, hg, hn, hm, hsz, ht⟩⟩ := h
  · simp at hv
  · simp only [Value.slice.injEq, Option.some.injEq, Addr.mk.injEq, and_true, true_and] at hv
    obtain ⟨rfl, rfl⟩ := hv
    refine ⟨by simp; omega, .inr ⟨g, cap, cur, rfl, hB, hg, by omega, hm, hsz, ?_⟩⟩
    have h1 : cur.toList.take (k * 1) = (cur.toList.take (ss.length * 1)).take k := by rw [List.take_take]; congr 1; omega
    rw [h1, ht, ← List.map_take]
theorem tail_cells {w : World} {B g cap : Nat} {ss : List ByteArray} (h : StrOwn w B (.slice (some ⟨g, 0, none⟩) ss.length cap) ss) (k : Nat) : ∀ j u, ((ss.drop k).map Value.string)[j]? = some u → w.cell? ((⟨g, k, none⟩ : Addr).add j) = some u := by
  intro j u hj
  obtain ⟨a', c', e, _, _, hc⟩ := h.at
  simp only [Value.slice.injEq, true_and] at e
  obtain ⟨rfl, rfl⟩ := e
  have hl : k + j < ss.length := by
    have := (List.getElem?_eq_some_iff.1 hj).1
    simp at this
    omega
  obtain h0 | ⟨b, off, e, hc⟩ := hc
  · rw [h0] at hl; simp at hl
  · simp only [Option.some.injEq, Addr.mk.injEq, and_true] at e
    obtain ⟨rfl, rfl⟩ := e
    rw [add_plain]
    have := hc (k + j) hl
    simp only [Nat.zero_add] at this
    rw [this]
    simp [List.getElem?_eq_getElem hl] at hj
    rw [hj]
theorem str_one : ∀ (l : List ByteArray), ∀ u ∈ l.map Value.string, u.oneCell' = true := by
  intro l u hu
  obtain ⟨x, _, rfl⟩ := List.mem_map.1 hu
  rfl
theorem row_cells {w : World} {B g : Nat} {e : TypeId} {n cap : Nat} {xs : List Value} (h : w.ownsRow B e 1 (.slice (some ⟨g, 0, none⟩) n cap) n xs) : ∀ j u, xs[j]? = some u → w.cell? ((⟨g, 0, none⟩ : Addr).add j) = some u := h.cells rfl

theorem put_own {w : World} {B k : Nat} {v : Value} {ss : List ByteArray} {s : ByteArray} (hk : k ≤ ss.length) (h : w.ownsRow B 9 1 v (k + 1 + (ss.length - k)) ((ss.take k).map Value.string ++ [.string s] ++ (ss.drop k).map Value.string)) : StrOwn w B v (putAt ss s k) := by
  unfold StrOwn
  rw [putAt_len ss s hk, show ss.length + 1 = k + 1 + (ss.length - k) by omega]
  simpa [putAt] using h
theorem put_but {w w1 w2 w3 : World} {g g2 : Nat} {o1 o2 : Obj} (h1 : (w.alloc o1).grownBy w1 (some w.heap.size)) (h2 : (w1.alloc o2).grownBy w2 (some g)) (hat : g2 = g ∨ w.heap.size ≤ g2) (h3 : w2.grownBy w3 (some g2)) : But g w w3 :=
  ((World.grownBy_alloc w o1 (some g)).andThen h1 (fun j hj => .inl (by cases hj; exact Nat.le_refl _))).andThen ((World.grownBy_alloc w1 o2 (some g)).trans h2) (fun j hj => .inr hj) |>.andThen h3 (fun j hj => by cases hj; rcases hat with h | h; exact .inr (by rw [h]); exact .inl h)

set_option maxHeartbeats 4000000 in
theorem specPut_any (B g cap : Nat) (ss : List ByteArray) (s : ByteArray) (w : World) (hlen : ss.length ≤ 1000) (hB : B ≤ w.heap.size) (hO : StrOwn w B (.slice (some ⟨g, 0, none⟩) ss.length cap) ss) :
    Calls Tryz.prog 133 #[.slice (some ⟨g, 0, none⟩) ss.length cap, .string s] w fun e w' => ∃ g' cap' out, Put ss s out ∧ (g' = g ∨ w.heap.size ≤ g') ∧ e = .returned (.slice (some ⟨g', 0, none⟩) out.length cap') ∧ StrOwn w' B (.slice (some ⟨g', 0, none⟩) out.length cap') out ∧ But g w w' := by
  have HO := hide hO
  have hgw : g < w.heap.size := (World.ownsRow.lt hO g rfl).2
  obtain ⟨a1, c1, e1, hcap, hcm, hcc⟩ := hO.at
  obtain ⟨rfl, rfl⟩ : some ⟨g, 0, none⟩ = a1 ∧ cap = c1 := by simpa using e1
  have HC : Hid (∀ i (h : i < ss.length), w.cell? ⟨g, i, none⟩ = some (.string ss[i])) := fun i h => by
    rcases hcc with h0 | ⟨b, off, e, hc⟩
    · rw [h0] at h; simp at h
    · simp at e
      obtain ⟨rfl, rfl⟩ := e
      simpa using hc i h
  clear hO hcc e1
  obtain ⟨i0, hi, hz0, hz1, hz2⟩ := info_parts infoStr
  go_enter Tryz.func133, Tryz.ntmps133
  go_wp2_with fail
  go_loopw [5] (fun i w' => ∃ k : Nat, k ≤ ss.length ∧ i = .int .i64 k ∧ Hid (∀ i (h : i < ss.length), i < k → ltS ss[i] s = true) ∧ Hid (w' = w)) (fun i _ => ss.length - (intOf i).toNat)
  case atStart => exact ⟨0, Nat.zero_le _, rfl, fun i h h0 => by omega, rfl⟩
  case round =>
    obtain ⟨k, hk, rfl, HN, HW⟩ := hrel
    obtain rfl : wr = w := unhide HW
    have hkc : (k : Int) ≤ (cap : Int) := by omega
    have hkl2 : (k : Int) ≤ (ss.length : Int) := by omega
    have HFIN : Hid (∀ (hlast : ∀ h : k < ss.length, ltS ss[k] s = false ∧ ss[k].toList ≠ s.toList), Put ss s (putAt ss s k)) := fun hlast => ⟨k, hk, unhide HN, .inr ⟨hlast, rfl⟩⟩
    have HTL := hide (tail_cells (w := wr.alloc (.cells #[] 9)) (World.ownsRow.alloc (unhide HO) (.cells #[] 9)) k)
    by_cases hkl : k < ss.length
    · have hkl' : (k : Int) < (ss.length : Int) := by omega
      have c0 := unhide HC k hkl
      have HX : Hid (ltS ss[k] s = true → ∀ i (h : i < ss.length), i < k + 1 → ltS ss[i] s = true) := fun h i hi hlt => by
        by_cases e : i = k
        · subst e; exact h
        · exact unhide HN i hi (by omega)
      cases hlt : Op.bytesLess ss[k].toList s.toList
      · cases hq : (ss[k].toList == s.toList)
        · have HLAST : ∀ h : k < ss.length, ltS ss[k] s = false ∧ ss[k].toList ≠ s.toList := fun h => ⟨hlt, by intro e; rw [e] at hq; simp at hq⟩
          generalize ss[k] = tt at c0 hlt hq
          go_wp2_with (first
            | (at_builtin; refine wpList_append_own _ rfl _ _ 60 rfl wr.heap.size 9 i0 (.string ⟨#[]⟩) 1 16 Tryz.underlying60 hi hz0 hz1 hz2 rfl (by decide) _ 0 [] rfl (str_made wr) ⟨g, k, none⟩ (ss.length - k) (cap - k) ((ss.drop k).map Value.string) rfl (by simp) (unhide HTL) (str_one _) (by unfold maxLen; omega) (by omega) (by simp) ?_; intro v1 w1 hown1 hgrow1 hnil1; obtain ⟨g1, c1, rfl, hg1, hg1w⟩ := own_some hown1 (fun e => by have h : Value.slice (some ⟨wr.heap.size, 0, none⟩) 0 0 = .slice none 0 0 := (hnil1.1 e).1; simp at h); have HP := hide (And.intro hown1 (And.intro (World.ownsRow.kept (World.ownsRow.alloc (unhide HO) (.cells #[] 9)) hgrow1 (.inr (show some g ≠ some wr.heap.size by simp; omega))) hgrow1)); have hs1 := hgrow1.size; simp only [World.size_alloc] at hs1; clear hown1 hgrow1 hnil1)
            | (at_builtin; refine wpList_append_lies _ rfl _ _ 60 rfl B 9 i0 (.string ⟨#[]⟩) 1 16 Tryz.underlying60 hi hz0 hz1 hz2 rfl (by decide) _ k ((ss.take k).map Value.string) rfl (World.ownsRow.alloc (own_take (unhide HP).2.1 hk) (.cells #[.string s] 9)) ⟨w1.heap.size, 0, none⟩ 1 1 [.string s] rfl rfl (cell_one_new _ _ _) (by simp [Value.oneCell']) (by omega) (by unfold maxLen; omega) (by omega) (by simp; omega) _ rfl ?_; intro g2 cap2 w2 hown2 hgrow2 hat2 hlt2; have HP2 := hide (And.intro hown2 (And.intro (World.ownsRow.kept (World.ownsRow.alloc (unhide HP).1 (.cells #[.string s] 9)) hgrow2 (.inr (show some g1 ≠ some g by simp; omega))) hgrow2)); have hat2' : g2 = g ∨ wr.heap.size ≤ g2 := (by rcases hat2 with h | h; exact .inl (by have h' : some g = some g2 := h; simp at h'; exact h'.symm); exact .inr (by simp at h; omega)); have hs2 := hgrow2.size; simp only [World.size_alloc] at hs2; clear hown2 hgrow2 hat2)
            | (at_builtin; refine wpList_append_own_at _ rfl _ _ 60 rfl B 9 i0 (.string ⟨#[]⟩) 1 16 Tryz.underlying60 hi hz0 hz1 hz2 rfl (by decide) _ (k + 1) ((ss.take k).map Value.string ++ [Value.string s]) rfl (unhide HP2).1 ⟨g1, 0, none⟩ (ss.length - k) c1 ((ss.drop k).map Value.string) rfl (by simp) (row_cells (unhide HP2).2.1) (str_one _) (by unfold maxLen; omega) (by omega) (by omega) ?_; intro v3 w3 hown3 hgrow3 hnil3 hloc3; obtain ⟨g3, c3, rfl, hg3, hg3w⟩ := own_some hown3 (fun e => by have h : Value.slice (some ⟨g2, 0, none⟩) (k + 1) cap2 = .slice none 0 0 := (hnil3.1 e).1; simp at h); have hg3' : g3 = g ∨ wr.heap.size ≤ g3 := (by rcases hloc3 with h | h; exact (by have h' : some g3 = some g2 := h; simp at h'; rw [h']; exact hat2'); exact .inr (by have h' : some g3 = some w2.heap.size := h; simp at h'; omega)); have HF := hide (And.intro (put_own hk hown3) (put_but (unhide HP).2.2 (unhide HP2).2.2 hat2' hgrow3)); clear hown3 hgrow3 hnil3)
            | go_in)
          go_ret
          exact ⟨g3, c3, putAt ss s k, unhide HFIN HLAST, hg3', (by show Ending.returned (Value.slice (some ⟨g3, 0, none⟩) (k + 1 + (ss.length - k)) c3) = _; rw [putAt_len ss s hk, show ss.length + 1 = k + 1 + (ss.length - k) by omega]), by rw [putAt_len ss s hk, show ss.length + 1 = k + 1 + (ss.length - k) by omega]; exact (unhide HF).1, (unhide HF).2⟩
        · have HSAME : Hid (Put ss s ss) := ⟨k, hk, unhide HN, .inl ⟨hkl, beq_iff_eq.1 hq, rfl⟩⟩
          generalize ss[k] = tt at *
          go_wp2_with fail
          go_ret
          exact ⟨g, cap, ss, unhide HSAME, .inl rfl, rfl, unhide HO, But.refl _ _⟩
      · generalize ss[k] = tt at *
        go_wp2_with fail
        exact ⟨⟨k + 1, by omega, by go_num, unhide HX hlt, trivial⟩, by simp [intOf]; omega⟩
    · have hkl' : ¬ (k : Int) < (ss.length : Int) := by omega
      have HLAST : ∀ h : k < ss.length, ltS ss[k] s = false ∧ ss[k].toList ≠ s.toList := fun h => absurd h hkl
      by_cases hck : cap = k
      · have hif : ∀ (x y : Option Addr), (if cap = k then x else y) = x := fun x y => if_pos hck
        have HTL0 : Hid (∀ j u, ((ss.drop k).map Value.string)[j]? = some u → (wr.alloc (.cells #[] 9)).cell? ((⟨g, 0, none⟩ : Addr).add j) = some u) := fun j u hj => by
          rw [List.drop_of_length_le (by omega)] at hj
          simp at hj
        have HCK := hide hck
        clear hck
        go_wp2_with (first
          | (at_builtin; refine wpList_append_own _ rfl _ _ 60 rfl wr.heap.size 9 i0 (.string ⟨#[]⟩) 1 16 Tryz.underlying60 hi hz0 hz1 hz2 rfl (by decide) _ 0 [] rfl (str_made wr) ⟨g, 0, none⟩ (ss.length - k) (cap - k) ((ss.drop k).map Value.string) rfl (by simp) (unhide HTL0) (str_one _) (by unfold maxLen; omega) (by omega) (by simp) ?_; intro v1 w1 hown1 hgrow1 hnil1; obtain ⟨g1, c1, rfl, hg1, hg1w⟩ := own_some hown1 (fun e => by have h : Value.slice (some ⟨wr.heap.size, 0, none⟩) 0 0 = .slice none 0 0 := (hnil1.1 e).1; simp at h); have HP := hide (And.intro hown1 (And.intro (World.ownsRow.kept (World.ownsRow.alloc (unhide HO) (.cells #[] 9)) hgrow1 (.inr (show some g ≠ some wr.heap.size by simp; omega))) hgrow1)); have hs1 := hgrow1.size; simp only [World.size_alloc] at hs1; clear hown1 hgrow1 hnil1)
          | (at_builtin; refine wpList_append_lies _ rfl _ _ 60 rfl B 9 i0 (.string ⟨#[]⟩) 1 16 Tryz.underlying60 hi hz0 hz1 hz2 rfl (by decide) _ k ((ss.take k).map Value.string) rfl (World.ownsRow.alloc (own_take (unhide HP).2.1 hk) (.cells #[.string s] 9)) ⟨w1.heap.size, 0, none⟩ 1 1 [.string s] rfl rfl (cell_one_new _ _ _) (by simp [Value.oneCell']) (by omega) (by unfold maxLen; omega) (by omega) (by simp; omega) _ rfl ?_; intro g2 cap2 w2 hown2 hgrow2 hat2 hlt2; have HP2 := hide (And.intro hown2 (And.intro (World.ownsRow.kept (World.ownsRow.alloc (unhide HP).1 (.cells #[.string s] 9)) hgrow2 (.inr (show some g1 ≠ some g by simp; omega))) hgrow2)); have hat2' : g2 = g ∨ wr.heap.size ≤ g2 := (by rcases hat2 with h | h; exact .inl (by have h' : some g = some g2 := h; simp at h'; exact h'.symm); exact .inr (by simp at h; omega)); have hs2 := hgrow2.size; simp only [World.size_alloc] at hs2; clear hown2 hgrow2 hat2)
          | (at_builtin; refine wpList_append_own_at _ rfl _ _ 60 rfl B 9 i0 (.string ⟨#[]⟩) 1 16 Tryz.underlying60 hi hz0 hz1 hz2 rfl (by decide) _ (k + 1) ((ss.take k).map Value.string ++ [Value.string s]) rfl (unhide HP2).1 ⟨g1, 0, none⟩ (ss.length - k) c1 ((ss.drop k).map Value.string) rfl (by simp) (row_cells (unhide HP2).2.1) (str_one _) (by unfold maxLen; omega) (by omega) (by omega) ?_; intro v3 w3 hown3 hgrow3 hnil3 hloc3; obtain ⟨g3, c3, rfl, hg3, hg3w⟩ := own_some hown3 (fun e => by have h : Value.slice (some ⟨g2, 0, none⟩) (k + 1) cap2 = .slice none 0 0 := (hnil3.1 e).1; simp at h); have hg3' : g3 = g ∨ wr.heap.size ≤ g3 := (by rcases hloc3 with h | h; exact (by have h' : some g3 = some g2 := h; simp at h'; rw [h']; exact hat2'); exact .inr (by have h' : some g3 = some w2.heap.size := h; simp at h'; omega)); have HF := hide (And.intro (put_own hk hown3) (put_but (unhide HP).2.2 (unhide HP2).2.2 hat2' hgrow3)); clear hown3 hgrow3 hnil3)
          | go_in)
        go_ret
        exact ⟨g3, c3, putAt ss s k, unhide HFIN HLAST, hg3', (by show Ending.returned (Value.slice (some ⟨g3, 0, none⟩) (k + 1 + (ss.length - k)) c3) = _; rw [putAt_len ss s hk, show ss.length + 1 = k + 1 + (ss.length - k) by omega]), by rw [putAt_len ss s hk, show ss.length + 1 = k + 1 + (ss.length - k) by omega]; exact (unhide HF).1, (unhide HF).2⟩
      · go_wp2_with (first
          | (at_builtin; refine wpList_append_own _ rfl _ _ 60 rfl wr.heap.size 9 i0 (.string ⟨#[]⟩) 1 16 Tryz.underlying60 hi hz0 hz1 hz2 rfl (by decide) _ 0 [] rfl (str_made wr) ⟨g, k, none⟩ (ss.length - k) (cap - k) ((ss.drop k).map Value.string) rfl (by simp) (unhide HTL) (str_one _) (by unfold maxLen; omega) (by omega) (by simp) ?_; intro v1 w1 hown1 hgrow1 hnil1; obtain ⟨g1, c1, rfl, hg1, hg1w⟩ := own_some hown1 (fun e => by have h : Value.slice (some ⟨wr.heap.size, 0, none⟩) 0 0 = .slice none 0 0 := (hnil1.1 e).1; simp at h); have HP := hide (And.intro hown1 (And.intro (World.ownsRow.kept (World.ownsRow.alloc (unhide HO) (.cells #[] 9)) hgrow1 (.inr (show some g ≠ some wr.heap.size by simp; omega))) hgrow1)); have hs1 := hgrow1.size; simp only [World.size_alloc] at hs1; clear hown1 hgrow1 hnil1)
          | (at_builtin; refine wpList_append_lies _ rfl _ _ 60 rfl B 9 i0 (.string ⟨#[]⟩) 1 16 Tryz.underlying60 hi hz0 hz1 hz2 rfl (by decide) _ k ((ss.take k).map Value.string) rfl (World.ownsRow.alloc (own_take (unhide HP).2.1 hk) (.cells #[.string s] 9)) ⟨w1.heap.size, 0, none⟩ 1 1 [.string s] rfl rfl (cell_one_new _ _ _) (by simp [Value.oneCell']) (by omega) (by unfold maxLen; omega) (by omega) (by simp; omega) _ rfl ?_; intro g2 cap2 w2 hown2 hgrow2 hat2 hlt2; have HP2 := hide (And.intro hown2 (And.intro (World.ownsRow.kept (World.ownsRow.alloc (unhide HP).1 (.cells #[.string s] 9)) hgrow2 (.inr (show some g1 ≠ some g by simp; omega))) hgrow2)); have hat2' : g2 = g ∨ wr.heap.size ≤ g2 := (by rcases hat2 with h | h; exact .inl (by have h' : some g = some g2 := h; simp at h'; exact h'.symm); exact .inr (by simp at h; omega)); have hs2 := hgrow2.size; simp only [World.size_alloc] at hs2; clear hown2 hgrow2 hat2)
          | (at_builtin; refine wpList_append_own_at _ rfl _ _ 60 rfl B 9 i0 (.string ⟨#[]⟩) 1 16 Tryz.underlying60 hi hz0 hz1 hz2 rfl (by decide) _ (k + 1) ((ss.take k).map Value.string ++ [Value.string s]) rfl (unhide HP2).1 ⟨g1, 0, none⟩ (ss.length - k) c1 ((ss.drop k).map Value.string) rfl (by simp) (row_cells (unhide HP2).2.1) (str_one _) (by unfold maxLen; omega) (by omega) (by omega) ?_; intro v3 w3 hown3 hgrow3 hnil3 hloc3; obtain ⟨g3, c3, rfl, hg3, hg3w⟩ := own_some hown3 (fun e => by have h : Value.slice (some ⟨g2, 0, none⟩) (k + 1) cap2 = .slice none 0 0 := (hnil3.1 e).1; simp at h); have hg3' : g3 = g ∨ wr.heap.size ≤ g3 := (by rcases hloc3 with h | h; exact (by have h' : some g3 = some g2 := h; simp at h'; rw [h']; exact hat2'); exact .inr (by have h' : some g3 = some w2.heap.size := h; simp at h'; omega)); have HF := hide (And.intro (put_own hk hown3) (put_but (unhide HP).2.2 (unhide HP2).2.2 hat2' hgrow3)); clear hown3 hgrow3 hnil3)
          | go_in)
        go_ret
        exact ⟨g3, c3, putAt ss s k, unhide HFIN HLAST, hg3', (by show Ending.returned (Value.slice (some ⟨g3, 0, none⟩) (k + 1 + (ss.length - k)) c3) = _; rw [putAt_len ss s hk, show ss.length + 1 = k + 1 + (ss.length - k) by omega]), by rw [putAt_len ss s hk, show ss.length + 1 = k + 1 + (ss.length - k) by omega]; exact (unhide HF).1, (unhide HF).2⟩
end Go.Proofs.YthbbmookhcalkaaGreatDoor.WantsS
