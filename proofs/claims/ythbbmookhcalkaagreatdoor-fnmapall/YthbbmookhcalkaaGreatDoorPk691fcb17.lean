/- The contracts of the specification's l2Put, l2Wants. -/
import Derived.Test.YthbbmookhcalkaaGreatDoorPkbd957d2b
import Derived.Test.YthbbmookhcalkaaGreatDoorPk24a20d2e
import Derived.Deep.AppendLies
import Derived.Maps.Range
import Derived.Maps.OwnSet
namespace Go.Proofs.YthbbmookhcalkaaGreatDoor.WantsS
open Go.ChangeShapes Go.WideShapes Go.ChangeAt Go.RowKit Go.Joins
open Go.Proofs.YthbbmookhcalkaaGreatDoor.Base Go.Proofs.YthbbmookhcalkaaGreatDoor.InsA Go.Proofs.YthbbmookhcalkaaGreatDoor.InsB Go.Proofs.YthbbmookhcalkaaGreatDoor.Funs Go.Proofs.YthbbmookhcalkaaGreatDoor.Open Go.Proofs.YthbbmookhcalkaaGreatDoor.FunS Go.Proofs.YthbbmookhcalkaaGreatDoor.Keep Go.Proofs.YthbbmookhcalkaaGreatDoor.UnitS Go.Proofs.YthbbmookhcalkaaGreatDoor.Refs Go.Proofs.YthbbmookhcalkaaGreatDoor.Mark
set_option linter.unusedVariables false
set_option maxRecDepth 100000

def ltS (t s : ByteArray) : Bool := Op.bytesLess t.toList s.toList
/-- A text put among others, at the place k. -/
def putAt (ss : List ByteArray) (s : ByteArray) (k : Nat) : List ByteArray := ss.take k ++ [s] ++ ss.drop k
/-- What l2Put makes of a list. -/
def Put (ss : List ByteArray) (s : ByteArray) (out : List ByteArray) : Prop :=
  ∃ k, k ≤ ss.length ∧ (∀ i (h : i < ss.length), i < k → ltS ss[i] s = true) ∧ ((∃ h : k < ss.length, ss[k].toList = s.toList ∧ out = ss) ∨ ((∀ h : k < ss.length, ltS ss[k] s = false ∧ ss[k].toList ≠ s.toList) ∧ out = putAt ss s k))
theorem putAt_len (ss : List ByteArray) (s : ByteArray) {k : Nat} (hk : k ≤ ss.length) : (putAt ss s k).length = ss.length + 1 := by simp [putAt]; omega
theorem own_some {w : World} {B : Nat} {e : TypeId} {z n : Nat} {v : Value} {xs : List Value} (h : w.ownsRow B e z v n xs) (hn : v ≠ .slice none 0 0) : ∃ g c, v = .slice (some ⟨g, 0, none⟩) n c ∧ B ≤ g ∧ g < w.heap.size := by
  obtain ⟨_, ⟨rfl, _⟩ | ⟨g, cap, cur, rfl, hB, hg, _⟩⟩ := h
  · exact absurd rfl hn
  · exact ⟨g, cap, rfl, hB, (Array.getElem?_eq_some_iff.1 hg).1⟩
theorem own_take {w : World} {B g cap : Nat} {ss : List ByteArray} (h : StrOwn w B (.slice (some ⟨g, 0, none⟩) ss.length cap) ss) {k : Nat} (hk : k ≤ ss.length) : w.ownsRow B 9 1 (.slice (some ⟨g, 0, none⟩) k cap) k ((ss.take k).map Value.string) := by
  obtain ⟨_, ⟨hv, _⟩ | ⟨g', cap', cur, hv, hB, hg, hn, hm, hsz, ht⟩⟩ := h
  · simp at hv
  · simp only [Value.slice.injEq, Option.some.injEq, Addr.mk.injEq, and_true, true_and] at hv
    obtain ⟨rfl, rfl⟩ := hv
    refine ⟨by simp; omega, .inr ⟨g, cap, cur, rfl, hB, hg, by omega, hm, hsz, ?_⟩⟩
    have h1 : cur.toList.take (k * 1) = (cur.toList.take (ss.length * 1)).take k := by rw [List.take_take]; congr 1; omega
    rw [h1, ht, ← List.map_take]
theorem tail_cells {w : World} {B g cap : Nat} {ss : List ByteArray} (h : StrOwn w B (.slice (some ⟨g, 0, none⟩) ss.length cap) ss) (k : Nat) : ∀ j u, ((ss.drop k).map Value.string)[j]? = some u → w.cell? ((⟨g, k, none⟩ : Addr).add j) = some u := by
  intro j u hj
  obtain ⟨a', c', e, _, _, hc⟩ := h.at
  simp only [Value.slice.injEq, true_and] at e
  obtain ⟨rfl, rfl⟩ := e
  have hl : k + j < ss.length := by
    have := (List.getElem?_eq_some_iff.1 hj).1
    simp at this
    omega
  obtain h0 | ⟨b, off, e, hc⟩ := hc
  · rw [h0] at hl; simp at hl
  · simp only [Option.some.injEq, Addr.mk.injEq, and_true] at e
    obtain ⟨rfl, rfl⟩ := e
    rw [add_plain]
    have := hc (k + j) hl
    simp only [Nat.zero_add] at this
    rw [this]
    simp [List.getElem?_eq_getElem hl] at hj
    rw [hj]
theorem str_one : ∀ (l : List ByteArray), ∀ u ∈ l.map Value.string, u.oneCell' = true := by
  intro l u hu
  obtain ⟨x, _, rfl⟩ := List.mem_map.1 hu
  rfl
theorem row_cells {w : World} {B g : Nat} {e : TypeId} {n cap : Nat} {xs : List Value} (h : w.ownsRow B e 1 (.slice (some ⟨g, 0, none⟩) n cap) n xs) : ∀ j u, xs[j]? = some u → w.cell? ((⟨g, 0, none⟩ : Addr).add j) = some u := h.cells rfl

theorem put_own {w : World} {B k : Nat} {v : Value} {ss : List ByteArray} {s : ByteArray} (hk : k ≤ ss.length) (h : w.ownsRow B 9 1 v (k + 1 + (ss.length - k)) ((ss.take k).map Value.string ++ [.string s] ++ (ss.drop k).map Value.string)) : StrOwn w B v (putAt ss s k) := by
  unfold StrOwn
  rw [putAt_len ss s hk, show ss.length + 1 = k + 1 + (ss.length - k) by omega]
  simpa [putAt] using h
theorem put_but {w w1 w2 w3 : World} {g g2 : Nat} {o1 o2 : Obj} (h1 : (w.alloc o1).grownBy w1 (some w.heap.size)) (h2 : (w1.alloc o2).grownBy w2 (some g)) (hat : g2 = g ∨ w.heap.size ≤ g2) (h3 : w2.grownBy w3 (some g2)) : But g w w3 :=
  ((World.grownBy_alloc w o1 (some g)).andThen h1 (fun j hj => .inl (by cases hj; exact Nat.le_refl _))).andThen ((World.grownBy_alloc w1 o2 (some g)).trans h2) (fun j hj => .inr hj) |>.andThen h3 (fun j hj => by cases hj; rcases hat with h | h; exact .inr (by rw [h]); exact .inl h)

set_option maxHeartbeats 4000000 in
theorem specPut_any (B g cap : Nat) (ss : List ByteArray) (s : ByteArray) (w : World) (hlen : ss.length ≤ 1000) (hB : B ≤ w.heap.size) (hO : StrOwn w B (.slice (some ⟨g, 0, none⟩) ss.length cap) ss) :
    Calls Tryz.prog 133 #[.slice (some ⟨g, 0, none⟩) ss.length cap, .string s] w fun e w' => ∃ g' cap' out, Put ss s out ∧ (g' = g ∨ w.heap.size ≤ g') ∧ e = .returned (.slice (some ⟨g', 0, none⟩) out.length cap') ∧ StrOwn w' B (.slice (some ⟨g', 0, none⟩) out.length cap') out ∧ But g w w' := by
  have HO := hide hO
  have hgw : g < w.heap.size := (World.ownsRow.lt hO g rfl).2
  obtain ⟨a1, c1, e1, hcap, hcm, hcc⟩ := hO.at
  obtain ⟨rfl, rfl⟩ : some ⟨g, 0, none⟩ = a1 ∧ cap = c1 := by simpa using e1
  have HC : Hid (∀ i (h : i < ss.length), w.cell? ⟨g, i, none⟩ = some (.string ss[i])) := fun i h => by
    rcases hcc with h0 | ⟨b, off, e, hc⟩
    · rw [h0] at h; simp at h
    · simp at e
      obtain ⟨rfl, rfl⟩ := e
      simpa using hc i h
  clear hO hcc e1
  obtain ⟨i0, hi, hz0, hz1, hz2⟩ := info_parts infoStr
  go_enter Tryz.func133, Tryz.ntmps133
  go_wp2_with fail
  go_loopw [5] (fun i w' => ∃ k : Nat, k ≤ ss.length ∧ i = .int .i64 k ∧ Hid (∀ i (h : i < ss.length), i < k → ltS ss[i] s = true) ∧ Hid (w' = w)) (fun i _ => ss.length - (intOf i).toNat)
  case atStart => exact ⟨0, Nat.zero_le _, rfl, fun i h h0 => by omega, rfl⟩
  case round =>
    obtain ⟨k, hk, rfl, HN, HW⟩ := hrel
    obtain rfl : wr = w := unhide HW
    have hkc : (k : Int) ≤ (cap : Int) := by omega
    have hkl2 : (k : Int) ≤ (ss.length : Int) := by omega
    have HFIN : Hid (∀ (hlast : ∀ h : k < ss.length, ltS ss[k] s = false ∧ ss[k].toList ≠ s.toList), Put ss s (putAt ss s k)) := fun hlast => ⟨k, hk, unhide HN, .inr ⟨hlast, rfl⟩⟩
    have HTL := hide (tail_cells (w := wr.alloc (.cells #[] 9)) (World.ownsRow.alloc (unhide HO) (.cells #[] 9)) k)
    by_cases hkl : k < ss.length
    · have hkl' : (k : Int) < (ss.length : Int) := by omega
      have c0 := unhide HC k hkl
      have HX : Hid (ltS ss[k] s = true → ∀ i (h : i < ss.length), i < k + 1 → ltS ss[i] s = true) := fun h i hi hlt => by
        by_cases e : i = k
        · subst e; exact h
        · exact unhide HN i hi (by omega)
      cases hlt : Op.bytesLess ss[k].toList s.toList
      · cases hq : (ss[k].toList == s.toList)
        · have HLAST : ∀ h : k < ss.length, ltS ss[k] s = false ∧ ss[k].toList ≠ s.toList := fun h => ⟨hlt, by intro e; rw [e] at hq; simp at hq⟩
          generalize ss[k] = tt at c0 hlt hq
          go_wp2_with (first
            | (at_builtin; refine wpList_append_own _ rfl _ _ 60 rfl wr.heap.size 9 i0 (.string ⟨#[]⟩) 1 16 Tryz.underlying60 hi hz0 hz1 hz2 rfl (by decide) _ 0 [] rfl (str_made wr) ⟨g, k, none⟩ (ss.length - k) (cap - k) ((ss.drop k).map Value.string) rfl (by simp) (unhide HTL) (str_one _) (by unfold maxLen; omega) (by omega) (by simp) ?_; intro v1 w1 hown1 hgrow1 hnil1; obtain ⟨g1, c1, rfl, hg1, hg1w⟩ := own_some hown1 (fun e => by have h : Value.slice (some ⟨wr.heap.size, 0, none⟩) 0 0 = .slice none 0 0 := (hnil1.1 e).1; simp at h); have HP := hide (And.intro hown1 (And.intro (World.ownsRow.kept (World.ownsRow.alloc (unhide HO) (.cells #[] 9)) hgrow1 (.inr (show some g ≠ some wr.heap.size by simp; omega))) hgrow1)); have hs1 := hgrow1.size; simp only [World.size_alloc] at hs1; clear hown1 hgrow1 hnil1)
            | (at_builtin; refine wpList_append_lies _ rfl _ _ 60 rfl B 9 i0 (.string ⟨#[]⟩) 1 16 Tryz.underlying60 hi hz0 hz1 hz2 rfl (by decide) _ k ((ss.take k).map Value.string) rfl (World.ownsRow.alloc (own_take (unhide HP).2.1 hk) (.cells #[.string s] 9)) ⟨w1.heap.size, 0, none⟩ 1 1 [.string s] rfl rfl (cell_one_new _ _ _) (by simp [Value.oneCell']) (by omega) (by unfold maxLen; omega) (by omega) (by simp; omega) _ rfl ?_; intro g2 cap2 w2 hown2 hgrow2 hat2 hlt2; have HP2 := hide (And.intro hown2 (And.intro (World.ownsRow.kept (World.ownsRow.alloc (unhide HP).1 (.cells #[.string s] 9)) hgrow2 (.inr (show some g1 ≠ some g by simp; omega))) hgrow2)); have hat2' : g2 = g ∨ wr.heap.size ≤ g2 := (by rcases hat2 with h | h; exact .inl (by have h' : some g = some g2 := h; simp at h'; exact h'.symm); exact .inr (by simp at h; omega)); have hs2 := hgrow2.size; simp only [World.size_alloc] at hs2; clear hown2 hgrow2 hat2)
            | (at_builtin; refine wpList_append_own_at _ rfl _ _ 60 rfl B 9 i0 (.string ⟨#[]⟩) 1 16 Tryz.underlying60 hi hz0 hz1 hz2 rfl (by decide) _ (k + 1) ((ss.take k).map Value.string ++ [Value.string s]) rfl (unhide HP2).1 ⟨g1, 0, none⟩ (ss.length - k) c1 ((ss.drop k).map Value.string) rfl (by simp) (row_cells (unhide HP2).2.1) (str_one _) (by unfold maxLen; omega) (by omega) (by omega) ?_; intro v3 w3 hown3 hgrow3 hnil3 hloc3; obtain ⟨g3, c3, rfl, hg3, hg3w⟩ := own_some hown3 (fun e => by have h : Value.slice (some ⟨g2, 0, none⟩) (k + 1) cap2 = .slice none 0 0 := (hnil3.1 e).1; simp at h); have hg3' : g3 = g ∨ wr.heap.size ≤ g3 := (by rcases hloc3 with h | h; exact (by have h' : some g3 = some g2 := h; simp at h'; rw [h']; exact hat2'); exact .inr (by have h' : some g3 = some w2.heap.size := h; simp at h'; omega)); have HF := hide (And.intro (put_own hk hown3) (put_but (unhide HP).2.2 (unhide HP2).2.2 hat2' hgrow3)); clear hown3 hgrow3 hnil3)
            | go_in)
          go_ret
          exact ⟨g3, c3, putAt ss s k, unhide HFIN HLAST, hg3', (by show Ending.returned (Value.slice (some ⟨g3, 0, none⟩) (k + 1 + (ss.length - k)) c3) = _; rw [putAt_len ss s hk, show ss.length + 1 = k + 1 + (ss.length - k) by omega]), by rw [putAt_len ss s hk, show ss.length + 1 = k + 1 + (ss.length - k) by omega]; exact (unhide HF).1, (unhide HF).2⟩
        · have HSAME : Hid (Put ss s ss) := ⟨k, hk, unhide HN, .inl ⟨hkl, beq_iff_eq.1 hq, rfl⟩⟩
          generalize ss[k] = tt at *
          go_wp2_with fail
          go_ret
          exact ⟨g, cap, ss, unhide HSAME, .inl rfl, rfl, unhide HO, But.refl _ _⟩
      · generalize ss[k] = tt at *
        go_wp2_with fail
        exact ⟨⟨k + 1, by omega, by go_num, unhide HX hlt, trivial⟩, by simp [intOf]; omega⟩
    · have hkl' : ¬ (k : Int) < (ss.length : Int) := by omega
      have HLAST : ∀ h : k < ss.length, ltS ss[k] s = false ∧ ss[k].toList ≠ s.toList := fun h => absurd h hkl
      by_cases hck : cap = k
      · have hif : ∀ (x y : Option Addr), (if cap = k then x else y) = x := fun x y => if_pos hck
        have HTL0 : Hid (∀ j u, ((ss.drop k).map Value.string)[j]? = some u → (wr.alloc (.cells #[] 9)).cell? ((⟨g, 0, none⟩ : Addr).add j) = some u) := fun j u hj => by
          rw [List.drop_of_length_le (by omega)] at hj
          simp at hj
        have HCK := hide hck
        clear hck
        go_wp2_with (first
          | (at_builtin; refine wpList_append_own _ rfl _ _ 60 rfl wr.heap.size 9 i0 (.string ⟨#[]⟩) 1 16 Tryz.underlying60 hi hz0 hz1 hz2 rfl (by decide) _ 0 [] rfl (str_made wr) ⟨g, 0, none⟩ (ss.length - k) (cap - k) ((ss.drop k).map Value.string) rfl (by simp) (unhide HTL0) (str_one _) (by unfold maxLen; omega) (by omega) (by simp) ?_; intro v1 w1 hown1 hgrow1 hnil1; obtain ⟨g1, c1, rfl, hg1, hg1w⟩ := own_some hown1 (fun e => by have h : Value.slice (some ⟨wr.heap.size, 0, none⟩) 0 0 = .slice none 0 0 := (hnil1.1 e).1; simp at h); have HP := hide (And.intro hown1 (And.intro (World.ownsRow.kept (World.ownsRow.alloc (unhide HO) (.cells #[] 9)) hgrow1 (.inr (show some g ≠ some wr.heap.size by simp; omega))) hgrow1)); have hs1 := hgrow1.size; simp only [World.size_alloc] at hs1; clear hown1 hgrow1 hnil1)
          | (at_builtin; refine wpList_append_lies _ rfl _ _ 60 rfl B 9 i0 (.string ⟨#[]⟩) 1 16 Tryz.underlying60 hi hz0 hz1 hz2 rfl (by decide) _ k ((ss.take k).map Value.string) rfl (World.ownsRow.alloc (own_take (unhide HP).2.1 hk) (.cells #[.string s] 9)) ⟨w1.heap.size, 0, none⟩ 1 1 [.string s] rfl rfl (cell_one_new _ _ _) (by simp [Value.oneCell']) (by omega) (by unfold maxLen; omega) (by omega) (by simp; omega) _ rfl ?_; intro g2 cap2 w2 hown2 hgrow2 hat2 hlt2; have HP2 := hide (And.intro hown2 (And.intro (World.ownsRow.kept (World.ownsRow.alloc (unhide HP).1 (.cells #[.string s] 9)) hgrow2 (.inr (show some g1 ≠ some g by simp; omega))) hgrow2)); have hat2' : g2 = g ∨ wr.heap.size ≤ g2 := (by rcases hat2 with h | h; exact .inl (by have h' : some g = some g2 := h; simp at h'; exact h'.symm); exact .inr (by simp at h; omega)); have hs2 := hgrow2.size; simp only [World.size_alloc] at hs2; clear hown2 hgrow2 hat2)
          | (at_builtin; refine wpList_append_own_at _ rfl _ _ 60 rfl B 9 i0 (.string ⟨#[]⟩) 1 16 Tryz.underlying60 hi hz0 hz1 hz2 rfl (by decide) _ (k + 1) ((ss.take k).map Value.string ++ [Value.string s]) rfl (unhide HP2).1 ⟨g1, 0, none⟩ (ss.length - k) c1 ((ss.drop k).map Value.string) rfl (by simp) (row_cells (unhide HP2).2.1) (str_one _) (by unfold maxLen; omega) (by omega) (by omega) ?_; intro v3 w3 hown3 hgrow3 hnil3 hloc3; obtain ⟨g3, c3, rfl, hg3, hg3w⟩ := own_some hown3 (fun e => by have h : Value.slice (some ⟨g2, 0, none⟩) (k + 1) cap2 = .slice none 0 0 := (hnil3.1 e).1; simp at h); have hg3' : g3 = g ∨ wr.heap.size ≤ g3 := (by rcases hloc3 with h | h; exact (by have h' : some g3 = some g2 := h; simp at h'; rw [h']; exact hat2'); exact .inr (by have h' : some g3 = some w2.heap.size := h; simp at h'; omega)); have HF := hide (And.intro (put_own hk hown3) (put_but (unhide HP).2.2 (unhide HP2).2.2 hat2' hgrow3)); clear hown3 hgrow3 hnil3)
          | go_in)
        go_ret
        exact ⟨g3, c3, putAt ss s k, unhide HFIN HLAST, hg3', (by show Ending.returned (Value.slice (some ⟨g3, 0, none⟩) (k + 1 + (ss.length - k)) c3) = _; rw [putAt_len ss s hk, show ss.length + 1 = k + 1 + (ss.length - k) by omega]), by rw [putAt_len ss s hk, show ss.length + 1 = k + 1 + (ss.length - k) by omega]; exact (unhide HF).1, (unhide HF).2⟩
      · go_wp2_with (first
          | (at_builtin; refine wpList_append_own _ rfl _ _ 60 rfl wr.heap.size 9 i0 (.string ⟨#[]⟩) 1 16 Tryz.underlying60 hi hz0 hz1 hz2 rfl (by decide) _ 0 [] rfl (str_made wr) ⟨g, k, none⟩ (ss.length - k) (cap - k) ((ss.drop k).map Value.string) rfl (by simp) (unhide HTL) (str_one _) (by unfold maxLen; omega) (by omega) (by simp) ?_; intro v1 w1 hown1 hgrow1 hnil1; obtain ⟨g1, c1, rfl, hg1, hg1w⟩ := own_some hown1 (fun e => by have h : Value.slice (some ⟨wr.heap.size, 0, none⟩) 0 0 = .slice none 0 0 := (hnil1.1 e).1; simp at h); have HP := hide (And.intro hown1 (And.intro (World.ownsRow.kept (World.ownsRow.alloc (unhide HO) (.cells #[] 9)) hgrow1 (.inr (show some g ≠ some wr.heap.size by simp; omega))) hgrow1)); have hs1 := hgrow1.size; simp only [World.size_alloc] at hs1; clear hown1 hgrow1 hnil1)
          | (at_builtin; refine wpList_append_lies _ rfl _ _ 60 rfl B 9 i0 (.string ⟨#[]⟩) 1 16 Tryz.underlying60 hi hz0 hz1 hz2 rfl (by decide) _ k ((ss.take k).map Value.string) rfl (World.ownsRow.alloc (own_take (unhide HP).2.1 hk) (.cells #[.string s] 9)) ⟨w1.heap.size, 0, none⟩ 1 1 [.string s] rfl rfl (cell_one_new _ _ _) (by simp [Value.oneCell']) (by omega) (by unfold maxLen; omega) (by omega) (by simp; omega) _ rfl ?_; intro g2 cap2 w2 hown2 hgrow2 hat2 hlt2; have HP2 := hide (And.intro hown2 (And.intro (World.ownsRow.kept (World.ownsRow.alloc (unhide HP).1 (.cells #[.string s] 9)) hgrow2 (.inr (show some g1 ≠ some g by simp; omega))) hgrow2)); have hat2' : g2 = g ∨ wr.heap.size ≤ g2 := (by rcases hat2 with h | h; exact .inl (by have h' : some g = some g2 := h; simp at h'; exact h'.symm); exact .inr (by simp at h; omega)); have hs2 := hgrow2.size; simp only [World.size_alloc] at hs2; clear hown2 hgrow2 hat2)
          | (at_builtin; refine wpList_append_own_at _ rfl _ _ 60 rfl B 9 i0 (.string ⟨#[]⟩) 1 16 Tryz.underlying60 hi hz0 hz1 hz2 rfl (by decide) _ (k + 1) ((ss.take k).map Value.string ++ [Value.string s]) rfl (unhide HP2).1 ⟨g1, 0, none⟩ (ss.length - k) c1 ((ss.drop k).map Value.string) rfl (by simp) (row_cells (unhide HP2).2.1) (str_one _) (by unfold maxLen; omega) (by omega) (by omega) ?_; intro v3 w3 hown3 hgrow3 hnil3 hloc3; obtain ⟨g3, c3, rfl, hg3, hg3w⟩ := own_some hown3 (fun e => by have h : Value.slice (some ⟨g2, 0, none⟩) (k + 1) cap2 = .slice none 0 0 := (hnil3.1 e).1; simp at h); have hg3' : g3 = g ∨ wr.heap.size ≤ g3 := (by rcases hloc3 with h | h; exact (by have h' : some g3 = some g2 := h; simp at h'; rw [h']; exact hat2'); exact .inr (by have h' : some g3 = some w2.heap.size := h; simp at h'; omega)); have HF := hide (And.intro (put_own hk hown3) (put_but (unhide HP).2.2 (unhide HP2).2.2 hat2' hgrow3)); clear hown3 hgrow3 hnil3)
          | go_in)
        go_ret
        exact ⟨g3, c3, putAt ss s k, unhide HFIN HLAST, hg3', (by show Ending.returned (Value.slice (some ⟨g3, 0, none⟩) (k + 1 + (ss.length - k)) c3) = _; rw [putAt_len ss s hk, show ss.length + 1 = k + 1 + (ss.length - k) by omega]), by rw [putAt_len ss s hk, show ss.length + 1 = k + 1 + (ss.length - k) by omega]; exact (unhide HF).1, (unhide HF).2⟩
end Go.Proofs.YthbbmookhcalkaaGreatDoor.WantsS
/- The contracts of the program's placesByName, UnitOk, UnitFind: functions kept in a map by their names. -/
namespace Go.Proofs.YthbbmookhcalkaaGreatDoor.UnitM
open Go.ChangeShapes Go.WideShapes Go.ChangeAt Go.RowKit Go.Joins Go.WideMaps Go.Maps
open Go.Proofs.YthbbmookhcalkaaGreatDoor.Base Go.Proofs.YthbbmookhcalkaaGreatDoor.InsA Go.Proofs.YthbbmookhcalkaaGreatDoor.InsB Go.Proofs.YthbbmookhcalkaaGreatDoor.Funs Go.Proofs.YthbbmookhcalkaaGreatDoor.Open Go.Proofs.YthbbmookhcalkaaGreatDoor.FunS Go.Proofs.YthbbmookhcalkaaGreatDoor.Keep Go.Proofs.YthbbmookhcalkaaGreatDoor.UnitS
set_option linter.unusedVariables false
set_option maxRecDepth 100000

def keyS (s : ByteArray) : Lit := .string s.data.toList
theorem keyS_is (s : ByteArray) : WideAt.IsKeyLit (keyS s) := trivial
theorem keyS_eq {a b : ByteArray} (h : a.toList = b.toList) : keyS a = keyS b := by
  rw [ByteArray.toList_eq, ByteArray.toList_eq] at h
  unfold keyS; rw [h]
theorem keyS_ne {a b : ByteArray} (h : a.toList ≠ b.toList) : keyS a ≠ keyS b := by
  rw [ByteArray.toList_eq, ByteArray.toList_eq] at h
  unfold keyS
  intro e
  exact h (by simpa using e)

/-- The map behind the first k functions. -/
def PD (fs : List FunD) : Nat → DataW Unit
  | 0 => .map []
  | k + 1 => if (fs.take k).any (isNm (fs.getD k default).nm) then PD fs k else (PD fs k).put (keyS (fs.getD k default).nm) (.lit (.int .i64 k))

theorem any_same {l : List FunD} {s t : ByteArray} (h : s.toList = t.toList) : l.any (isNm s) = l.any (isNm t) := by
  have : isNm s = isNm t := by funext f; simp [isNm, h]
  rw [this]
theorem PD_is (fs : List FunD) (k : Nat) : Tidy (PD fs k) := by
  induction k with
  | zero => exact tidy_empty
  | succ k ih =>
    unfold PD
    split
    · exact ih
    · exact ih.put (keyS_is _) _
theorem take_getD {fs : List FunD} {k : Nat} (hk : k < fs.length) : fs.take (k + 1) = fs.take k ++ [fs.getD k default] := by
  rw [List.take_succ_eq_append_getElem hk]
  simp [List.getD, List.getElem?_eq_getElem hk]
theorem PD_has (fs : List FunD) {k : Nat} (hk : k ≤ fs.length) (s : ByteArray) : has (PD fs k) (keyS s) = (fs.take k).any (isNm s) := by
  induction k with
  | zero => rfl
  | succ k ih =>
    have ih := ih (by omega)
    rw [take_getD (by omega), List.any_append]
    unfold PD
    generalize fs.getD k default = f at *
    by_cases hs : f.nm.toList = s.toList
    · have e1 : isNm s f = true := isNm_iff.2 hs
      split
      · rename_i h
        rw [any_same hs] at h
        rw [ih, h]; simp
      · rw [keyS_eq hs, has_put_same (PD_is fs k).isMap (keyS_is _)]; simp [e1]
    · have e1 : isNm s f = false := by rw [← Bool.not_eq_true, isNm_iff]; exact hs
      split
      · rw [ih]; simp [e1]
      · rw [has_put_other (keyS_ne (fun e => hs e.symm)), ih]; simp [e1]
theorem PD_at (fs : List FunD) {k : Nat} (hk : k ≤ fs.length) (s : ByteArray) (z : DataW Unit) (h : (fs.take k).any (isNm s) = true) : (PD fs k).atKey (keyS s) z = .lit (.int .i64 ((fs.take k).findIdx (isNm s) : Nat)) := by
  induction k with
  | zero => simp at h
  | succ k ih =>
    have ih := ih (by omega)
    rw [take_getD (by omega)] at h ⊢
    have hl : (fs.take k).length = k := by simp; omega
    unfold PD
    generalize fs.getD k default = f at *
    cases ha : (fs.take k).any (isNm s) with
    | true =>
      have hlt : (fs.take k).findIdx (isNm s) < (fs.take k).length := List.findIdx_lt_length_of_exists (by simpa using ha)
      rw [List.findIdx_append, if_pos hlt]
      split
      · exact ih ha
      · rename_i hn
        by_cases hs : f.nm.toList = s.toList
        · rw [any_same hs, ha] at hn; exact absurd rfl hn
        · rw [atKey_put_other (keyS_ne (fun e => hs e.symm)), ih ha]
    | false =>
      rw [List.any_append, ha] at h
      have e1 : isNm s f = true := by simpa using h
      have hs := isNm_iff.1 e1
      have hlt : ¬ (fs.take k).findIdx (isNm s) < (fs.take k).length := fun hlt => by
        have := List.findIdx_getElem (w := hlt)
        rw [List.any_eq_false] at ha
        exact ha _ (List.getElem_mem _) this
      rw [if_neg (by rw [any_same hs, ha]; simp), keyS_eq hs, atKey_put_same (PD_is fs k).isMap (keyS_is _), List.findIdx_append, if_neg hlt]
      simp [List.findIdx_cons, e1]
      omega
theorem apartF_snoc (l : List FunD) (f : FunD) : apartF (l ++ [f]) = (apartF l && !l.any (isNm f.nm)) := by
  induction l with
  | nil => simp [apartF]
  | cons g l ih =>
    have e : isNm g.nm f = isNm f.nm g := by unfold isNm; exact BEq.comm
    simp only [List.cons_append, apartF, ih, List.any_append, List.any_cons, List.any_nil, Bool.or_false, e]
    cases List.any l (isNm g.nm) <;> cases isNm f.nm g <;> cases apartF l <;> cases List.any l (isNm f.nm) <;> rfl
theorem PD_size (fs : List FunD) {k : Nat} (hk : k ≤ fs.length) : size (PD fs k) ≤ k ∧ (size (PD fs k) = k ↔ apartF (fs.take k) = true) := by
  induction k with
  | zero => simp [PD, size, apartF]
  | succ k ih =>
    obtain ⟨h1, h2⟩ := ih (by omega)
    rw [take_getD (by omega), apartF_snoc]
    have hh := PD_has fs (show k ≤ fs.length by omega) (fs.getD k default).nm
    unfold PD
    split
    · rename_i ha
      rw [ha]
      exact ⟨by omega, by simp; omega⟩
    · rename_i ha
      rw [Bool.not_eq_true] at ha
      rw [size_put (PD_is fs k), hh, ha]
      exact ⟨by simp; omega, by simp [← h2]⟩

theorem lawS : Keyed Tryz.prog 9 := string_keyed Tryz.underlying9
theorem zeroI (w : World) : (zeroValue 3).run Tryz.prog w = .ok (.int .i64 0) w := by kernel_rfl
theorem makeHint (n : Nat) (w : World) : (Instr.makeMap 58 (some (.int .i64 (n : Int)))).run Tryz.prog w = .ok (.map (some w.heap.size)) (w.alloc (.map #[] 0)) := by
  simp [Instr.makeMap, asInt, asIntOf]

theorem ownsMap_mono {w : World} {P : Program} {k b n m : Nat} {R : Value → Option (DataW Unit × List MemPlace)} {D : DataW Unit} (h : w.ownsMap P k R b n D) (hn : n ≤ m) : w.ownsMap P k R b m D := by
  obtain ⟨es, clock, hb, F, hs, hD⟩ := h
  exact ⟨es, clock, hb, F, by omega, hD⟩
theorem step_has {fs : List FunD} {k : Nat} (hk : k < fs.length) (h : has (PD fs k) (keyS fs[k].nm) = true) : PD fs (k + 1) = PD fs k := by
  rw [PD_has fs (by omega)] at h
  have e : fs.getD k default = fs[k] := by simp [List.getD, List.getElem?_eq_getElem hk]
  rw [PD, e, if_pos h]
theorem step_put {fs : List FunD} {k : Nat} (hk : k < fs.length) (h : has (PD fs k) (keyS fs[k].nm) = false) : PD fs (k + 1) = (PD fs k).put (keyS fs[k].nm) (.lit (.int .i64 k)) := by
  rw [PD_has fs (by omega)] at h
  have e : fs.getD k default = fs[k] := by simp [List.getD, List.getElem?_eq_getElem hk]
  rw [PD, e, if_neg (by rw [h]; simp)]

set_option maxRecDepth 100000 in
set_option maxHeartbeats 2000000 in
theorem places_any (a : Option Addr) (cap : Nat) (fs : List FunD) (w : World) (hcap : fs.length ≤ cap) (hcm : cap ≤ maxLen) (h55 : fs.length ≤ 40) (hR : FunRow w a fs) :
    Calls Tryz.prog 31 #[.slice a fs.length cap] w fun e w' => e = .returned (.map (some w.heap.size)) ∧ w'.ownsMap Tryz.prog 9 (plainElem Tryz.prog 3) w.heap.size fs.length (PD fs fs.length) ∧ Below w.heap.size w w' := by
  have HR := hide hR
  clear hR
  have hmm := makeHint fs.length
  go_enter Tryz.func31, Tryz.ntmps31
  go_wp2_with fail
  go_loopw [13] (fun i w' => ∃ k : Nat, k ≤ fs.length ∧ i = .int .i64 k ∧ w'.ownsMap Tryz.prog 9 (plainElem Tryz.prog 3) w.heap.size k (PD fs k) ∧ Below w.heap.size w w') (fun i _ => fs.length - (intOf i).toNat)
  case atStart => exact ⟨0, Nat.zero_le _, rfl, World.ownsMap_made _ _ _ _, (Below.refl _ _).alloc (Nat.le_refl _) _⟩
  case round =>
    obtain ⟨k, hk, rfl, hown, hB⟩ := hrel
    clear hmm
    by_cases hkl : k < fs.length
    · obtain ⟨b, off, rfl⟩ := (unhide HR).get (by omega)
      obtain ⟨ai, ci, c0, c1, c2, hn, h4, h5, h6⟩ := ((unhide HR).below hB).at hkl
      clear h6
      have hkl' : (k : Int) < (fs.length : Int) := by omega
      have hkey : keyOf Tryz.prog 9 (.string fs[k].nm) = some (keyS fs[k].nm) := keyOf_string_mk Tryz.underlying9 hn
      have hwf : (Lit.int .i64 (k : Int)).wf = true := by
        unfold Lit.wf
        rw [Bool.and_eq_true, decide_eq_true_iff, decide_eq_true_iff]
        exact ⟨by show (-9223372036854775808 : Int) ≤ _; omega, by show _ ≤ (9223372036854775807 : Int); omega⟩
      have HS1 := hide (step_has hkl)
      have HS2 := hide (step_put hkl)
      generalize fs[k] = f at *
      cases hh : has (PD fs k) (keyS f.nm)
      · go_wp2_with (first
          | (at_lookup; refine wpList_lookup_own_ok_int _ rfl _ _ 58 rfl 9 3 .i64 lawS Tryz.underlying58 Tryz.underlying3 (zeroI _) w.heap.size k _ rfl (hown.alloc _) _ _ rfl hkey ?_; intro c hat hwc)
          | (at_mapUpdate; refine wpList_mapUpdate_own _ rfl _ _ _ 58 rfl 9 3 lawS Tryz.underlying58 _ w.heap.size k _ rfl (hown.alloc _) (by unfold maxLen; omega) _ _ _ rfl rfl hkey _ [] (plainElem_int Tryz.underlying3 hwf) ?_; intro w1 hown1 hgrow1)
          | go_in)
        have hB1 : Below w.heap.size w w1 := (bl_alloc hB _).grown hgrow1 (bl_alloc hB _).size (fun j hj => by cases hj; exact Nat.le_refl _)
        exact ⟨⟨k + 1, by omega, by go_num, by rw [unhide HS2 hh]; exact hown1, hB1⟩, by simp [intOf]; omega⟩
      · go_wp2_with (first
          | (at_lookup; refine wpList_lookup_own_ok_int _ rfl _ _ 58 rfl 9 3 .i64 lawS Tryz.underlying58 Tryz.underlying3 (zeroI _) w.heap.size k _ rfl (hown.alloc _) _ _ rfl hkey ?_; intro c hat hwc)
          | go_in)
        exact ⟨⟨k + 1, by omega, by go_num, by rw [unhide HS1 hh]; exact ownsMap_mono (hown.alloc _) (by omega), bl_alloc hB _⟩, by simp [intOf]; omega⟩
    · have hke : k = fs.length := by omega
      subst hke
      go_wp2_with fail
      go_ret
      exact ⟨rfl, hown, hB⟩

theorem unit_long {fs : List FunD} (h : 5 < fs.length) : false = unitOkB fs := by
  have : decide (fs.length ≤ 5) = false := decide_eq_false (by omega)
  simp [unitOkB, this]
theorem unit_size {fs : List FunD} (h5 : fs.length ≤ 5) (h : ∀ i (hi : i < fs.length), okD fs[i] = true) : unitOkB fs = decide (Maps.size (PD fs fs.length) = fs.length) := by
  have h1 : fs.all okD = true := by rw [List.all_eq_true]; intro f hf; obtain ⟨i, hi, rfl⟩ := List.getElem_of_mem hf; exact h i hi
  have h2 := (PD_size fs (Nat.le_refl _)).2
  rw [List.take_length] at h2
  rw [Bool.eq_iff_iff, decide_eq_true_iff, h2]
  simp [unitOkB, h1, h5]


theorem at_find {fs : List FunD} {s : ByteArray} {c : Int} (h : has (PD fs fs.length) (keyS s) = true) (hat : (PD fs fs.length).atKey (keyS s) (.lit (.int .i64 0)) = .lit (.int .i64 c)) : c = findI fs s := by
  rw [PD_has fs (Nat.le_refl _)] at h
  rw [PD_at fs (Nat.le_refl _) s _ h] at hat
  rw [List.take_length] at h hat
  have hlt : fs.findIdx (isNm s) < fs.length := List.findIdx_lt_length_of_exists (by simpa using h)
  unfold findI
  rw [if_pos hlt]
  simp at hat
  exact hat.symm
theorem no_find {fs : List FunD} {s : ByteArray} (h : has (PD fs fs.length) (keyS s) = false) : -1 = findI fs s := by
  rw [PD_has fs (Nat.le_refl _), List.take_length, List.any_eq_false] at h
  exact find_miss (fun i hi => by simpa using h _ (List.getElem_mem hi))
theorem unit_le {fs : List FunD} (h : unitOkB fs = true) : fs.length ≤ 5 := by
  unfold unitOkB at h
  simp only [Bool.and_eq_true, decide_eq_true_iff] at h
  exact h.1.1

end Go.Proofs.YthbbmookhcalkaaGreatDoor.UnitM
