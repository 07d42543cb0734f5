/- What is twice, plain data: the map of first bodies while functions are linked; bounds. -/
import Derived.Test.YthbbmookhcalkaaGreatDoorFTwo
import Derived.Test.YthbbmookhcalkaaGreatDoorFoldC
namespace Go.Proofs.YthbbmookhcalkaaGreatDoor.FoldK
open Go.WideMaps Go.Maps
open Go.Proofs.YthbbmookhcalkaaGreatDoor.InsA Go.Proofs.YthbbmookhcalkaaGreatDoor.Name Go.Proofs.YthbbmookhcalkaaGreatDoor.InsB Go.Proofs.YthbbmookhcalkaaGreatDoor.Funs Go.Proofs.YthbbmookhcalkaaGreatDoor.Open Go.Proofs.YthbbmookhcalkaaGreatDoor.FunS Go.Proofs.YthbbmookhcalkaaGreatDoor.Same Go.Proofs.YthbbmookhcalkaaGreatDoor.UnitS Go.Proofs.YthbbmookhcalkaaGreatDoor.UnitM Go.Proofs.YthbbmookhcalkaaGreatDoor.Refs Go.Proofs.YthbbmookhcalkaaGreatDoor.KeepD Go.Proofs.YthbbmookhcalkaaGreatDoor.KeepA Go.Proofs.YthbbmookhcalkaaGreatDoor.BTxt Go.Proofs.YthbbmookhcalkaaGreatDoor.TxtI Go.Proofs.YthbbmookhcalkaaGreatDoor.FoldR Go.Proofs.YthbbmookhcalkaaGreatDoor.FoldD Go.Proofs.YthbbmookhcalkaaGreatDoor.FoldC Go.Proofs.YthbbmookhcalkaaGreatDoor.FTwo
set_option linter.unusedVariables false
set_option maxRecDepth 100000

theorem stays_congr {r q : Nat → Nat} {m : Nat} (h : ∀ i, i < m → r i = q i) : stays r m = stays q m := by
  unfold stays
  exact List.filter_congr fun i hi => by rw [h i (List.mem_range.1 hi)]
theorem stays_drop {fs : List FunD} {r : Nat → Nat} {i k : Nat} (h : Root fs r) (hik : i < k) (hk : k < fs.length) (hi : r i = i) (hrk : r k = k) : (stays (upd r i k) fs.length).length + 1 = (stays r fs.length).length := by
  have hm := stays_upd h hik hi hrk
  have hnd : (stays r fs.length).Nodup := (stays_up r fs.length).imp (fun h => Nat.ne_of_lt h)
  have hmem : k ∈ stays r fs.length := stays_mem.2 ⟨hk, hrk⟩
  have hpos := List.length_pos_of_mem hmem
  rw [hm, ← hnd.erase_eq_filter, List.length_erase_of_mem hmem]
  omega
theorem st_congr {fs : List FunD} {r q : Nat → Nat} (hp : Prg fs) (he : ∀ i, i < fs.length → r i = q i) (h : St fs r) : St fs q := by
  have hlt := st_lt h.root
  refine ⟨fun i hi => ?_, fun p hp' i hi => ?_, fun i hi => ?_⟩
  · have := h.root i hi
    rw [he i hi] at this
    rw [he (q i) (by omega)] at this
    exact this
  · rw [← he i hi]; exact h.fine p hp' i hi
  · rw [← he i hi, ← ren_congr hp he, ← ren_congr hp he]; exact h.inv i hi
theorem mapI_ok {f : ByteArray → ByteArray} {x : InsD} (h : insOkD x = true) (hf : nameB (f x.s) = true) : insOkD (mapI f x) = true := by
  unfold mapI
  split
  · rename_i hr
    have ho : x.o = 3 ∨ x.o = 4 ∨ x.o = 5 := by simpa [refsB, or_assoc] using hr
    unfold insOkD insOkB at h ⊢
    have h2 : ¬ x.o = 2 := by omega
    rw [if_neg h2, if_pos ho] at h
    show (if x.o = 2 then _ else _) = true
    rw [if_neg h2, if_pos ho]
    simp only [Bool.and_eq_true] at h ⊢
    exact ⟨h.1, hf⟩
  · exact h
theorem ren_ok {fs : List FunD} {r : Nat → Nat} {xs : List InsD} (h0 : 0 < fs.length) (hn : ∀ i, i < fs.length → nameB (nmA fs i) = true) (hr : ∀ i, i < fs.length → r i < fs.length) (h : allOk xs = true) : allOk (ren fs r xs) = true := by
  unfold allOk at h ⊢
  rw [List.all_eq_true] at h ⊢
  intro y hy
  unfold ren mapB at hy
  obtain ⟨x, hx, rfl⟩ := List.mem_map.1 hy
  exact mapI_ok (h x hx) (hn _ (hr _ (idx_lt h0 _)))
/-- What is asked of a program here, of its names and bodies. -/
structure Small (fs : List FunD) : Prop where
  pos : 0 < fs.length
  few : fs.length ≤ 40
  nm : ∀ i, i < fs.length → nameB (nmA fs i) = true
  bd : ∀ i, i < fs.length → allOk (bdA fs i) = true ∧ 1 ≤ (bdA fs i).length ∧ (bdA fs i).length ≤ 10
theorem small_of {fs : List FunD} (h : keepOkB fs = true) : Small fs := by
  obtain ⟨h1, h2, h3, h4, h5⟩ := keep_parts h
  refine ⟨h1, h2, fun i hi => ?_, fun i hi => ?_⟩
  · unfold nmA; rw [getD_is hi]; exact (fun_parts (h3 _ (List.getElem_mem hi))).1
  · unfold bdA; rw [getD_is hi]
    obtain ⟨_, p2, p3, p4⟩ := fun_parts (h3 _ (List.getElem_mem hi))
    exact ⟨p4, p2, p3⟩
theorem ren_len (fs : List FunD) (r : Nat → Nat) (xs : List InsD) : (ren fs r xs).length = xs.length := mapB_len _ _
theorem Small.text {fs : List FunD} (h : Small fs) {r : Nat → Nat} (hr : ∀ i, i < fs.length → r i < fs.length) {i : Nat} (hi : i < fs.length) : (bodyT (ren fs r (bdA fs i))).size ≤ maxLen := by
  have h1 := body_le (ren_ok h.pos h.nm hr (h.bd i hi).1) _ (Nat.le_refl _)
  have h2 := (h.bd i hi).2.2
  rw [ren_len] at h1
  unfold bodyT maxLen
  rw [ren_len]
  omega
theorem Small.ok {fs : List FunD} (h : Small fs) {r : Nat → Nat} (hr : ∀ i, i < fs.length → r i < fs.length) {i : Nat} (hi : i < fs.length) : allOk (ren fs r (bdA fs i)) = true := ren_ok h.pos h.nm hr (h.bd i hi).1
/-- What is left has small bodies. -/
theorem Small.left {fs : List FunD} (h : Small fs) {r : Nat → Nat} (hr : ∀ i, i < fs.length → r i < fs.length) : (left fs r).length ≤ 40 ∧ ∀ f ∈ left fs r, f.nm.size ≤ 6 ∧ 0 < f.body.length ∧ f.body.length ≤ 10 ∧ ∀ x ∈ f.body, x.s.size ≤ 6 := by
  refine ⟨?_, fun f hf => ?_⟩
  · rw [left_len]
    have := List.length_filter_le (fun i => r i == i) (List.range fs.length)
    rw [List.length_range] at this
    have h2 := h.few
    unfold stays
    omega
  · unfold FoldC.left leftN at hf
    obtain ⟨i, hi, rfl⟩ := List.mem_map.1 hf
    have hi := (stays_mem.1 hi).1
    have h2 := (h.bd i hi).2
    refine ⟨name_le (h.nm i hi), ?_, ?_, fun x hx => ?_⟩
    · show 0 < (ren fs r (bdA fs i)).length; rw [ren_len]; omega
    · show (ren fs r (bdA fs i)).length ≤ 10; rw [ren_len]; omega
    · have h3 := h.ok hr hi
      unfold allOk at h3
      exact ok_small (List.all_eq_true.1 h3 x hx)
/-- What the map of first bodies tells, while functions are linked. -/
structure FI (fs : List FunD) (L : List Nat) (k : Nat) (D : DataW Unit) (b : Bool) : Prop where
  tidy : Tidy D
  back : ∀ t, has D (keyS t) = true → ∃ (i : Nat) (q : Nat → Nat), i < k ∧ L.getD i i = i ∧ (∀ x, x < fs.length → q x < fs.length ∧ rt L (q x) = rt L x) ∧ t = bodyT (ren fs q (bdA fs i)) ∧ ∀ z, D.atKey (keyS t) z = .lit (.int .i64 (i : Int))
  here : b = false → ∀ i, i < k → L.getD i i = i → has D (keyS (bodyT (ren fs (rt L) (bdA fs i)))) = true
  apart : b = false → ∀ i j, i < j → j < k → L.getD i i = i → L.getD j j = j → ren fs (rt L) (bdA fs i) ≠ ren fs (rt L) (bdA fs j)
theorem fi_zero (fs : List FunD) (L : List Nat) : FI fs L 0 (.map []) false :=
  ⟨tidy_empty, (fun t h => by cases h), (fun _ i hi => by omega), (fun _ i j h1 h2 => by omega)⟩
theorem fi_skip {fs : List FunD} {L : List Nat} {k : Nat} {D : DataW Unit} {b : Bool} (h : FI fs L k D b) (hk : L.getD k k ≠ k) : FI fs L (k + 1) D b := by
  refine ⟨h.tidy, fun t ht => ?_, fun hb i hi he => ?_, fun hb i j hij hj hi he => ?_⟩
  · obtain ⟨i, q, h1, h2⟩ := h.back t ht
    exact ⟨i, q, by omega, h2⟩
  · have : i ≠ k := fun e => by subst e; exact hk he
    exact h.here hb i (by omega) he
  · have : j ≠ k := fun e => by subst e; exact hk he
    exact h.apart hb i j hij (by omega) hi he
theorem fi_put {fs : List FunD} {L : List Nat} {k : Nat} {D : DataW Unit} {b : Bool} (hs : Small fs) (hl : Links L) (hn : L.length = fs.length) (h : FI fs L k D b) (hk : k < fs.length) (he : L.getD k k = k) (hno : has D (keyS (bodyT (ren fs (rt L) (bdA fs k)))) = false) : FI fs L (k + 1) (D.put (keyS (bodyT (ren fs (rt L) (bdA fs k)))) (.lit (.int .i64 (k : Int)))) b := by
  have hroot := rt_root (fs := fs) hl hn
  have hlt := st_lt hroot
  refine ⟨h.tidy.put (keyS_is _) _, fun t ht => ?_, fun hb i hi hii => ?_, fun hb i j hij hj hi hjj e => ?_⟩
  · by_cases e : keyS t = keyS (bodyT (ren fs (rt L) (bdA fs k)))
    · refine ⟨k, rt L, by omega, he, fun x hx => ⟨hlt x hx, (hroot x hx).2⟩, keyS_iff.1 e, fun z => ?_⟩
      rw [e]
      exact atKey_put_same h.tidy.isMap (keyS_is _) _ _
    · rw [has_put_other e] at ht
      obtain ⟨i, q, h1, h2, h3, h4, h5⟩ := h.back t ht
      refine ⟨i, q, by omega, h2, h3, h4, fun z => ?_⟩
      rw [atKey_put_other e]
      exact h5 z
  · by_cases e : keyS (bodyT (ren fs (rt L) (bdA fs i))) = keyS (bodyT (ren fs (rt L) (bdA fs k)))
    · rw [e]; exact has_put_same h.tidy.isMap (keyS_is _) _
    · rw [has_put_other e]
      have : i ≠ k := fun e2 => by subst e2; exact e rfl
      exact h.here hb i (by omega) hii
  · by_cases e2 : j = k
    · subst e2
      have := h.here hb i (by omega) hi
      rw [e, hno] at this
      cases this
    · exact h.apart hb i j hij (by omega) hi hjj e
theorem fi_link {fs : List FunD} {L : List Nat} {k : Nat} {D : DataW Unit} {b : Bool} (hp : Prg fs) (hs : Small fs) (hl : Links L) (hn : L.length = fs.length) (hst : St fs (rt L)) (h : FI fs L k D b) (hk : k < fs.length) (he : L.getD k k = k) (hyes : has D (keyS (bodyT (ren fs (rt L) (bdA fs k)))) = true) :
    ∃ i, i < k ∧ (∀ z, D.atKey (keyS (bodyT (ren fs (rt L) (bdA fs k)))) z = .lit (.int .i64 (i : Int))) ∧ FI fs (L.set k i) (k + 1) D true ∧ St fs (rt (L.set k i)) ∧ (stays (rt (L.set k i)) fs.length).length < (stays (rt L) fs.length).length := by
  have hroot := rt_root (fs := fs) hl hn
  have hlt := st_lt hroot
  obtain ⟨i, q, h1, h2, h3, h4, h5⟩ := h.back _ hyes
  have hi : i < fs.length := by omega
  have hrs : ∀ x, x < fs.length → rt (L.set k i) x = upd (rt L) i k x := fun x hx => rt_set hl (by omega) h1 h2 he x x (Nat.le_refl _) (by omega)
  have hb : ren fs (rt L) (bdA fs i) = ren fs (rt L) (bdA fs k) := by
    have h6 := bodyT_inj (hs.ok hlt hk) (hs.ok (fun x hx => (h3 x hx).1) hi) h4
    have h7 := congrArg (ren fs (rt L)) h6
    rw [ren_ren hp hlt (fun x hx => (hroot x hx).2), ren_ren hp (fun x hx => (h3 x hx).1) (fun x hx => (h3 x hx).2)] at h7
    exact h7.symm
  have hri : rt L i = i := rt_stays h2
  have hrk : rt L k = k := rt_stays he
  refine ⟨i, h1, h5, ⟨h.tidy, fun t ht => ?_, (fun e => by cases e), (fun e => by cases e)⟩, st_congr hp (fun x hx => (hrs x hx).symm) (upd_st hp hst hk h1 hri hrk hb), ?_⟩
  · obtain ⟨i', q', k1, k2, k3, k4, k5⟩ := h.back t ht
    refine ⟨i', q', by omega, by rw [set_getD (by omega), if_neg (by omega)]; exact k2, fun x hx => ⟨(k3 x hx).1, ?_⟩, k4, k5⟩
    rw [hrs x hx, hrs _ (k3 x hx).1]
    unfold upd
    rw [(k3 x hx).2]
  · rw [stays_congr hrs]
    have := stays_drop hroot h1 hk hri hrk
    omega
theorem fi_end {fs : List FunD} {L : List Nat} {D : DataW Unit} (hl : Links L) (hn : L.length = fs.length) (hst : St fs (rt L)) (h : FI fs L fs.length D false) : Clo fs (rt L) :=
  clo_of hst fun i k hik hk hi hrk => h.apart rfl i k hik hk ((rt_iff hl (by omega)).1 hi) ((rt_iff hl (by omega)).1 hrk)
end Go.Proofs.YthbbmookhcalkaaGreatDoor.FoldK
