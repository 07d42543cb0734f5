/- The contracts of LayMany and LaySame of both sides. -/
import Derived.Test.YtenkalflflkffaaLayA
namespace Go.Proofs.Ytenkalflflkffaa.LayB
open Go.ChangeShapes Go.WideShapes Go.ChangeAt Go.RowKit Go.Joins Go.Deep
open Go.Proofs.Ytenkalflflkffaa.Base Go.Proofs.Ytenkalflflkffaa.Funs Go.Proofs.Ytenkalflflkffaa.Open Go.Proofs.Ytenkalflflkffaa.Keep Go.Proofs.Ytenkalflflkffaa.Refs Go.Proofs.Ytenkalflflkffaa.LayN Go.Proofs.Ytenkalflflkffaa.LayA
set_option linter.unusedVariables false
set_option maxRecDepth 100000

def tl (ns : List ByteArray) : List (List UInt8) := ns.map ByteArray.toList
def manyTo (st : List (List ByteArray)) : Nat → Nat
  | 0 => 0
  | k + 1 => manyTo st k + (st.getD k []).length
def manyN (st : List (List ByteArray)) : Nat := manyTo st st.length
theorem many_succ {st : List (List ByteArray)} {k : Nat} (h : k < st.length) : manyTo st (k + 1) = manyTo st k + st[k].length := by simp [manyTo, List.getD, List.getElem?_eq_getElem h]
theorem many_bd {st : List (List ByteArray)} (h : ∀ ss ∈ st, ss.length ≤ 1048576) : ∀ k, k ≤ st.length → manyTo st k ≤ k * 1048576
  | 0, _ => by simp [manyTo]
  | k + 1, hk => by
    have := many_bd h k (by omega)
    have := h _ (List.getElem_mem (show k < st.length by omega))
    rw [many_succ (by omega), Nat.succ_mul]; omega
theorem many_end {st : List (List ByteArray)} {k : Nat} (h : ¬ k < st.length) (hk : k ≤ st.length) : manyTo st k = manyN st := by rw [show k = st.length by omega]; rfl

set_option maxHeartbeats 1000000 in
theorem specMany_any (na sa : Option Addr) (nl nc sc : Nat) (st : List (List ByteArray)) (w : World) (hf : FewT st) (h3 : st.length ≤ sc) (h4 : sc ≤ maxLen) (hT : TextsRow w sa st) :
    Calls Try.prog 32 #[.agg #[.slice na nl nc, .slice sa st.length sc]] w fun e w' => e = .returned (.int .i64 (manyN st : Nat)) ∧ Below w.heap.size w w' := by
  have HT := hide hT
  have HX := hide (new_block w (.cells #[.slice na nl nc, .slice sa st.length sc] 27))
  have hB0 := below_alloc1 w (.cells #[.slice na nl nc, .slice sa st.length sc] 27)
  have hl := hf.1
  have HBD := hide (many_bd hf.2)
  have HL := hide hf.2
  clear hT hf
  go_enter Try.func32, Try.ntmps32
  go_wp2_with fail
  go_loopw [3, 4] (fun z i w' => ∃ k m : Nat, k ≤ st.length ∧ i = .int .i64 k ∧ z = .int .i64 m ∧ Hid (m = manyTo st k) ∧ w'.heap[w.heap.size]? = some (.cells #[.slice na nl nc, .slice sa st.length sc] 27) ∧ Below w.heap.size w w') (fun _ i _ => st.length - (intOf i).toNat)
  case atStart => exact ⟨0, 0, Nat.zero_le _, rfl, rfl, rfl, unhide HX, hB0⟩
  case round =>
    obtain ⟨k, m, hk, rfl, rfl, HM, hX, hB⟩ := hrel
    have HX := hide hX
    have hx := box2 hX
    clear hX
    have hm : m ≤ k * 1048576 := by rw [unhide HM]; exact unhide HBD k hk
    by_cases hkl : k < st.length
    · obtain ⟨b, off, rfl⟩ := (unhide HT).get (by omega)
      obtain ⟨ai, ci, c0, h5, h6, h7⟩ := ((unhide HT).below hB).at hkl
      have hkl' : (k : Int) < (st.length : Int) := by omega
      have HN := hide (many_succ hkl)
      have hq : st[k].length ≤ 1048576 := unhide HL _ (List.getElem_mem _)
      generalize st[k] = f at *
      clear h7
      unfold maxLen at h6
      go_wp2_with fail
      exact ⟨⟨k + 1, m + f.length, by omega, by go_num, by go_num, by show _ = _; rw [unhide HM, unhide HN], unhide HX, hB⟩, by simp [intOf]; omega⟩
    · have HE := hide (many_end hkl hk)
      go_wp2_with fail
      go_ret
      exact ⟨ret_int (by rw [unhide HM, unhide HE]), hB⟩
set_option maxHeartbeats 1000000 in
theorem implMany_any (na sa : Option Addr) (nl nc sc : Nat) (st : List (List ByteArray)) (w : World) (hf : FewT st) (h3 : st.length ≤ sc) (h4 : sc ≤ maxLen) (hT : TextsRow w sa st) :
    Calls Try.prog 33 #[.agg #[.slice na nl nc, .slice sa st.length sc]] w fun e w' => e = .returned (.int .i64 (manyN st : Nat)) ∧ Below w.heap.size w w' := by
  have HT := hide hT
  have HX := hide (new_block w (.cells #[.slice na nl nc, .slice sa st.length sc] 27))
  have hB0 := below_alloc1 w (.cells #[.slice na nl nc, .slice sa st.length sc] 27)
  have hl := hf.1
  have HBD := hide (many_bd hf.2)
  have HL := hide hf.2
  clear hT hf
  go_enter Try.func33, Try.ntmps33
  go_wp2_with fail
  go_loopw [3, 9] (fun z i w' => ∃ k m : Nat, k ≤ st.length ∧ i = .int .i64 k ∧ z = .int .i64 m ∧ Hid (m = manyTo st k) ∧ w'.heap[w.heap.size]? = some (.cells #[.slice na nl nc, .slice sa st.length sc] 27) ∧ Below w.heap.size w w') (fun _ i _ => st.length - (intOf i).toNat)
  case atStart => exact ⟨0, 0, Nat.zero_le _, rfl, rfl, rfl, unhide HX, hB0⟩
  case round =>
    obtain ⟨k, m, hk, rfl, rfl, HM, hX, hB⟩ := hrel
    have HX := hide hX
    have hx := box2 hX
    clear hX
    have hm : m ≤ k * 1048576 := by rw [unhide HM]; exact unhide HBD k hk
    by_cases hkl : k < st.length
    · obtain ⟨b, off, rfl⟩ := (unhide HT).get (by omega)
      obtain ⟨ai, ci, c0, h5, h6, h7⟩ := ((unhide HT).below hB).at hkl
      have hkl' : (k : Int) < (st.length : Int) := by omega
      have HN := hide (many_succ hkl)
      have hq : st[k].length ≤ 1048576 := unhide HL _ (List.getElem_mem _)
      generalize st[k] = f at *
      clear h7
      unfold maxLen at h6
      go_wp2_with fail
      exact ⟨⟨k + 1, m + f.length, by omega, by go_num, by go_num, by show _ = _; rw [unhide HM, unhide HN], unhide HX, hB⟩, by simp [intOf]; omega⟩
    · have HE := hide (many_end hkl hk)
      go_wp2_with fail
      go_ret
      exact ⟨ret_int (by rw [unhide HM, unhide HE]), hB⟩

set_option maxHeartbeats 2000000 in
theorem names_any (a a' : Option Addr) (cap cap' : Nat) (xs ys : List ByteArray) (w : World) (hcap : xs.length ≤ cap) (hcm : cap ≤ maxLen) (hcap' : ys.length ≤ cap') (hcm' : cap' ≤ maxLen) (hR : TextRow w a xs) (hQ : TextRow w a' ys) :
    Calls Try.prog 56 #[.slice a xs.length cap, .slice a' ys.length cap'] w fun e w' => e = .returned (.bool (decide (tl xs = tl ys))) ∧ Below w.heap.size w w' := by
  have HR := hide hR
  have HQ := hide hQ
  clear hR hQ
  unfold maxLen at hcm hcm'
  by_cases hl : xs.length = ys.length
  · obtain ⟨n, hx, hy⟩ : ∃ n, xs.length = n ∧ ys.length = n := ⟨_, rfl, hl.symm⟩
    clear hl
    rw [hx, hy]
    have HX := hide hx
    have HY := hide hy
    have hn : (n : Int) ≤ 9223372036854775807 := by omega
    clear hx hy hcap hcap'
    go_enter Try.func56, Try.ntmps56
    go_wp2_with fail
    go_loopw [5] (fun i w' => ∃ k : Nat, k ≤ n ∧ i = .int .i64 k ∧ Hid (AlikeN (tl xs) (tl ys) k) ∧ Below w.heap.size w w') (fun i _ => n - (intOf i).toNat)
    case atStart => exact ⟨0, Nat.zero_le _, rfl, AlikeN.zero _ _, Below.refl _ _⟩
    case round =>
      obtain ⟨k, hk, rfl, HA, hB⟩ := hrel
      by_cases hkl : k < n
      · have hkx : k < xs.length := by have := unhide HX; omega
        have hky : k < ys.length := by have := unhide HY; omega
        obtain ⟨b, off, rfl⟩ := (unhide HR).get (by omega)
        obtain ⟨b', off', rfl⟩ := (unhide HQ).get (by omega)
        obtain ⟨c0, _⟩ := ((unhide HR).below hB).cells hkx
        obtain ⟨d0, _⟩ := ((unhide HQ).below hB).cells hky
        have hkl' : (k : Int) < (n : Int) := by omega
        have hk0 : (0 : Int) ≤ (k : Int) := by omega
        have HS : Hid ((xs[k].toList == ys[k].toList) = true → AlikeN (tl xs) (tl ys) (k + 1)) := fun h => (unhide HA).step (by simp [tl]; omega) (by simp [tl]; omega) (by simpa [tl] using h)
        have HN : Hid ((xs[k].toList == ys[k].toList) = false → false = decide (tl xs = tl ys)) := fun h => list_ne (k := k) (by simp [tl]; omega) (by simp [tl]; omega) (by simpa [tl] using h)
        generalize xs[k] = x at *
        generalize ys[k] = y at *
        cases hq : (x.toList == y.toList)
        · go_wp2_with fail
          go_quiet (fail)
          go_wp2_with fail
          go_ret
          exact ⟨ret_bool (unhide HN hq), by first | exact hB | exact bl_drewN hB _ | exact hB.drew⟩
        · go_wp2_with fail
          go_quiet (fail)
          go_wp2_with fail
          exact ⟨⟨k + 1, by omega, by go_num, unhide HS hq, by first | exact hB | exact bl_drewN hB _ | exact hB.drew⟩, by simp [intOf]; omega⟩
      · have hke : k = n := by omega
        have HE : Hid (true = decide (tl xs = tl ys)) := list_eq (k := n) (by simp [tl]; exact unhide HX) (by simp [tl]; exact unhide HY) (hke ▸ unhide HA)
        go_wp2_with fail
        go_ret
        exact ⟨ret_bool (unhide HE), hB⟩
  · have HE : Hid (false = decide (tl xs = tl ys)) := list_len (by simpa [tl] using hl)
    have hl' : ¬ (xs.length : Int) = (ys.length : Int) := by omega
    go_enter Try.func56, Try.ntmps56
    go_wp2_with fail
    go_ret
    exact ⟨ret_bool (unhide HE), Below.refl _ _⟩
set_option maxHeartbeats 2000000 in
theorem equalNames_any (a a' : Option Addr) (cap cap' : Nat) (xs ys : List ByteArray) (w : World) (hcap : xs.length ≤ cap) (hcm : cap ≤ maxLen) (hcap' : ys.length ≤ cap') (hcm' : cap' ≤ maxLen) (hR : TextRow w a xs) (hQ : TextRow w a' ys) :
    Calls Try.prog 59 #[.slice a xs.length cap, .slice a' ys.length cap'] w fun e w' => e = .returned (.bool (decide (tl xs = tl ys))) ∧ Below w.heap.size w w' := by
  have HR := hide hR
  have HQ := hide hQ
  clear hR hQ
  unfold maxLen at hcm hcm'
  by_cases hl : xs.length = ys.length
  · obtain ⟨n, hx, hy⟩ : ∃ n, xs.length = n ∧ ys.length = n := ⟨_, rfl, hl.symm⟩
    clear hl
    rw [hx, hy]
    have HX := hide hx
    have HY := hide hy
    have hn : (n : Int) ≤ 9223372036854775807 := by omega
    clear hx hy hcap hcap'
    go_enter Try.func59, Try.ntmps59
    go_wp2_with fail
    go_loopw [13] (fun i w' => ∃ k : Nat, k ≤ n ∧ i = .int .i64 k ∧ Hid (AlikeN (tl xs) (tl ys) k) ∧ Below w.heap.size w w') (fun i _ => n - (intOf i).toNat)
    case atStart => exact ⟨0, Nat.zero_le _, rfl, AlikeN.zero _ _, Below.refl _ _⟩
    case round =>
      obtain ⟨k, hk, rfl, HA, hB⟩ := hrel
      by_cases hkl : k < n
      · have hkx : k < xs.length := by have := unhide HX; omega
        have hky : k < ys.length := by have := unhide HY; omega
        obtain ⟨b, off, rfl⟩ := (unhide HR).get (by omega)
        obtain ⟨b', off', rfl⟩ := (unhide HQ).get (by omega)
        obtain ⟨c0, _⟩ := ((unhide HR).below hB).cells hkx
        obtain ⟨d0, _⟩ := ((unhide HQ).below hB).cells hky
        have hkl' : (k : Int) < (n : Int) := by omega
        have hk0 : (0 : Int) ≤ (k : Int) := by omega
        have HS : Hid ((xs[k].toList == ys[k].toList) = true → AlikeN (tl xs) (tl ys) (k + 1)) := fun h => (unhide HA).step (by simp [tl]; omega) (by simp [tl]; omega) (by simpa [tl] using h)
        have HN : Hid ((xs[k].toList == ys[k].toList) = false → false = decide (tl xs = tl ys)) := fun h => list_ne (k := k) (by simp [tl]; omega) (by simp [tl]; omega) (by simpa [tl] using h)
        generalize xs[k] = x at *
        generalize ys[k] = y at *
        cases hq : (x.toList == y.toList)
        · go_wp2_with fail
          go_quiet (fail)
          go_wp2_with fail
          go_ret
          exact ⟨ret_bool (unhide HN hq), by first | exact hB | exact bl_drewN hB _ | exact hB.drew⟩
        · go_wp2_with fail
          go_quiet (fail)
          go_wp2_with fail
          exact ⟨⟨k + 1, by omega, by go_num, unhide HS hq, by first | exact hB | exact bl_drewN hB _ | exact hB.drew⟩, by simp [intOf]; omega⟩
      · have hke : k = n := by omega
        have HE : Hid (true = decide (tl xs = tl ys)) := list_eq (k := n) (by simp [tl]; exact unhide HX) (by simp [tl]; exact unhide HY) (hke ▸ unhide HA)
        go_wp2_with fail
        go_ret
        exact ⟨ret_bool (unhide HE), hB⟩
  · have HE : Hid (false = decide (tl xs = tl ys)) := list_len (by simpa [tl] using hl)
    have hl' : ¬ (xs.length : Int) = (ys.length : Int) := by omega
    go_enter Try.func59, Try.ntmps59
    go_wp2_with fail
    go_ret
    exact ⟨ret_bool (unhide HE), Below.refl _ _⟩

def laySameB (ns ns' : List Int) (st st' : List (List ByteArray)) : Bool := decide (ns = ns') && decide (st.map tl = st'.map tl)
theorem tl_inj : ∀ {a b : List ByteArray}, tl a = tl b → a = b
  | [], [], _ => rfl
  | [], _ :: _, h => by simp [tl] at h
  | _ :: _, [], h => by simp [tl] at h
  | x :: a, y :: b, h => by
    simp only [tl, List.map_cons, List.cons.injEq] at h
    have e : x = y := by
      have h1 := h.1
      rw [ByteArray.toList_eq, ByteArray.toList_eq] at h1
      exact ByteArray.ext (Array.toList_inj.1 h1)
    rw [e, tl_inj (show tl a = tl b from h.2)]
theorem stl_inj : ∀ {a b : List (List ByteArray)}, a.map tl = b.map tl → a = b
  | [], [], _ => rfl
  | [], _ :: _, h => by simp at h
  | _ :: _, [], h => by simp at h
  | x :: a, y :: b, h => by
    simp only [List.map_cons, List.cons.injEq] at h
    rw [tl_inj h.1, stl_inj h.2]
theorem laySame_iff {ns ns' : List Int} {st st' : List (List ByteArray)} : laySameB ns ns' st st' = true ↔ ns = ns' ∧ st = st' := by
  unfold laySameB
  rw [Bool.and_eq_true, decide_eq_true_iff, decide_eq_true_iff]
  exact ⟨fun h => ⟨h.1, stl_inj h.2⟩, fun h => ⟨h.1, by rw [h.2]⟩⟩
theorem texts_get {xs ys : List (List ByteArray)} {k : Nat} (hx : k < xs.length) (hy : k < ys.length) (h : decide (tl xs[k] = tl ys[k]) = false) : false = decide (xs.map tl = ys.map tl) :=
  list_ne (k := k) (by simpa using hx) (by simpa using hy) (by simpa using h)
theorem same_at {ns ns' : List Int} {st st' : List (List ByteArray)} (h : ns ≠ ns') : false = laySameB ns ns' st st' := by simp [laySameB, h]
theorem same_st {ns ns' : List Int} {st st' : List (List ByteArray)} (h : false = decide (st.map tl = st'.map tl)) : false = laySameB ns ns' st st' := by simp [laySameB, ← h]
theorem same_yes {ns ns' : List Int} {st st' : List (List ByteArray)} (h0 : ns = ns') (h : true = decide (st.map tl = st'.map tl)) : true = laySameB ns ns' st st' := by simp [laySameB, ← h, h0]

set_option maxHeartbeats 2000000 in
theorem equalTexts_any (a a' : Option Addr) (cap cap' : Nat) (xs ys : List (List ByteArray)) (w : World) (hcap : xs.length ≤ cap) (hcm : cap ≤ maxLen) (hcap' : ys.length ≤ cap') (hcm' : cap' ≤ maxLen) (hR : TextsRow w a xs) (hQ : TextsRow w a' ys) :
    Calls Try.prog 58 #[.slice a xs.length cap, .slice a' ys.length cap', .func (.func 59) #[] #[]] w fun e w' => e = .returned (.bool (decide (xs.map tl = ys.map tl))) ∧ Below w.heap.size w w' := by
  have HR := hide hR
  have HQ := hide hQ
  clear hR hQ
  unfold maxLen at hcm hcm'
  by_cases hl : xs.length = ys.length
  · obtain ⟨n, hx, hy⟩ : ∃ n, xs.length = n ∧ ys.length = n := ⟨_, rfl, hl.symm⟩
    clear hl
    rw [hx, hy]
    have HX := hide hx
    have HY := hide hy
    have hn : (n : Int) ≤ 9223372036854775807 := by omega
    clear hx hy hcap hcap'
    go_enter Try.func58, Try.ntmps58
    go_wp2_with fail
    go_loopw [17] (fun i w' => ∃ k : Nat, k ≤ n ∧ i = .int .i64 k ∧ Hid (AlikeN (xs.map tl) (ys.map tl) k) ∧ Below w.heap.size w w') (fun i _ => n - (intOf i).toNat)
    case atStart => exact ⟨0, Nat.zero_le _, rfl, AlikeN.zero _ _, Below.refl _ _⟩
    case round =>
      obtain ⟨k, hk, rfl, HA, hB⟩ := hrel
      by_cases hkl : k < n
      · have hkx : k < xs.length := by have := unhide HX; omega
        have hky : k < ys.length := by have := unhide HY; omega
        obtain ⟨b, off, rfl⟩ := (unhide HR).get (by omega)
        obtain ⟨b', off', rfl⟩ := (unhide HQ).get (by omega)
        obtain ⟨ai, ci, c0, h4, h5, h6⟩ := ((unhide HR).below hB).at hkx
        obtain ⟨ai', ci', d0, h4', h5', h6'⟩ := ((unhide HQ).below hB).at hky
        have hkl' : (k : Int) < (n : Int) := by omega
        have hk0 : (0 : Int) ≤ (k : Int) := by omega
        have HS : Hid (decide (tl xs[k] = tl ys[k]) = true → AlikeN (xs.map tl) (ys.map tl) (k + 1)) := fun h => (unhide HA).step (by simpa using hkx) (by simpa using hky) (by simpa using h)
        have HN : Hid (decide (tl xs[k] = tl ys[k]) = false → false = decide (xs.map tl = ys.map tl)) := texts_get hkx hky
        generalize xs[k] = x at *
        generalize ys[k] = y at *
        have H6 := hide (And.intro h6 h6')
        clear h6 h6'
        go_wp2_with fail
        refine (equalNames_any ai ai' ci ci' x y _ h4 h5 h4' h5' (unhide H6).1 (unhide H6).2).mono ?_
        rintro e w1 ⟨rfl, hb1⟩
        have hB1 := bl_trans hB hb1
        clear c0 d0
        cases hq : decide (tl x = tl y)
        · go_wp2_with fail
          go_ret
          exact ⟨ret_bool (unhide HN hq), hB1⟩
        · go_wp2_with fail
          exact ⟨⟨k + 1, by omega, by go_num, unhide HS hq, hB1⟩, by simp [intOf]; omega⟩
      · have hke : k = n := by omega
        have HE : Hid (true = decide (xs.map tl = ys.map tl)) := list_eq (k := n) (by simp; exact unhide HX) (by simp; exact unhide HY) (hke ▸ unhide HA)
        go_wp2_with fail
        go_ret
        exact ⟨ret_bool (unhide HE), hB⟩
  · have HE : Hid (false = decide (xs.map tl = ys.map tl)) := list_len (by simpa using hl)
    have hl' : ¬ (xs.length : Int) = (ys.length : Int) := by omega
    go_enter Try.func58, Try.ntmps58
    go_wp2_with fail
    go_ret
    exact ⟨ret_bool (unhide HE), Below.refl _ _⟩
set_option maxHeartbeats 2000000 in
theorem implLSame_any (na sa na' sa' : Option Addr) (nc sc nc' sc' : Nat) (ns ns' : List Int) (st st' : List (List ByteArray)) (w : World) (h1 : ns.length ≤ nc) (h2 : nc ≤ maxLen) (h3 : st.length ≤ sc) (h4 : sc ≤ maxLen) (h1' : ns'.length ≤ nc') (h2' : nc' ≤ maxLen) (h3' : st'.length ≤ sc') (h4' : sc' ≤ maxLen) (hs : NumRow w na ns) (ho : TextsRow w sa st) (hs' : NumRow w na' ns') (ho' : TextsRow w sa' st') :
    Calls Try.prog 31 #[.agg #[.slice na ns.length nc, .slice sa st.length sc], .agg #[.slice na' ns'.length nc', .slice sa' st'.length sc']] w fun e w' => e = .returned (.bool (laySameB ns ns' st st')) ∧ Below w.heap.size w w' := by
  have HS := hide (And.intro hs (And.intro ho (And.intro hs' ho')))
  clear hs ho hs' ho'
  have hB0 := below_alloc2 w (.cells #[.slice na ns.length nc, .slice sa st.length sc] 27) (.cells #[.slice na' ns'.length nc', .slice sa' st'.length sc'] 27)
  have n0 := box_below (new_block w (.cells #[.slice na ns.length nc, .slice sa st.length sc] 27)) (below_alloc1 _ (.cells #[.slice na' ns'.length nc', .slice sa' st'.length sc'] 27))
  have n1 := new_block (w.alloc (.cells #[.slice na ns.length nc, .slice sa st.length sc] 27)) (.cells #[.slice na' ns'.length nc', .slice sa' st'.length sc'] 27)
  simp only [World.size_alloc] at n1
  have HX := hide n0
  have HY := hide n1
  clear n0 n1
  by_cases hn : ns = ns'
  · have HD : decide (ns = ns') = true := decide_eq_true hn
    have HN := hide hn
    clear hn
    go_enter Try.func31, Try.ntmps31
    go_wp2_with fail
    refine (equalInts_any na na' _ _ ns ns' _ h1 h2 h1' h2' ((unhide HS).1.below hB0) ((unhide HS).2.2.1.below hB0)).mono ?_
    rw [HD]
    rintro e w2 ⟨rfl, hb2⟩
    replace HX := hide (box_below (unhide HX) hb2)
    replace HY := hide (box_below (unhide HY) hb2)
    have hB2 := bl_trans hB0 hb2
    clear hB0 hb2 HD
    have hX := box2 (unhide HX)
    have hY := box2 (unhide HY)
    go_wp2_with fail
    refine (equalTexts_any sa sa' _ _ st st' _ h3 h4 h3' h4' ((unhide HS).2.1.below hB2) ((unhide HS).2.2.2.below hB2)).mono ?_
    rintro e w3 ⟨rfl, hb3⟩
    have hB3 := bl_trans hB2 hb3
    clear hB2 hb3 hX hY
    cases hq : decide (st.map tl = st'.map tl)
    · go_wp2_with fail
      go_ret
      exact ⟨ret_bool (same_st hq.symm), hB3⟩
    · go_wp2_with fail
      go_ret
      exact ⟨ret_bool (same_yes (unhide HN) hq.symm), hB3⟩
  · have HD : decide (ns = ns') = false := decide_eq_false hn
    have HN := hide hn
    clear hn
    go_enter Try.func31, Try.ntmps31
    go_wp2_with fail
    refine (equalInts_any na na' _ _ ns ns' _ h1 h2 h1' h2' ((unhide HS).1.below hB0) ((unhide HS).2.2.1.below hB0)).mono ?_
    rw [HD]
    rintro e w2 ⟨rfl, hb2⟩
    have hB2 := bl_trans hB0 hb2
    clear hB0 hb2 HD
    go_wp2_with fail
    go_ret
    exact ⟨ret_bool (same_at (unhide HN)), hB2⟩
set_option maxHeartbeats 4000000 in
theorem specLSame_any (na sa na' sa' : Option Addr) (nc sc nc' sc' : Nat) (ns ns' : List Int) (st st' : List (List ByteArray)) (w : World) (h1 : ns.length ≤ nc) (h2 : nc ≤ maxLen) (h3 : st.length ≤ sc) (h4 : sc ≤ maxLen) (h1' : ns'.length ≤ nc') (h2' : nc' ≤ maxLen) (h3' : st'.length ≤ sc') (h4' : sc' ≤ maxLen) (hs : NumRow w na ns) (ho : TextsRow w sa st) (hs' : NumRow w na' ns') (ho' : TextsRow w sa' st') :
    Calls Try.prog 30 #[.agg #[.slice na ns.length nc, .slice sa st.length sc], .agg #[.slice na' ns'.length nc', .slice sa' st'.length sc']] w fun e w' => e = .returned (.bool (laySameB ns ns' st st')) ∧ Below w.heap.size w w' := by
  have HS := hide (And.intro hs (And.intro ho (And.intro hs' ho')))
  clear hs ho hs' ho'
  have hB0 := below_alloc2 w (.cells #[.slice na ns.length nc, .slice sa st.length sc] 27) (.cells #[.slice na' ns'.length nc', .slice sa' st'.length sc'] 27)
  have n0 := box_below (new_block w (.cells #[.slice na ns.length nc, .slice sa st.length sc] 27)) (below_alloc1 _ (.cells #[.slice na' ns'.length nc', .slice sa' st'.length sc'] 27))
  have n1 := new_block (w.alloc (.cells #[.slice na ns.length nc, .slice sa st.length sc] 27)) (.cells #[.slice na' ns'.length nc', .slice sa' st'.length sc'] 27)
  simp only [World.size_alloc] at n1
  have HX := hide n0
  have HY := hide n1
  clear n0 n1
  unfold maxLen at h4 h4'
  have hm : (st.length : Int) ≤ 9223372036854775807 := by omega
  have hm' : (st'.length : Int) ≤ 9223372036854775807 := by omega
  by_cases hn : ns = ns'
  · have HD : decide (ns = ns') = true := decide_eq_true hn
    have HN := hide hn
    clear hn
    by_cases hl : st.length = st'.length
    · obtain ⟨n, hx, hy⟩ : ∃ n, st.length = n ∧ st'.length = n := ⟨_, rfl, hl.symm⟩
      clear hl
      have HLX := hide hx
      have HLY := hide hy
      rw [hx] at HX hB0 h3 hm
      rw [hy] at HX HY hB0 h3' hm'
      rw [hx] at HY
      rw [hx, hy]
      clear hx hy
      go_enter Try.func30, Try.ntmps30
      go_wp2_with fail
      refine (l5Ints_any na na' _ _ ns ns' _ h1 h2 h1' h2' ((unhide HS).1.below hB0) ((unhide HS).2.2.1.below hB0)).mono ?_
      rw [HD]
      rintro e w2 ⟨rfl, hb2⟩
      replace HX := hide (box_below (unhide HX) hb2)
      replace HY := hide (box_below (unhide HY) hb2)
      have hB2 := bl_trans hB0 hb2
      clear hB0 hb2 HD
      have hX := box2 (unhide HX)
      have hY := box2 (unhide HY)
      go_wp2_with fail
      clear hX hY
      go_loopw [5] (fun i w' => ∃ k : Nat, k ≤ n ∧ i = .int .i64 k ∧ Hid (AlikeN (st.map tl) (st'.map tl) k) ∧ w'.heap[w.heap.size]? = some (.cells #[.slice na ns.length nc, .slice sa n sc] 27) ∧ w'.heap[w.heap.size + 1]? = some (.cells #[.slice na' ns'.length nc', .slice sa' n sc'] 27) ∧ Below w.heap.size w w') (fun i _ => n - (intOf i).toNat)
      case atStart => exact ⟨0, Nat.zero_le _, rfl, AlikeN.zero _ _, unhide HX, unhide HY, hB2⟩
      case round =>
        obtain ⟨k, hk, rfl, HA, hX, hY, hB⟩ := hrel
        clear HX HY hB2
        have HX := hide hX
        have HY := hide hY
        by_cases hkl : k < n
        · have hkx : k < st.length := by have := unhide HLX; omega
          have hky : k < st'.length := by have := unhide HLY; omega
          obtain ⟨b, off, rfl⟩ := (unhide HS).2.1.get (by omega)
          obtain ⟨b', off', rfl⟩ := (unhide HS).2.2.2.get (by omega)
          obtain ⟨ai, ci, c0, h5, h6, h7⟩ := ((unhide HS).2.1.below hB).at hkx
          obtain ⟨ai', ci', d0, h5', h6', h7'⟩ := ((unhide HS).2.2.2.below hB).at hky
          have hkl' : (k : Int) < (n : Int) := by omega
          have hk0 : (0 : Int) ≤ (k : Int) := by omega
          have HP : Hid (decide (tl st[k] = tl st'[k]) = true → AlikeN (st.map tl) (st'.map tl) (k + 1)) := fun h => (unhide HA).step (by simpa using hkx) (by simpa using hky) (by simpa using h)
          have HQ : Hid (decide (tl st[k] = tl st'[k]) = false → false = laySameB ns ns' st st') := fun h => same_st (texts_get hkx hky h)
          generalize st[k] = x at *
          generalize st'[k] = y at *
          have hx := (box2 hX).1
          have hy := (box2 hY).1
          have hS0 := And.intro h7 (And.intro h7' (And.intro hx.1 (And.intro hx.2 (And.intro hy.1 (And.intro hy.2 (And.intro c0 (And.intro d0 (And.intro hX (And.intro hY hB)))))))))
          have HST : Hid (Stable (fun w' => TextRow w' ai x ∧ TextRow w' ai' y ∧ w'.cell? ⟨w.heap.size, 0, none⟩ = some (.slice na ns.length nc) ∧ w'.cell? ⟨w.heap.size, 1, none⟩ = some (.slice (some ⟨b, off, none⟩) n sc) ∧ w'.cell? ⟨w.heap.size + 1, 0, none⟩ = some (.slice na' ns'.length nc') ∧ w'.cell? ⟨w.heap.size + 1, 1, none⟩ = some (.slice (some ⟨b', off', none⟩) n sc') ∧ w'.cell? ⟨b, off + k, none⟩ = some (.slice ai x.length ci) ∧ w'.cell? ⟨b', off' + k, none⟩ = some (.slice ai' y.length ci') ∧ w'.heap[w.heap.size]? = some (.cells #[.slice na ns.length nc, .slice (some ⟨b, off, none⟩) n sc] 27) ∧ w'.heap[w.heap.size + 1]? = some (.cells #[.slice na' ns'.length nc', .slice (some ⟨b', off', none⟩) n sc'] 27) ∧ Below w.heap.size w w')) :=
            (Stable.trow _ _).and ((Stable.trow _ _).and ((Stable.cell _ _).and ((Stable.cell _ _).and ((Stable.cell _ _).and ((Stable.cell _ _).and ((Stable.cell _ _).and ((Stable.cell _ _).and ((Stable.box _ _).and ((Stable.box _ _).and (Stable.below w))))))))))
          clear hx hy c0 d0 hX hY hB h7 h7' HX HY
          go_wp2_with fail
          go_region_held3 (fun w' => TextRow w' ai x ∧ TextRow w' ai' y ∧ w'.cell? ⟨w.heap.size, 0, none⟩ = some (.slice na ns.length nc) ∧ w'.cell? ⟨w.heap.size, 1, none⟩ = some (.slice (some ⟨b, off, none⟩) n sc) ∧ w'.cell? ⟨w.heap.size + 1, 0, none⟩ = some (.slice na' ns'.length nc') ∧ w'.cell? ⟨w.heap.size + 1, 1, none⟩ = some (.slice (some ⟨b', off', none⟩) n sc') ∧ w'.cell? ⟨b, off + k, none⟩ = some (.slice ai x.length ci) ∧ w'.cell? ⟨b', off' + k, none⟩ = some (.slice ai' y.length ci') ∧ w'.heap[w.heap.size]? = some (.cells #[.slice na ns.length nc, .slice (some ⟨b, off, none⟩) n sc] 27) ∧ w'.heap[w.heap.size + 1]? = some (.cells #[.slice na' ns'.length nc', .slice (some ⟨b', off', none⟩) n sc'] 27) ∧ Below w.heap.size w w')
            (first | assumption | (refine (unhide HST).1 _ _ hbk ?_; assumption) | (refine (unhide HST).2 _ ?_; assumption))
            (first | (go_at_call 56; refine (names_any ai ai' ci ci' x y _ h5 h6 h5' h6' (by apply s0; assumption) (by apply s1; assumption)).mono ?_; rintro e wk1 ⟨rfl, hbk⟩))
          have hS1 : (fun w' => TextRow w' ai x ∧ TextRow w' ai' y ∧ w'.cell? ⟨w.heap.size, 0, none⟩ = some (.slice na ns.length nc) ∧ w'.cell? ⟨w.heap.size, 1, none⟩ = some (.slice (some ⟨b, off, none⟩) n sc) ∧ w'.cell? ⟨w.heap.size + 1, 0, none⟩ = some (.slice na' ns'.length nc') ∧ w'.cell? ⟨w.heap.size + 1, 1, none⟩ = some (.slice (some ⟨b', off', none⟩) n sc') ∧ w'.cell? ⟨b, off + k, none⟩ = some (.slice ai x.length ci) ∧ w'.cell? ⟨b', off' + k, none⟩ = some (.slice ai' y.length ci') ∧ w'.heap[w.heap.size]? = some (.cells #[.slice na ns.length nc, .slice (some ⟨b, off, none⟩) n sc] 27) ∧ w'.heap[w.heap.size + 1]? = some (.cells #[.slice na' ns'.length nc', .slice (some ⟨b', off', none⟩) n sc'] 27) ∧ Below w.heap.size w w') wk1 := by assumption
          have hE := hS1.2.2.2.2.2.2.2.2
          clear hS0 hS1
          cases hq : decide (tl x = tl y)
          · go_wp2_with fail
            go_ret
            exact ⟨ret_bool (unhide HQ hq), hE.2.2⟩
          · go_wp2_with fail
            exact ⟨⟨k + 1, by omega, by go_num, unhide HP hq, hE⟩, by simp [intOf]; omega⟩
        · have hke : k = n := by omega
          have HE : Hid (true = laySameB ns ns' st st') := same_yes (unhide HN) (list_eq (k := n) (by simp; exact unhide HLX) (by simp; exact unhide HLY) (hke ▸ unhide HA))
          have hx := (box2 hX).1
          go_wp2_with fail
          go_ret
          exact ⟨ret_bool (unhide HE), hB⟩
    · have HE : Hid (false = laySameB ns ns' st st') := same_st (list_len (by simpa using hl))
      have hl' : ¬ (st.length : Int) = (st'.length : Int) := by omega
      go_enter Try.func30, Try.ntmps30
      go_wp2_with fail
      refine (l5Ints_any na na' _ _ ns ns' _ h1 h2 h1' h2' ((unhide HS).1.below hB0) ((unhide HS).2.2.1.below hB0)).mono ?_
      rw [HD]
      rintro e w2 ⟨rfl, hb2⟩
      replace HX := hide (box_below (unhide HX) hb2)
      replace HY := hide (box_below (unhide HY) hb2)
      have hB2 := bl_trans hB0 hb2
      clear hB0 hb2 HD
      have hX := box2 (unhide HX)
      have hY := box2 (unhide HY)
      go_wp2_with fail
      go_ret
      exact ⟨ret_bool (unhide HE), hB2⟩
  · have HD : decide (ns = ns') = false := decide_eq_false hn
    have HN := hide hn
    clear hn
    go_enter Try.func30, Try.ntmps30
    go_wp2_with fail
    refine (l5Ints_any na na' _ _ ns ns' _ h1 h2 h1' h2' ((unhide HS).1.below hB0) ((unhide HS).2.2.1.below hB0)).mono ?_
    rw [HD]
    rintro e w2 ⟨rfl, hb2⟩
    have hB2 := bl_trans hB0 hb2
    clear hB0 hb2 HD
    go_wp2_with fail
    go_ret
    exact ⟨ret_bool (same_at (unhide HN)), hB2⟩
end Go.Proofs.Ytenkalflflkffaa.LayB
