/- The contracts of both sides' comparisons of images and of their machines (written by mk_cell.py out of MSame.t). -/
import Derived.Test.YtefmmnckhldnnaaCellA
import Derived.Deep.RegionHeld3
import Derived.Deep.QuietTactic
import Derived.BigQuiet
namespace Go.Proofs.Ytefmmnckhldnnaa.CellB
open Go.ChangeShapes Go.WideShapes Go.ChangeAt Go.RowKit Go.Joins
open Go.Proofs.Ytefmmnckhldnnaa.Base Go.Proofs.Ytefmmnckhldnnaa.Funs Go.Proofs.Ytefmmnckhldnnaa.Open Go.Proofs.Ytefmmnckhldnnaa.Keep Go.Proofs.Ytefmmnckhldnnaa.LayN Go.Proofs.Ytefmmnckhldnnaa.CellA
set_option linter.unusedVariables false
set_option maxRecDepth 100000
theorem cell_no {a b c d : Int} (h : ¬ (⟨a, b⟩ : CellD) = ⟨c, d⟩) : (a == c && b == d) = false := by
  by_cases h1 : a = c <;> by_cases h2 : b = d <;> simp_all
theorem cell_neq (a b c d : Int) (h : (a == c && b == d) = false) (w : World) : (binOp .neq 49 (.agg #[.int .i64 a, .int .i64 b]) (.agg #[.int .i64 c, .int .i64 d])).run Try.prog w = .ok (.bool true) w := by
  have hu : Try.prog.underlying 49 = some (.struct (Try.prog.fieldsOf 49)) := by kernel_rfl
  rw [run_neq_struct, run_equalIn_agg w 9999 _ _ _ hu (by kernel_rfl)]
  by_cases h1 : a = c <;> by_cases h2 : b = d <;> simp_all [go_sem, Op.eqFields]
theorem cell_eql (a b c d : Int) (h : (a == c && b == d) = false) (w : World) : (binOp .eql 49 (.agg #[.int .i64 a, .int .i64 b]) (.agg #[.int .i64 c, .int .i64 d])).run Try.prog w = .ok (.bool false) w := by
  have hu : Try.prog.underlying 49 = some (.struct (Try.prog.fieldsOf 49)) := by kernel_rfl
  rw [run_eql_struct, run_equalIn_agg w 9999 _ _ _ hu (by kernel_rfl)]
  by_cases h1 : a = c <;> by_cases h2 : b = d <;> simp_all [go_sem, Op.eqFields]
set_option maxHeartbeats 2000000 in
theorem equalCells_any (a a' : Option Addr) (cap cap' : Nat) (xs ys : List CellD) (w : World) (hcap : xs.length ≤ cap) (hcm : cap ≤ maxLen) (hcap' : ys.length ≤ cap') (hcm' : cap' ≤ maxLen) (hR : CellRow w a xs) (hQ : CellRow w a' ys) :
    Calls Try.prog 93 #[.slice a xs.length cap, .slice a' ys.length cap'] w fun e w' => e = .returned (.bool (decide (xs = ys))) ∧ Below w.heap.size w w' := by
  have HR := hide hR
  have HQ := hide hQ
  clear hR hQ
  unfold maxLen at hcm hcm'
  by_cases hl : xs.length = ys.length
  · obtain ⟨n, hx, hy⟩ : ∃ n, xs.length = n ∧ ys.length = n := ⟨_, rfl, hl.symm⟩
    clear hl
    rw [hx, hy]
    have HX := hide hx
    have HY := hide hy
    have hn : (n : Int) ≤ 9223372036854775807 := by omega
    clear hx hy hcap hcap'
    go_enter Try.func93, Try.ntmps93
    go_wp2_with fail
    go_loopw [13] (fun i w' => ∃ k : Nat, k ≤ n ∧ i = .int .i64 k ∧ AlikeN xs ys k ∧ Below w.heap.size w w') (fun i _ => n - (intOf i).toNat)
    case atStart => exact ⟨0, Nat.zero_le _, rfl, AlikeN.zero _ _, Below.refl _ _⟩
    case round =>
      obtain ⟨k, hk, rfl, hA, hB⟩ := hrel
      have HA := hide hA
      clear hA
      by_cases hkl : k < n
      · have hkx : k < xs.length := by have := unhide HX; omega
        have hky : k < ys.length := by have := unhide HY; omega
        obtain ⟨b, off, rfl⟩ := (unhide HR).get (by omega)
        obtain ⟨b', off', rfl⟩ := (unhide HQ).get (by omega)
        have c0 := ((unhide HR).below hB).cells hkx
        have d0 := ((unhide HQ).below hB).cells hky
        have hkl' : (k : Int) < (n : Int) := by omega
        have hk0 : (0 : Int) ≤ (k : Int) := by omega
        by_cases he : xs[k] = ys[k]
        · have HE := hide ((unhide HA).step hkx hky he)
          rw [← he] at d0
          generalize xs[k] = x at *
          clear he
          go_wp2_with fail
          go_quiet (fail)
          go_wp2_with fail
          exact ⟨⟨k + 1, by omega, by go_num, unhide HE, by first | exact hB | exact bl_drewN hB _ | exact hB.drew⟩, by simp [intOf]; omega⟩
        · have HE := hide (list_ne hkx hky he)
          generalize xs[k] = x at *
          generalize ys[k] = y at *
          obtain ⟨xf, xp⟩ := x
          obtain ⟨yf, yp⟩ := y
          have hno : (xf == yf && xp == yp) = false := cell_no he
          have hneq := cell_neq xf xp yf yp hno
          go_wp2_with fail
          go_quiet (fail)
          go_wp2_with fail
          go_ret
          exact ⟨ret_bool (unhide HE), by first | exact hB | exact bl_drewN hB _ | exact hB.drew⟩
      · have hke : k = n := by omega
        have HE := hide (list_eq (unhide HX) (unhide HY) (hke ▸ unhide HA))
        go_wp2_with fail
        go_ret
        exact ⟨ret_bool (unhide HE), hB⟩
  · have HE := hide (list_len hl)
    have hl' : ¬ (xs.length : Int) = (ys.length : Int) := by omega
    go_enter Try.func93, Try.ntmps93
    go_wp2_with fail
    go_ret
    exact ⟨ret_bool (unhide HE), Below.refl _ _⟩
set_option maxHeartbeats 1000000 in
theorem implISame_any (a a' : Option Addr) (cap cap' : Nat) (xs ys : List CellD) (w : World) (hcap : xs.length ≤ cap) (hcm : cap ≤ maxLen) (hcap' : ys.length ≤ cap') (hcm' : cap' ≤ maxLen) (hR : CellRow w a xs) (hQ : CellRow w a' ys) :
    Calls Try.prog 41 #[.slice a xs.length cap, .slice a' ys.length cap'] w fun e w' => e = .returned (.bool (decide (xs = ys))) ∧ Below w.heap.size w w' := by
  have HR := hide hR
  have HQ := hide hQ
  clear hR hQ
  go_enter Try.func41, Try.ntmps41
  go_wp2_with fail
  refine (equalCells_any a a' _ _ xs ys _ hcap hcm hcap' hcm' (unhide HR) (unhide HQ)).mono ?_
  rintro e w1 ⟨rfl, hb1⟩
  go_wp2_with fail
  go_ret
  exact ⟨rfl, hb1⟩
set_option maxHeartbeats 2000000 in
theorem specISame_any (a a' : Option Addr) (cap cap' : Nat) (xs ys : List CellD) (w : World) (hcap : xs.length ≤ cap) (hcm : cap ≤ maxLen) (hcap' : ys.length ≤ cap') (hcm' : cap' ≤ maxLen) (hR : CellRow w a xs) (hQ : CellRow w a' ys) :
    Calls Try.prog 40 #[.slice a xs.length cap, .slice a' ys.length cap'] w fun e w' => e = .returned (.bool (decide (xs = ys))) ∧ Below w.heap.size w w' := by
  have HR := hide hR
  have HQ := hide hQ
  clear hR hQ
  unfold maxLen at hcm hcm'
  by_cases hl : xs.length = ys.length
  · obtain ⟨n, hx, hy⟩ : ∃ n, xs.length = n ∧ ys.length = n := ⟨_, rfl, hl.symm⟩
    clear hl
    rw [hx, hy]
    have HX := hide hx
    have HY := hide hy
    have hn : (n : Int) ≤ 9223372036854775807 := by omega
    clear hx hy hcap hcap'
    go_enter Try.func40, Try.ntmps40
    go_wp2_with fail
    go_loopw [5] (fun i w' => ∃ k : Nat, k ≤ n ∧ i = .int .i64 k ∧ AlikeN xs ys k ∧ Below w.heap.size w w') (fun i _ => n - (intOf i).toNat)
    case atStart => exact ⟨0, Nat.zero_le _, rfl, AlikeN.zero _ _, Below.refl _ _⟩
    case round =>
      obtain ⟨k, hk, rfl, hA, hB⟩ := hrel
      have HA := hide hA
      clear hA
      by_cases hkl : k < n
      · have hkx : k < xs.length := by have := unhide HX; omega
        have hky : k < ys.length := by have := unhide HY; omega
        obtain ⟨b, off, rfl⟩ := (unhide HR).get (by omega)
        obtain ⟨b', off', rfl⟩ := (unhide HQ).get (by omega)
        have c0 := ((unhide HR).below hB).cells hkx
        have d0 := ((unhide HQ).below hB).cells hky
        have hkl' : (k : Int) < (n : Int) := by omega
        have hk0 : (0 : Int) ≤ (k : Int) := by omega
        by_cases he : xs[k] = ys[k]
        · have HE := hide ((unhide HA).step hkx hky he)
          rw [← he] at d0
          generalize xs[k] = x at *
          clear he
          go_wp2_with fail
          go_quiet (fail)
          go_wp2_with fail
          exact ⟨⟨k + 1, by omega, by go_num, unhide HE, by first | exact hB | exact bl_drewN hB _ | exact hB.drew⟩, by simp [intOf]; omega⟩
        · have HE := hide (list_ne hkx hky he)
          generalize xs[k] = x at *
          generalize ys[k] = y at *
          obtain ⟨xf, xp⟩ := x
          obtain ⟨yf, yp⟩ := y
          have hno : (xf == yf && xp == yp) = false := cell_no he
          have hneq := cell_neq xf xp yf yp hno
          go_wp2_with fail
          go_quiet (fail)
          go_wp2_with fail
          go_ret
          exact ⟨ret_bool (unhide HE), by first | exact hB | exact bl_drewN hB _ | exact hB.drew⟩
      · have hke : k = n := by omega
        have HE := hide (list_eq (unhide HX) (unhide HY) (hke ▸ unhide HA))
        go_wp2_with fail
        go_ret
        exact ⟨ret_bool (unhide HE), hB⟩
  · have HE := hide (list_len hl)
    have hl' : ¬ (xs.length : Int) = (ys.length : Int) := by omega
    go_enter Try.func40, Try.ntmps40
    go_wp2_with fail
    go_ret
    exact ⟨ret_bool (unhide HE), Below.refl _ _⟩
/-- Whether two machines of an image are one. -/
def sameC (p c d p' c' d' : Int) (st st' os os' : List Int) : Bool := p == p' && c == c' && d == d' && decide (st = st') && decide (os = os')
set_option maxHeartbeats 4000000 in
theorem implCSame_any (p c d p' c' d' : Int) (sa oa sa' oa' : Option Addr) (sc oc sc' oc' : Nat) (st st' : List Int) (os os' : List Int) (w : World) (h1 : st.length ≤ sc) (h2 : sc ≤ maxLen) (h3 : os.length ≤ oc) (h4 : oc ≤ maxLen) (h1' : st'.length ≤ sc') (h2' : sc' ≤ maxLen) (h3' : os'.length ≤ oc') (h4' : oc' ≤ maxLen) (hs : NumRow w sa st) (ho : NumRow w oa os) (hs' : NumRow w sa' st') (ho' : NumRow w oa' os') :
    Calls Try.prog 48 #[.agg #[.int .i64 p, .int .i64 c, .slice sa st.length sc, .slice oa os.length oc, .int .i64 d], .agg #[.int .i64 p', .int .i64 c', .slice sa' st'.length sc', .slice oa' os'.length oc', .int .i64 d']] w fun e w' => e = .returned (.bool (sameC p c d p' c' d' st st' os os')) ∧ Below w.heap.size w w' := by
  have HS := hide (And.intro hs (And.intro ho (And.intro hs' ho')))
  clear hs ho hs' ho'
  have hB0 := below_alloc2 w (.cells #[.int .i64 p, .int .i64 c, .slice sa st.length sc, .slice oa os.length oc, .int .i64 d] 78) (.cells #[.int .i64 p', .int .i64 c', .slice sa' st'.length sc', .slice oa' os'.length oc', .int .i64 d'] 78)
  by_cases hp : p = p'
  · by_cases hc : c = c'
    · by_cases hd : d = d'
      · subst hp hc hd
        have HE : Hid ((decide (st = st') && decide (os = os')) = sameC p c d p c d st st' os os') := by show _ = _; simp [sameC]
        have n0 := box_below (new_block w (.cells #[.int .i64 p, .int .i64 c, .slice sa st.length sc, .slice oa os.length oc, .int .i64 d] 78)) (below_alloc1 _ (.cells #[.int .i64 p, .int .i64 c, .slice sa' st'.length sc', .slice oa' os'.length oc', .int .i64 d] 78))
        have n1 := new_block (w.alloc (.cells #[.int .i64 p, .int .i64 c, .slice sa st.length sc, .slice oa os.length oc, .int .i64 d] 78)) (.cells #[.int .i64 p, .int .i64 c, .slice sa' st'.length sc', .slice oa' os'.length oc', .int .i64 d] 78)
        simp only [World.size_alloc] at n1
        have HX := hide n0
        have HY := hide n1
        have hX := box5 n0
        have hY := box5 n1
        clear n0 n1
        go_enter Try.func48, Try.ntmps48
        go_wp2_with fail
        refine (equalInts_any sa sa' _ _ st st' _ h1 h2 h1' h2' ((unhide HS).1.below hB0) ((unhide HS).2.2.1.below hB0)).mono ?_
        cases hst : decide (st = st') with
        | false =>
          have HF : Hid (false = sameC p c d p c d st st' os os') := by show _ = _; rw [← unhide HE, hst]; rfl
          clear hst
          rintro e w1 ⟨rfl, hb1⟩
          have hB1 := bl_trans hB0 hb1
          clear hX hY hB0 hb1
          go_wp2_with fail
          go_ret
          exact ⟨ret_bool (unhide HF), hB1⟩
        | true =>
          have HF : Hid (decide (os = os') = sameC p c d p c d st st' os os') := by show _ = _; rw [← unhide HE, hst]; rfl
          clear hst
          rintro e w1 ⟨rfl, hb1⟩
          have hX1 := box5 (box_below (unhide HX) hb1)
          have hY1 := box5 (box_below (unhide HY) hb1)
          have hB1 := bl_trans hB0 hb1
          clear hX hY hB0 hb1
          go_wp2_with fail
          refine (equalInts_any oa oa' _ _ os os' _ h3 h4 h3' h4' ((unhide HS).2.1.below hB1) ((unhide HS).2.2.2.below hB1)).mono ?_
          rw [unhide HF]
          rintro e w2 ⟨rfl, hb2⟩
          have hB2 := bl_trans hB1 hb2
          clear hX1 hY1 hB1 hb2
          go_wp2_with fail
          go_ret
          exact ⟨rfl, hB2⟩
      · subst hp hc
        have HE : Hid (false = sameC p c d p c d' st st' os os') := by show false = _; simp [sameC, hd]
        go_enter Try.func48, Try.ntmps48
        go_wp2_with fail
        go_ret
        exact ⟨ret_bool (unhide HE), hB0⟩
    · subst hp
      have HE : Hid (false = sameC p c d p c' d' st st' os os') := by show false = _; simp [sameC, hc]
      go_enter Try.func48, Try.ntmps48
      go_wp2_with fail
      go_ret
      exact ⟨ret_bool (unhide HE), hB0⟩
  · have HE : Hid (false = sameC p c d p' c' d' st st' os os') := by show false = _; simp [sameC, hp]
    go_enter Try.func48, Try.ntmps48
    go_wp2_with fail
    go_ret
    exact ⟨ret_bool (unhide HE), hB0⟩
set_option maxHeartbeats 4000000 in
theorem specCSame_any (p c d p' c' d' : Int) (sa oa sa' oa' : Option Addr) (sc oc sc' oc' : Nat) (st st' : List Int) (os os' : List Int) (w : World) (h1 : st.length ≤ sc) (h2 : sc ≤ maxLen) (h3 : os.length ≤ oc) (h4 : oc ≤ maxLen) (h1' : st'.length ≤ sc') (h2' : sc' ≤ maxLen) (h3' : os'.length ≤ oc') (h4' : oc' ≤ maxLen) (hs : NumRow w sa st) (ho : NumRow w oa os) (hs' : NumRow w sa' st') (ho' : NumRow w oa' os') :
    Calls Try.prog 47 #[.agg #[.int .i64 p, .int .i64 c, .slice sa st.length sc, .slice oa os.length oc, .int .i64 d], .agg #[.int .i64 p', .int .i64 c', .slice sa' st'.length sc', .slice oa' os'.length oc', .int .i64 d']] w fun e w' => e = .returned (.bool (sameC p c d p' c' d' st st' os os')) ∧ Below w.heap.size w w' := by
  have HS := hide (And.intro hs (And.intro ho (And.intro hs' ho')))
  clear hs ho hs' ho'
  have hB0 := below_alloc2 w (.cells #[.int .i64 p, .int .i64 c, .slice sa st.length sc, .slice oa os.length oc, .int .i64 d] 78) (.cells #[.int .i64 p', .int .i64 c', .slice sa' st'.length sc', .slice oa' os'.length oc', .int .i64 d'] 78)
  by_cases hp : p = p'
  · by_cases hc : c = c'
    · by_cases hd : d = d'
      · subst hp hc hd
        have HE : Hid ((decide (st = st') && decide (os = os')) = sameC p c d p c d st st' os os') := by show _ = _; simp [sameC]
        have n0 := box_below (new_block w (.cells #[.int .i64 p, .int .i64 c, .slice sa st.length sc, .slice oa os.length oc, .int .i64 d] 78)) (below_alloc1 _ (.cells #[.int .i64 p, .int .i64 c, .slice sa' st'.length sc', .slice oa' os'.length oc', .int .i64 d] 78))
        have n1 := new_block (w.alloc (.cells #[.int .i64 p, .int .i64 c, .slice sa st.length sc, .slice oa os.length oc, .int .i64 d] 78)) (.cells #[.int .i64 p, .int .i64 c, .slice sa' st'.length sc', .slice oa' os'.length oc', .int .i64 d] 78)
        simp only [World.size_alloc] at n1
        have HX := hide n0
        have HY := hide n1
        have hX := box5 n0
        have hY := box5 n1
        clear n0 n1
        go_enter Try.func47, Try.ntmps47
        go_wp2_with fail
        refine (l5Ints_any sa sa' _ _ st st' _ h1 h2 h1' h2' ((unhide HS).1.below hB0) ((unhide HS).2.2.1.below hB0)).mono ?_
        cases hst : decide (st = st') with
        | false =>
          have HF : Hid (false = sameC p c d p c d st st' os os') := by show _ = _; rw [← unhide HE, hst]; rfl
          clear hst
          rintro e w1 ⟨rfl, hb1⟩
          have hB1 := bl_trans hB0 hb1
          clear hX hY hB0 hb1
          go_wp2_with fail
          go_ret
          exact ⟨ret_bool (unhide HF), hB1⟩
        | true =>
          have HF : Hid (decide (os = os') = sameC p c d p c d st st' os os') := by show _ = _; rw [← unhide HE, hst]; rfl
          clear hst
          rintro e w1 ⟨rfl, hb1⟩
          have hX1 := box5 (box_below (unhide HX) hb1)
          have hY1 := box5 (box_below (unhide HY) hb1)
          have hB1 := bl_trans hB0 hb1
          clear hX hY hB0 hb1
          go_wp2_with fail
          refine (l5Ints_any oa oa' _ _ os os' _ h3 h4 h3' h4' ((unhide HS).2.1.below hB1) ((unhide HS).2.2.2.below hB1)).mono ?_
          rw [unhide HF]
          rintro e w2 ⟨rfl, hb2⟩
          have hB2 := bl_trans hB1 hb2
          clear hX1 hY1 hB1 hb2
          go_wp2_with fail
          go_ret
          exact ⟨rfl, hB2⟩
      · subst hp hc
        have HE : Hid (false = sameC p c d p c d' st st' os os') := by show false = _; simp [sameC, hd]
        go_enter Try.func47, Try.ntmps47
        go_wp2_with fail
        go_ret
        exact ⟨ret_bool (unhide HE), hB0⟩
    · subst hp
      have HE : Hid (false = sameC p c d p c' d' st st' os os') := by show false = _; simp [sameC, hc]
      go_enter Try.func47, Try.ntmps47
      go_wp2_with fail
      go_ret
      exact ⟨ret_bool (unhide HE), hB0⟩
  · have HE : Hid (false = sameC p c d p' c' d' st st' os os') := by show false = _; simp [sameC, hp]
    go_enter Try.func47, Try.ntmps47
    go_wp2_with fail
    go_ret
    exact ⟨ret_bool (unhide HE), hB0⟩
end Go.Proofs.Ytefmmnckhldnnaa.CellB
