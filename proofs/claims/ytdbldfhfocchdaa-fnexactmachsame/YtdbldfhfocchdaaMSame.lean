/- The contracts of both sides' comparison of two machines, and of the lists in them. -/
import Derived.Test.YtdbldfhfocchdaaMach
import Derived.Deep.RegionHeld3
import Derived.Deep.QuietTactic
import Derived.BigQuiet
namespace Go.Proofs.Ytdbldfhfocchdaa.MSame
open Go.ChangeShapes Go.WideShapes Go.ChangeAt Go.RowKit Go.Joins
open Go.Proofs.Ytdbldfhfocchdaa.Base Go.Proofs.Ytdbldfhfocchdaa.Funs Go.Proofs.Ytdbldfhfocchdaa.Open Go.Proofs.Ytdbldfhfocchdaa.Keep Go.Proofs.Ytdbldfhfocchdaa.Mach
set_option linter.unusedVariables false
set_option maxRecDepth 100000

theorem list_ne {α : Type} [DecidableEq α] {xs ys : List α} {k : Nat} (hx : k < xs.length) (hy : k < ys.length) (h : xs[k] ≠ ys[k]) : false = decide (xs = ys) := by
  symm; rw [decide_eq_false_iff_not]
  intro e; subst e; exact h rfl
theorem list_len {α : Type} [DecidableEq α] {xs ys : List α} (h : xs.length ≠ ys.length) : false = decide (xs = ys) := by
  symm; rw [decide_eq_false_iff_not]
  intro e; subst e; exact h rfl
/-- The first k are the same. -/
def Alike {α : Type} (xs ys : List α) (k : Nat) : Prop := ∀ i (h : i < xs.length) (h' : i < ys.length), i < k → xs[i] = ys[i]
theorem list_eq {α : Type} [DecidableEq α] {xs ys : List α} {k : Nat} (hx : xs.length = k) (hy : ys.length = k) (h : Alike xs ys k) : true = decide (xs = ys) := by
  symm; rw [decide_eq_true_iff]
  exact List.ext_getElem (by omega) fun i h1 h2 => h i h1 h2 (by omega)
theorem Alike.step {α : Type} {xs ys : List α} {k : Nat} (h : Alike xs ys k) (hx : k < xs.length) (hy : k < ys.length) (e : xs[k] = ys[k]) : Alike xs ys (k + 1) := fun i h1 h2 hk => by
  by_cases hik : i = k
  · subst hik; exact e
  · exact h i h1 h2 (by omega)
theorem Alike.zero {α : Type} (xs ys : List α) : Alike xs ys 0 := fun i _ _ h => by omega

theorem spot_no {a b c d : Int} (h : ¬ (⟨a, b⟩ : SpotD) = ⟨c, d⟩) : (a == c && b == d) = false := by
  by_cases h1 : a = c <;> by_cases h2 : b = d <;> simp_all

theorem spot_neq (a b c d : Int) (h : (a == c && b == d) = false) (w : World) : (binOp .neq 44 (.agg #[.int .i64 a, .int .i64 b]) (.agg #[.int .i64 c, .int .i64 d])).run Try.prog w = .ok (.bool true) w := by
  have hu : Try.prog.underlying 44 = some (.struct (Try.prog.fieldsOf 44)) := by kernel_rfl
  rw [run_neq_struct, run_equalIn_agg w 9999 _ _ _ hu (by kernel_rfl)]
  by_cases h1 : a = c <;> by_cases h2 : b = d <;> simp_all [go_sem, Op.eqFields]
theorem spot_eql (a b c d : Int) (h : (a == c && b == d) = false) (w : World) : (binOp .eql 44 (.agg #[.int .i64 a, .int .i64 b]) (.agg #[.int .i64 c, .int .i64 d])).run Try.prog w = .ok (.bool false) w := by
  have hu : Try.prog.underlying 44 = some (.struct (Try.prog.fieldsOf 44)) := by kernel_rfl
  rw [run_eql_struct, run_equalIn_agg w 9999 _ _ _ hu (by kernel_rfl)]
  by_cases h1 : a = c <;> by_cases h2 : b = d <;> simp_all [go_sem, Op.eqFields]
set_option maxHeartbeats 2000000 in
theorem l5Ints_any (a a' : Option Addr) (cap cap' : Nat) (xs ys : List Int) (w : World) (hcap : xs.length ≤ cap) (hcm : cap ≤ maxLen) (hcap' : ys.length ≤ cap') (hcm' : cap' ≤ maxLen) (hR : NumRow w a xs) (hQ : NumRow w a' ys) :
    Calls Try.prog 45 #[.slice a xs.length cap, .slice a' ys.length cap'] w fun e w' => e = .returned (.bool (decide (xs = ys))) ∧ Below w.heap.size w w' := by
  have HR := hide hR
  have HQ := hide hQ
  clear hR hQ
  unfold maxLen at hcm hcm'
  by_cases hl : xs.length = ys.length
  · obtain ⟨n, hx, hy⟩ : ∃ n, xs.length = n ∧ ys.length = n := ⟨_, rfl, hl.symm⟩
    clear hl
    rw [hx, hy]
    have HX := hide hx
    have HY := hide hy
    have hn : (n : Int) ≤ 9223372036854775807 := by omega
    clear hx hy hcap hcap'
    go_enter Try.func45, Try.ntmps45
    go_wp2_with fail
    go_loopw [5] (fun i w' => ∃ k : Nat, k ≤ n ∧ i = .int .i64 k ∧ Alike xs ys k ∧ Below w.heap.size w w') (fun i _ => n - (intOf i).toNat)
    case atStart => exact ⟨0, Nat.zero_le _, rfl, Alike.zero _ _, Below.refl _ _⟩
    case round =>
      obtain ⟨k, hk, rfl, hA, hB⟩ := hrel
      have HA := hide hA
      clear hA
      by_cases hkl : k < n
      · have hkx : k < xs.length := by have := unhide HX; omega
        have hky : k < ys.length := by have := unhide HY; omega
        obtain ⟨b, off, rfl⟩ := (unhide HR).get (by omega)
        obtain ⟨b', off', rfl⟩ := (unhide HQ).get (by omega)
        have c0 := ((unhide HR).below hB).cells hkx
        have d0 := ((unhide HQ).below hB).cells hky
        have hkl' : (k : Int) < (n : Int) := by omega
        have hk0 : (0 : Int) ≤ (k : Int) := by omega
        by_cases he : xs[k] = ys[k]
        · have HE := hide ((unhide HA).step hkx hky he)
          rw [← he] at d0
          generalize xs[k] = x at *
          clear he
          go_wp2_with fail
          go_quiet (fail)
          go_wp2_with fail
          exact ⟨⟨k + 1, by omega, by go_num, unhide HE, by first | exact hB | exact bl_drewN hB _ | exact hB.drew⟩, by simp [intOf]; omega⟩
        · have HE := hide (list_ne hkx hky he)
          generalize xs[k] = x at *
          generalize ys[k] = y at *
          go_wp2_with fail
          go_quiet (fail)
          go_wp2_with fail
          go_ret
          exact ⟨ret_bool (unhide HE), by first | exact hB | exact bl_drewN hB _ | exact hB.drew⟩
      · have hke : k = n := by omega
        have HE := hide (list_eq (unhide HX) (unhide HY) (hke ▸ unhide HA))
        go_wp2_with fail
        go_ret
        exact ⟨ret_bool (unhide HE), hB⟩
  · have HE := hide (list_len hl)
    have hl' : ¬ (xs.length : Int) = (ys.length : Int) := by omega
    go_enter Try.func45, Try.ntmps45
    go_wp2_with fail
    go_ret
    exact ⟨ret_bool (unhide HE), Below.refl _ _⟩
set_option maxHeartbeats 2000000 in
theorem equalInts_any (a a' : Option Addr) (cap cap' : Nat) (xs ys : List Int) (w : World) (hcap : xs.length ≤ cap) (hcm : cap ≤ maxLen) (hcap' : ys.length ≤ cap') (hcm' : cap' ≤ maxLen) (hR : NumRow w a xs) (hQ : NumRow w a' ys) :
    Calls Try.prog 47 #[.slice a xs.length cap, .slice a' ys.length cap'] w fun e w' => e = .returned (.bool (decide (xs = ys))) ∧ Below w.heap.size w w' := by
  have HR := hide hR
  have HQ := hide hQ
  clear hR hQ
  unfold maxLen at hcm hcm'
  by_cases hl : xs.length = ys.length
  · obtain ⟨n, hx, hy⟩ : ∃ n, xs.length = n ∧ ys.length = n := ⟨_, rfl, hl.symm⟩
    clear hl
    rw [hx, hy]
    have HX := hide hx
    have HY := hide hy
    have hn : (n : Int) ≤ 9223372036854775807 := by omega
    clear hx hy hcap hcap'
    go_enter Try.func47, Try.ntmps47
    go_wp2_with fail
    go_loopw [13] (fun i w' => ∃ k : Nat, k ≤ n ∧ i = .int .i64 k ∧ Alike xs ys k ∧ Below w.heap.size w w') (fun i _ => n - (intOf i).toNat)
    case atStart => exact ⟨0, Nat.zero_le _, rfl, Alike.zero _ _, Below.refl _ _⟩
    case round =>
      obtain ⟨k, hk, rfl, hA, hB⟩ := hrel
      have HA := hide hA
      clear hA
      by_cases hkl : k < n
      · have hkx : k < xs.length := by have := unhide HX; omega
        have hky : k < ys.length := by have := unhide HY; omega
        obtain ⟨b, off, rfl⟩ := (unhide HR).get (by omega)
        obtain ⟨b', off', rfl⟩ := (unhide HQ).get (by omega)
        have c0 := ((unhide HR).below hB).cells hkx
        have d0 := ((unhide HQ).below hB).cells hky
        have hkl' : (k : Int) < (n : Int) := by omega
        have hk0 : (0 : Int) ≤ (k : Int) := by omega
        by_cases he : xs[k] = ys[k]
        · have HE := hide ((unhide HA).step hkx hky he)
          rw [← he] at d0
          generalize xs[k] = x at *
          clear he
          go_wp2_with fail
          go_quiet (fail)
          go_wp2_with fail
          exact ⟨⟨k + 1, by omega, by go_num, unhide HE, by first | exact hB | exact bl_drewN hB _ | exact hB.drew⟩, by simp [intOf]; omega⟩
        · have HE := hide (list_ne hkx hky he)
          generalize xs[k] = x at *
          generalize ys[k] = y at *
          go_wp2_with fail
          go_quiet (fail)
          go_wp2_with fail
          go_ret
          exact ⟨ret_bool (unhide HE), by first | exact hB | exact bl_drewN hB _ | exact hB.drew⟩
      · have hke : k = n := by omega
        have HE := hide (list_eq (unhide HX) (unhide HY) (hke ▸ unhide HA))
        go_wp2_with fail
        go_ret
        exact ⟨ret_bool (unhide HE), hB⟩
  · have HE := hide (list_len hl)
    have hl' : ¬ (xs.length : Int) = (ys.length : Int) := by omega
    go_enter Try.func47, Try.ntmps47
    go_wp2_with fail
    go_ret
    exact ⟨ret_bool (unhide HE), Below.refl _ _⟩
set_option maxHeartbeats 2000000 in
theorem equalSpots_any (a a' : Option Addr) (cap cap' : Nat) (xs ys : List SpotD) (w : World) (hcap : xs.length ≤ cap) (hcm : cap ≤ maxLen) (hcap' : ys.length ≤ cap') (hcm' : cap' ≤ maxLen) (hR : SpotRow w a xs) (hQ : SpotRow w a' ys) :
    Calls Try.prog 46 #[.slice a xs.length cap, .slice a' ys.length cap'] w fun e w' => e = .returned (.bool (decide (xs = ys))) ∧ Below w.heap.size w w' := by
  have HR := hide hR
  have HQ := hide hQ
  clear hR hQ
  unfold maxLen at hcm hcm'
  by_cases hl : xs.length = ys.length
  · obtain ⟨n, hx, hy⟩ : ∃ n, xs.length = n ∧ ys.length = n := ⟨_, rfl, hl.symm⟩
    clear hl
    rw [hx, hy]
    have HX := hide hx
    have HY := hide hy
    have hn : (n : Int) ≤ 9223372036854775807 := by omega
    clear hx hy hcap hcap'
    go_enter Try.func46, Try.ntmps46
    go_wp2_with fail
    go_loopw [13] (fun i w' => ∃ k : Nat, k ≤ n ∧ i = .int .i64 k ∧ Alike xs ys k ∧ Below w.heap.size w w') (fun i _ => n - (intOf i).toNat)
    case atStart => exact ⟨0, Nat.zero_le _, rfl, Alike.zero _ _, Below.refl _ _⟩
    case round =>
      obtain ⟨k, hk, rfl, hA, hB⟩ := hrel
      have HA := hide hA
      clear hA
      by_cases hkl : k < n
      · have hkx : k < xs.length := by have := unhide HX; omega
        have hky : k < ys.length := by have := unhide HY; omega
        obtain ⟨b, off, rfl⟩ := (unhide HR).get (by omega)
        obtain ⟨b', off', rfl⟩ := (unhide HQ).get (by omega)
        have c0 := ((unhide HR).below hB).cells hkx
        have d0 := ((unhide HQ).below hB).cells hky
        have hkl' : (k : Int) < (n : Int) := by omega
        have hk0 : (0 : Int) ≤ (k : Int) := by omega
        by_cases he : xs[k] = ys[k]
        · have HE := hide ((unhide HA).step hkx hky he)
          rw [← he] at d0
          generalize xs[k] = x at *
          clear he
          go_wp2_with fail
          go_quiet (fail)
          go_wp2_with fail
          exact ⟨⟨k + 1, by omega, by go_num, unhide HE, by first | exact hB | exact bl_drewN hB _ | exact hB.drew⟩, by simp [intOf]; omega⟩
        · have HE := hide (list_ne hkx hky he)
          generalize xs[k] = x at *
          generalize ys[k] = y at *
          obtain ⟨xf, xp⟩ := x
          obtain ⟨yf, yp⟩ := y
          have hno : (xf == yf && xp == yp) = false := spot_no he
          have hneq := spot_neq xf xp yf yp hno
          go_wp2_with fail
          go_quiet (fail)
          go_wp2_with fail
          go_ret
          exact ⟨ret_bool (unhide HE), by first | exact hB | exact bl_drewN hB _ | exact hB.drew⟩
      · have hke : k = n := by omega
        have HE := hide (list_eq (unhide HX) (unhide HY) (hke ▸ unhide HA))
        go_wp2_with fail
        go_ret
        exact ⟨ret_bool (unhide HE), hB⟩
  · have HE := hide (list_len hl)
    have hl' : ¬ (xs.length : Int) = (ys.length : Int) := by omega
    go_enter Try.func46, Try.ntmps46
    go_wp2_with fail
    go_ret
    exact ⟨ret_bool (unhide HE), Below.refl _ _⟩

/-- Whether two machines are one. -/
def sameM (f p c d f' p' c' d' : Int) (st st' : List SpotD) (os os' : List Int) : Bool := (f == f' && p == p') && c == c' && d == d' && decide (st = st') && decide (os = os')
set_option maxHeartbeats 4000000 in
theorem implSame_any (f p c d f' p' c' d' : Int) (sa oa sa' oa' : Option Addr) (sc oc sc' oc' : Nat) (st st' : List SpotD) (os os' : List Int) (w : World) (h1 : st.length ≤ sc) (h2 : sc ≤ maxLen) (h3 : os.length ≤ oc) (h4 : oc ≤ maxLen) (h1' : st'.length ≤ sc') (h2' : sc' ≤ maxLen) (h3' : os'.length ≤ oc') (h4' : oc' ≤ maxLen) (hs : SpotRow w sa st) (ho : NumRow w oa os) (hs' : SpotRow w sa' st') (ho' : NumRow w oa' os') :
    Calls Try.prog 19 #[.agg #[.int .i64 f, .int .i64 p, .int .i64 c, .slice sa st.length sc, .slice oa os.length oc, .int .i64 d], .agg #[.int .i64 f', .int .i64 p', .int .i64 c', .slice sa' st'.length sc', .slice oa' os'.length oc', .int .i64 d']] w fun e w' => e = .returned (.bool (sameM f p c d f' p' c' d' st st' os os')) ∧ Below w.heap.size w w' := by
  have HS := hide (And.intro hs (And.intro ho (And.intro hs' ho')))
  clear hs ho hs' ho'
  have hB0 := below_alloc2 w (.cells #[.int .i64 f, .int .i64 p, .int .i64 c, .slice sa st.length sc, .slice oa os.length oc, .int .i64 d] 47) (.cells #[.int .i64 f', .int .i64 p', .int .i64 c', .slice sa' st'.length sc', .slice oa' os'.length oc', .int .i64 d'] 47)
  cases hno : (f == f' && p == p') with
  | false =>
    have hE := spot_eql f p f' p' hno
    have HE : Hid (false = sameM f p c d f' p' c' d' st st' os os') := by show false = _; unfold sameM; rw [hno]; rfl
    clear hno
    go_enter Try.func19, Try.ntmps19
    go_wp2_with fail
    go_ret
    exact ⟨ret_bool (unhide HE), hB0⟩
  | true =>
    obtain ⟨rfl, rfl⟩ : f = f' ∧ p = p' := by simpa using hno
    clear hno
    by_cases hc : c = c'
    · by_cases hd : d = d'
      · subst hc hd
        have HE : Hid ((decide (st = st') && decide (os = os')) = sameM f p c d f p c d st st' os os') := by show _ = _; simp [sameM]
        cases hst : decide (st = st') with
        | false =>
          have HF : Hid (false = sameM f p c d f p c d st st' os os') := by show _ = _; rw [← unhide HE, hst]; rfl
          have HT := hide hst
          clear hst
          go_enter Try.func19, Try.ntmps19
          go_wp2_with (first | (go_at_call 46; refine (equalSpots_any sa sa' _ _ st st' _ h1 h2 h1' h2' ((unhide HS).1.below hB0) ((unhide HS).2.2.1.below hB0)).mono ?_; rw [unhide HT]; rintro e w1 ⟨rfl, hb1⟩) | fail)
          go_ret
          exact ⟨ret_bool (unhide HF), bl_trans hB0 hb1⟩
        | true =>
          have HF : Hid (decide (os = os') = sameM f p c d f p c d st st' os os') := by show _ = _; rw [← unhide HE, hst]; rfl
          have HT := hide hst
          clear hst
          go_enter Try.func19, Try.ntmps19
          have n0 := box_below (new_block w (.cells #[.int .i64 f, .int .i64 p, .int .i64 c, .slice sa st.length sc, .slice oa os.length oc, .int .i64 d] 47)) (below_alloc1 _ (.cells #[.int .i64 f, .int .i64 p, .int .i64 c, .slice sa' st'.length sc', .slice oa' os'.length oc', .int .i64 d] 47))
          have n1 := new_block (w.alloc (.cells #[.int .i64 f, .int .i64 p, .int .i64 c, .slice sa st.length sc, .slice oa os.length oc, .int .i64 d] 47)) (.cells #[.int .i64 f, .int .i64 p, .int .i64 c, .slice sa' st'.length sc', .slice oa' os'.length oc', .int .i64 d] 47)
          simp only [World.size_alloc] at n1
          have HX := hide n0
          have HY := hide n1
          clear n0 n1
          go_wp2_with fail
          refine (equalSpots_any sa sa' _ _ st st' _ h1 h2 h1' h2' ((unhide HS).1.below hB0) ((unhide HS).2.2.1.below hB0)).mono ?_
          rw [unhide HT]
          rintro e w1 ⟨rfl, hb1⟩
          have hX := box6 (box_below (unhide HX) hb1)
          have hY := box6 (box_below (unhide HY) hb1)
          have hB1 := bl_trans hB0 hb1
          clear hB0 hb1
          go_wp2_with fail
          refine (equalInts_any oa oa' _ _ os os' _ h3 h4 h3' h4' ((unhide HS).2.1.below hB1) ((unhide HS).2.2.2.below hB1)).mono ?_
          rw [unhide HF]
          rintro e w2 ⟨rfl, hb2⟩
          have hB2 := bl_trans hB1 hb2
          clear hX hY hB1 hb2
          go_wp2_with fail
          go_ret
          exact ⟨rfl, hB2⟩
      · subst hc
        have HE : Hid (false = sameM f p c d f p c d' st st' os os') := by show false = _; simp [sameM, hd]
        go_enter Try.func19, Try.ntmps19
        go_wp2_with fail
        go_ret
        exact ⟨ret_bool (unhide HE), hB0⟩
    · have HE : Hid (false = sameM f p c d f p c' d' st st' os os') := by show false = _; simp [sameM, hc]
      go_enter Try.func19, Try.ntmps19
      go_wp2_with fail
      go_ret
      exact ⟨ret_bool (unhide HE), hB0⟩
set_option maxHeartbeats 4000000 in
theorem specSame_any (f p c d f' p' c' d' : Int) (sa oa sa' oa' : Option Addr) (sc oc sc' oc' : Nat) (st st' : List SpotD) (os os' : List Int) (w : World) (h1 : st.length ≤ sc) (h2 : sc ≤ maxLen) (h3 : os.length ≤ oc) (h4 : oc ≤ maxLen) (h1' : st'.length ≤ sc') (h2' : sc' ≤ maxLen) (h3' : os'.length ≤ oc') (h4' : oc' ≤ maxLen) (hs : SpotRow w sa st) (ho : NumRow w oa os) (hs' : SpotRow w sa' st') (ho' : NumRow w oa' os') :
    Calls Try.prog 18 #[.agg #[.int .i64 f, .int .i64 p, .int .i64 c, .slice sa st.length sc, .slice oa os.length oc, .int .i64 d], .agg #[.int .i64 f', .int .i64 p', .int .i64 c', .slice sa' st'.length sc', .slice oa' os'.length oc', .int .i64 d']] w fun e w' => e = .returned (.bool (sameM f p c d f' p' c' d' st st' os os')) ∧ Below w.heap.size w w' := by
  have HS := hide (And.intro hs (And.intro ho (And.intro hs' ho')))
  clear hs ho hs' ho'
  have hB0 := below_alloc2 w (.cells #[.int .i64 f, .int .i64 p, .int .i64 c, .slice sa st.length sc, .slice oa os.length oc, .int .i64 d] 47) (.cells #[.int .i64 f', .int .i64 p', .int .i64 c', .slice sa' st'.length sc', .slice oa' os'.length oc', .int .i64 d'] 47)
  cases hno : (f == f' && p == p') with
  | false =>
    have hE := spot_neq f p f' p' hno
    have HE : Hid (false = sameM f p c d f' p' c' d' st st' os os') := by show false = _; unfold sameM; rw [hno]; rfl
    clear hno
    go_enter Try.func18, Try.ntmps18
    go_wp2_with fail
    go_ret
    exact ⟨ret_bool (unhide HE), hB0⟩
  | true =>
    obtain ⟨rfl, rfl⟩ : f = f' ∧ p = p' := by simpa using hno
    clear hno
    by_cases hc : c = c'
    · subst hc
      by_cases hd : d = d'
      · subst hd
        unfold maxLen at h2 h2'
        have hn1 : (st.length : Int) ≤ 9223372036854775807 := by omega
        have hn2 : (st'.length : Int) ≤ 9223372036854775807 := by omega
        by_cases hl : st.length = st'.length
        · obtain ⟨n, hx, hy⟩ : ∃ n, st.length = n ∧ st'.length = n := ⟨_, rfl, hl.symm⟩
          clear hl
          rw [hx, hy] at hB0 ⊢
          have HX := hide hx
          have HY := hide hy
          have hn : (n : Int) ≤ 9223372036854775807 := by omega
          clear hx hy h1 h1' hn1 hn2
          have n0 := box_below (new_block w (.cells #[.int .i64 f, .int .i64 p, .int .i64 c, .slice sa n sc, .slice oa os.length oc, .int .i64 d] 47)) (below_alloc1 _ (.cells #[.int .i64 f, .int .i64 p, .int .i64 c, .slice sa' n sc', .slice oa' os'.length oc', .int .i64 d] 47))
          have n1 := new_block (w.alloc (.cells #[.int .i64 f, .int .i64 p, .int .i64 c, .slice sa n sc, .slice oa os.length oc, .int .i64 d] 47)) (.cells #[.int .i64 f, .int .i64 p, .int .i64 c, .slice sa' n sc', .slice oa' os'.length oc', .int .i64 d] 47)
          simp only [World.size_alloc] at n1
          have HBX := hide n0
          have HBY := hide n1
          clear n0 n1
          cases hos : decide (os = os') with
          | false =>
            have HF : Hid (false = sameM f p c d f p c d st st' os os') := by show _ = _; simp only [sameM, hos]; simp
            have HT := hide hos
            clear hos
            go_enter Try.func18, Try.ntmps18
            go_wp2_with fail
            refine (l5Ints_any oa oa' _ _ os os' _ h3 h4 h3' h4' ((unhide HS).2.1.below hB0) ((unhide HS).2.2.2.below hB0)).mono ?_
            rw [unhide HT]
            rintro e w2 ⟨rfl, hb2⟩
            have hB2 := bl_trans hB0 hb2
            clear hB0 hb2
            go_wp2_with fail
            go_ret
            exact ⟨ret_bool (unhide HF), hB2⟩
          | true =>
            have HF : Hid (decide (st = st') = sameM f p c d f p c d st st' os os') := by show _ = _; simp only [sameM, hos]; simp
            have HT := hide hos
            clear hos
            go_enter Try.func18, Try.ntmps18
            go_wp2_with fail
            refine (l5Ints_any oa oa' _ _ os os' _ h3 h4 h3' h4' ((unhide HS).2.1.below hB0) ((unhide HS).2.2.2.below hB0)).mono ?_
            rw [unhide HT]
            rintro e w2 ⟨rfl, hb2⟩
            replace HBX := hide (box_below (unhide HBX) hb2)
            replace HBY := hide (box_below (unhide HBY) hb2)
            have hB2 := bl_trans hB0 hb2
            clear hB0 hb2
            go_wp2_with fail
            go_loopw [5] (fun i w' => ∃ k : Nat, k ≤ n ∧ i = .int .i64 k ∧ Alike st st' k ∧ Below w2.heap.size w2 w') (fun i _ => n - (intOf i).toNat)
            case atStart => exact ⟨0, Nat.zero_le _, rfl, Alike.zero _ _, Below.refl _ _⟩
            case round =>
              obtain ⟨k, hk, rfl, hA, hB⟩ := hrel
              have HA := hide hA
              clear hA
              have hX := box6 (box_below (unhide HBX) hB)
              have hY := box6 (box_below (unhide HBY) hB)
              have hB' := bl_trans hB2 hB
              by_cases hkl : k < n
              · have hkx : k < st.length := by have := unhide HX; omega
                have hky : k < st'.length := by have := unhide HY; omega
                obtain ⟨b, off, rfl⟩ := (unhide HS).1.get (by omega)
                obtain ⟨b', off', rfl⟩ := (unhide HS).2.2.1.get (by omega)
                have c0 := ((unhide HS).1.below hB').cells hkx
                have d0 := ((unhide HS).2.2.1.below hB').cells hky
                have hkl' : (k : Int) < (n : Int) := by omega
                have hk0 : (0 : Int) ≤ (k : Int) := by omega
                by_cases he : st[k] = st'[k]
                · have HE := hide ((unhide HA).step hkx hky he)
                  rw [← he] at d0
                  generalize st[k] = x at *
                  clear he
                  go_wp2_with fail
                  go_quiet (fail)
                  go_wp2_with fail
                  exact ⟨⟨k + 1, by omega, by go_num, unhide HE, by first | exact hB | exact bl_drewN hB _ | exact hB.drew⟩, by simp [intOf]; omega⟩
                · have HE := hide ((list_ne hkx hky he).trans (unhide HF))
                  generalize st[k] = x at *
                  generalize st'[k] = y at *
                  obtain ⟨xf, xp⟩ := x
                  obtain ⟨yf, yp⟩ := y
                  have hno : (xf == yf && xp == yp) = false := spot_no he
                  have hneq := spot_neq xf xp yf yp hno
                  go_wp2_with fail
                  go_quiet (fail)
                  go_wp2_with fail
                  go_ret
                  exact ⟨ret_bool (unhide HE), by first | exact hB' | exact bl_drewN hB' _ | exact hB'.drew⟩
              · have hke : k = n := by omega
                have HE := hide ((list_eq (unhide HX) (unhide HY) (hke ▸ unhide HA)).trans (unhide HF))
                go_wp2_with fail
                go_ret
                exact ⟨ret_bool (unhide HE), hB'⟩
        · have HE : Hid (false = sameM f p c d f p c d st st' os os') := by show false = _; simp [sameM, ← list_len hl]
          have hl' : ¬ (st.length : Int) = (st'.length : Int) := by omega
          go_enter Try.func18, Try.ntmps18
          go_wp2_with fail
          go_ret
          exact ⟨ret_bool (unhide HE), hB0⟩
      · have HE : Hid (false = sameM f p c d f p c d' st st' os os') := by show false = _; simp [sameM, hd]
        go_enter Try.func18, Try.ntmps18
        go_wp2_with fail
        go_ret
        exact ⟨ret_bool (unhide HE), hB0⟩
    · have HE : Hid (false = sameM f p c d f p c' d' st st' os os') := by show false = _; simp [sameM, hc]
      go_enter Try.func18, Try.ntmps18
      go_wp2_with fail
      go_ret
      exact ⟨ret_bool (unhide HE), hB0⟩
end Go.Proofs.Ytdbldfhfocchdaa.MSame
