/- Plain data: where all of a program stands, what is near, what is out of reach, and how it is laid. -/
import Derived.Test.YtjbhbkkkjdpamaaPk3b5fe753
import Derived.Test.YtjbhbkkkjdpamaaLayA
namespace Go.Proofs.Ytjbhbkkkjdpamaa.LayD
open Go.Proofs.Ytjbhbkkkjdpamaa.InsA Go.Proofs.Ytjbhbkkkjdpamaa.Funs Go.Proofs.Ytjbhbkkkjdpamaa.Open Go.Proofs.Ytjbhbkkkjdpamaa.UnitS Go.Proofs.Ytjbhbkkkjdpamaa.Refs Go.Proofs.Ytjbhbkkkjdpamaa.KeepD Go.Proofs.Ytjbhbkkkjdpamaa.KeepA
set_option linter.unusedVariables false
set_option maxRecDepth 100000

/-- A function's length, and its stones. -/
def lenAt (fs : List FunD) (i : Nat) : Nat := (fs.getD i default).body.length
def stAt (st : List (List ByteArray)) (i : Nat) : List ByteArray := st.getD i []
theorem lenAt_is {fs : List FunD} {i : Nat} (h : i < fs.length) : lenAt fs i = fs[i].body.length := by simp [lenAt, List.getD, List.getElem?_eq_getElem h]
theorem stAt_is {st : List (List ByteArray)} {i : Nat} (h : i < st.length) : stAt st i = st[i] := by simp [stAt, List.getD, List.getElem?_eq_getElem h]
/-- Where the i'th function begins. -/
def place (fs : List FunD) (st : List (List ByteArray)) : Nat → Nat
  | 0 => 0
  | i + 1 => place fs st i + lenAt fs i + (stAt st i).length
def placesTo (fs : List FunD) (st : List (List ByteArray)) (n : Nat) : List Int := (List.range n).map fun i => (place fs st i : Int)
def places (fs : List FunD) (st : List (List ByteArray)) : List Int := placesTo fs st fs.length
theorem placesTo_len (fs : List FunD) (st : List (List ByteArray)) (n : Nat) : (placesTo fs st n).length = n := by simp [placesTo]
theorem placesTo_succ (fs : List FunD) (st : List (List ByteArray)) (n : Nat) : placesTo fs st (n + 1) = placesTo fs st n ++ [(place fs st n : Int)] := by simp [placesTo, List.range_succ]
theorem placesTo_at {fs : List FunD} {st : List (List ByteArray)} {n i : Nat} (h : i < (placesTo fs st n).length) : (placesTo fs st n)[i] = (place fs st i : Int) := by simp [placesTo]
theorem places_len (fs : List FunD) (st : List (List ByteArray)) : (places fs st).length = fs.length := placesTo_len _ _ _
theorem place_mono {fs : List FunD} {st : List (List ByteArray)} {i j : Nat} (h : i ≤ j) : place fs st i ≤ place fs st j := by
  induction j with
  | zero => rw [Nat.le_zero.1 h]; exact Nat.le_refl _
  | succ j ih =>
    rcases Nat.lt_or_ge i (j + 1) with h' | h'
    · have := ih (by omega)
      rw [place]; omega
    · rw [show i = j + 1 by omega]; exact Nat.le_refl _
theorem place_bd {fs : List FunD} {st : List (List ByteArray)} {m q : Nat} (h1 : ∀ i, i < fs.length → lenAt fs i ≤ m) (h2 : ∀ i, i < fs.length → (stAt st i).length ≤ q) : ∀ n, n ≤ fs.length → place fs st n ≤ n * (m + q)
  | 0, _ => by simp [place]
  | n + 1, hn => by
    have := place_bd h1 h2 n (by omega)
    have a := h1 n (by omega)
    have b := h2 n (by omega)
    rw [place, Nat.succ_mul]; omega
theorem place_ext {fs : List FunD} {st st' : List (List ByteArray)} : ∀ n, (∀ i, i < n → stAt st i = stAt st' i) → place fs st n = place fs st' n
  | 0, _ => rfl
  | n + 1, h => by rw [place, place, place_ext n (fun i hi => h i (by omega)), h n (by omega)]

/-- Each of these names is a function's, and none is there twice. -/
def stonesB (fs : List FunD) (ns : List ByteArray) : Bool := ns.all (fun s => decide (0 ≤ findI fs s)) && decide (tl ns).Nodup
/-- A program is laid so. -/
def formB (fs : List FunD) (ns : List Int) (st : List (List ByteArray)) : Bool := keepOkB fs && decide (st.length = fs.length) && st.all (stonesB fs) && decide (ns = places fs st)
theorem form_parts {fs : List FunD} {ns : List Int} {st : List (List ByteArray)} (h : formB fs ns st = true) : keepOkB fs = true ∧ st.length = fs.length ∧ (∀ ss ∈ st, stonesB fs ss = true) ∧ ns = places fs st := by
  unfold formB at h
  simp only [Bool.and_eq_true, decide_eq_true_iff, List.all_eq_true] at h
  exact ⟨h.1.1.1, h.1.1.2, h.1.2, h.2⟩
theorem form_keep {fs : List FunD} {ns : List Int} {st : List (List ByteArray)} (h : keepOkB fs = false) : formB fs ns st = false := by simp [formB, h]
theorem form_len {fs : List FunD} {ns : List Int} {st : List (List ByteArray)} (h : st.length ≠ fs.length) : formB fs ns st = false := by simp [formB, h]
theorem form_at {fs : List FunD} {ns : List Int} {st : List (List ByteArray)} (h : ns ≠ places fs st) : formB fs ns st = false := by simp [formB, h]
theorem form_atlen {fs : List FunD} {ns : List Int} {st : List (List ByteArray)} (h : ns.length ≠ fs.length) : formB fs ns st = false := form_at (fun e => h (by rw [e, places_len]))
theorem form_atk {fs : List FunD} {ns : List Int} {st : List (List ByteArray)} {k : Nat} (hk : k < ns.length) (h : ns[k] ≠ (place fs st k : Int)) : formB fs ns st = false := form_at (fun e => by
  subst e
  exact h (placesTo_at hk))
theorem form_stones {fs : List FunD} {ns : List Int} {st : List (List ByteArray)} {k : Nat} (hk : k < st.length) (h : stonesB fs st[k] = false) : formB fs ns st = false := by
  have : st.all (stonesB fs) = false := by rw [List.all_eq_false]; exact ⟨st[k], List.getElem_mem _, by simp [h]⟩
  simp [formB, this]
theorem form_end {fs : List FunD} {ns : List Int} {st : List (List ByteArray)} (h0 : keepOkB fs = true) (h1 : st.length = fs.length) (h2 : ∀ i (h : i < st.length), stonesB fs st[i] = true) (h3 : ns = places fs st) : formB fs ns st = true := by
  unfold formB
  simp only [Bool.and_eq_true, decide_eq_true_iff, List.all_eq_true]
  exact ⟨⟨⟨h0, h1⟩, fun ss hs => by obtain ⟨i, hi, rfl⟩ := List.getElem_of_mem hs; exact h2 i hi⟩, h3⟩
theorem stones_none {fs : List FunD} {ss : List ByteArray} {k : Nat} (hk : k < ss.length) (h : findI fs ss[k] < 0) : stonesB fs ss = false := by
  have : ss.all (fun s => decide (0 ≤ findI fs s)) = false := by rw [List.all_eq_false]; exact ⟨ss[k], List.getElem_mem _, by simp; omega⟩
  simp [stonesB, this]
theorem stones_twice {fs : List FunD} {ss : List ByteArray} {j k : Nat} (hk : k < ss.length) (hj : j < k) (h : ss[k].toList = ss[j].toList) : stonesB fs ss = false := by
  have : ¬ (tl ss).Nodup := fun hn => by
    have h1 := (List.pairwise_iff_getElem.1 hn) j k (by simp [tl]; omega) (by simp [tl]; omega) hj
    simp [tl] at h1
    exact h1 h.symm
  simp [stonesB, this]
theorem stones_end {fs : List FunD} {ss : List ByteArray} (h1 : ∀ k (hk : k < ss.length), 0 ≤ findI fs ss[k]) (h2 : ∀ j k (hk : k < ss.length) (hj : j < k), ss[k].toList ≠ (ss[j]'(by omega)).toList) : stonesB fs ss = true := by
  unfold stonesB
  simp only [Bool.and_eq_true, decide_eq_true_iff, List.all_eq_true]
  refine ⟨fun s hs => by obtain ⟨i, hi, rfl⟩ := List.getElem_of_mem hs; exact h1 i hi, List.pairwise_iff_getElem.2 fun i j hi hj hij => ?_⟩
  simp [tl]
  exact fun e => h2 i j (by simpa [tl] using hj) hij e.symm
theorem stones_parts {fs : List FunD} {ss : List ByteArray} (h : stonesB fs ss = true) : (∀ s ∈ ss, 0 ≤ findI fs s) ∧ (tl ss).Nodup := by
  unfold stonesB at h
  simp only [Bool.and_eq_true, decide_eq_true_iff, List.all_eq_true] at h
  exact h

/-- How far two places are from one another. -/
def farI (a b : Int) : Int := if b - a ≤ a - b then a - b else b - a
theorem farI_nat (a b : Int) : 0 ≤ farI a b := by unfold farI; split <;> omega
/-- The stones behind a function, each with its place. -/
def rowSt (p : Nat) (ss : List ByteArray) (j : Nat) : List (ByteArray × Nat) := (List.range j).map fun j => (ss.getD j ⟨#[]⟩, p + j)
theorem rowSt_succ {p : Nat} {ss : List ByteArray} {j : Nat} (h : j < ss.length) : rowSt p ss (j + 1) = rowSt p ss j ++ [(ss[j], p + j)] := by
  simp [rowSt, List.range_succ, List.getD, List.getElem?_eq_getElem h]
theorem rowSt_zero (p : Nat) (ss : List ByteArray) : rowSt p ss 0 = [] := rfl
def stonesTo (fs : List FunD) (st : List (List ByteArray)) : Nat → List (ByteArray × Nat)
  | 0 => []
  | i + 1 => stonesTo fs st i ++ rowSt (place fs st i + lenAt fs i) (stAt st i) (stAt st i).length
/-- One stone more is looked at: is it the nearest of that name? -/
def nearS (reach p : Int) (s : ByteArray) (best : Int) (x : ByteArray × Nat) : Int :=
  if x.1.toList = s.toList ∧ farI x.2 p ≤ reach ∧ (best < 0 ∨ farI x.2 p < farI best p) then (x.2 : Int) else best
def nearI (reach p : Int) (s : ByteArray) (l : List (ByteArray × Nat)) : Int := l.foldl (nearS reach p s) (-1)
theorem nearI_snoc (reach p : Int) (s : ByteArray) (l : List (ByteArray × Nat)) (x : ByteArray × Nat) : nearI reach p s (l ++ [x]) = nearS reach p s (nearI reach p s l) x := by simp [nearI]
/-- Where one goes from a place for a name. -/
def toI (fs : List FunD) (st : List (List ByteArray)) (reach p : Int) (s : ByteArray) : Int :=
  if findI fs s < 0 then -1 else if farI (place fs st (findI fs s).toNat) p ≤ reach then (place fs st (findI fs s).toNat : Int) else nearI reach p s (stonesTo fs st fs.length)

/-- Is the k'th instruction of the i'th function out of reach? -/
def lk (fs : List FunD) (st : List (List ByteArray)) (reach : Int) (i k : Nat) : Bool :=
  refsB ((fs.getD i default).body.getD k default).o && decide (toI fs st reach ((place fs st i : Int) + k) ((fs.getD i default).body.getD k default).s < 0)
def lackRow (fs : List FunD) (st : List (List ByteArray)) (reach : Int) (i : Nat) : Option Nat := (List.range (lenAt fs i)).find? (lk fs st reach i)
def lackI (fs : List FunD) (st : List (List ByteArray)) (reach : Int) : Option Nat := (List.range fs.length).find? fun i => (lackRow fs st reach i).isSome
/-- The first function, and what it names, from which that is not within reach. -/
def lackN (fs : List FunD) (st : List (List ByteArray)) (reach : Int) : Option (Nat × ByteArray) :=
  (lackI fs st reach).map fun i => (i, ((fs.getD i default).body.getD ((lackRow fs st reach i).getD 0) default).s)
theorem range_find {n k : Nat} {p : Nat → Bool} (hk : k < n) (h : p k = true) (hb : ∀ j, j < k → p j = false) : (List.range n).find? p = some k := by
  rw [List.find?_range_eq_some]
  exact ⟨h, by simpa using hk, fun j hj => by simp [hb j hj]⟩
theorem range_none {n : Nat} {p : Nat → Bool} (hb : ∀ j, j < n → p j = false) : (List.range n).find? p = none := by
  rw [List.find?_range_eq_none]
  exact fun j hj => by simp [hb j hj]
theorem lackRow_none {fs : List FunD} {st : List (List ByteArray)} {reach : Int} {i : Nat} (h : ∀ k, k < lenAt fs i → lk fs st reach i k = false) : lackRow fs st reach i = none := range_none h
theorem lackN_none {fs : List FunD} {st : List (List ByteArray)} {reach : Int} (h : ∀ i, i < fs.length → lackRow fs st reach i = none) : lackN fs st reach = none := by
  unfold lackN lackI
  rw [range_none (fun i hi => by rw [h i hi]; rfl)]
  rfl
theorem lackN_some {fs : List FunD} {st : List (List ByteArray)} {reach : Int} {i k : Nat} (hi : i < fs.length) (h : ∀ j, j < i → lackRow fs st reach j = none) (hk : k < fs[i].body.length) (hb : ∀ j, j < k → lk fs st reach i j = false) (hl : lk fs st reach i k = true) : lackN fs st reach = some (i, fs[i].body[k].s) := by
  have e1 : lackRow fs st reach i = some k := range_find (by rw [lenAt_is hi]; exact hk) hl hb
  unfold lackN lackI
  rw [range_find hi (by rw [e1]; rfl) (fun j hj => by rw [h j hj]; rfl)]
  simp only [Option.map_some, e1, Option.getD_some]
  simp [List.getD, List.getElem?_eq_getElem hi, List.getElem?_eq_getElem hk]
theorem lackN_facts {fs : List FunD} {st : List (List ByteArray)} {reach : Int} {i : Nat} {s : ByteArray} (h : lackN fs st reach = some (i, s)) : ∃ hi : i < fs.length, ∃ k, ∃ hk : k < fs[i].body.length, s = fs[i].body[k].s ∧ refsB fs[i].body[k].o = true ∧ toI fs st reach ((place fs st i : Int) + k) s < 0 := by
  unfold lackN at h
  obtain ⟨j, hj, e⟩ := Option.map_eq_some_iff.1 h
  simp only [Prod.mk.injEq] at e
  obtain ⟨rfl, rfl⟩ := e
  unfold lackI at hj
  rw [List.find?_range_eq_some] at hj
  obtain ⟨h1, h2, _⟩ := hj
  have hi : j < fs.length := by simpa using h2
  obtain ⟨k, hk⟩ := Option.isSome_iff_exists.1 h1
  have hk' := hk
  unfold lackRow at hk'
  rw [List.find?_range_eq_some] at hk'
  obtain ⟨h3, h4, _⟩ := hk'
  have hkl : k < fs[j].body.length := by rw [← lenAt_is hi]; simpa using h4
  rw [hk]
  unfold lk at h3
  simp only [List.getD, List.getElem?_eq_getElem hi, Option.getD_some, List.getElem?_eq_getElem hkl, Bool.and_eq_true, decide_eq_true_iff] at h3 ⊢
  exact ⟨hi, k, hkl, rfl, h3.1, h3.2⟩

/-- A reach. -/
def reachB (r : Int) : Bool := decide (1 ≤ r) && decide (r ≤ 100)
def layOkB (fs : List FunD) (r : Int) (ns : List Int) (st : List (List ByteArray)) : Bool := reachB r && formB fs ns st && (lackN fs st r).isNone
def sizeI (fs : List FunD) (ns : List Int) (st : List (List ByteArray)) : Int := if formB fs ns st then (place fs st fs.length : Int) else 0
def layToI (fs : List FunD) (ns : List Int) (st : List (List ByteArray)) (r p : Int) (s : ByteArray) : Int :=
  if formB fs ns st && reachB r && decide (0 ≤ p) && decide (p < (place fs st fs.length : Int)) then toI fs st r p s else -1
def stoneI (fs : List FunD) (ns : List Int) (st : List (List ByteArray)) (f n : Int) : Int :=
  if formB fs ns st && decide (0 ≤ f) && decide (f < (fs.length : Int)) && decide (0 ≤ n) && decide (n < ((stAt st f.toNat).length : Int)) then (place fs st f.toNat : Int) + (lenAt fs f.toNat : Int) + n else -1
end Go.Proofs.Ytjbhbkkkjdpamaa.LayD
/- The contracts of the specification's l7Form, l7Far, l7Stone, l7To. -/
namespace Go.Proofs.Ytjbhbkkkjdpamaa.LayS
open Go.ChangeShapes Go.WideShapes Go.ChangeAt Go.RowKit Go.Joins Go.Deep
open Go.Proofs.Ytjbhbkkkjdpamaa.Base Go.Proofs.Ytjbhbkkkjdpamaa.InsA Go.Proofs.Ytjbhbkkkjdpamaa.Funs Go.Proofs.Ytjbhbkkkjdpamaa.Open Go.Proofs.Ytjbhbkkkjdpamaa.FunS Go.Proofs.Ytjbhbkkkjdpamaa.Keep Go.Proofs.Ytjbhbkkkjdpamaa.UnitS Go.Proofs.Ytjbhbkkkjdpamaa.Refs Go.Proofs.Ytjbhbkkkjdpamaa.LayN Go.Proofs.Ytjbhbkkkjdpamaa.LayA Go.Proofs.Ytjbhbkkkjdpamaa.KeepD Go.Proofs.Ytjbhbkkkjdpamaa.KeepA Go.Proofs.Ytjbhbkkkjdpamaa.LayD
set_option linter.unusedVariables false
set_option maxRecDepth 100000

theorem l1Max_any (a b : Int) (w : World) : Calls Try.prog 142 #[.int .i64 a, .int .i64 b] w fun e w' => e = .returned (.int .i64 (if b < a then a else b)) ∧ w' = w := by
  by_cases h : b < a
  · rw [if_pos h]
    go_enter Try.func142, Try.ntmps142
    go_wp2_with fail
    go_ret
    exact ⟨rfl, rfl⟩
  · rw [if_neg h]
    go_enter Try.func142, Try.ntmps142
    go_wp2_with fail
    go_ret
    exact ⟨rfl, rfl⟩
theorem far_max (a b : Int) : (if b - a < a - b then a - b else b - a) = farI a b := by unfold farI; split <;> split <;> omega
theorem far_any (a b : Int) (w : World) (ha : -1 ≤ a ∧ a ≤ 1000000000) (hb : -1 ≤ b ∧ b ≤ 1000000000) : Calls Try.prog 120 #[.int .i64 a, .int .i64 b] w fun e w' => e = .returned (.int .i64 (farI a b)) ∧ w' = w := by
  obtain ⟨ha0, ha1⟩ := ha
  obtain ⟨hb0, hb1⟩ := hb
  have HF := hide (far_max a b)
  go_enter Try.func120, Try.ntmps120
  go_wp2_with fail
  refine (l1Max_any _ _ _).mono ?_
  rw [unhide HF]
  rintro e w1 ⟨rfl, rfl⟩
  go_wp2_with fail
  go_ret
  exact ⟨rfl, rfl⟩
theorem place_small {fs : List FunD} {st : List (List ByteArray)} (h40 : fs.length ≤ 40) (h10 : ∀ f ∈ fs, f.body.length ≤ 10) (hl : st.length = fs.length) (hf : FewT st) : ∀ n, n ≤ fs.length → place fs st n ≤ 42000000 := fun n hn => by
  have := place_bd (fs := fs) (st := st) (m := 10) (q := 1048576) (fun i hi => by rw [lenAt_is hi]; exact h10 _ (List.getElem_mem _)) (fun i hi => by rw [stAt_is (by omega)]; exact hf.2 _ (List.getElem_mem _)) n hn
  have : n * (10 + 1048576) ≤ 40 * (10 + 1048576) := Nat.mul_le_mul_right _ (by omega)
  omega
theorem keep_bodies {fs : List FunD} (h : keepOkB fs = true) : ∀ f ∈ fs, f.body.length ≤ 10 := fun f hf => fun_le ((keep_parts h).2.2.1 f hf)

set_option maxHeartbeats 8000000 in
theorem l7Form_any (a na sa : Option Addr) (cap nc sc : Nat) (fs : List FunD) (ns : List Int) (st : List (List ByteArray)) (w : World) (hcap : fs.length ≤ cap) (hcm : cap ≤ maxLen) (h1 : ns.length ≤ nc) (h2 : nc ≤ maxLen) (h3 : st.length ≤ sc) (h4 : sc ≤ maxLen) (hft : FewT st) (hR : FunRow w a fs) (hs : NumRow w na ns) (ho : TextsRow w sa st) :
    Calls Try.prog 55 #[.slice a fs.length cap, .agg #[.slice na ns.length nc, .slice sa st.length sc]] w fun e w' => e = .returned (.bool (formB fs ns st)) ∧ Below w.heap.size w w' := by
  have HR := hide hR
  have HS := hide hs
  have HO := hide ho
  have HSZ := hide ho.sizes
  have hB0 := below_alloc1 w (.cells #[.slice na ns.length nc, .slice sa st.length sc] 34)
  have HX := hide (new_block w (.cells #[.slice na ns.length nc, .slice sa st.length sc] 34))
  clear hR hs ho
  have hlf : (fs.length : Int) ≤ 9223372036854775807 := by unfold maxLen at hcm; omega
  have hln : (ns.length : Int) ≤ 9223372036854775807 := by unfold maxLen at h2; omega
  have hls : (st.length : Int) ≤ 9223372036854775807 := by unfold maxLen at h4; omega
  cases hk : keepOkB fs
  · have HE : Hid (false = formB fs ns st) := (form_keep hk).symm
    go_enter Try.func55, Try.ntmps55
    go_wp2_with fail
    refine (specKeepOk_any a cap fs _ hcap hcm ((unhide HR).below hB0)).mono ?_
    rw [hk]
    rintro e w1 ⟨rfl, hb1⟩
    go_wp2_with fail
    go_ret
    exact ⟨ret_bool (unhide HE), bl_trans hB0 hb1⟩
  by_cases hn : ns.length = fs.length
  rotate_left
  · have HE : Hid (false = formB fs ns st) := (form_atlen hn).symm
    have hn' : ¬ (ns.length : Int) = (fs.length : Int) := by omega
    go_enter Try.func55, Try.ntmps55
    go_wp2_with fail
    refine (specKeepOk_any a cap fs _ hcap hcm ((unhide HR).below hB0)).mono ?_
    rw [hk]
    rintro e w1 ⟨rfl, hb1⟩
    have hX := box2 (box_below (unhide HX) hb1)
    go_wp2_with fail
    go_ret
    exact ⟨ret_bool (unhide HE), bl_trans hB0 hb1⟩
  by_cases hm : st.length = fs.length
  rotate_left
  · have HE : Hid (false = formB fs ns st) := (form_len hm).symm
    have hm' : ¬ (st.length : Int) = (fs.length : Int) := by omega
    have HKO : Hid (∀ w', FunRow w' a fs → Calls Try.prog 95 #[.slice a fs.length cap] w' fun e w'' => e = .returned (.bool (keepOkB fs)) ∧ Below w'.heap.size w' w'') := fun w' h => specKeepOk_any a cap fs w' hcap hcm h
    rw [hn] at HX hB0 h1 ⊢
    clear hn
    go_enter Try.func55, Try.ntmps55
    go_wp2_with fail
    refine (unhide HKO _ ((unhide HR).below hB0)).mono ?_
    rw [hk]
    rintro e w1 ⟨rfl, hb1⟩
    have hX := box2 (box_below (unhide HX) hb1)
    go_wp2_with fail
    go_ret
    exact ⟨ret_bool (unhide HE), bl_trans hB0 hb1⟩
  have h40 := (keep_parts hk).2.1
  have HPB := hide (place_small h40 (keep_bodies hk) hm hft)
  have HKO : Hid (∀ w', FunRow w' a fs → Calls Try.prog 95 #[.slice a fs.length cap] w' fun e w'' => e = .returned (.bool (keepOkB fs)) ∧ Below w'.heap.size w' w'') := fun w' h => specKeepOk_any a cap fs w' hcap hcm h
  have HFI : Hid (∀ s w', s.size ≤ maxLen → FunRow w' a fs → Calls Try.prog 96 #[.slice a fs.length cap, .string s] w' fun e w'' => e = .returned (.int .i64 (findI fs s)) ∧ Below w'.heap.size w' w'') := fun s w' hsz h => specFind_any a cap fs s w' hsz hcap hcm h
  have HEND : Hid ((∀ i (h : i < st.length), stonesB fs st[i] = true) → (∀ i (h : i < ns.length), ns[i] = (place fs st i : Int)) → true = formB fs ns st) := fun e1 e2 => (form_end hk hm e1 (List.ext_getElem (by rw [places_len]; exact hn) fun i q1 q2 => by rw [e2 i q1]; exact (placesTo_at q2).symm)).symm
  have HAT : Hid (∀ k (h : k < ns.length), ns[k] ≠ (place fs st k : Int) → false = formB fs ns st) := fun k h e => (form_atk h e).symm
  have HST : Hid (∀ k (h : k < st.length), stonesB fs st[k] = false → false = formB fs ns st) := fun k h e => (form_stones h e).symm
  obtain ⟨n, hfn⟩ : ∃ n, fs.length = n := ⟨_, rfl⟩
  have HLF := hide hfn
  have HLN := hide (hn.trans hfn)
  have HLS := hide (hm.trans hfn)
  rw [hn, hfn] at HX hB0 h1
  rw [hm, hfn] at HX hB0 h3
  rw [hfn] at hcap h40 hlf HKO HFI
  rw [hn, hm, hfn]
  have HFT := hide hft.2
  clear hn hm hfn hft hln hls
  have HKE := hide hk
  go_enter Try.func55, Try.ntmps55
  go_wp2_with fail
  refine (unhide HKO _ ((unhide HR).below hB0)).mono ?_
  rw [hk]
  rintro e w1 ⟨rfl, hb1⟩
  replace HX := hide (box_below (unhide HX) hb1)
  have hB1 := bl_trans hB0 hb1
  have hX := box2 (unhide HX)
  clear hB0 hb1 hk
  go_wp2_with fail
  clear hX
  go_loopw [5, 6] (fun at' i w' => ∃ k : Nat, k ≤ n ∧ i = .int .i64 k ∧ at' = .int .i64 (place fs st k : Nat) ∧ Hid (∀ j (h : j < ns.length), j < k → ns[j] = (place fs st j : Int)) ∧ Hid (∀ j (h : j < st.length), j < k → stonesB fs st[j] = true) ∧ w'.heap[w.heap.size]? = some (.cells #[.slice na n nc, .slice sa n sc] 34) ∧ Below w.heap.size w w') (fun _ i _ => n - (intOf i).toNat)
  case atStart => exact ⟨0, Nat.zero_le _, rfl, rfl, fun j _ h => by omega, fun j _ h => by omega, unhide HX, hB1⟩
  case round =>
    obtain ⟨k, hk, rfl, rfl, HJN, HJS, hX, hB⟩ := hrel
    clear HX hB1
    have HX := hide hX
    clear hX
    have hX := box2 (unhide HX)
    by_cases hkl : k < n
    · have hkl' : (k : Int) < (n : Int) := by omega
      have hkf : k < fs.length := by have := unhide HLF; omega
      have hkn : k < ns.length := by have := unhide HLN; omega
      have hks : k < st.length := by have := unhide HLS; omega
      obtain ⟨b, off, rfl⟩ := (unhide HR).get (by omega)
      obtain ⟨nb, no, rfl⟩ := (unhide HS).get (by omega)
      obtain ⟨sb, so, rfl⟩ := (unhide HO).get (by omega)
      have n0 := ((unhide HS).below hB).cells hkn
      have HA0 := hide (unhide HAT k hkn)
      have HT0 := hide (unhide HST k hks)
      have HPS : Hid (place fs st (k + 1) = place fs st k + fs[k].body.length + st[k].length) := by show place fs st (k + 1) = _; rw [place, lenAt_is hkf, stAt_is hks]
      have hpb := unhide HPB k (by omega)
      by_cases hpk : ns[k] = (place fs st k : Int)
      · have HNX : Hid (∀ j (h : j < ns.length), j < k + 1 → ns[j] = (place fs st j : Int)) := fun j h hj => by
          by_cases e : j = k
          · subst e; exact hpk
          · exact unhide HJN j h (by omega)
        have HSX : Hid (stonesB fs st[k] = true → ∀ j (h : j < st.length), j < k + 1 → stonesB fs st[j] = true) := fun hq j h hj => by
          by_cases e : j = k
          · subst e; exact hq
          · exact unhide HJS j h (by omega)
        have HFR := hide ((unhide HR).at hkf)
        have HTR := hide ((unhide HO).at hks)
        have hsl := unhide HFT st[k] (List.getElem_mem _)
        have hfl : fs[k].body.length ≤ 10 := keep_bodies (unhide HKE) _ (List.getElem_mem _)
        have HTZ := hide (unhide HSZ st[k] (List.getElem_mem _)).2
        have HSE := hide (stones_end (fs := fs) (ss := st[k]))
        have HSN := hide (fun j (hj : j < st[k].length) => stones_none (fs := fs) hj)
        have HSW := hide (fun j i (hj : j < st[k].length) (hi : i < j) => stones_twice (fs := fs) hj hi)
        rw [hpk] at n0
        clear hpk HAT HST HEND HA0
        generalize fs[k] = f at *
        generalize st[k] = ss at *
        generalize hpe : place fs st k = pl at *
        clear hpe
        go_wp2_with fail
        clear hX n0
        go_loopw [7] (fun q w' => ∃ j : Nat, j ≤ ss.length ∧ q = .int .i64 j ∧ Hid (∀ i (h : i < ss.length), i < j → 0 ≤ findI fs ss[i]) ∧ Hid (∀ i j' (h : j' < ss.length) (hi : i < j'), j' < j → ss[j'].toList ≠ (ss[i]'(by omega)).toList) ∧ w'.heap[w.heap.size]? = some (.cells #[.slice (some ⟨nb, no, none⟩) n nc, .slice (some ⟨sb, so, none⟩) n sc] 34) ∧ Below w.heap.size w w') (fun q _ => ss.length - (intOf q).toNat)
        case atStart => exact ⟨0, Nat.zero_le _, rfl, fun i _ h => by omega, fun i j' _ _ h => by omega, unhide HX, hB⟩
        case round =>
          obtain ⟨j, hj, rfl, HJ1, HJ2, hX, hB'⟩ := hrel
          clear HX hB
          have HX := hide hX
          clear hX
          have hX := box2 (unhide HX)
          obtain ⟨ai, ci, t0, h5, h6, h7⟩ := (unhide HTR).below hB'
          have HT7 := hide h7
          clear h7
          by_cases hjl : j < ss.length
          · have hjl' : (j : Int) < (ss.length : Int) := by omega
            obtain ⟨tb, to', rfl⟩ := (unhide HT7).get (by omega)
            obtain ⟨u0, _⟩ := (unhide HT7).cells hjl
            have hsz := unhide HTZ ss[j] (List.getElem_mem _)
            have HN1 : Hid (findI fs ss[j] < 0 → false = formB fs ns st) := fun h => unhide HT0 (unhide HSN j hjl h)
            have HN2 : Hid (∀ i (hi : i < j), ss[j].toList = (ss[i]'(by omega)).toList → false = formB fs ns st) := fun i hi h => unhide HT0 (unhide HSW j i hjl hi h)
            have HY1 : Hid (0 ≤ findI fs ss[j] → ∀ i (h : i < ss.length), i < j + 1 → 0 ≤ findI fs ss[i]) := fun hq i h hi => by
              by_cases e : i = j
              · subst e; exact hq
              · exact unhide HJ1 i h (by omega)
            have HY2 : Hid ((∀ i (hi : i < j), ss[j].toList ≠ (ss[i]'(by omega)).toList) → ∀ i j' (h : j' < ss.length) (hi : i < j'), j' < j + 1 → ss[j'].toList ≠ (ss[i]'(by omega)).toList) := fun hq i j' h hi hj' => by
              by_cases e : j' = j
              · subst e; exact hq i hi
              · exact unhide HJ2 i j' h hi (by omega)
            generalize hsj : ss[j] = s at *
            have HSJ := hide hsj
            clear hsj
            by_cases hf : findI fs s < 0
            · go_wp2_with fail
              refine (unhide HFI s _ hsz ((unhide HR).below hB')).mono ?_
              rintro e w2 ⟨rfl, hb2⟩
              go_wp2_with fail
              go_ret
              exact ⟨ret_bool (unhide HN1 hf), bl_trans hB' hb2⟩
            · have HY1' := hide (unhide HY1 (by omega))
              go_wp2_with fail
              refine (unhide HFI s _ hsz ((unhide HR).below hB')).mono ?_
              rintro e w2 ⟨rfl, hb2⟩
              replace HX := hide (box_below (unhide HX) hb2)
              replace hB' := bl_trans hB' hb2
              clear hX t0 u0 hb2
              go_wp2_with fail
              go_loopw [8] (fun r w' => ∃ i : Nat, i ≤ j ∧ r = .int .i64 i ∧ Hid (∀ i' (hi : i' < j), i' < i → s.toList ≠ (ss[i']'(by omega)).toList) ∧ w'.heap[w.heap.size]? = some (.cells #[.slice (some ⟨nb, no, none⟩) n nc, .slice (some ⟨sb, so, none⟩) n sc] 34) ∧ Below w.heap.size w w') (fun r _ => j - (intOf r).toNat)
              case atStart => exact ⟨0, Nat.zero_le _, rfl, fun i' _ h => by omega, unhide HX, hB'⟩
              case round =>
                obtain ⟨i, hi, rfl, HI, hX, hB2⟩ := hrel
                clear HX hB'
                have HX := hide hX
                clear hX
                have hX := box2 (unhide HX)
                by_cases hil : i < j
                · have hil' : (i : Int) < (j : Int) := by omega
                  obtain ⟨ai', ci', t0, h5', h6', h7'⟩ := (unhide HTR).below hB2
                  obtain ⟨tb', to2, rfl⟩ := h7'.get (by omega)
                  obtain ⟨u0, _⟩ := h7'.cells hjl
                  obtain ⟨v0, _⟩ := h7'.cells (show i < ss.length by omega)
                  rw [unhide HSJ] at u0
                  have HNI := hide (unhide HN2 i hil)
                  have HXI : Hid (s.toList ≠ (ss[i]'(by omega)).toList → ∀ i' (hi : i' < j), i' < i + 1 → s.toList ≠ (ss[i']'(by omega)).toList) := fun hq i' hi' h => by
                    by_cases e : i' = i
                    · subst e; exact hq
                    · exact unhide HI i' hi' (by omega)
                  clear h7'
                  have hil2 : (i : Int) < (ss.length : Int) := by omega
                  generalize ss[i] = s' at *
                  cases hq : (s'.toList == s.toList)
                  · go_wp2_with fail
                    go_quiet (fail)
                    go_wp2_with fail
                    exact ⟨⟨i + 1, by omega, by go_num, unhide HXI (fun e => by rw [e] at hq; simp at hq), unhide HX, by first | exact hB2 | exact bl_drewN hB2 _ | exact hB2.drew⟩, by simp [intOf]; omega⟩
                  · go_wp2_with fail
                    go_quiet (fail)
                    go_wp2_with fail
                    go_ret
                    exact ⟨ret_bool (unhide HNI (by simpa using (beq_iff_eq.1 hq).symm)), by first | exact hB2 | exact bl_drewN hB2 _ | exact hB2.drew⟩
                · have hil' : ¬ (i : Int) < (j : Int) := by omega
                  have HYZ := hide (unhide HY2 (fun i' hi' => unhide HI i' hi' (by omega)))
                  go_wp2_with fail
                  exact ⟨⟨j + 1, by omega, by go_num, unhide HY1', unhide HYZ, unhide HX, hB2⟩, by simp [intOf]; omega⟩
          · have hjl' : ¬ (j : Int) < (ss.length : Int) := by omega
            have HSY := hide (unhide HSX (unhide HSE (fun i h => unhide HJ1 i h (by omega)) (fun i j' h hi => unhide HJ2 i j' h hi (by omega))))
            obtain ⟨fi, fc, f0, f1, f2, _, f4, f5, _⟩ := (unhide HFR).below hB'
            go_wp2_with fail
            go_quiet (fail)
            go_wp2_with fail
            exact ⟨⟨k + 1, by omega, by go_num, by rw [unhide HPS]; go_num, unhide HNX, unhide HSY, unhide HX, by first | exact hB' | exact bl_drewN hB' _ | exact hB'.drew⟩, by simp [intOf]; omega⟩
      · have HE := hide (unhide HA0 hpk)
        generalize ns[k] = x at *
        generalize hpe : place fs st k = pl at *
        have hpk' : ¬ x = (pl : Int) := hpk
        go_wp2_with fail
        go_ret
        exact ⟨ret_bool (unhide HE), hB⟩
    · have hkl' : ¬ (k : Int) < (n : Int) := by omega
      have HE : Hid (true = formB fs ns st) := unhide HEND (fun i h => unhide HJS i h (by have := unhide HLS; omega)) (fun i h => unhide HJN i h (by have := unhide HLN; omega))
      go_wp2_with fail
      go_ret
      exact ⟨ret_bool (unhide HE), hB⟩
end Go.Proofs.Ytjbhbkkkjdpamaa.LayS
