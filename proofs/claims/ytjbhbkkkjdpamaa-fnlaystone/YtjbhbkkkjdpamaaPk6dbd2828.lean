/- Plain data: where an instruction stands, what stands at a place, and what the map says of it. -/
import Derived.Test.YtjbhbkkkjdpamaaLayT
import Derived.Test.YtjbhbkkkjdpamaaLayV
import Derived.Deep.QuietTactic
import Derived.BigQuiet
namespace Go.Proofs.Ytjbhbkkkjdpamaa.MapD
open Go.Proofs.Ytjbhbkkkjdpamaa.InsA Go.Proofs.Ytjbhbkkkjdpamaa.Funs Go.Proofs.Ytjbhbkkkjdpamaa.Open Go.Proofs.Ytjbhbkkkjdpamaa.UnitS Go.Proofs.Ytjbhbkkkjdpamaa.Refs Go.Proofs.Ytjbhbkkkjdpamaa.KeepD Go.Proofs.Ytjbhbkkkjdpamaa.KeepA Go.Proofs.Ytjbhbkkkjdpamaa.LayA Go.Proofs.Ytjbhbkkkjdpamaa.LayD Go.Proofs.Ytjbhbkkkjdpamaa.LayT
set_option linter.unusedVariables false
set_option maxRecDepth 100000

/-- Whether a program has such an instruction. -/
def spotQ (fs : List FunD) (f p : Int) : Bool := decide (0 ≤ f) && decide (f < fs.length) && decide (0 ≤ p) && decide (p < (lenAt fs f.toNat : Int))
/-- Where it stands. -/
def mapAtI (fs : List FunD) (ns : List Int) (st : List (List ByteArray)) (f p : Int) : Int :=
  if formB fs ns st && spotQ fs f p then (place fs st f.toNat : Int) + p else -1
/-- Whether an instruction of the i'th function stands at a place. -/
def hitB (fs : List FunD) (st : List (List ByteArray)) (at_ : Int) (i : Nat) : Bool := decide ((place fs st i : Int) ≤ at_) && decide (at_ < ((place fs st i + lenAt fs i : Nat) : Int))
/-- The function of which an instruction stands there. -/
def spotN (fs : List FunD) (ns : List Int) (st : List (List ByteArray)) (at_ : Int) : Option Nat :=
  if formB fs ns st then (List.range fs.length).find? (hitB fs st at_) else none

theorem mapAt_no {fs : List FunD} {ns : List Int} {st : List (List ByteArray)} {f p : Int} (h : formB fs ns st = false ∨ spotQ fs f p = false) : mapAtI fs ns st f p = -1 := by
  unfold mapAtI
  rcases h with h | h <;> simp [h]
theorem mapAt_yes {fs : List FunD} {ns : List Int} {st : List (List ByteArray)} {k j : Nat} (h : formB fs ns st = true) (hs : spotQ fs (k : Int) (j : Int) = true) : mapAtI fs ns st (k : Int) (j : Int) = ((place fs st k + j : Nat) : Int) := by
  unfold mapAtI
  simp [h, hs]
theorem spotQ_parts {fs : List FunD} {f p : Int} (h : spotQ fs f p = true) : ∃ k j : Nat, f = (k : Int) ∧ p = (j : Int) ∧ ∃ hk : k < fs.length, j < fs[k].body.length := by
  unfold spotQ at h
  simp only [Bool.and_eq_true, decide_eq_true_iff] at h
  obtain ⟨⟨⟨h1, h2⟩, h3⟩, h4⟩ := h
  have hk : f.toNat < fs.length := by omega
  refine ⟨f.toNat, p.toNat, by omega, by omega, hk, ?_⟩
  rw [lenAt_is hk] at h4
  omega
theorem spotQ_yes {fs : List FunD} {k j : Nat} (hk : k < fs.length) (hj : j < fs[k].body.length) : spotQ fs (k : Int) (j : Int) = true := by
  unfold spotQ
  simp only [Bool.and_eq_true, decide_eq_true_iff, Int.toNat_natCast]
  rw [lenAt_is hk]
  exact ⟨⟨⟨by omega, by omega⟩, by omega⟩, by omega⟩
theorem spotQ_pc {fs : List FunD} {k j : Nat} (hk : k < fs.length) (hj : ¬ j < fs[k].body.length) : spotQ fs (k : Int) (j : Int) = false := by
  have h : ¬ ((j : Int) < (fs[k].body.length : Int)) := by omega
  unfold spotQ
  rw [Int.toNat_natCast, lenAt_is hk, decide_eq_false h, Bool.and_false]
/-- One place is of one function. -/
theorem hit_one {fs : List FunD} {st : List (List ByteArray)} {at_ : Int} {i j : Nat} (hi : hitB fs st at_ i = true) (hj : hitB fs st at_ j = true) : i = j := by
  unfold hitB at hi hj
  simp only [Bool.and_eq_true, decide_eq_true_iff] at hi hj
  rcases Nat.lt_trichotomy i j with h | h | h
  · have := place_mono (fs := fs) (st := st) (show i + 1 ≤ j by omega)
    rw [place] at this
    omega
  · exact h
  · have := place_mono (fs := fs) (st := st) (show j + 1 ≤ i by omega)
    rw [place] at this
    omega
theorem hit_iff {fs : List FunD} {st : List (List ByteArray)} {at_ : Int} {i : Nat} : hitB fs st at_ i = true ↔ (place fs st i : Int) ≤ at_ ∧ at_ < ((place fs st i + lenAt fs i : Nat) : Int) := by
  unfold hitB
  simp only [Bool.and_eq_true, decide_eq_true_iff]
theorem spotN_form {fs : List FunD} {ns : List Int} {st : List (List ByteArray)} {at_ : Int} (h : formB fs ns st = false) : spotN fs ns st at_ = none := by simp [spotN, h]
theorem spotN_some {fs : List FunD} {ns : List Int} {st : List (List ByteArray)} {at_ : Int} {k : Nat} (h : formB fs ns st = true) (hk : k < fs.length) (hh : hitB fs st at_ k = true) : spotN fs ns st at_ = some k := by
  unfold spotN
  rw [if_pos h]
  exact range_find hk hh (fun j hj => by
    cases e : hitB fs st at_ j with
    | false => rfl
    | true => have := hit_one e hh; omega)
theorem spotN_none {fs : List FunD} {ns : List Int} {st : List (List ByteArray)} {at_ : Int} (h : ∀ j, j < fs.length → hitB fs st at_ j = false) : spotN fs ns st at_ = none := by
  unfold spotN
  split
  · exact range_none h
  · rfl
theorem spotN_facts {fs : List FunD} {ns : List Int} {st : List (List ByteArray)} {at_ : Int} {k : Nat} (h : spotN fs ns st at_ = some k) : formB fs ns st = true ∧ k < fs.length ∧ hitB fs st at_ k = true := by
  unfold spotN at h
  split at h
  · rename_i hf
    rw [List.find?_range_eq_some] at h
    exact ⟨hf, by simpa using h.2.1, h.1⟩
  · cases h
/-- What MapSpot answers. -/
def spotE (fs : List FunD) (ns : List Int) (st : List (List ByteArray)) (at_ : Int) : Int × Int × Bool :=
  match spotN fs ns st at_ with | none => (0, 0, false) | some k => ((k : Int), at_ - (place fs st k : Int), true)
theorem spotE_none {fs : List FunD} {ns : List Int} {st : List (List ByteArray)} {at_ : Int} (h : spotN fs ns st at_ = none) : spotE fs ns st at_ = (0, 0, false) := by simp [spotE, h]
theorem spotE_some {fs : List FunD} {ns : List Int} {st : List (List ByteArray)} {at_ : Int} {k : Nat} (h : spotN fs ns st at_ = some k) : spotE fs ns st at_ = ((k : Int), at_ - (place fs st k : Int), true) := by simp [spotE, h]
/-- The last function that begins at a place or ahead of it. -/
def UpTo (fs : List FunD) (st : List (List ByteArray)) (at_ : Int) (k : Nat) : Prop := (place fs st k : Int) ≤ at_ ∧ ∀ j, k < j → j < fs.length → at_ < (place fs st j : Int)
/-- Behind its instructions there is none. -/
theorem upTo_miss {fs : List FunD} {ns : List Int} {st : List (List ByteArray)} {at_ : Int} {k : Nat} (hu : UpTo fs st at_ k) (hm : ((place fs st k + lenAt fs k : Nat) : Int) ≤ at_) : spotN fs ns st at_ = none := by
  refine spotN_none fun j hj => ?_
  cases e : hitB fs st at_ j with
  | false => rfl
  | true =>
    rw [hit_iff] at e
    rcases Nat.lt_trichotomy j k with h | h | h
    · have := place_mono (fs := fs) (st := st) (show j + 1 ≤ k by omega)
      rw [place] at this
      have := hu.1
      omega
    · subst h; omega
    · have := hu.2 j h hj
      omega
end Go.Proofs.Ytjbhbkkkjdpamaa.MapD
/- The contracts of what says whether a place is an instruction, of both sides, and of the copy and comparison of a place. -/
namespace Go.Proofs.Ytjbhbkkkjdpamaa.MapA
open Go.ChangeShapes Go.WideShapes Go.ChangeAt Go.RowKit Go.Joins Go.Deep
open Go.Proofs.Ytjbhbkkkjdpamaa.Base Go.Proofs.Ytjbhbkkkjdpamaa.InsA Go.Proofs.Ytjbhbkkkjdpamaa.Funs Go.Proofs.Ytjbhbkkkjdpamaa.Open Go.Proofs.Ytjbhbkkkjdpamaa.Keep Go.Proofs.Ytjbhbkkkjdpamaa.UnitS Go.Proofs.Ytjbhbkkkjdpamaa.Refs Go.Proofs.Ytjbhbkkkjdpamaa.LayN Go.Proofs.Ytjbhbkkkjdpamaa.LayA Go.Proofs.Ytjbhbkkkjdpamaa.KeepA Go.Proofs.Ytjbhbkkkjdpamaa.KeepD Go.Proofs.Ytjbhbkkkjdpamaa.LayD Go.Proofs.Ytjbhbkkkjdpamaa.LayS Go.Proofs.Ytjbhbkkkjdpamaa.LayT Go.Proofs.Ytjbhbkkkjdpamaa.LayU Go.Proofs.Ytjbhbkkkjdpamaa.LayV Go.Proofs.Ytjbhbkkkjdpamaa.MapD
set_option linter.unusedVariables false
set_option maxRecDepth 100000

theorem cellsSpot : Try.prog.cellsOf 28 = 2 := by kernel_rfl
/-- A place of a program that came in by value. -/
theorem spot_of {H : Type} {enc : TypeId × Value → H} {W : World} {base b0 : Nat} {spare : Nat → Bool} {held : Bool} {v : Value} {r : Reach} {dd : DataW H} {pp : List MemPlace} (hv : Value.okWide Try.prog W r b0 28 v) (h : DataW.Trod enc Try.prog W base spare held 28 v dd pp) :
    ∃ f p : Int, v = .agg #[.int .i64 f, .int .i64 p] ∧ (Lit.int .i64 f).wf = true ∧ (Lit.int .i64 p).wf = true := by
  obtain ⟨cs, rfl, hsz⟩ := okWide_struct Try.underlying28 hv
  rw [cellsSpot] at hsz
  obtain ⟨l⟩ := cs
  match l, hsz with
  | [c0, c1], _ =>
    obtain ⟨fuel, hf⟩ := h
    obtain ⟨xs, n, _, _, _, hxl, hx⟩ := DataW.trod_struct Try.underlying28 hf
    have hxl' : xs.length = 2 := hxl
    have g0 := hx 0 _ rfl
    have g1 := hx 1 _ rfl
    rw [List.getElem?_eq_getElem (by omega)] at g0 g1
    simp only [Value.cells] at g0 g1
    obtain ⟨f, e0, _, wf⟩ := DataW.trod_int Try.underlying3 g0
    obtain ⟨p, e1, _, wp⟩ := DataW.trod_int Try.underlying3 g1
    simp [cellsNum] at e0 e1
    subst e0 e1
    exact ⟨f, p, rfl, wf, wp⟩
set_option maxHeartbeats 400000 in
theorem toSpot_any (f p : Int) (w : World) :
    Calls Try.prog 17 #[.agg #[.int .i64 f, .int .i64 p]] w fun e w' => e = .returned (.agg #[.int .i64 f, .int .i64 p]) ∧ Below w.heap.size w w' := by
  go_enter Try.func17, Try.ntmps17
  go_wp2
  exact bodyPost_ret (v := .agg #[.int .i64 f, .int .i64 p]) (by simp [results, Try.results17, go_sem]) rfl ⟨rfl, below_alloc3 _ _ _ _⟩
set_option maxHeartbeats 400000 in
theorem eqSpot_same (f p : Int) (w : World) :
    Calls Try.prog 23 #[.agg #[.int .i64 f, .int .i64 p], .agg #[.int .i64 f, .int .i64 p]] w fun e w' => e = .returned (.bool true) ∧ Below w.heap.size w w' := by
  go_enter Try.func23, Try.ntmps23
  go_wp2
  go_ret
  exact ⟨rfl, below_alloc2 _ _ _⟩
set_option maxHeartbeats 2000000 in
theorem spotOk_any (a : Option Addr) (cap : Nat) (fs : List FunD) (f p : Int) (w : World) (hcap : fs.length ≤ cap) (hcm : cap ≤ maxLen) (hR : FunRow w a fs) :
    Calls Try.prog 61 #[.slice a fs.length cap, .agg #[.int .i64 f, .int .i64 p]] w fun e w' => e = .returned (.bool (spotQ fs f p)) ∧ Below w.heap.size w w' := by
  have HR := hide hR
  clear hR
  unfold maxLen at hcm
  have hn : (fs.length : Int) ≤ 9223372036854775807 := by omega
  have hB := below_alloc1 w (.cells #[.int .i64 f, .int .i64 p] 36)
  by_cases h0 : 0 ≤ f
  · by_cases h1 : f < (fs.length : Int)
    · by_cases h2 : 0 ≤ p
      · obtain ⟨k, rfl⟩ : ∃ k : Nat, f = (k : Int) := ⟨f.toNat, by omega⟩
        have hk : k < fs.length := by omega
        obtain ⟨b, off, rfl⟩ := (unhide HR).get (by omega)
        obtain ⟨ai, ci, _, _, c2, _, g1, g2, _⟩ := ((unhide HR).below hB).at hk
        unfold maxLen at g2
        have HE : Hid (spotQ fs (k : Int) p = decide (p < (fs[k].body.length : Int))) := by
          show _ = _
          unfold spotQ
          rw [decide_eq_true h0, decide_eq_true h1, decide_eq_true h2]
          rw [show ((k : Nat) : Int).toNat = k from Int.toNat_natCast k, lenAt_is hk]; simp
        generalize fs[k].body.length = m at *
        have hm : (m : Int) ≤ 9223372036854775807 := by omega
        by_cases h3 : p < (m : Int)
        · have HF : Hid (true = spotQ fs (k : Int) p) := by show _ = _; rw [unhide HE, decide_eq_true h3]
          have d0 : decide ((0 : Int) ≤ (k : Int)) = true := decide_eq_true h0
          have d1 : decide ((k : Int) < (fs.length : Int)) = true := decide_eq_true h1
          have d2 : decide ((0 : Int) ≤ p) = true := decide_eq_true h2
          have d3 : decide (p < (m : Int)) = true := decide_eq_true h3
          go_enter Try.func61, Try.ntmps61
          go_wp2_with fail
          go_quiet (fail)
          go_wp2_with fail
          go_ret
          exact ⟨ret_bool (unhide HF), by first | exact hB | exact bl_drewN hB _ | exact hB.drew⟩
        · have HF : Hid (false = spotQ fs (k : Int) p) := by show _ = _; rw [unhide HE, decide_eq_false h3]
          have d0 : decide ((0 : Int) ≤ (k : Int)) = true := decide_eq_true h0
          have d1 : decide ((k : Int) < (fs.length : Int)) = true := decide_eq_true h1
          have d2 : decide ((0 : Int) ≤ p) = true := decide_eq_true h2
          have d3 : decide (p < (m : Int)) = false := decide_eq_false h3
          go_enter Try.func61, Try.ntmps61
          go_wp2_with fail
          go_quiet (fail)
          go_wp2_with fail
          go_ret
          exact ⟨ret_bool (unhide HF), by first | exact hB | exact bl_drewN hB _ | exact hB.drew⟩
      · have HF : Hid (false = spotQ fs f p) := by show _ = _; unfold spotQ; rw [decide_eq_false h2]; simp
        have d0 : decide ((0 : Int) ≤ f) = true := decide_eq_true h0
        have d1 : decide (f < (fs.length : Int)) = true := decide_eq_true h1
        have d2 : decide ((0 : Int) ≤ p) = false := decide_eq_false h2
        go_enter Try.func61, Try.ntmps61
        go_wp2_with fail
        go_quiet (fail)
        go_wp2_with fail
        go_ret
        exact ⟨ret_bool (unhide HF), by first | exact hB | exact bl_drewN hB _ | exact hB.drew⟩
    · have HF : Hid (false = spotQ fs f p) := by show _ = _; unfold spotQ; rw [decide_eq_false h1]; simp
      have d0 : decide ((0 : Int) ≤ f) = true := decide_eq_true h0
      have d1 : decide (f < (fs.length : Int)) = false := decide_eq_false h1
      go_enter Try.func61, Try.ntmps61
      go_wp2_with fail
      go_quiet (fail)
      go_wp2_with fail
      go_ret
      exact ⟨ret_bool (unhide HF), by first | exact hB | exact bl_drewN hB _ | exact hB.drew⟩
  · have HF : Hid (false = spotQ fs f p) := by show _ = _; unfold spotQ; rw [decide_eq_false h0]; simp
    have d0 : decide ((0 : Int) ≤ f) = false := decide_eq_false h0
    go_enter Try.func61, Try.ntmps61
    go_wp2_with fail
    go_quiet (fail)
    go_wp2_with fail
    go_ret
    exact ⟨ret_bool (unhide HF), by first | exact hB | exact bl_drewN hB _ | exact hB.drew⟩

set_option maxHeartbeats 2000000 in
theorem l5Spot_any (a : Option Addr) (cap : Nat) (fs : List FunD) (f p : Int) (w : World) (hcap : fs.length ≤ cap) (hcm : cap ≤ maxLen) (hR : FunRow w a fs) :
    Calls Try.prog 56 #[.slice a fs.length cap, .agg #[.int .i64 f, .int .i64 p]] w fun e w' => e = .returned (.bool (spotQ fs f p)) ∧ Below w.heap.size w w' := by
  have HR := hide hR
  clear hR
  unfold maxLen at hcm
  have hn : (fs.length : Int) ≤ 9223372036854775807 := by omega
  have hB := below_alloc1 w (.cells #[.int .i64 f, .int .i64 p] 36)
  by_cases h0 : 0 ≤ f
  · by_cases h1 : f < (fs.length : Int)
    · by_cases h2 : 0 ≤ p
      · obtain ⟨k, rfl⟩ : ∃ k : Nat, f = (k : Int) := ⟨f.toNat, by omega⟩
        have hk : k < fs.length := by omega
        obtain ⟨b, off, rfl⟩ := (unhide HR).get (by omega)
        obtain ⟨ai, ci, _, _, c2, _, g1, g2, _⟩ := ((unhide HR).below hB).at hk
        unfold maxLen at g2
        have HE : Hid (spotQ fs (k : Int) p = decide (p < (fs[k].body.length : Int))) := by
          show _ = _
          unfold spotQ
          rw [decide_eq_true h0, decide_eq_true h1, decide_eq_true h2]
          rw [show ((k : Nat) : Int).toNat = k from Int.toNat_natCast k, lenAt_is hk]; simp
        generalize fs[k].body.length = m at *
        have hm : (m : Int) ≤ 9223372036854775807 := by omega
        by_cases h3 : p < (m : Int)
        · have HF : Hid (true = spotQ fs (k : Int) p) := by show _ = _; rw [unhide HE, decide_eq_true h3]
          have d0 : decide ((0 : Int) ≤ (k : Int)) = true := decide_eq_true h0
          have d1 : decide ((k : Int) < (fs.length : Int)) = true := decide_eq_true h1
          have d2 : decide ((0 : Int) ≤ p) = true := decide_eq_true h2
          have d3 : decide (p < (m : Int)) = true := decide_eq_true h3
          go_enter Try.func56, Try.ntmps56
          go_wp2_with fail
          go_quiet (fail)
          go_wp2_with fail
          go_ret
          exact ⟨ret_bool (unhide HF), by first | exact hB | exact bl_drewN hB _ | exact hB.drew⟩
        · have HF : Hid (false = spotQ fs (k : Int) p) := by show _ = _; rw [unhide HE, decide_eq_false h3]
          have d0 : decide ((0 : Int) ≤ (k : Int)) = true := decide_eq_true h0
          have d1 : decide ((k : Int) < (fs.length : Int)) = true := decide_eq_true h1
          have d2 : decide ((0 : Int) ≤ p) = true := decide_eq_true h2
          have d3 : decide (p < (m : Int)) = false := decide_eq_false h3
          go_enter Try.func56, Try.ntmps56
          go_wp2_with fail
          go_quiet (fail)
          go_wp2_with fail
          go_ret
          exact ⟨ret_bool (unhide HF), by first | exact hB | exact bl_drewN hB _ | exact hB.drew⟩
      · have HF : Hid (false = spotQ fs f p) := by show _ = _; unfold spotQ; rw [decide_eq_false h2]; simp
        have d0 : decide ((0 : Int) ≤ f) = true := decide_eq_true h0
        have d1 : decide (f < (fs.length : Int)) = true := decide_eq_true h1
        have d2 : decide ((0 : Int) ≤ p) = false := decide_eq_false h2
        go_enter Try.func56, Try.ntmps56
        go_wp2_with fail
        go_quiet (fail)
        go_wp2_with fail
        go_ret
        exact ⟨ret_bool (unhide HF), by first | exact hB | exact bl_drewN hB _ | exact hB.drew⟩
    · have HF : Hid (false = spotQ fs f p) := by show _ = _; unfold spotQ; rw [decide_eq_false h1]; simp
      have d0 : decide ((0 : Int) ≤ f) = true := decide_eq_true h0
      have d1 : decide (f < (fs.length : Int)) = false := decide_eq_false h1
      go_enter Try.func56, Try.ntmps56
      go_wp2_with fail
      go_quiet (fail)
      go_wp2_with fail
      go_ret
      exact ⟨ret_bool (unhide HF), by first | exact hB | exact bl_drewN hB _ | exact hB.drew⟩
  · have HF : Hid (false = spotQ fs f p) := by show _ = _; unfold spotQ; rw [decide_eq_false h0]; simp
    have d0 : decide ((0 : Int) ≤ f) = false := decide_eq_false h0
    go_enter Try.func56, Try.ntmps56
    go_wp2_with fail
    go_quiet (fail)
    go_wp2_with fail
    go_ret
    exact ⟨ret_bool (unhide HF), by first | exact hB | exact bl_drewN hB _ | exact hB.drew⟩
end Go.Proofs.Ytjbhbkkkjdpamaa.MapA
