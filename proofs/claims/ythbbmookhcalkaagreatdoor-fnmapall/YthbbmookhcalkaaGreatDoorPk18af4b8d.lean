/- The contracts of the program's LaySize and LayStone. -/
import Derived.Test.YthbbmookhcalkaaGreatDoorPkd5c831b6
import Derived.Test.YthbbmookhcalkaaGreatDoorLayT
import Derived.Test.YthbbmookhcalkaaGreatDoorPke34f4da7
import Derived.Deep.QuietTactic
import Derived.BigQuiet
namespace Go.Proofs.YthbbmookhcalkaaGreatDoor.LayO
open Go.ChangeShapes Go.WideShapes Go.ChangeAt Go.RowKit Go.Joins Go.WideMaps Go.Maps Go.Deep
open Go.Proofs.YthbbmookhcalkaaGreatDoor.Base Go.Proofs.YthbbmookhcalkaaGreatDoor.InsA Go.Proofs.YthbbmookhcalkaaGreatDoor.Funs Go.Proofs.YthbbmookhcalkaaGreatDoor.Open Go.Proofs.YthbbmookhcalkaaGreatDoor.Keep Go.Proofs.YthbbmookhcalkaaGreatDoor.UnitS Go.Proofs.YthbbmookhcalkaaGreatDoor.UnitM Go.Proofs.YthbbmookhcalkaaGreatDoor.Refs Go.Proofs.YthbbmookhcalkaaGreatDoor.LayN Go.Proofs.YthbbmookhcalkaaGreatDoor.LayA Go.Proofs.YthbbmookhcalkaaGreatDoor.KeepD Go.Proofs.YthbbmookhcalkaaGreatDoor.KeepA Go.Proofs.YthbbmookhcalkaaGreatDoor.LayD Go.Proofs.YthbbmookhcalkaaGreatDoor.LayS Go.Proofs.YthbbmookhcalkaaGreatDoor.LayT Go.Proofs.YthbbmookhcalkaaGreatDoor.LayG Go.Proofs.YthbbmookhcalkaaGreatDoor.LayH Go.Proofs.YthbbmookhcalkaaGreatDoor.LayJ Go.Proofs.YthbbmookhcalkaaGreatDoor.LayK Go.Proofs.YthbbmookhcalkaaGreatDoor.LayV Go.Proofs.YthbbmookhcalkaaGreatDoor.LayM
set_option linter.unusedVariables false
set_option maxRecDepth 100000

theorem tup_eq {a b : Value} {c : Bool} (h : a = b) : Ending.returned (.tuple #[a, .bool c]) = .returned (.tuple #[b, .bool c]) := by rw [h]
/-- The two ways in which groundAsLaid ends. -/
theorem ground_ways {w w' : World} {fs : List FunD} {ns : List Int} {st : List (List ByteArray)} {e : Ending} (h : GroundEnd w fs ns st e w') : Below w.heap.size w w' ∧ ((formB fs ns st = false ∧ e = .returned (.tuple #[.agg #[.slice none 0 0, .map none, .map none, .int .i64 0], .bool false])) ∨ (formB fs ns st = true ∧ ∃ na nc G B1 B2, e = .returned (.tuple #[.agg #[.slice na fs.length nc, .map (some B1), .map (some B2), .int .i64 (place fs st fs.length : Nat)], .bool true]) ∧ GS w w' G B1 B2 fs.length fs.length (stonesTo fs st fs.length) (place fs st fs.length) na nc fs st)) := by
  obtain ⟨v, rfl, hg, hb⟩ := h
  refine ⟨hb, ?_⟩
  rcases hg with ⟨h1, rfl⟩ | ⟨h1, na, nc, G, B1, B2, rfl, hg⟩
  · exact .inl ⟨h1, by rw [h1]; rfl⟩
  · exact .inr ⟨h1, na, nc, G, B1, B2, by rw [h1]; rfl, hg⟩
set_option maxHeartbeats 4000000 in
theorem implLaySize_any (a : Option Addr) (cap : Nat) (fs : List FunD) (na sa : Option Addr) (nc sc : Nat) (ns : List Int) (st : List (List ByteArray)) (w : World) (hcap : fs.length ≤ cap) (hcm : cap ≤ maxLen) (h1 : ns.length ≤ nc) (h2 : nc ≤ maxLen) (h3 : st.length ≤ sc) (h4 : sc ≤ maxLen) (hft : FewT st) (hR : FunRow w a fs) (hs : NumRow w na ns) (ho : TextsRow w sa st) :
    Calls Tryz.prog 22 #[.slice a fs.length cap, .agg #[.slice na ns.length nc, .slice sa st.length sc]] w fun e w' => e = .returned (.int .i64 (sizeI fs ns st)) ∧ Below w.heap.size w w' := by
  have HR := hide hR
  have HS := hide hs
  have HO := hide ho
  have hB0 := below_alloc1 w (.cells #[.slice na ns.length nc, .slice sa st.length sc] 47)
  clear hR hs ho
  go_enter Tryz.func22, Tryz.ntmps22
  go_wp2_with fail
  refine (groundAsLaid_any _ _ _ _ _ _ fs ns st _ hcap hcm h1 h2 h3 h4 hft ((unhide HR).below hB0) ((unhide HS).below hB0) ((unhide HO).below hB0)).mono ?_
  rintro e w1 hge
  obtain ⟨hb1, ⟨hf, rfl⟩ | ⟨hf, na', nc', G, B1, B2, rfl, hG⟩⟩ := ground_ways hge
  · have HE := hide (size_no hf)
    have hB1 := bl_trans hB0 hb1
    clear hge
    go_wp2_with fail
    go_ret
    exact ⟨ret_int (unhide HE).symm, bl_alloc hB1 _⟩
  · have HE := hide (size_yes hf)
    have hB1 := bl_trans hB0 hb1
    clear hge hG
    generalize place fs st fs.length = pl at *
    go_wp2_with fail
    go_ret
    exact ⟨ret_int (unhide HE).symm, bl_alloc hB1 _⟩
end Go.Proofs.YthbbmookhcalkaaGreatDoor.LayO
/- Plain data: where an instruction stands, what stands at a place, and what the map says of it. -/
namespace Go.Proofs.YthbbmookhcalkaaGreatDoor.MapD
open Go.Proofs.YthbbmookhcalkaaGreatDoor.InsA Go.Proofs.YthbbmookhcalkaaGreatDoor.Funs Go.Proofs.YthbbmookhcalkaaGreatDoor.Open Go.Proofs.YthbbmookhcalkaaGreatDoor.UnitS Go.Proofs.YthbbmookhcalkaaGreatDoor.Refs Go.Proofs.YthbbmookhcalkaaGreatDoor.KeepD Go.Proofs.YthbbmookhcalkaaGreatDoor.KeepA Go.Proofs.YthbbmookhcalkaaGreatDoor.LayA Go.Proofs.YthbbmookhcalkaaGreatDoor.LayD Go.Proofs.YthbbmookhcalkaaGreatDoor.LayT
set_option linter.unusedVariables false
set_option maxRecDepth 100000

/-- Whether a program has such an instruction. -/
def spotQ (fs : List FunD) (f p : Int) : Bool := decide (0 ≤ f) && decide (f < fs.length) && decide (0 ≤ p) && decide (p < (lenAt fs f.toNat : Int))
/-- Where it stands. -/
def mapAtI (fs : List FunD) (ns : List Int) (st : List (List ByteArray)) (f p : Int) : Int :=
  if formB fs ns st && spotQ fs f p then (place fs st f.toNat : Int) + p else -1
/-- Whether an instruction of the i'th function stands at a place. -/
def hitB (fs : List FunD) (st : List (List ByteArray)) (at_ : Int) (i : Nat) : Bool := decide ((place fs st i : Int) ≤ at_) && decide (at_ < ((place fs st i + lenAt fs i : Nat) : Int))
/-- The function of which an instruction stands there. -/
def spotN (fs : List FunD) (ns : List Int) (st : List (List ByteArray)) (at_ : Int) : Option Nat :=
  if formB fs ns st then (List.range fs.length).find? (hitB fs st at_) else none

theorem mapAt_no {fs : List FunD} {ns : List Int} {st : List (List ByteArray)} {f p : Int} (h : formB fs ns st = false ∨ spotQ fs f p = false) : mapAtI fs ns st f p = -1 := by
  unfold mapAtI
  rcases h with h | h <;> simp [h]
theorem mapAt_yes {fs : List FunD} {ns : List Int} {st : List (List ByteArray)} {k j : Nat} (h : formB fs ns st = true) (hs : spotQ fs (k : Int) (j : Int) = true) : mapAtI fs ns st (k : Int) (j : Int) = ((place fs st k + j : Nat) : Int) := by
  unfold mapAtI
  simp [h, hs]
theorem spotQ_parts {fs : List FunD} {f p : Int} (h : spotQ fs f p = true) : ∃ k j : Nat, f = (k : Int) ∧ p = (j : Int) ∧ ∃ hk : k < fs.length, j < fs[k].body.length := by
  unfold spotQ at h
  simp only [Bool.and_eq_true, decide_eq_true_iff] at h
  obtain ⟨⟨⟨h1, h2⟩, h3⟩, h4⟩ := h
  have hk : f.toNat < fs.length := by omega
  refine ⟨f.toNat, p.toNat, by omega, by omega, hk, ?_⟩
  rw [lenAt_is hk] at h4
  omega
theorem spotQ_yes {fs : List FunD} {k j : Nat} (hk : k < fs.length) (hj : j < fs[k].body.length) : spotQ fs (k : Int) (j : Int) = true := by
  unfold spotQ
  simp only [Bool.and_eq_true, decide_eq_true_iff, Int.toNat_natCast]
  rw [lenAt_is hk]
  exact ⟨⟨⟨by omega, by omega⟩, by omega⟩, by omega⟩
theorem spotQ_pc {fs : List FunD} {k j : Nat} (hk : k < fs.length) (hj : ¬ j < fs[k].body.length) : spotQ fs (k : Int) (j : Int) = false := by
  have h : ¬ ((j : Int) < (fs[k].body.length : Int)) := by omega
  unfold spotQ
  rw [Int.toNat_natCast, lenAt_is hk, decide_eq_false h, Bool.and_false]
/-- One place is of one function. -/
theorem hit_one {fs : List FunD} {st : List (List ByteArray)} {at_ : Int} {i j : Nat} (hi : hitB fs st at_ i = true) (hj : hitB fs st at_ j = true) : i = j := by
  unfold hitB at hi hj
  simp only [Bool.and_eq_true, decide_eq_true_iff] at hi hj
  rcases Nat.lt_trichotomy i j with h | h | h
  · have := place_mono (fs := fs) (st := st) (show i + 1 ≤ j by omega)
    rw [place] at this
    omega
  · exact h
  · have := place_mono (fs := fs) (st := st) (show j + 1 ≤ i by omega)
    rw [place] at this
    omega
theorem hit_iff {fs : List FunD} {st : List (List ByteArray)} {at_ : Int} {i : Nat} : hitB fs st at_ i = true ↔ (place fs st i : Int) ≤ at_ ∧ at_ < ((place fs st i + lenAt fs i : Nat) : Int) := by
  unfold hitB
  simp only [Bool.and_eq_true, decide_eq_true_iff]
theorem spotN_form {fs : List FunD} {ns : List Int} {st : List (List ByteArray)} {at_ : Int} (h : formB fs ns st = false) : spotN fs ns st at_ = none := by simp [spotN, h]
theorem spotN_some {fs : List FunD} {ns : List Int} {st : List (List ByteArray)} {at_ : Int} {k : Nat} (h : formB fs ns st = true) (hk : k < fs.length) (hh : hitB fs st at_ k = true) : spotN fs ns st at_ = some k := by
  unfold spotN
  rw [if_pos h]
  exact range_find hk hh (fun j hj => by
    cases e : hitB fs st at_ j with
    | false => rfl
    | true => have := hit_one e hh; omega)
theorem spotN_none {fs : List FunD} {ns : List Int} {st : List (List ByteArray)} {at_ : Int} (h : ∀ j, j < fs.length → hitB fs st at_ j = false) : spotN fs ns st at_ = none := by
  unfold spotN
  split
  · exact range_none h
  · rfl
theorem spotN_facts {fs : List FunD} {ns : List Int} {st : List (List ByteArray)} {at_ : Int} {k : Nat} (h : spotN fs ns st at_ = some k) : formB fs ns st = true ∧ k < fs.length ∧ hitB fs st at_ k = true := by
  unfold spotN at h
  split at h
  · rename_i hf
    rw [List.find?_range_eq_some] at h
    exact ⟨hf, by simpa using h.2.1, h.1⟩
  · cases h
/-- What MapSpot answers. -/
def spotE (fs : List FunD) (ns : List Int) (st : List (List ByteArray)) (at_ : Int) : Int × Int × Bool :=
  match spotN fs ns st at_ with | none => (0, 0, false) | some k => ((k : Int), at_ - (place fs st k : Int), true)
theorem spotE_none {fs : List FunD} {ns : List Int} {st : List (List ByteArray)} {at_ : Int} (h : spotN fs ns st at_ = none) : spotE fs ns st at_ = (0, 0, false) := by simp [spotE, h]
theorem spotE_some {fs : List FunD} {ns : List Int} {st : List (List ByteArray)} {at_ : Int} {k : Nat} (h : spotN fs ns st at_ = some k) : spotE fs ns st at_ = ((k : Int), at_ - (place fs st k : Int), true) := by simp [spotE, h]
/-- The last function that begins at a place or ahead of it. -/
def UpTo (fs : List FunD) (st : List (List ByteArray)) (at_ : Int) (k : Nat) : Prop := (place fs st k : Int) ≤ at_ ∧ ∀ j, k < j → j < fs.length → at_ < (place fs st j : Int)
/-- Behind its instructions there is none. -/
theorem upTo_miss {fs : List FunD} {ns : List Int} {st : List (List ByteArray)} {at_ : Int} {k : Nat} (hu : UpTo fs st at_ k) (hm : ((place fs st k + lenAt fs k : Nat) : Int) ≤ at_) : spotN fs ns st at_ = none := by
  refine spotN_none fun j hj => ?_
  cases e : hitB fs st at_ j with
  | false => rfl
  | true =>
    rw [hit_iff] at e
    rcases Nat.lt_trichotomy j k with h | h | h
    · have := place_mono (fs := fs) (st := st) (show j + 1 ≤ k by omega)
      rw [place] at this
      have := hu.1
      omega
    · subst h; omega
    · have := hu.2 j h hj
      omega
end Go.Proofs.YthbbmookhcalkaaGreatDoor.MapD
/- The contracts of what says whether a place is an instruction, of both sides, and of the copy and comparison of a place. -/
namespace Go.Proofs.YthbbmookhcalkaaGreatDoor.MapA
open Go.ChangeShapes Go.WideShapes Go.ChangeAt Go.RowKit Go.Joins Go.Deep
open Go.Proofs.YthbbmookhcalkaaGreatDoor.Base Go.Proofs.YthbbmookhcalkaaGreatDoor.InsA Go.Proofs.YthbbmookhcalkaaGreatDoor.Funs Go.Proofs.YthbbmookhcalkaaGreatDoor.Open Go.Proofs.YthbbmookhcalkaaGreatDoor.Keep Go.Proofs.YthbbmookhcalkaaGreatDoor.UnitS Go.Proofs.YthbbmookhcalkaaGreatDoor.Refs Go.Proofs.YthbbmookhcalkaaGreatDoor.LayN Go.Proofs.YthbbmookhcalkaaGreatDoor.LayA Go.Proofs.YthbbmookhcalkaaGreatDoor.KeepA Go.Proofs.YthbbmookhcalkaaGreatDoor.KeepD Go.Proofs.YthbbmookhcalkaaGreatDoor.LayD Go.Proofs.YthbbmookhcalkaaGreatDoor.LayS Go.Proofs.YthbbmookhcalkaaGreatDoor.LayT Go.Proofs.YthbbmookhcalkaaGreatDoor.LayU Go.Proofs.YthbbmookhcalkaaGreatDoor.LayV Go.Proofs.YthbbmookhcalkaaGreatDoor.MapD
set_option linter.unusedVariables false
set_option maxRecDepth 100000

set_option maxHeartbeats 2000000 in
theorem spotOk_any (a : Option Addr) (cap : Nat) (fs : List FunD) (f p : Int) (w : World) (hcap : fs.length ≤ cap) (hcm : cap ≤ maxLen) (hR : FunRow w a fs) :
    Calls Tryz.prog 62 #[.slice a fs.length cap, .agg #[.int .i64 f, .int .i64 p]] w fun e w' => e = .returned (.bool (spotQ fs f p)) ∧ Below w.heap.size w w' := by
  have HR := hide hR
  clear hR
  unfold maxLen at hcm
  have hn : (fs.length : Int) ≤ 9223372036854775807 := by omega
  have hB := below_alloc1 w (.cells #[.int .i64 f, .int .i64 p] 31)
  by_cases h0 : 0 ≤ f
  · by_cases h1 : f < (fs.length : Int)
    · by_cases h2 : 0 ≤ p
      · obtain ⟨k, rfl⟩ : ∃ k : Nat, f = (k : Int) := ⟨f.toNat, by omega⟩
        have hk : k < fs.length := by omega
        obtain ⟨b, off, rfl⟩ := (unhide HR).get (by omega)
        obtain ⟨ai, ci, _, _, c2, _, g1, g2, _⟩ := ((unhide HR).below hB).at hk
        unfold maxLen at g2
        have HE : Hid (spotQ fs (k : Int) p = decide (p < (fs[k].body.length : Int))) := by
          show _ = _
          unfold spotQ
          rw [decide_eq_true h0, decide_eq_true h1, decide_eq_true h2]
          rw [show ((k : Nat) : Int).toNat = k from Int.toNat_natCast k, lenAt_is hk]; simp
        generalize fs[k].body.length = m at *
        have hm : (m : Int) ≤ 9223372036854775807 := by omega
        by_cases h3 : p < (m : Int)
        · have HF : Hid (true = spotQ fs (k : Int) p) := by show _ = _; rw [unhide HE, decide_eq_true h3]
          have d0 : decide ((0 : Int) ≤ (k : Int)) = true := decide_eq_true h0
          have d1 : decide ((k : Int) < (fs.length : Int)) = true := decide_eq_true h1
          have d2 : decide ((0 : Int) ≤ p) = true := decide_eq_true h2
          have d3 : decide (p < (m : Int)) = true := decide_eq_true h3
          go_enter Tryz.func62, Tryz.ntmps62
          go_wp2_with fail
          go_quiet (fail)
          go_wp2_with fail
          go_ret
          exact ⟨ret_bool (unhide HF), by first | exact hB | exact bl_drewN hB _ | exact hB.drew⟩
        · have HF : Hid (false = spotQ fs (k : Int) p) := by show _ = _; rw [unhide HE, decide_eq_false h3]
          have d0 : decide ((0 : Int) ≤ (k : Int)) = true := decide_eq_true h0
          have d1 : decide ((k : Int) < (fs.length : Int)) = true := decide_eq_true h1
          have d2 : decide ((0 : Int) ≤ p) = true := decide_eq_true h2
          have d3 : decide (p < (m : Int)) = false := decide_eq_false h3
          go_enter Tryz.func62, Tryz.ntmps62
          go_wp2_with fail
          go_quiet (fail)
          go_wp2_with fail
          go_ret
          exact ⟨ret_bool (unhide HF), by first | exact hB | exact bl_drewN hB _ | exact hB.drew⟩
      · have HF : Hid (false = spotQ fs f p) := by show _ = _; unfold spotQ; rw [decide_eq_false h2]; simp
        have d0 : decide ((0 : Int) ≤ f) = true := decide_eq_true h0
        have d1 : decide (f < (fs.length : Int)) = true := decide_eq_true h1
        have d2 : decide ((0 : Int) ≤ p) = false := decide_eq_false h2
        go_enter Tryz.func62, Tryz.ntmps62
        go_wp2_with fail
        go_quiet (fail)
        go_wp2_with fail
        go_ret
        exact ⟨ret_bool (unhide HF), by first | exact hB | exact bl_drewN hB _ | exact hB.drew⟩
    · have HF : Hid (false = spotQ fs f p) := by show _ = _; unfold spotQ; rw [decide_eq_false h1]; simp
      have d0 : decide ((0 : Int) ≤ f) = true := decide_eq_true h0
      have d1 : decide (f < (fs.length : Int)) = false := decide_eq_false h1
      go_enter Tryz.func62, Tryz.ntmps62
      go_wp2_with fail
      go_quiet (fail)
      go_wp2_with fail
      go_ret
      exact ⟨ret_bool (unhide HF), by first | exact hB | exact bl_drewN hB _ | exact hB.drew⟩
  · have HF : Hid (false = spotQ fs f p) := by show _ = _; unfold spotQ; rw [decide_eq_false h0]; simp
    have d0 : decide ((0 : Int) ≤ f) = false := decide_eq_false h0
    go_enter Tryz.func62, Tryz.ntmps62
    go_wp2_with fail
    go_quiet (fail)
    go_wp2_with fail
    go_ret
    exact ⟨ret_bool (unhide HF), by first | exact hB | exact bl_drewN hB _ | exact hB.drew⟩

end Go.Proofs.YthbbmookhcalkaaGreatDoor.MapA
/- The contract of the specification's MapAt. -/
namespace Go.Proofs.YthbbmookhcalkaaGreatDoor.MapS
open Go.ChangeShapes Go.WideShapes Go.ChangeAt Go.RowKit Go.Joins Go.Deep
open Go.Proofs.YthbbmookhcalkaaGreatDoor.Base Go.Proofs.YthbbmookhcalkaaGreatDoor.InsA Go.Proofs.YthbbmookhcalkaaGreatDoor.Funs Go.Proofs.YthbbmookhcalkaaGreatDoor.Open Go.Proofs.YthbbmookhcalkaaGreatDoor.Keep Go.Proofs.YthbbmookhcalkaaGreatDoor.UnitS Go.Proofs.YthbbmookhcalkaaGreatDoor.Refs Go.Proofs.YthbbmookhcalkaaGreatDoor.LayN Go.Proofs.YthbbmookhcalkaaGreatDoor.LayA Go.Proofs.YthbbmookhcalkaaGreatDoor.KeepD Go.Proofs.YthbbmookhcalkaaGreatDoor.KeepA Go.Proofs.YthbbmookhcalkaaGreatDoor.LayD Go.Proofs.YthbbmookhcalkaaGreatDoor.LayS Go.Proofs.YthbbmookhcalkaaGreatDoor.LayT Go.Proofs.YthbbmookhcalkaaGreatDoor.LayU Go.Proofs.YthbbmookhcalkaaGreatDoor.LayV Go.Proofs.YthbbmookhcalkaaGreatDoor.MapD Go.Proofs.YthbbmookhcalkaaGreatDoor.MapA
set_option linter.unusedVariables false
set_option maxRecDepth 100000

end Go.Proofs.YthbbmookhcalkaaGreatDoor.MapS
