/- The contracts of chapter 2's draws: units and functions that may be bent, as they are read. -/
import Derived.Test.YtekikhjghnjgaaaDrawBent
namespace Go.Proofs.Ytekikhjghnjgaaa.DrawsU
open Go.ChangeShapes Go.WideShapes Go.ChangeAt Go.RowKit Go.Joins
open Go.Proofs.Ytekikhjghnjgaaa.Base Go.Proofs.Ytekikhjghnjgaaa.InsA Go.Proofs.Ytekikhjghnjgaaa.Funs Go.Proofs.Ytekikhjghnjgaaa.Open Go.Proofs.Ytekikhjghnjgaaa.FunS Go.Proofs.Ytekikhjghnjgaaa.Keep Go.Proofs.Ytekikhjghnjgaaa.UnitS Go.Proofs.Ytekikhjghnjgaaa.Rd Go.Proofs.Ytekikhjghnjgaaa.DrawIns Go.Proofs.Ytekikhjghnjgaaa.DrawFun Go.Proofs.Ytekikhjghnjgaaa.DrawUnit Go.Proofs.Ytekikhjghnjgaaa.DrawUnitB Go.Proofs.Ytekikhjghnjgaaa.DrawBent
set_option linter.unusedVariables false
set_option maxRecDepth 100000

theorem some_row {w : World} {B : Nat} {v : Value} {us : List (FunD × Value)} (h : UnitSome w B v us) (ht : mild us) (h1 : 1 ≤ us.length) (h4 : us.length ≤ 4) : ∃ (a : Option Addr) (cap : Nat) (fs : List FunD), v = .slice a fs.length cap ∧ fs.length ≤ cap ∧ cap ≤ maxLen ∧ 1 ≤ fs.length ∧ fs.length ≤ 4 ∧ FunRow w a fs := by
  obtain ⟨a, cap, hv, h5, h6, h7⟩ := h.row ht
  exact ⟨a, cap, us.map Prod.fst, hv, h5, h6, by simpa using h1, by simpa using h4, h7⟩

theorem ins_three {w : World} {B G : Nat} {v : Value} {xs : List InsD} {C : Array Value} {b : Option Addr} {c : Nat} (h : InsOwn w B v xs) (hG : w.heap[G]? = some (.cells C 39)) (hs : ∀ x ∈ xs, x.s.size ≤ maxLen) (hv : v = .slice b xs.length c) : ∀ x y z, InsRow (((w.setCell ⟨G, 0, none⟩ x).setCell ⟨G, 1, none⟩ y).setCell ⟨G, 2, none⟩ z) b xs := fun x y z => by
  obtain ⟨a', c', e, _, _, hr⟩ := InsOwn.row (own_three (a := x) (b := y) (c := z) h (own_box_ne h hG (by decide))) hs
  rw [hv] at e
  simp only [Value.slice.injEq] at e
  rw [e.1]
  exact hr
set_option maxHeartbeats 1000000 in
theorem drawWants_any (w : World) (a : Option Addr) (len cap : Nat) (hl : len ≤ cap) (hm : cap ≤ maxLen) (hb : len = 0 ∨ ∃ b off, a = some ⟨b, off, none⟩ ∧ b < w.heap.size ∧ ∀ i, i < len → ∃ c : Nat, c < 256 ∧ w.cell? ⟨b, off + i, none⟩ = some (.int .u8 c)) :
    Calls Try.prog 15 #[.slice a len cap] w fun e w' => ∃ (b : Option Addr) (c : Nat) (fs : List FunD), e = .returned (.slice b fs.length c) ∧ fs.length ≤ c ∧ c ≤ maxLen ∧ 1 ≤ fs.length ∧ fs.length ≤ 4 ∧ FunRow w' b fs ∧ Below w.heap.size w w' := by
  have Hb := hide hb
  clear hb
  go_enter Try.func15, Try.ntmps15
  go_wp2_with fail
  refine (open_any _ _ _ _ hl hm (unhide Hb)).mono ?_
  rintro e w1 ⟨rfl, hr, hb1, hz⟩
  have HR := hide hr
  clear hr
  go_wp2_with fail
  refine (bentUnit_draw _ _ _ (unhide HR) (by omega)).mono ?_
  rintro e w2 ⟨v, us, p', rfl, hU, hmi, hu1, hu4, hp', hr2, ht2⟩
  obtain ⟨b, c, fs, rfl, h1, h2, h3, h4, h5⟩ := some_row hU hmi hu1 hu4
  have HROW := hide h5
  have HB := hide (hb1.trans (ht2.below (Nat.le_refl _) (by omega)))
  clear h5 hr2 ht2 hU hmi
  go_wp2_with fail
  go_ret
  exact ⟨b, c, fs, rfl, h1, h2, h3, h4, unhide HROW, unhide HB⟩
end Go.Proofs.Ytekikhjghnjgaaa.DrawsU
