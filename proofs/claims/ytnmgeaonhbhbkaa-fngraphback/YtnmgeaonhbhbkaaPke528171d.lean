/- The contracts of the specification's draws of chapter 4: a program, and a name. -/
import Derived.Test.YtnmgeaonhbhbkaaDrawR
import Derived.Deep.RegionWith
namespace Go.Proofs.Ytnmgeaonhbhbkaa.DrawS
open Go.ChangeShapes Go.WideShapes Go.ChangeAt Go.RowKit Go.Joins Go.Deep
open Go.Proofs.Ytnmgeaonhbhbkaa.Base Go.Proofs.Ytnmgeaonhbhbkaa.InsA Go.Proofs.Ytnmgeaonhbhbkaa.Funs Go.Proofs.Ytnmgeaonhbhbkaa.Open Go.Proofs.Ytnmgeaonhbhbkaa.FunS Go.Proofs.Ytnmgeaonhbhbkaa.Keep Go.Proofs.Ytnmgeaonhbhbkaa.Rd Go.Proofs.Ytnmgeaonhbhbkaa.DrawIns Go.Proofs.Ytnmgeaonhbhbkaa.DrawP Go.Proofs.Ytnmgeaonhbhbkaa.DrawR
open Go.Proofs.Ytnmgeaonhbhbkaa.DrawThin (name_in)
set_option linter.unusedVariables false
set_option maxRecDepth 100000

/-- A program as a law meets it. -/
def ProgMet (w w' : World) (a : Option Addr) (c : Nat) (fs : List FunD) : Prop := fs.length ≤ c ∧ c ≤ maxLen ∧ fs.length ≤ 42 ∧ FunRow w' a fs ∧ Below w.heap.size w w'
def KeepDrawn (w : World) (e : Ending) (w' : World) : Prop := ∃ a c fs, e = .returned (.slice a fs.length c) ∧ Hid (∀ f ∈ fs, okN f.nm) ∧ ProgMet w w' a c fs
def ReachDrawn (w : World) (e : Ending) (w' : World) : Prop := ∃ a c fs s, e = .returned (.tuple #[.slice a fs.length c, .string s]) ∧ s.size ≤ maxLen ∧ ProgMet w w' a c fs
theorem names_max {x : ByteArray} (h : x ∈ names) : x.size ≤ maxLen := (names_ok x h).max
set_option maxHeartbeats 1000000 in
theorem drawKeepOk_any (w : World) (a : Option Addr) (len cap : Nat) (hl : len ≤ cap) (hm : cap ≤ maxLen) (hb : len = 0 ∨ ∃ b off, a = some ⟨b, off, none⟩ ∧ b < w.heap.size ∧ ∀ i, i < len → ∃ c : Nat, c < 256 ∧ w.cell? ⟨b, off + i, none⟩ = some (.int .u8 c)) :
    Calls Try.prog 8 #[.slice a len cap] w (KeepDrawn w) := by
  have Hb := hide hb
  clear hb
  go_enter Try.func8, Try.ntmps8
  go_wp2_with fail
  refine (open_any _ _ _ _ hl hm (unhide Hb)).mono ?_
  rintro e w1 ⟨rfl, hr, hb1, hz⟩
  have HR := hide hr
  clear hr
  go_wp2_with fail
  refine (bent_draw _ _ _ (unhide HR) (by omega)).mono ?_
  rintro e w2 ⟨b, c, fs, p', rfl, h1, h2, h3, HNM, h4, hp', hr2, ht2⟩
  have HM : Hid (ProgMet w w2 b c fs) := ⟨h1, h2, h3, h4, hb1.trans (ht2.below (Nat.le_refl _) (by omega))⟩
  clear h1 h2 h4 hr2 ht2
  go_wp2_with fail
  go_ret
  exact ⟨b, c, fs, rfl, HNM, unhide HM⟩
set_option maxHeartbeats 4000000 in
theorem drawKeepReach_any (w : World) (a : Option Addr) (len cap : Nat) (hl : len ≤ cap) (hm : cap ≤ maxLen) (hb : len = 0 ∨ ∃ b off, a = some ⟨b, off, none⟩ ∧ b < w.heap.size ∧ ∀ i, i < len → ∃ c : Nat, c < 256 ∧ w.cell? ⟨b, off + i, none⟩ = some (.int .u8 c)) :
    Calls Try.prog 35 #[.slice a len cap] w (ReachDrawn w) := by
  have Hb := hide hb
  clear hb
  go_enter Try.func35, Try.ntmps35
  go_wp2_with fail
  refine (open_any _ _ _ _ hl hm (unhide Hb)).mono ?_
  rintro e w1 ⟨rfl, hr, hb1, hz⟩
  have HR := hide hr
  clear hr
  go_wp2_with fail
  refine (bent_draw _ _ _ (unhide HR) (by omega)).mono ?_
  rintro e w2 ⟨b, c, fs, p2, rfl, h1, h2, h3, HNM, h4, hp2, hr2, ht2⟩
  have HW := hide h4
  have HR2 := hide hr2
  have HT2 := hide ht2
  have hlenM : (fs.length : Int) ≤ 9223372036854775807 := by omega
  clear h4 hr2 ht2 HR
  by_cases h0 : 0 < fs.length
  · have h0' : (0 : Int) < (fs.length : Int) := by omega
    go_wp2_with fail
    refine (pick_any _ _ p2 4 (unhide HR2) (by omega) (by omega)).mono ?_
    rintro e w3 ⟨v3, hv3, rfl, hr3, ht3⟩
    have HR3 := hide hr3
    have HT3 := hide ((unhide HT2).trans ht3)
    have HW3 := hide (funRow_turns (unhide HW) (unhide HR2) ht3)
    obtain ⟨p3, hp3⟩ : ∃ n, n = p2 + 1 := ⟨_, rfl⟩
    rw [← hp3] at HR3
    clear hr3 ht3 HR2 HT2 HW
    by_cases hk : 0 < v3
    · have hk' : (0 : Int) < (v3 : Int) := by omega
      obtain ⟨bb, off, rfl⟩ := (unhide HW3).get h0
      go_wp2_with fail
      go_region_with (first | (go_at_call 49; refine (pick_any _ _ p3 (fs.length : Int) (DrawBent.rd_drew (unhide HR3)) (by omega) (by omega)).mono ?_; rintro e w4 ⟨v4, hv4, rfl, hr4, ht4⟩; have hv4' : v4 < fs.length := (by omega); obtain ⟨ai, ci, d0, _, _, hn, _⟩ := (funRow_turns (R := w.heap.size) (w := w3.drew) (unhide HW3) (DrawBent.rd_drew (unhide HR3)) ht4).at hv4'; have HM : Hid (ProgMet w w4 (some ⟨bb, off, none⟩) c fs) := ⟨h1, h2, h3, funRow_turns (w := w3.drew) (unhide HW3) (DrawBent.rd_drew (unhide HR3)) ht4, hb1.trans (((unhide HT3).trans (DrawBent.turns_undrew ht4)).below (Nat.le_refl _) (by omega))⟩; generalize fs[v4] = f at d0 hn))
      all_goals go_wp2_with fail
      all_goals go_ret2
      all_goals exact ⟨_, c, fs, f.nm, rfl, hn, unhide HM⟩
    · have hk' : ¬ (0 : Int) < (v3 : Int) := by omega
      go_wp2_with fail
      refine (name_in _ _ p3 (unhide HR3) (by omega)).mono ?_
      rintro e w4 ⟨x, hx, rfl, hr4, ht4⟩
      have HX := hide (names_max hx)
      have HM : Hid (ProgMet w w4 b c fs) := ⟨h1, h2, h3, funRow_turns (unhide HW3) (unhide HR3) ht4, hb1.trans (((unhide HT3).trans ht4).below (Nat.le_refl _) (by omega))⟩
      clear hx hr4 ht4
      go_wp2_with fail
      go_ret2
      exact ⟨b, c, fs, x, rfl, unhide HX, unhide HM⟩
  · have h0' : ¬ (0 : Int) < (fs.length : Int) := by omega
    go_wp2_with fail
    refine (name_in _ _ p2 (unhide HR2) (by omega)).mono ?_
    rintro e w4 ⟨x, hx, rfl, hr4, ht4⟩
    have HX := hide (names_max hx)
    have HM : Hid (ProgMet w w4 b c fs) := ⟨h1, h2, h3, funRow_turns (unhide HW) (unhide HR2) ht4, hb1.trans (((unhide HT2).trans ht4).below (Nat.le_refl _) (by omega))⟩
    clear hx hr4 ht4
    go_wp2_with fail
    go_ret2
    exact ⟨b, c, fs, x, rfl, unhide HX, unhide HM⟩
end Go.Proofs.Ytnmgeaonhbhbkaa.DrawS
/- The contracts of the specification's draws of chapter 6. -/
namespace Go.Proofs.Ytnmgeaonhbhbkaa.DrawG
open Go.ChangeShapes Go.WideShapes Go.ChangeAt Go.RowKit Go.Joins Go.Deep
open Go.Proofs.Ytnmgeaonhbhbkaa.Base Go.Proofs.Ytnmgeaonhbhbkaa.InsA Go.Proofs.Ytnmgeaonhbhbkaa.Funs Go.Proofs.Ytnmgeaonhbhbkaa.Open Go.Proofs.Ytnmgeaonhbhbkaa.FunS Go.Proofs.Ytnmgeaonhbhbkaa.Keep Go.Proofs.Ytnmgeaonhbhbkaa.Rd Go.Proofs.Ytnmgeaonhbhbkaa.DrawIns Go.Proofs.Ytnmgeaonhbhbkaa.DrawP Go.Proofs.Ytnmgeaonhbhbkaa.DrawR Go.Proofs.Ytnmgeaonhbhbkaa.DrawS
open Go.Proofs.Ytnmgeaonhbhbkaa.DrawThin (name_in)
set_option linter.unusedVariables false
set_option maxRecDepth 100000

set_option maxHeartbeats 1000000 in
theorem drawGraphBack_any (w : World) (a : Option Addr) (len cap : Nat) (hl : len ≤ cap) (hm : cap ≤ maxLen) (hb : len = 0 ∨ ∃ b off, a = some ⟨b, off, none⟩ ∧ b < w.heap.size ∧ ∀ i, i < len → ∃ c : Nat, c < 256 ∧ w.cell? ⟨b, off + i, none⟩ = some (.int .u8 c)) :
    Calls Try.prog 18 #[.slice a len cap] w (KeepDrawn w) := by
  have Hb := hide hb
  clear hb
  go_enter Try.func18, Try.ntmps18
  go_wp2_with fail
  refine (open_any _ _ _ _ hl hm (unhide Hb)).mono ?_
  rintro e w1 ⟨rfl, hr, hb1, hz⟩
  have HR := hide hr
  clear hr
  go_wp2_with fail
  refine (bent_draw _ _ _ (unhide HR) (by omega)).mono ?_
  rintro e w2 ⟨b, c, fs, p', rfl, h1, h2, h3, HNM, h4, hp', hr2, ht2⟩
  have HM : Hid (ProgMet w w2 b c fs) := ⟨h1, h2, h3, h4, hb1.trans (ht2.below (Nat.le_refl _) (by omega))⟩
  clear h1 h2 h4 hr2 ht2
  go_wp2_with fail
  go_ret
  exact ⟨b, c, fs, rfl, HNM, unhide HM⟩
set_option maxHeartbeats 1000000 in
theorem drawGraphLeaf_any (w : World) (a : Option Addr) (len cap : Nat) (hl : len ≤ cap) (hm : cap ≤ maxLen) (hb : len = 0 ∨ ∃ b off, a = some ⟨b, off, none⟩ ∧ b < w.heap.size ∧ ∀ i, i < len → ∃ c : Nat, c < 256 ∧ w.cell? ⟨b, off + i, none⟩ = some (.int .u8 c)) :
    Calls Try.prog 24 #[.slice a len cap] w (KeepDrawn w) := by
  have Hb := hide hb
  clear hb
  go_enter Try.func24, Try.ntmps24
  go_wp2_with fail
  refine (open_any _ _ _ _ hl hm (unhide Hb)).mono ?_
  rintro e w1 ⟨rfl, hr, hb1, hz⟩
  have HR := hide hr
  clear hr
  go_wp2_with fail
  refine (bent_draw _ _ _ (unhide HR) (by omega)).mono ?_
  rintro e w2 ⟨b, c, fs, p', rfl, h1, h2, h3, HNM, h4, hp', hr2, ht2⟩
  have HM : Hid (ProgMet w w2 b c fs) := ⟨h1, h2, h3, h4, hb1.trans (ht2.below (Nat.le_refl _) (by omega))⟩
  clear h1 h2 h4 hr2 ht2
  go_wp2_with fail
  go_ret
  exact ⟨b, c, fs, rfl, HNM, unhide HM⟩
set_option maxHeartbeats 1000000 in
theorem drawGraphBy_any (w : World) (a : Option Addr) (len cap : Nat) (hl : len ≤ cap) (hm : cap ≤ maxLen) (hb : len = 0 ∨ ∃ b off, a = some ⟨b, off, none⟩ ∧ b < w.heap.size ∧ ∀ i, i < len → ∃ c : Nat, c < 256 ∧ w.cell? ⟨b, off + i, none⟩ = some (.int .u8 c)) :
    Calls Try.prog 12 #[.slice a len cap] w (ReachDrawn w) := by
  have Hb := hide hb
  clear hb
  go_enter Try.func12, Try.ntmps12
  go_wp2_with fail
  refine (drawKeepReach_any _ _ _ _ hl hm (unhide Hb)).mono ?_
  rintro e w1 ⟨b, c, fs, s, rfl, hs, hM⟩
  have HM := hide hM
  clear hM
  go_wp2_with fail
  go_ret2
  exact ⟨b, c, fs, s, rfl, hs, unhide HM⟩
end Go.Proofs.Ytnmgeaonhbhbkaa.DrawG
