/- The contracts of the program's lastUpTo, standing and MapSpot. -/
import Derived.Test.YtjbhbkkkjdpamaaGreatDoorMapI
namespace Go.Proofs.YtjbhbkkkjdpamaaGreatDoor.MapJ
open Go.ChangeShapes Go.WideShapes Go.ChangeAt Go.RowKit Go.Joins Go.WideMaps Go.Maps Go.Deep
open Go.Proofs.YtjbhbkkkjdpamaaGreatDoor.Base Go.Proofs.YtjbhbkkkjdpamaaGreatDoor.InsA Go.Proofs.YtjbhbkkkjdpamaaGreatDoor.Funs Go.Proofs.YtjbhbkkkjdpamaaGreatDoor.Open Go.Proofs.YtjbhbkkkjdpamaaGreatDoor.Keep Go.Proofs.YtjbhbkkkjdpamaaGreatDoor.UnitS Go.Proofs.YtjbhbkkkjdpamaaGreatDoor.UnitM Go.Proofs.YtjbhbkkkjdpamaaGreatDoor.Refs Go.Proofs.YtjbhbkkkjdpamaaGreatDoor.LayN Go.Proofs.YtjbhbkkkjdpamaaGreatDoor.LayA Go.Proofs.YtjbhbkkkjdpamaaGreatDoor.KeepD Go.Proofs.YtjbhbkkkjdpamaaGreatDoor.KeepA Go.Proofs.YtjbhbkkkjdpamaaGreatDoor.LayD Go.Proofs.YtjbhbkkkjdpamaaGreatDoor.LayS Go.Proofs.YtjbhbkkkjdpamaaGreatDoor.LayT Go.Proofs.YtjbhbkkkjdpamaaGreatDoor.LayG Go.Proofs.YtjbhbkkkjdpamaaGreatDoor.LayH Go.Proofs.YtjbhbkkkjdpamaaGreatDoor.LayJ Go.Proofs.YtjbhbkkkjdpamaaGreatDoor.LayK Go.Proofs.YtjbhbkkkjdpamaaGreatDoor.LayV Go.Proofs.YtjbhbkkkjdpamaaGreatDoor.LayM Go.Proofs.YtjbhbkkkjdpamaaGreatDoor.LayO Go.Proofs.YtjbhbkkkjdpamaaGreatDoor.MapD Go.Proofs.YtjbhbkkkjdpamaaGreatDoor.MapA
set_option linter.unusedVariables false
set_option maxRecDepth 100000

/-- All up to low are not above the value, all from high on are. -/
def Halved (l : List Int) (v : Int) (low high : Int) : Prop := (∀ (i : Nat) (h : i < l.length), (i : Int) ≤ low → l[i] ≤ v) ∧ ∀ (i : Nat) (h : i < l.length), high ≤ (i : Int) → v < l[i]
/-- The list ascends. -/
def Ascends (l : List Int) : Prop := ∀ (i j : Nat) (hi : i < l.length) (hj : j < l.length), i < j → l[i] < l[j]
theorem halved_high {l : List Int} {v low high : Int} {m : Nat} (ha : Ascends l) (h : Halved l v low high) (hm : m < l.length) (hv : v < l[m]) : Halved l v low (m : Int) := ⟨h.1, fun i hi hge => by
  rcases Nat.lt_or_ge m i with e | e
  · have := ha m i hm hi e; omega
  · have : i = m := by omega
    subst this; exact hv⟩
theorem halved_low {l : List Int} {v low high : Int} {m : Nat} (ha : Ascends l) (h : Halved l v low high) (hm : m < l.length) (hv : l[m] ≤ v) : Halved l v (m : Int) high := ⟨fun i hi hge => by
  rcases Nat.lt_or_ge i m with e | e
  · have := ha i m hi hm e; omega
  · have : i = m := by omega
    subst this; exact hv, h.2⟩
theorem quo_two {low high : Int} (h : 1 < high - low) : ∃ d : Int, Int.tdiv (high - low) 2 = d ∧ 1 ≤ d ∧ d < high - low := ⟨_, rfl, by rw [Int.tdiv_eq_ediv_of_nonneg (by omega)]; omega, by rw [Int.tdiv_eq_ediv_of_nonneg (by omega)]; omega⟩
set_option maxHeartbeats 4000000 in
theorem lastUpTo_any (a : Option Addr) (cap : Nat) (l : List Int) (v : Int) (w : World) (wv : (Lit.int .i64 v).wf = true) (hcap : l.length ≤ cap) (hll : l.length ≤ 1000000) (hcm : cap ≤ maxLen) (hA : Ascends l) (hR : NumRow w a l) :
    Calls Tryz.prog 53 #[.slice a l.length cap, .int .i64 v] w fun e w' => (∃ k : Int, -1 ≤ k ∧ k < (l.length : Int) ∧ e = .returned (.int .i64 k) ∧ Halved l v k (k + 1)) ∧ Below w.heap.size w w' := by
  have HR := hide hR
  have HA := hide hA
  have hB := Below.refl w.heap.size w
  have hcl : (l.length : Int) ≤ 1000000 := by omega
  clear hR hA
  go_enter Tryz.func53, Tryz.ntmps53
  go_wp2_with fail
  go_loopw [5, 6] (fun lo hi w' => ∃ x y : Int, lo = .int .i64 x ∧ hi = .int .i64 y ∧ -1 ≤ x ∧ x < y ∧ y ≤ (l.length : Int) ∧ Hid (Halved l v x y) ∧ Below w.heap.size w w') (fun lo hi _ => (intOf hi - intOf lo).toNat)
  case atStart => exact ⟨-1, _, rfl, rfl, by omega, by omega, Int.le_refl _, ⟨fun i h e => by omega, fun i h e => by omega⟩, hB⟩
  case round =>
    obtain ⟨x, y, rfl, rfl, h0, h1, h2, HH, hB'⟩ := hrel
    clear hB
    by_cases hg : 1 < y - x
    · obtain ⟨d, hd, hd1, hd2⟩ := quo_two hg
      obtain ⟨m, hm⟩ : ∃ m : Nat, x + d = (m : Int) := ⟨(x + d).toNat, by omega⟩
      have hml : m < l.length := by omega
      have hml' : (m : Int) < (l.length : Int) := by omega
      have hm0 : (0 : Int) ≤ (m : Int) := by omega
      obtain ⟨b, off, rfl⟩ := (unhide HR).get (by omega)
      have c0 := ((unhide HR).below hB').cells hml
      have HHI := hide (fun (h : v < l[m]) => halved_high (unhide HA) (unhide HH) hml h)
      have HLO := hide (fun (h : l[m] ≤ v) => halved_low (unhide HA) (unhide HH) hml h)
      generalize l[m] = q at *
      have hxm : x < (m : Int) := by omega
      have hmy : (m : Int) < y := by omega
      by_cases hq : v < q
      · have HN := hide (unhide HHI hq)
        go_wp2_with fail
        exact ⟨⟨x, m, rfl, by go_num, h0, by omega, by omega, unhide HN, hB'⟩, by simp [intOf]; omega⟩
      · have HN := hide (unhide HLO (by omega))
        go_wp2_with fail
        exact ⟨⟨m, y, by go_num, rfl, by omega, by omega, h2, unhide HN, hB'⟩, by simp [intOf]; omega⟩
    · have hxy : y = x + 1 := by omega
      subst hxy
      go_wp2_with fail
      go_ret
      exact ⟨⟨x, h0, by omega, rfl, unhide HH⟩, hB'⟩
end Go.Proofs.YtjbhbkkkjdpamaaGreatDoor.MapJ
