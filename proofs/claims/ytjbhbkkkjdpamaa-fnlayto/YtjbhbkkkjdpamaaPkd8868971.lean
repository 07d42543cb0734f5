/- The contract of the specification's MapAt. -/
import Derived.Test.YtjbhbkkkjdpamaaPk6dbd2828
import Derived.Test.YtjbhbkkkjdpamaaPk3f5361e2
namespace Go.Proofs.Ytjbhbkkkjdpamaa.MapS
open Go.ChangeShapes Go.WideShapes Go.ChangeAt Go.RowKit Go.Joins Go.Deep
open Go.Proofs.Ytjbhbkkkjdpamaa.Base Go.Proofs.Ytjbhbkkkjdpamaa.InsA Go.Proofs.Ytjbhbkkkjdpamaa.Funs Go.Proofs.Ytjbhbkkkjdpamaa.Open Go.Proofs.Ytjbhbkkkjdpamaa.Keep Go.Proofs.Ytjbhbkkkjdpamaa.UnitS Go.Proofs.Ytjbhbkkkjdpamaa.Refs Go.Proofs.Ytjbhbkkkjdpamaa.LayN Go.Proofs.Ytjbhbkkkjdpamaa.LayA Go.Proofs.Ytjbhbkkkjdpamaa.KeepD Go.Proofs.Ytjbhbkkkjdpamaa.KeepA Go.Proofs.Ytjbhbkkkjdpamaa.LayD Go.Proofs.Ytjbhbkkkjdpamaa.LayS Go.Proofs.Ytjbhbkkkjdpamaa.LayT Go.Proofs.Ytjbhbkkkjdpamaa.LayU Go.Proofs.Ytjbhbkkkjdpamaa.LayV Go.Proofs.Ytjbhbkkkjdpamaa.MapD Go.Proofs.Ytjbhbkkkjdpamaa.MapA
set_option linter.unusedVariables false
set_option maxRecDepth 100000

set_option maxHeartbeats 4000000 in
theorem specMapAt_any (a : Option Addr) (cap : Nat) (fs : List FunD) (na sa : Option Addr) (nc sc : Nat) (ns : List Int) (st : List (List ByteArray)) (ff pp : Int) (w : World) (hcap : fs.length ≤ cap) (hcm : cap ≤ maxLen) (h1 : ns.length ≤ nc) (h2 : nc ≤ maxLen) (h3 : st.length ≤ sc) (h4 : sc ≤ maxLen) (hft : FewT st) (hR : FunRow w a fs) (hs : NumRow w na ns) (ho : TextsRow w sa st) :
    Calls Try.prog 14 #[.slice a fs.length cap, .agg #[.slice na ns.length nc, .slice sa st.length sc], .agg #[.int .i64 ff, .int .i64 pp]] w fun e w' => e = .returned (.int .i64 (mapAtI fs ns st ff pp)) ∧ Below w.heap.size w w' := by
  have HR := hide hR
  have HS := hide hs
  have HO := hide ho
  have HFT := hide hft
  have hB0 := below_alloc2 w (.cells #[.slice na ns.length nc, .slice sa st.length sc] 34) (.cells #[.int .i64 ff, .int .i64 pp] 36)
  have HX := hide (box_below (new_block w (.cells #[.slice na ns.length nc, .slice sa st.length sc] 34)) (below_alloc1 _ (.cells #[.int .i64 ff, .int .i64 pp] 36)))
  have hY := new_block (w.alloc (.cells #[.slice na ns.length nc, .slice sa st.length sc] 34)) (.cells #[.int .i64 ff, .int .i64 pp] 36)
  rw [World.size_alloc] at hY
  have HY := hide hY
  clear hR hs ho hY hft
  go_enter Try.func14, Try.ntmps14
  go_wp2_with fail
  refine (l7Form_any _ _ _ _ _ _ fs ns st _ hcap hcm h1 h2 h3 h4 (unhide HFT) ((unhide HR).below hB0) ((unhide HS).below hB0) ((unhide HO).below hB0)).mono ?_
  rintro e w1 ⟨rfl, hb1⟩
  have hB1 := bl_trans hB0 hb1
  have HX1 := hide (box_below (unhide HX) hb1)
  have HY1 := hide (box_below (unhide HY) hb1)
  clear HX HY hB0 hb1
  cases hf : formB fs ns st
  · have HE := hide (mapAt_no (f := ff) (p := pp) (.inl hf))
    go_wp2_with fail
    go_ret
    exact ⟨ret_int (unhide HE).symm, hB1⟩
  cases hq : spotQ fs ff pp
  · have HE := hide (mapAt_no (fs := fs) (ns := ns) (st := st) (.inr hq))
    have hY := box2 (unhide HY1)
    go_wp2_with fail
    refine (l5Spot_any a cap fs ff pp _ hcap hcm ((unhide HR).below hB1)).mono ?_
    rw [hq]
    rintro e w2 ⟨rfl, hb2⟩
    have hB2 := bl_trans hB1 hb2
    clear hY
    go_wp2_with fail
    go_ret
    exact ⟨ret_int (unhide HE).symm, hB2⟩
  have HL := hide (lying_of hf (unhide HFT))
  obtain ⟨k, j, rfl, rfl, hk, hj⟩ := spotQ_parts hq
  have HE := hide (mapAt_yes hf hq)
  have hY := box2 (unhide HY1)
  go_wp2_with fail
  refine (l5Spot_any a cap fs _ _ _ hcap hcm ((unhide HR).below hB1)).mono ?_
  rw [hq]
  rintro e w2 ⟨rfl, hb2⟩
  have hB2 := bl_trans hB1 hb2
  have HX2 := hide (box_below (unhide HX1) hb2)
  have HY2 := hide (box_below (unhide HY1) hb2)
  clear hY hb2 hB1 HX1 HY1
  have hX := box2 (unhide HX2)
  have hY := box2 (unhide HY2)
  have hkn : k < ns.length := by rw [(unhide HL).len]; exact hk
  have hkn' : (k : Int) < (ns.length : Int) := by omega
  have hk0 : (0 : Int) ≤ (k : Int) := by omega
  have hln : (ns.length : Int) ≤ 9223372036854775807 := by unfold maxLen at h2; omega
  have hfl : fs[k].body.length ≤ 10 := (unhide HL).2.1 _ (List.getElem_mem _)
  have hpb := (unhide HL).small k (by omega)
  have hjb : j < 10 := by omega
  obtain ⟨nb, no, rfl⟩ := (unhide HS).get (by omega)
  have n0 := ((unhide HS).below hB2).cells hkn
  rw [(unhide HL).at hkn] at n0
  generalize place fs st k = pl at *
  clear hj hfl hq hf
  go_wp2_with fail
  go_quiet (fail)
  go_wp2_with fail
  go_ret
  exact ⟨ret_int (by rw [unhide HE]; go_num), by first | exact hB2 | exact bl_drewN hB2 _ | exact hB2.drew⟩
end Go.Proofs.Ytjbhbkkkjdpamaa.MapS
/- The contract of the program's MapAt. -/
namespace Go.Proofs.Ytjbhbkkkjdpamaa.MapI
open Go.ChangeShapes Go.WideShapes Go.ChangeAt Go.RowKit Go.Joins Go.WideMaps Go.Maps Go.Deep
open Go.Proofs.Ytjbhbkkkjdpamaa.Base Go.Proofs.Ytjbhbkkkjdpamaa.InsA Go.Proofs.Ytjbhbkkkjdpamaa.Funs Go.Proofs.Ytjbhbkkkjdpamaa.Open Go.Proofs.Ytjbhbkkkjdpamaa.Keep Go.Proofs.Ytjbhbkkkjdpamaa.UnitS Go.Proofs.Ytjbhbkkkjdpamaa.UnitM Go.Proofs.Ytjbhbkkkjdpamaa.Refs Go.Proofs.Ytjbhbkkkjdpamaa.LayN Go.Proofs.Ytjbhbkkkjdpamaa.LayA Go.Proofs.Ytjbhbkkkjdpamaa.KeepD Go.Proofs.Ytjbhbkkkjdpamaa.KeepA Go.Proofs.Ytjbhbkkkjdpamaa.LayD Go.Proofs.Ytjbhbkkkjdpamaa.LayS Go.Proofs.Ytjbhbkkkjdpamaa.LayT Go.Proofs.Ytjbhbkkkjdpamaa.LayG Go.Proofs.Ytjbhbkkkjdpamaa.LayH Go.Proofs.Ytjbhbkkkjdpamaa.LayJ Go.Proofs.Ytjbhbkkkjdpamaa.LayK Go.Proofs.Ytjbhbkkkjdpamaa.LayV Go.Proofs.Ytjbhbkkkjdpamaa.LayM Go.Proofs.Ytjbhbkkkjdpamaa.LayO Go.Proofs.Ytjbhbkkkjdpamaa.MapD Go.Proofs.Ytjbhbkkkjdpamaa.MapA
set_option linter.unusedVariables false
set_option maxRecDepth 100000

set_option maxHeartbeats 4000000 in
theorem implMapAt_any (a : Option Addr) (cap : Nat) (fs : List FunD) (na sa : Option Addr) (nc sc : Nat) (ns : List Int) (st : List (List ByteArray)) (ff pp : Int) (w : World) (hcap : fs.length ≤ cap) (hcm : cap ≤ maxLen) (h1 : ns.length ≤ nc) (h2 : nc ≤ maxLen) (h3 : st.length ≤ sc) (h4 : sc ≤ maxLen) (hft : FewT st) (hR : FunRow w a fs) (hs : NumRow w na ns) (ho : TextsRow w sa st) :
    Calls Try.prog 18 #[.slice a fs.length cap, .agg #[.slice na ns.length nc, .slice sa st.length sc], .agg #[.int .i64 ff, .int .i64 pp]] w fun e w' => e = .returned (.int .i64 (mapAtI fs ns st ff pp)) ∧ Below w.heap.size w w' := by
  have HR := hide hR
  have HS := hide hs
  have HO := hide ho
  have hB0 := below_alloc2 w (.cells #[.slice na ns.length nc, .slice sa st.length sc] 34) (.cells #[.int .i64 ff, .int .i64 pp] 36)
  have hY := new_block (w.alloc (.cells #[.slice na ns.length nc, .slice sa st.length sc] 34)) (.cells #[.int .i64 ff, .int .i64 pp] 36)
  rw [World.size_alloc] at hY
  have HY := hide hY
  clear hR hs ho hY
  go_enter Try.func18, Try.ntmps18
  go_wp2_with fail
  refine (groundAsLaid_any _ _ _ _ _ _ fs ns st _ hcap hcm h1 h2 h3 h4 hft ((unhide HR).below hB0) ((unhide HS).below hB0) ((unhide HO).below hB0)).mono ?_
  rintro e w1 hge
  obtain ⟨hb1, ⟨hf, rfl⟩ | ⟨hf, na', nc', G, B1, B2, rfl, hG⟩⟩ := ground_ways hge
  · have HE := hide (mapAt_no (f := ff) (p := pp) (.inl hf))
    have hB1 := bl_trans hB0 hb1
    clear hge
    go_wp2_with fail
    go_ret
    exact ⟨ret_int (unhide HE).symm, bl_alloc hB1 _⟩
  have HL := hide (lying_of hf hft)
  have hB1 := bl_alloc (bl_trans hB0 hb1) (.cells #[.slice na' fs.length nc', .map (some B1), .map (some B2), .int .i64 (place fs st fs.length : Nat)] 100)
  have HY1 := hide (box_below (box_below (unhide HY) hb1) (below_alloc1 _ (.cells #[.slice na' fs.length nc', .map (some B1), .map (some B2), .int .i64 (place fs st fs.length : Nat)] 100)))
  have HZ1 := hide (new_block w1 (.cells #[.slice na' fs.length nc', .map (some B1), .map (some B2), .int .i64 (place fs st fs.length : Nat)] 100))
  obtain ⟨k1, k2, k3⟩ := GS.nums hG
  have HK := hide (k3.below (below_alloc1 w1 (.cells #[.slice na' fs.length nc', .map (some B1), .map (some B2), .int .i64 (place fs st fs.length : Nat)] 100)))
  have hnl : (fs.length : Int) ≤ 9223372036854775807 := by have := (unhide HL).1; omega
  clear hge hG HY hB0 hb1 k3
  generalize hpl : place fs st fs.length = pt at *
  clear hpl
  cases hq : spotQ fs ff pp
  · have HE := hide (mapAt_no (fs := fs) (ns := ns) (st := st) (.inr hq))
    have hY := box2 (unhide HY1)
    go_wp2_with fail
    refine (spotOk_any a cap fs ff pp _ hcap hcm ((unhide HR).below hB1)).mono ?_
    rw [hq]
    rintro e w2 ⟨rfl, hb2⟩
    have hB2 := bl_trans hB1 hb2
    clear hY
    go_wp2_with fail
    go_ret
    exact ⟨ret_int (unhide HE).symm, hB2⟩
  obtain ⟨k, j, rfl, rfl, hk, hj⟩ := spotQ_parts hq
  have HE := hide (mapAt_yes hf hq)
  have hY := box2 (unhide HY1)
  go_wp2_with fail
  refine (spotOk_any a cap fs _ _ _ hcap hcm ((unhide HR).below hB1)).mono ?_
  rw [hq]
  rintro e w2 ⟨rfl, hb2⟩
  have hB2 := bl_trans hB1 hb2
  have HZ2 := hide (box_below (unhide HZ1) hb2)
  have HY2 := hide (box_below (unhide HY1) hb2)
  have HK2 := hide ((unhide HK).below hb2)
  clear hY hb2 hB1 HZ1 HY1 HK
  have hZ := box4 (unhide HZ2)
  have hY := box2 (unhide HY2)
  have hk' : (k : Int) < (fs.length : Int) := by omega
  have hk0 : (0 : Int) ≤ (k : Int) := by omega
  have hfl : fs[k].body.length ≤ 10 := (unhide HL).2.1 _ (List.getElem_mem _)
  have hpb := (unhide HL).small k (by omega)
  have hjb : j < 10 := by omega
  have hkp : k < (placesTo fs st fs.length).length := by rw [placesTo_len]; exact hk
  obtain ⟨gb, go', rfl⟩ := (unhide HK2).get (by omega)
  have g0 := (unhide HK2).cells hkp
  rw [placesTo_at hkp] at g0
  clear hkp
  generalize place fs st k = p0 at *
  clear hj hfl hq hf
  go_wp2_with fail
  go_quiet (fail)
  go_wp2_with fail
  go_ret
  exact ⟨ret_int (by rw [unhide HE]; go_num), by first | exact hB2 | exact bl_drewN hB2 _ | exact hB2.drew⟩
end Go.Proofs.Ytjbhbkkkjdpamaa.MapI
/- The contracts of the program's lastUpTo, standing and MapSpot. -/
namespace Go.Proofs.Ytjbhbkkkjdpamaa.MapJ
open Go.ChangeShapes Go.WideShapes Go.ChangeAt Go.RowKit Go.Joins Go.WideMaps Go.Maps Go.Deep
open Go.Proofs.Ytjbhbkkkjdpamaa.Base Go.Proofs.Ytjbhbkkkjdpamaa.InsA Go.Proofs.Ytjbhbkkkjdpamaa.Funs Go.Proofs.Ytjbhbkkkjdpamaa.Open Go.Proofs.Ytjbhbkkkjdpamaa.Keep Go.Proofs.Ytjbhbkkkjdpamaa.UnitS Go.Proofs.Ytjbhbkkkjdpamaa.UnitM Go.Proofs.Ytjbhbkkkjdpamaa.Refs Go.Proofs.Ytjbhbkkkjdpamaa.LayN Go.Proofs.Ytjbhbkkkjdpamaa.LayA Go.Proofs.Ytjbhbkkkjdpamaa.KeepD Go.Proofs.Ytjbhbkkkjdpamaa.KeepA Go.Proofs.Ytjbhbkkkjdpamaa.LayD Go.Proofs.Ytjbhbkkkjdpamaa.LayS Go.Proofs.Ytjbhbkkkjdpamaa.LayT Go.Proofs.Ytjbhbkkkjdpamaa.LayG Go.Proofs.Ytjbhbkkkjdpamaa.LayH Go.Proofs.Ytjbhbkkkjdpamaa.LayJ Go.Proofs.Ytjbhbkkkjdpamaa.LayK Go.Proofs.Ytjbhbkkkjdpamaa.LayV Go.Proofs.Ytjbhbkkkjdpamaa.LayM Go.Proofs.Ytjbhbkkkjdpamaa.LayO Go.Proofs.Ytjbhbkkkjdpamaa.MapD Go.Proofs.Ytjbhbkkkjdpamaa.MapA
set_option linter.unusedVariables false
set_option maxRecDepth 100000

/-- All up to low are not above the value, all from high on are. -/
def Halved (l : List Int) (v : Int) (low high : Int) : Prop := (∀ (i : Nat) (h : i < l.length), (i : Int) ≤ low → l[i] ≤ v) ∧ ∀ (i : Nat) (h : i < l.length), high ≤ (i : Int) → v < l[i]
/-- The list ascends. -/
def Ascends (l : List Int) : Prop := ∀ (i j : Nat) (hi : i < l.length) (hj : j < l.length), i < j → l[i] < l[j]
theorem halved_high {l : List Int} {v low high : Int} {m : Nat} (ha : Ascends l) (h : Halved l v low high) (hm : m < l.length) (hv : v < l[m]) : Halved l v low (m : Int) := ⟨h.1, fun i hi hge => by
  rcases Nat.lt_or_ge m i with e | e
  · have := ha m i hm hi e; omega
  · have : i = m := by omega
    subst this; exact hv⟩
theorem halved_low {l : List Int} {v low high : Int} {m : Nat} (ha : Ascends l) (h : Halved l v low high) (hm : m < l.length) (hv : l[m] ≤ v) : Halved l v (m : Int) high := ⟨fun i hi hge => by
  rcases Nat.lt_or_ge i m with e | e
  · have := ha i m hi hm e; omega
  · have : i = m := by omega
    subst this; exact hv, h.2⟩
theorem quo_two {low high : Int} (h : 1 < high - low) : ∃ d : Int, Int.tdiv (high - low) 2 = d ∧ 1 ≤ d ∧ d < high - low := ⟨_, rfl, by rw [Int.tdiv_eq_ediv_of_nonneg (by omega)]; omega, by rw [Int.tdiv_eq_ediv_of_nonneg (by omega)]; omega⟩
set_option maxHeartbeats 4000000 in
theorem lastUpTo_any (a : Option Addr) (cap : Nat) (l : List Int) (v : Int) (w : World) (wv : (Lit.int .i64 v).wf = true) (hcap : l.length ≤ cap) (hll : l.length ≤ 1000000) (hcm : cap ≤ maxLen) (hA : Ascends l) (hR : NumRow w a l) :
    Calls Try.prog 106 #[.slice a l.length cap, .int .i64 v] w fun e w' => (∃ k : Int, -1 ≤ k ∧ k < (l.length : Int) ∧ e = .returned (.int .i64 k) ∧ Halved l v k (k + 1)) ∧ Below w.heap.size w w' := by
  have HR := hide hR
  have HA := hide hA
  have hB := Below.refl w.heap.size w
  have hcl : (l.length : Int) ≤ 1000000 := by omega
  clear hR hA
  go_enter Try.func106, Try.ntmps106
  go_wp2_with fail
  go_loopw [5, 6] (fun lo hi w' => ∃ x y : Int, lo = .int .i64 x ∧ hi = .int .i64 y ∧ -1 ≤ x ∧ x < y ∧ y ≤ (l.length : Int) ∧ Hid (Halved l v x y) ∧ Below w.heap.size w w') (fun lo hi _ => (intOf hi - intOf lo).toNat)
  case atStart => exact ⟨-1, _, rfl, rfl, by omega, by omega, Int.le_refl _, ⟨fun i h e => by omega, fun i h e => by omega⟩, hB⟩
  case round =>
    obtain ⟨x, y, rfl, rfl, h0, h1, h2, HH, hB'⟩ := hrel
    clear hB
    by_cases hg : 1 < y - x
    · obtain ⟨d, hd, hd1, hd2⟩ := quo_two hg
      obtain ⟨m, hm⟩ : ∃ m : Nat, x + d = (m : Int) := ⟨(x + d).toNat, by omega⟩
      have hml : m < l.length := by omega
      have hml' : (m : Int) < (l.length : Int) := by omega
      have hm0 : (0 : Int) ≤ (m : Int) := by omega
      obtain ⟨b, off, rfl⟩ := (unhide HR).get (by omega)
      have c0 := ((unhide HR).below hB').cells hml
      have HHI := hide (fun (h : v < l[m]) => halved_high (unhide HA) (unhide HH) hml h)
      have HLO := hide (fun (h : l[m] ≤ v) => halved_low (unhide HA) (unhide HH) hml h)
      generalize l[m] = q at *
      have hxm : x < (m : Int) := by omega
      have hmy : (m : Int) < y := by omega
      by_cases hq : v < q
      · have HN := hide (unhide HHI hq)
        go_wp2_with fail
        exact ⟨⟨x, m, rfl, by go_num, h0, by omega, by omega, unhide HN, hB'⟩, by simp [intOf]; omega⟩
      · have HN := hide (unhide HLO (by omega))
        go_wp2_with fail
        exact ⟨⟨m, y, by go_num, rfl, by omega, by omega, h2, unhide HN, hB'⟩, by simp [intOf]; omega⟩
    · have hxy : y = x + 1 := by omega
      subst hxy
      go_wp2_with fail
      go_ret
      exact ⟨⟨x, h0, by omega, rfl, unhide HH⟩, hB'⟩
end Go.Proofs.Ytjbhbkkkjdpamaa.MapJ
/- The contract of the specification's MapSpot. -/
namespace Go.Proofs.Ytjbhbkkkjdpamaa.MapT
open Go.ChangeShapes Go.WideShapes Go.ChangeAt Go.RowKit Go.Joins Go.Deep
open Go.Proofs.Ytjbhbkkkjdpamaa.Base Go.Proofs.Ytjbhbkkkjdpamaa.InsA Go.Proofs.Ytjbhbkkkjdpamaa.Funs Go.Proofs.Ytjbhbkkkjdpamaa.Open Go.Proofs.Ytjbhbkkkjdpamaa.Keep Go.Proofs.Ytjbhbkkkjdpamaa.UnitS Go.Proofs.Ytjbhbkkkjdpamaa.Refs Go.Proofs.Ytjbhbkkkjdpamaa.LayN Go.Proofs.Ytjbhbkkkjdpamaa.LayA Go.Proofs.Ytjbhbkkkjdpamaa.KeepD Go.Proofs.Ytjbhbkkkjdpamaa.KeepA Go.Proofs.Ytjbhbkkkjdpamaa.LayD Go.Proofs.Ytjbhbkkkjdpamaa.LayS Go.Proofs.Ytjbhbkkkjdpamaa.LayT Go.Proofs.Ytjbhbkkkjdpamaa.LayU Go.Proofs.Ytjbhbkkkjdpamaa.LayV Go.Proofs.Ytjbhbkkkjdpamaa.MapD Go.Proofs.Ytjbhbkkkjdpamaa.MapA
set_option linter.unusedVariables false
set_option maxRecDepth 100000

def SpotEnd (w : World) (z : Int × Int × Bool) (e : Ending) (w' : World) : Prop := e = .returned (.tuple #[.agg #[.int .i64 z.1, .int .i64 z.2.1], .bool z.2.2]) ∧ Below w.heap.size w w'
theorem below_set2 {w w' : World} {B : Nat} (hB : w.heap.size ≤ B) (h : Below w.heap.size w w') (v0 v1 : Value) : Below w.heap.size w ((w'.setCell ⟨B, 0, none⟩ v0).setCell ⟨B, 1, none⟩ v1) := (h.setCell (by show w.heap.size ≤ B; exact hB) _).setCell (by show w.heap.size ≤ B; exact hB) _
theorem spot_none {w w' : World} {z : Int × Int × Bool} (h : z = (0, 0, false)) (hb : Below w.heap.size w w') (v0 v1 : Value) : SpotEnd w z (.returned (.tuple #[.agg #[.int .i64 0, .int .i64 0], .bool false])) ((w'.setCell ⟨w.heap.size + 1, 0, none⟩ v0).setCell ⟨w.heap.size + 1, 1, none⟩ v1) := by
  subst h
  exact ⟨rfl, below_set2 (by omega) hb _ _⟩
theorem spot_some {w w' : World} {z : Int × Int × Bool} {k p : Int} (h : z = (k, p, true)) (hb : Below w.heap.size w w') (v0 v1 : Value) : SpotEnd w z (.returned (.tuple #[.agg #[.int .i64 k, .int .i64 p], .bool true])) ((w'.setCell ⟨w.heap.size + 1, 0, none⟩ v0).setCell ⟨w.heap.size + 1, 1, none⟩ v1) := by
  subst h
  exact ⟨rfl, below_set2 (by omega) hb _ _⟩
set_option maxHeartbeats 8000000 in
theorem specMapSpot_any (a : Option Addr) (cap : Nat) (fs : List FunD) (na sa : Option Addr) (nc sc : Nat) (ns : List Int) (st : List (List ByteArray)) (aa : Int) (w : World) (wa : (Lit.int .i64 aa).wf = true) (hcap : fs.length ≤ cap) (hcm : cap ≤ maxLen) (h1 : ns.length ≤ nc) (h2 : nc ≤ maxLen) (h3 : st.length ≤ sc) (h4 : sc ≤ maxLen) (hft : FewT st) (hR : FunRow w a fs) (hs : NumRow w na ns) (ho : TextsRow w sa st) :
    Calls Try.prog 21 #[.slice a fs.length cap, .agg #[.slice na ns.length nc, .slice sa st.length sc], .int .i64 aa] w (SpotEnd w (spotE fs ns st aa)) := by
  have HR := hide hR
  have HS := hide hs
  have HO := hide ho
  have HFT := hide hft
  have hB0 := below_alloc2 w (.cells #[.slice na ns.length nc, .slice sa st.length sc] 34) (.cells #[.int .i64 0, .int .i64 0] 36)
  have HX := hide (box_below (new_block w (.cells #[.slice na ns.length nc, .slice sa st.length sc] 34)) (below_alloc1 _ (.cells #[.int .i64 0, .int .i64 0] 36)))
  have hY := new_block (w.alloc (.cells #[.slice na ns.length nc, .slice sa st.length sc] 34)) (.cells #[.int .i64 0, .int .i64 0] 36)
  rw [World.size_alloc] at hY
  have HY := hide hY
  have hlf : (fs.length : Int) ≤ 9223372036854775807 := by unfold maxLen at hcm; omega
  have hln : (ns.length : Int) ≤ 9223372036854775807 := by unfold maxLen at h2; omega
  clear hR hs ho hY hft
  go_enter Try.func21, Try.ntmps21
  go_wp2_with fail
  go_loopw [8] (fun i w' => ∃ k : Nat, k ≤ fs.length ∧ i = .int .i64 k ∧ Hid (∀ j, j < k → hitB fs st aa j = false) ∧ w'.heap[w.heap.size]? = some (.cells #[.slice na ns.length nc, .slice sa st.length sc] 34) ∧ w'.heap[w.heap.size + 1]? = some (.cells #[.int .i64 0, .int .i64 0] 36) ∧ Below w.heap.size w w') (fun i _ => fs.length - (intOf i).toNat)
  case atStart => exact ⟨0, Nat.zero_le _, rfl, fun j h => by omega, unhide HX, unhide HY, hB0⟩
  case round =>
    obtain ⟨k, hk, rfl, HJ, hX, hY, hB⟩ := hrel
    clear HX HY hB0
    have HX := hide hX
    have HY := hide hY
    clear hX hY
    by_cases hkl : k < fs.length
    · have hkl' : (k : Int) < (fs.length : Int) := by omega
      cases hf : formB fs ns st
      · have HE := hide (spotE_none (spotN_form (at_ := aa) hf))
        have hX := box2 (unhide HX)
        go_wp2_with fail
        refine (l7Form_any _ _ _ _ _ _ fs ns st _ hcap hcm h1 h2 h3 h4 (unhide HFT) ((unhide HR).below hB) ((unhide HS).below hB) ((unhide HO).below hB)).mono ?_
        rw [hf]
        rintro e w3 ⟨rfl, hb3⟩
        have hY := box2 (box_below (unhide HY) hb3)
        have hB3 := bl_trans hB hb3
        clear hX
        go_wp2_with fail
        exact bodyPost_ret (v := .tuple #[.agg #[.int .i64 0, .int .i64 0], .bool false]) (by simp [results, Try.results21, go_sem, hY]) rfl (spot_none (unhide HE) hB3 _ _)
      · have HL := hide (lying_of hf (unhide HFT))
        have hkn : k < ns.length := by rw [(unhide HL).len]; exact hkl
        have hkn' : (k : Int) < (ns.length : Int) := by omega
        have hk0 : (0 : Int) ≤ (k : Int) := by omega
        have hfl : fs[k].body.length ≤ 10 := (unhide HL).2.1 _ (List.getElem_mem _)
        have hpb := (unhide HL).small k (by omega)
        obtain ⟨b, off, rfl⟩ := (unhide HR).get (by omega)
        obtain ⟨nb, no, rfl⟩ := (unhide HS).get (by omega)
        have HAF : Hid (∀ w', Below w.heap.size w w' → ∃ fi fc, w'.cell? ⟨b, off + k * 3 + 2, none⟩ = some (.slice fi fs[k].body.length fc)) := fun w' hb => by
          obtain ⟨fi, fc, _, _, f2, _⟩ := ((unhide HR).below hb).at hkl
          exact ⟨fi, fc, f2⟩
        have HAN : Hid (∀ w', Below w.heap.size w w' → w'.cell? ⟨nb, no + k, none⟩ = some (.int .i64 (place fs st k : Nat))) := fun w' hb => by
          have n0 := ((unhide HS).below hb).cells hkn
          rw [(unhide HL).at hkn] at n0
          exact n0
        have HIT : Hid ((place fs st k : Int) ≤ aa → aa < (place fs st k : Int) + (fs[k].body.length : Int) → spotE fs ns st aa = ((k : Int), aa - (place fs st k : Int), true)) := fun e1 e2 => spotE_some (spotN_some hf hkl (hit_iff.2 ⟨e1, by rw [lenAt_is hkl]; omega⟩))
        have HMI : Hid (¬ ((place fs st k : Int) ≤ aa ∧ aa < (place fs st k : Int) + (fs[k].body.length : Int)) → ∀ j, j < k + 1 → hitB fs st aa j = false) := fun h j hj => by
          by_cases e : j = k
          · subst e
            cases e2 : hitB fs st aa j with
            | false => rfl
            | true =>
              rw [hit_iff, lenAt_is hkl] at e2
              exact absurd ⟨e2.1, by omega⟩ h
          · exact unhide HJ j (by omega)
        have hX := box2 (unhide HX)
        have hwf := int_wf wa
        generalize fs[k].body.length = m at *
        generalize place fs st k = pl at *
        go_wp2_with fail
        refine (l7Form_any _ _ _ _ _ _ fs ns st _ hcap hcm h1 h2 h3 h4 (unhide HFT) ((unhide HR).below hB) ((unhide HS).below hB) ((unhide HO).below hB)).mono ?_
        rw [hf]
        rintro e w3 ⟨rfl, hb3⟩
        have HX3 := hide (box_below (unhide HX) hb3)
        have HY3 := hide (box_below (unhide HY) hb3)
        have hB3 := bl_trans hB hb3
        clear hX hb3 hf HX HY hB
        have hX := box2 (unhide HX3)
        obtain ⟨fi, fc, f2⟩ := unhide HAF _ hB3
        have n0 := unhide HAN _ hB3
        have hpm : ((pl : Int) + (m : Int)) ≤ 100000000 := by omega
        have hpm0 : 0 ≤ ((pl : Int) + (m : Int)) := by omega
        have hml : (m : Int) ≤ 10 := by omega
        by_cases hg : (pl : Int) ≤ aa
        · have d0 : decide ((pl : Int) ≤ aa) = true := decide_eq_true hg
          by_cases hh : aa < (pl : Int) + (m : Int)
          · have d1 : decide (aa < (pl : Int) + (m : Int)) = true := decide_eq_true hh
            have HE := hide (unhide HIT hg hh)
            have hY := box2 (unhide HY3)
            go_wp2_with fail
            go_quiet (fail)
            go_wp2_with fail
            exact bodyPost_ret (v := .tuple #[.agg #[.int .i64 k, .int .i64 (aa - (pl : Int))], .bool true]) (by simp [results, Try.results21, go_sem, hY]) rfl (spot_some (unhide HE) (by first | exact hB3 | exact bl_drewN hB3 _ | exact hB3.drew) _ _)
          · have d1 : decide (aa < (pl : Int) + (m : Int)) = false := decide_eq_false hh
            have HN := hide (unhide HMI (fun e => hh e.2))
            go_wp2_with fail
            go_quiet (fail)
            go_wp2_with fail
            exact ⟨⟨k + 1, by omega, by go_num, unhide HN, by first | exact unhide HX3 | (simp [unhide HX3]), by first | exact unhide HY3 | (simp [unhide HY3]), by first | exact hB3 | exact bl_drewN hB3 _ | exact hB3.drew⟩, by simp [intOf]; omega⟩
        · have d0 : decide ((pl : Int) ≤ aa) = false := decide_eq_false hg
          have HN := hide (unhide HMI (fun e => hg e.1))
          go_wp2_with fail
          go_quiet (fail)
          go_wp2_with fail
          exact ⟨⟨k + 1, by omega, by go_num, unhide HN, by first | exact unhide HX3 | (simp [unhide HX3]), by first | exact unhide HY3 | (simp [unhide HY3]), by first | exact hB3 | exact bl_drewN hB3 _ | exact hB3.drew⟩, by simp [intOf]; omega⟩
    · have hkl' : ¬ (k : Int) < (fs.length : Int) := by omega
      have HE := hide (spotE_none (spotN_none (fs := fs) (ns := ns) (st := st) (at_ := aa) (fun j hj => unhide HJ j (by omega))))
      have hY := box2 (unhide HY)
      go_wp2_with fail
      exact bodyPost_ret (v := .tuple #[.agg #[.int .i64 0, .int .i64 0], .bool false]) (by simp [results, Try.results21, go_sem, hY]) rfl (spot_none (unhide HE) hB _ _)
end Go.Proofs.Ytjbhbkkkjdpamaa.MapT
