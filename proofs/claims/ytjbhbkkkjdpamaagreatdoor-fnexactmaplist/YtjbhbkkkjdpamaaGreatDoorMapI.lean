/- The contract of the program's MapAt. -/
import Derived.Test.YtjbhbkkkjdpamaaGreatDoorMapA
import Derived.Test.YtjbhbkkkjdpamaaGreatDoorLayO
namespace Go.Proofs.YtjbhbkkkjdpamaaGreatDoor.MapI
open Go.ChangeShapes Go.WideShapes Go.ChangeAt Go.RowKit Go.Joins Go.WideMaps Go.Maps Go.Deep
open Go.Proofs.YtjbhbkkkjdpamaaGreatDoor.Base Go.Proofs.YtjbhbkkkjdpamaaGreatDoor.InsA Go.Proofs.YtjbhbkkkjdpamaaGreatDoor.Funs Go.Proofs.YtjbhbkkkjdpamaaGreatDoor.Open Go.Proofs.YtjbhbkkkjdpamaaGreatDoor.Keep Go.Proofs.YtjbhbkkkjdpamaaGreatDoor.UnitS Go.Proofs.YtjbhbkkkjdpamaaGreatDoor.UnitM Go.Proofs.YtjbhbkkkjdpamaaGreatDoor.Refs Go.Proofs.YtjbhbkkkjdpamaaGreatDoor.LayN Go.Proofs.YtjbhbkkkjdpamaaGreatDoor.LayA Go.Proofs.YtjbhbkkkjdpamaaGreatDoor.KeepD Go.Proofs.YtjbhbkkkjdpamaaGreatDoor.KeepA Go.Proofs.YtjbhbkkkjdpamaaGreatDoor.LayD Go.Proofs.YtjbhbkkkjdpamaaGreatDoor.LayS Go.Proofs.YtjbhbkkkjdpamaaGreatDoor.LayT Go.Proofs.YtjbhbkkkjdpamaaGreatDoor.LayG Go.Proofs.YtjbhbkkkjdpamaaGreatDoor.LayH Go.Proofs.YtjbhbkkkjdpamaaGreatDoor.LayJ Go.Proofs.YtjbhbkkkjdpamaaGreatDoor.LayK Go.Proofs.YtjbhbkkkjdpamaaGreatDoor.LayV Go.Proofs.YtjbhbkkkjdpamaaGreatDoor.LayM Go.Proofs.YtjbhbkkkjdpamaaGreatDoor.LayO Go.Proofs.YtjbhbkkkjdpamaaGreatDoor.MapD Go.Proofs.YtjbhbkkkjdpamaaGreatDoor.MapA
set_option linter.unusedVariables false
set_option maxRecDepth 100000

set_option maxHeartbeats 4000000 in
theorem implMapAt_any (a : Option Addr) (cap : Nat) (fs : List FunD) (na sa : Option Addr) (nc sc : Nat) (ns : List Int) (st : List (List ByteArray)) (ff pp : Int) (w : World) (hcap : fs.length ≤ cap) (hcm : cap ≤ maxLen) (h1 : ns.length ≤ nc) (h2 : nc ≤ maxLen) (h3 : st.length ≤ sc) (h4 : sc ≤ maxLen) (hft : FewT st) (hR : FunRow w a fs) (hs : NumRow w na ns) (ho : TextsRow w sa st) :
    Calls Tryz.prog 19 #[.slice a fs.length cap, .agg #[.slice na ns.length nc, .slice sa st.length sc], .agg #[.int .i64 ff, .int .i64 pp]] w fun e w' => e = .returned (.int .i64 (mapAtI fs ns st ff pp)) ∧ Below w.heap.size w w' := by
  have HR := hide hR
  have HS := hide hs
  have HO := hide ho
  have hB0 := below_alloc2 w (.cells #[.slice na ns.length nc, .slice sa st.length sc] 32) (.cells #[.int .i64 ff, .int .i64 pp] 48)
  have hY := new_block (w.alloc (.cells #[.slice na ns.length nc, .slice sa st.length sc] 32)) (.cells #[.int .i64 ff, .int .i64 pp] 48)
  rw [World.size_alloc] at hY
  have HY := hide hY
  clear hR hs ho hY
  go_enter Tryz.func19, Tryz.ntmps19
  go_wp2_with fail
  refine (groundAsLaid_any _ _ _ _ _ _ fs ns st _ hcap hcm h1 h2 h3 h4 hft ((unhide HR).below hB0) ((unhide HS).below hB0) ((unhide HO).below hB0)).mono ?_
  rintro e w1 hge
  obtain ⟨hb1, ⟨hf, rfl⟩ | ⟨hf, na', nc', G, B1, B2, rfl, hG⟩⟩ := ground_ways hge
  · have HE := hide (mapAt_no (f := ff) (p := pp) (.inl hf))
    have hB1 := bl_trans hB0 hb1
    clear hge
    go_wp2_with fail
    go_ret
    exact ⟨ret_int (unhide HE).symm, bl_alloc hB1 _⟩
  have HL := hide (lying_of hf hft)
  have hB1 := bl_alloc (bl_trans hB0 hb1) (.cells #[.slice na' fs.length nc', .map (some B1), .map (some B2), .int .i64 (place fs st fs.length : Nat)] 69)
  have HY1 := hide (box_below (box_below (unhide HY) hb1) (below_alloc1 _ (.cells #[.slice na' fs.length nc', .map (some B1), .map (some B2), .int .i64 (place fs st fs.length : Nat)] 69)))
  have HZ1 := hide (new_block w1 (.cells #[.slice na' fs.length nc', .map (some B1), .map (some B2), .int .i64 (place fs st fs.length : Nat)] 69))
  obtain ⟨k1, k2, k3⟩ := GS.nums hG
  have HK := hide (k3.below (below_alloc1 w1 (.cells #[.slice na' fs.length nc', .map (some B1), .map (some B2), .int .i64 (place fs st fs.length : Nat)] 69)))
  have hnl : (fs.length : Int) ≤ 9223372036854775807 := by have := (unhide HL).1; omega
  clear hge hG HY hB0 hb1 k3
  generalize hpl : place fs st fs.length = pt at *
  clear hpl
  cases hq : spotQ fs ff pp
  · have HE := hide (mapAt_no (fs := fs) (ns := ns) (st := st) (.inr hq))
    have hY := box2 (unhide HY1)
    go_wp2_with fail
    refine (spotOk_any a cap fs ff pp _ hcap hcm ((unhide HR).below hB1)).mono ?_
    rw [hq]
    rintro e w2 ⟨rfl, hb2⟩
    have hB2 := bl_trans hB1 hb2
    clear hY
    go_wp2_with fail
    go_ret
    exact ⟨ret_int (unhide HE).symm, hB2⟩
  obtain ⟨k, j, rfl, rfl, hk, hj⟩ := spotQ_parts hq
  have HE := hide (mapAt_yes hf hq)
  have hY := box2 (unhide HY1)
  go_wp2_with fail
  refine (spotOk_any a cap fs _ _ _ hcap hcm ((unhide HR).below hB1)).mono ?_
  rw [hq]
  rintro e w2 ⟨rfl, hb2⟩
  have hB2 := bl_trans hB1 hb2
  have HZ2 := hide (box_below (unhide HZ1) hb2)
  have HY2 := hide (box_below (unhide HY1) hb2)
  have HK2 := hide ((unhide HK).below hb2)
  clear hY hb2 hB1 HZ1 HY1 HK
  have hZ := box4 (unhide HZ2)
  have hY := box2 (unhide HY2)
  have hk' : (k : Int) < (fs.length : Int) := by omega
  have hk0 : (0 : Int) ≤ (k : Int) := by omega
  have hfl : fs[k].body.length ≤ 10 := (unhide HL).2.1 _ (List.getElem_mem _)
  have hpb := (unhide HL).small k (by omega)
  have hjb : j < 10 := by omega
  have hkp : k < (placesTo fs st fs.length).length := by rw [placesTo_len]; exact hk
  obtain ⟨gb, go', rfl⟩ := (unhide HK2).get (by omega)
  have g0 := (unhide HK2).cells hkp
  rw [placesTo_at hkp] at g0
  clear hkp
  generalize place fs st k = p0 at *
  clear hj hfl hq hf
  go_wp2_with fail
  go_quiet (fail)
  go_wp2_with fail
  go_ret
  exact ⟨ret_int (by rw [unhide HE]; go_num), by first | exact hB2 | exact bl_drewN hB2 _ | exact hB2.drew⟩
end Go.Proofs.YtjbhbkkkjdpamaaGreatDoor.MapI
