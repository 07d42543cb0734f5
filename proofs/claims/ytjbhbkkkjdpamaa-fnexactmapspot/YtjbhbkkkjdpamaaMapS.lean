/- The contract of the specification's MapAt. -/
import Derived.Test.YtjbhbkkkjdpamaaMapA
namespace Go.Proofs.Ytjbhbkkkjdpamaa.MapS
open Go.ChangeShapes Go.WideShapes Go.ChangeAt Go.RowKit Go.Joins Go.Deep
open Go.Proofs.Ytjbhbkkkjdpamaa.Base Go.Proofs.Ytjbhbkkkjdpamaa.InsA Go.Proofs.Ytjbhbkkkjdpamaa.Funs Go.Proofs.Ytjbhbkkkjdpamaa.Open Go.Proofs.Ytjbhbkkkjdpamaa.Keep Go.Proofs.Ytjbhbkkkjdpamaa.UnitS Go.Proofs.Ytjbhbkkkjdpamaa.Refs Go.Proofs.Ytjbhbkkkjdpamaa.LayN Go.Proofs.Ytjbhbkkkjdpamaa.LayA Go.Proofs.Ytjbhbkkkjdpamaa.KeepD Go.Proofs.Ytjbhbkkkjdpamaa.KeepA Go.Proofs.Ytjbhbkkkjdpamaa.LayD Go.Proofs.Ytjbhbkkkjdpamaa.LayS Go.Proofs.Ytjbhbkkkjdpamaa.LayT Go.Proofs.Ytjbhbkkkjdpamaa.LayU Go.Proofs.Ytjbhbkkkjdpamaa.LayV Go.Proofs.Ytjbhbkkkjdpamaa.MapD Go.Proofs.Ytjbhbkkkjdpamaa.MapA
set_option linter.unusedVariables false
set_option maxRecDepth 100000

set_option maxHeartbeats 4000000 in
theorem specMapAt_any (a : Option Addr) (cap : Nat) (fs : List FunD) (na sa : Option Addr) (nc sc : Nat) (ns : List Int) (st : List (List ByteArray)) (ff pp : Int) (w : World) (hcap : fs.length ≤ cap) (hcm : cap ≤ maxLen) (h1 : ns.length ≤ nc) (h2 : nc ≤ maxLen) (h3 : st.length ≤ sc) (h4 : sc ≤ maxLen) (hft : FewT st) (hR : FunRow w a fs) (hs : NumRow w na ns) (ho : TextsRow w sa st) :
    Calls Try.prog 14 #[.slice a fs.length cap, .agg #[.slice na ns.length nc, .slice sa st.length sc], .agg #[.int .i64 ff, .int .i64 pp]] w fun e w' => e = .returned (.int .i64 (mapAtI fs ns st ff pp)) ∧ Below w.heap.size w w' := by
  have HR := hide hR
  have HS := hide hs
  have HO := hide ho
  have HFT := hide hft
  have hB0 := below_alloc2 w (.cells #[.slice na ns.length nc, .slice sa st.length sc] 34) (.cells #[.int .i64 ff, .int .i64 pp] 36)
  have HX := hide (box_below (new_block w (.cells #[.slice na ns.length nc, .slice sa st.length sc] 34)) (below_alloc1 _ (.cells #[.int .i64 ff, .int .i64 pp] 36)))
  have hY := new_block (w.alloc (.cells #[.slice na ns.length nc, .slice sa st.length sc] 34)) (.cells #[.int .i64 ff, .int .i64 pp] 36)
  rw [World.size_alloc] at hY
  have HY := hide hY
  clear hR hs ho hY hft
  go_enter Try.func14, Try.ntmps14
  go_wp2_with fail
  refine (l7Form_any _ _ _ _ _ _ fs ns st _ hcap hcm h1 h2 h3 h4 (unhide HFT) ((unhide HR).below hB0) ((unhide HS).below hB0) ((unhide HO).below hB0)).mono ?_
  rintro e w1 ⟨rfl, hb1⟩
  have hB1 := bl_trans hB0 hb1
  have HX1 := hide (box_below (unhide HX) hb1)
  have HY1 := hide (box_below (unhide HY) hb1)
  clear HX HY hB0 hb1
  cases hf : formB fs ns st
  · have HE := hide (mapAt_no (f := ff) (p := pp) (.inl hf))
    go_wp2_with fail
    go_ret
    exact ⟨ret_int (unhide HE).symm, hB1⟩
  cases hq : spotQ fs ff pp
  · have HE := hide (mapAt_no (fs := fs) (ns := ns) (st := st) (.inr hq))
    have hY := box2 (unhide HY1)
    go_wp2_with fail
    refine (l5Spot_any a cap fs ff pp _ hcap hcm ((unhide HR).below hB1)).mono ?_
    rw [hq]
    rintro e w2 ⟨rfl, hb2⟩
    have hB2 := bl_trans hB1 hb2
    clear hY
    go_wp2_with fail
    go_ret
    exact ⟨ret_int (unhide HE).symm, hB2⟩
  have HL := hide (lying_of hf (unhide HFT))
  obtain ⟨k, j, rfl, rfl, hk, hj⟩ := spotQ_parts hq
  have HE := hide (mapAt_yes hf hq)
  have hY := box2 (unhide HY1)
  go_wp2_with fail
  refine (l5Spot_any a cap fs _ _ _ hcap hcm ((unhide HR).below hB1)).mono ?_
  rw [hq]
  rintro e w2 ⟨rfl, hb2⟩
  have hB2 := bl_trans hB1 hb2
  have HX2 := hide (box_below (unhide HX1) hb2)
  have HY2 := hide (box_below (unhide HY1) hb2)
  clear hY hb2 hB1 HX1 HY1
  have hX := box2 (unhide HX2)
  have hY := box2 (unhide HY2)
  have hkn : k < ns.length := by rw [(unhide HL).len]; exact hk
  have hkn' : (k : Int) < (ns.length : Int) := by omega
  have hk0 : (0 : Int) ≤ (k : Int) := by omega
  have hln : (ns.length : Int) ≤ 9223372036854775807 := by unfold maxLen at h2; omega
  have hfl : fs[k].body.length ≤ 10 := (unhide HL).2.1 _ (List.getElem_mem _)
  have hpb := (unhide HL).small k (by omega)
  have hjb : j < 10 := by omega
  obtain ⟨nb, no, rfl⟩ := (unhide HS).get (by omega)
  have n0 := ((unhide HS).below hB2).cells hkn
  rw [(unhide HL).at hkn] at n0
  generalize place fs st k = pl at *
  clear hj hfl hq hf
  go_wp2_with fail
  go_quiet (fail)
  go_wp2_with fail
  go_ret
  exact ⟨ret_int (by rw [unhide HE]; go_num), by first | exact hB2 | exact bl_drewN hB2 _ | exact hB2.drew⟩
end Go.Proofs.Ytjbhbkkkjdpamaa.MapS
