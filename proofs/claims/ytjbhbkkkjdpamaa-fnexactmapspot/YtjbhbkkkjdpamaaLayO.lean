/- The contracts of the program's LaySize and LayStone. -/
import Derived.Test.YtjbhbkkkjdpamaaLayM
namespace Go.Proofs.Ytjbhbkkkjdpamaa.LayO
open Go.ChangeShapes Go.WideShapes Go.ChangeAt Go.RowKit Go.Joins Go.WideMaps Go.Maps Go.Deep
open Go.Proofs.Ytjbhbkkkjdpamaa.Base Go.Proofs.Ytjbhbkkkjdpamaa.InsA Go.Proofs.Ytjbhbkkkjdpamaa.Funs Go.Proofs.Ytjbhbkkkjdpamaa.Open Go.Proofs.Ytjbhbkkkjdpamaa.Keep Go.Proofs.Ytjbhbkkkjdpamaa.UnitS Go.Proofs.Ytjbhbkkkjdpamaa.UnitM Go.Proofs.Ytjbhbkkkjdpamaa.Refs Go.Proofs.Ytjbhbkkkjdpamaa.LayN Go.Proofs.Ytjbhbkkkjdpamaa.LayA Go.Proofs.Ytjbhbkkkjdpamaa.KeepD Go.Proofs.Ytjbhbkkkjdpamaa.KeepA Go.Proofs.Ytjbhbkkkjdpamaa.LayD Go.Proofs.Ytjbhbkkkjdpamaa.LayS Go.Proofs.Ytjbhbkkkjdpamaa.LayT Go.Proofs.Ytjbhbkkkjdpamaa.LayG Go.Proofs.Ytjbhbkkkjdpamaa.LayH Go.Proofs.Ytjbhbkkkjdpamaa.LayJ Go.Proofs.Ytjbhbkkkjdpamaa.LayK Go.Proofs.Ytjbhbkkkjdpamaa.LayV Go.Proofs.Ytjbhbkkkjdpamaa.LayM
set_option linter.unusedVariables false
set_option maxRecDepth 100000

theorem tup_eq {a b : Value} {c : Bool} (h : a = b) : Ending.returned (.tuple #[a, .bool c]) = .returned (.tuple #[b, .bool c]) := by rw [h]
/-- The two ways in which groundAsLaid ends. -/
theorem ground_ways {w w' : World} {fs : List FunD} {ns : List Int} {st : List (List ByteArray)} {e : Ending} (h : GroundEnd w fs ns st e w') : Below w.heap.size w w' ∧ ((formB fs ns st = false ∧ e = .returned (.tuple #[.agg #[.slice none 0 0, .map none, .map none, .int .i64 0], .bool false])) ∨ (formB fs ns st = true ∧ ∃ na nc G B1 B2, e = .returned (.tuple #[.agg #[.slice na fs.length nc, .map (some B1), .map (some B2), .int .i64 (place fs st fs.length : Nat)], .bool true]) ∧ GS w w' G B1 B2 fs.length fs.length (stonesTo fs st fs.length) (place fs st fs.length) na nc fs st)) := by
  obtain ⟨v, rfl, hg, hb⟩ := h
  refine ⟨hb, ?_⟩
  rcases hg with ⟨h1, rfl⟩ | ⟨h1, na, nc, G, B1, B2, rfl, hg⟩
  · exact .inl ⟨h1, by rw [h1]; rfl⟩
  · exact .inr ⟨h1, na, nc, G, B1, B2, by rw [h1]; rfl, hg⟩
set_option maxHeartbeats 4000000 in
theorem implLaySize_any (a : Option Addr) (cap : Nat) (fs : List FunD) (na sa : Option Addr) (nc sc : Nat) (ns : List Int) (st : List (List ByteArray)) (w : World) (hcap : fs.length ≤ cap) (hcm : cap ≤ maxLen) (h1 : ns.length ≤ nc) (h2 : nc ≤ maxLen) (h3 : st.length ≤ sc) (h4 : sc ≤ maxLen) (hft : FewT st) (hR : FunRow w a fs) (hs : NumRow w na ns) (ho : TextsRow w sa st) :
    Calls Try.prog 25 #[.slice a fs.length cap, .agg #[.slice na ns.length nc, .slice sa st.length sc]] w fun e w' => e = .returned (.int .i64 (sizeI fs ns st)) ∧ Below w.heap.size w w' := by
  have HR := hide hR
  have HS := hide hs
  have HO := hide ho
  have hB0 := below_alloc1 w (.cells #[.slice na ns.length nc, .slice sa st.length sc] 34)
  clear hR hs ho
  go_enter Try.func25, Try.ntmps25
  go_wp2_with fail
  refine (groundAsLaid_any _ _ _ _ _ _ fs ns st _ hcap hcm h1 h2 h3 h4 hft ((unhide HR).below hB0) ((unhide HS).below hB0) ((unhide HO).below hB0)).mono ?_
  rintro e w1 hge
  obtain ⟨hb1, ⟨hf, rfl⟩ | ⟨hf, na', nc', G, B1, B2, rfl, hG⟩⟩ := ground_ways hge
  · have HE := hide (size_no hf)
    have hB1 := bl_trans hB0 hb1
    clear hge
    go_wp2_with fail
    go_ret
    exact ⟨ret_int (unhide HE).symm, bl_alloc hB1 _⟩
  · have HE := hide (size_yes hf)
    have hB1 := bl_trans hB0 hb1
    clear hge hG
    generalize place fs st fs.length = pl at *
    go_wp2_with fail
    go_ret
    exact ⟨ret_int (unhide HE).symm, bl_alloc hB1 _⟩
set_option maxHeartbeats 4000000 in
theorem implLayStone_any (a : Option Addr) (cap : Nat) (fs : List FunD) (na sa : Option Addr) (nc sc : Nat) (ns : List Int) (st : List (List ByteArray)) (ff nn : Int) (w : World) (wff : (Lit.int .i64 ff).wf = true) (wnn : (Lit.int .i64 nn).wf = true) (hcap : fs.length ≤ cap) (hcm : cap ≤ maxLen) (h1 : ns.length ≤ nc) (h2 : nc ≤ maxLen) (h3 : st.length ≤ sc) (h4 : sc ≤ maxLen) (hft : FewT st) (hR : FunRow w a fs) (hs : NumRow w na ns) (ho : TextsRow w sa st) :
    Calls Try.prog 41 #[.slice a fs.length cap, .agg #[.slice na ns.length nc, .slice sa st.length sc], .int .i64 ff, .int .i64 nn] w fun e w' => e = .returned (.int .i64 (stoneI fs ns st ff nn)) ∧ Below w.heap.size w w' := by
  have HR := hide hR
  have HS := hide hs
  have HO := hide ho
  have hB0 := below_alloc1 w (.cells #[.slice na ns.length nc, .slice sa st.length sc] 34)
  have HX := hide (new_block w (.cells #[.slice na ns.length nc, .slice sa st.length sc] 34))
  have HFT := hide hft
  have hls : (st.length : Int) ≤ 9223372036854775807 := by unfold maxLen at h4; omega
  clear hR hs ho wff wnn
  go_enter Try.func41, Try.ntmps41
  go_wp2_with fail
  refine (groundAsLaid_any _ _ _ _ _ _ fs ns st _ hcap hcm h1 h2 h3 h4 hft ((unhide HR).below hB0) ((unhide HS).below hB0) ((unhide HO).below hB0)).mono ?_
  rintro e w1 hge
  obtain ⟨hb1, ⟨hf, rfl⟩ | ⟨hf, na', nc', G, B1, B2, rfl, hG⟩⟩ := ground_ways hge
  · have HE := hide (stone_no (f := ff) (n := nn) (.inl hf))
    have hB1 := bl_trans hB0 hb1
    clear hge
    go_wp2_with fail
    go_ret
    exact ⟨ret_int (unhide HE).symm, bl_alloc hB1 _⟩
  have HL := hide (lying_of hf hft)
  have hB1 := bl_alloc (bl_trans hB0 hb1) (.cells #[.slice na' fs.length nc', .map (some B1), .map (some B2), .int .i64 (place fs st fs.length : Nat)] 100)
  have HX1 := hide (box_below (box_below (unhide HX) hb1) (below_alloc1 _ (.cells #[.slice na' fs.length nc', .map (some B1), .map (some B2), .int .i64 (place fs st fs.length : Nat)] 100)))
  have HZ1 := hide (new_block w1 (.cells #[.slice na' fs.length nc', .map (some B1), .map (some B2), .int .i64 (place fs st fs.length : Nat)] 100))
  obtain ⟨k1, k2, k3⟩ := GS.nums hG
  have HK := hide (k3.below (below_alloc1 w1 (.cells #[.slice na' fs.length nc', .map (some B1), .map (some B2), .int .i64 (place fs st fs.length : Nat)] 100)))
  have hnl : (fs.length : Int) ≤ 9223372036854775807 := by have := (unhide HL).1; omega
  clear hge hG HX hB0 hb1 k3
  generalize hpl : place fs st fs.length = pl at *
  clear hpl
  by_cases hf0 : ff < 0
  · have HE := hide (stone_no (fs := fs) (ns := ns) (st := st) (f := ff) (n := nn) (.inr (.inl hf0)))
    go_wp2_with fail
    go_ret
    exact ⟨ret_int (unhide HE).symm, hB1⟩
  by_cases hf1 : (fs.length : Int) ≤ ff
  · have HE := hide (stone_no (fs := fs) (ns := ns) (st := st) (f := ff) (n := nn) (.inr (.inr (.inl hf1))))
    go_wp2_with fail
    go_ret
    exact ⟨ret_int (unhide HE).symm, hB1⟩
  by_cases hn0 : nn < 0
  · have HE := hide (stone_no (fs := fs) (ns := ns) (st := st) (f := ff) (n := nn) (.inr (.inr (.inr (.inl hn0)))))
    go_wp2_with fail
    go_ret
    exact ⟨ret_int (unhide HE).symm, hB1⟩
  obtain ⟨k, rfl⟩ : ∃ k : Nat, ff = (k : Int) := ⟨ff.toNat, by omega⟩
  obtain ⟨j, rfl⟩ : ∃ j : Nat, nn = (j : Int) := ⟨nn.toNat, by omega⟩
  have hkf : k < fs.length := by omega
  have hks : k < st.length := by rw [(unhide HL).2.2.1]; exact hkf
  have hks' : (k : Int) < (st.length : Int) := by omega
  obtain ⟨sb, so, rfl⟩ := (unhide HO).get (by omega)
  obtain ⟨ai, ci, t0, h5, h6, _⟩ := ((unhide HO).below hB1).at hks
  have hsl := (unhide HL).2.2.2.2.2 st[k] (List.getElem_mem _)
  have hX := box2 (unhide HX1)
  have HSN : Hid ((st[k].length : Int) ≤ (j : Int) → stoneI fs ns st (k : Int) (j : Int) = -1) := fun h => stone_no (.inr (.inr (.inr (.inr (by rw [Int.toNat_natCast, stAt_is hks]; exact h)))))
  have HSY : Hid (j < st[k].length → stoneI fs ns st (k : Int) (j : Int) = ((place fs st k + lenAt fs k + j : Nat) : Int)) := fun h => stone_yes hf hkf (by rw [stAt_is hks]; exact h)
  have HLA := hide (lenAt_is hkf)
  have hfl : fs[k].body.length ≤ 10 := (unhide HL).2.1 _ (List.getElem_mem _)
  have hpb := (unhide HL).small k (by omega)
  obtain ⟨b, off, rfl⟩ := (unhide HR).get (by omega)
  obtain ⟨fi, fc, f0, f1, f2, _, f4, f5, _⟩ := ((unhide HR).below hB1).at hkf
  have hkp : k < (placesTo fs st fs.length).length := by rw [placesTo_len]; exact hkf
  obtain ⟨gb, go', rfl⟩ := (unhide HK).get (by omega)
  have g0 := (unhide HK).cells hkp
  rw [placesTo_at hkp] at g0
  have hZ := box4 (unhide HZ1)
  clear hkp
  generalize st[k] = ss at *
  generalize fs[k] = f at *
  generalize place fs st k = p0 at *
  by_cases hj : (ss.length : Int) ≤ (j : Int)
  · have HE := hide (unhide HSN hj)
    go_wp2_with fail
    go_ret
    exact ⟨ret_int (unhide HE).symm, hB1⟩
  · have HE := hide (unhide HSY (by omega))
    rw [unhide HLA] at HE
    have hj0 : (0 : Int) ≤ (j : Int) := by omega
    go_wp2_with fail
    go_quiet (fail)
    go_wp2_with fail
    go_ret
    exact ⟨ret_int (by rw [unhide HE]; go_num), by first | exact hB1 | exact bl_drewN hB1 _ | exact hB1.drew⟩
end Go.Proofs.Ytjbhbkkkjdpamaa.LayO
