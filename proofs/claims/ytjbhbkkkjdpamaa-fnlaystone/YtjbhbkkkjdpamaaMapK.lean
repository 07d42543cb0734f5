/- The contracts of the program's standing and MapSpot. -/
import Derived.Test.YtjbhbkkkjdpamaaPkd8868971
namespace Go.Proofs.Ytjbhbkkkjdpamaa.MapK
open Go.ChangeShapes Go.WideShapes Go.ChangeAt Go.RowKit Go.Joins Go.WideMaps Go.Maps Go.Deep
open Go.Proofs.Ytjbhbkkkjdpamaa.Base Go.Proofs.Ytjbhbkkkjdpamaa.InsA Go.Proofs.Ytjbhbkkkjdpamaa.Funs Go.Proofs.Ytjbhbkkkjdpamaa.Open Go.Proofs.Ytjbhbkkkjdpamaa.FunS Go.Proofs.Ytjbhbkkkjdpamaa.Keep Go.Proofs.Ytjbhbkkkjdpamaa.UnitS Go.Proofs.Ytjbhbkkkjdpamaa.UnitM Go.Proofs.Ytjbhbkkkjdpamaa.Refs Go.Proofs.Ytjbhbkkkjdpamaa.LayN Go.Proofs.Ytjbhbkkkjdpamaa.LayA Go.Proofs.Ytjbhbkkkjdpamaa.KeepD Go.Proofs.Ytjbhbkkkjdpamaa.KeepA Go.Proofs.Ytjbhbkkkjdpamaa.LayD Go.Proofs.Ytjbhbkkkjdpamaa.LayS Go.Proofs.Ytjbhbkkkjdpamaa.LayT Go.Proofs.Ytjbhbkkkjdpamaa.LayG Go.Proofs.Ytjbhbkkkjdpamaa.LayH Go.Proofs.Ytjbhbkkkjdpamaa.LayJ Go.Proofs.Ytjbhbkkkjdpamaa.LayK Go.Proofs.Ytjbhbkkkjdpamaa.LayV Go.Proofs.Ytjbhbkkkjdpamaa.LayM Go.Proofs.Ytjbhbkkkjdpamaa.LayO Go.Proofs.Ytjbhbkkkjdpamaa.MapD Go.Proofs.Ytjbhbkkkjdpamaa.MapA Go.Proofs.Ytjbhbkkkjdpamaa.MapJ Go.Proofs.Ytjbhbkkkjdpamaa.MapT
set_option linter.unusedVariables false
set_option maxRecDepth 100000

theorem lens_one {fs : List FunD} (h : keepOkB fs = true) : ∀ i, i < fs.length → 1 ≤ lenAt fs i := fun i hi => by
  have h1 := (keep_parts h).2.2.1 fs[i] (List.getElem_mem _)
  unfold funOkB at h1
  simp only [Bool.and_eq_true, decide_eq_true_iff] at h1
  rw [lenAt_is hi]
  exact h1.1.1.2.1
theorem place_less {fs : List FunD} {st : List (List ByteArray)} (h : ∀ i, i < fs.length → 1 ≤ lenAt fs i) {i j : Nat} (hij : i < j) (hj : j ≤ fs.length) : place fs st i < place fs st j := by
  have h1 := h i (by omega)
  have h2 := place_mono (fs := fs) (st := st) (show i + 1 ≤ j by omega)
  rw [place] at h2
  omega
theorem places_ascend {fs : List FunD} {st : List (List ByteArray)} (h : ∀ i, i < fs.length → 1 ≤ lenAt fs i) : Ascends (placesTo fs st fs.length) := fun i j hi hj hij => by
  rw [placesTo_at hi, placesTo_at hj]
  rw [placesTo_len] at hi hj
  have := place_less (st := st) h hij (by omega)
  omega
theorem upTo_of {fs : List FunD} {st : List (List ByteArray)} {aa k : Int} (h0 : 0 ≤ aa) (h1 : -1 ≤ k) (h2 : k < ((placesTo fs st fs.length).length : Int)) (hn : 1 ≤ fs.length) (h : Halved (placesTo fs st fs.length) aa k (k + 1)) : ∃ q : Nat, k = (q : Int) ∧ q < fs.length ∧ UpTo fs st aa q := by
  have hk0 : 0 ≤ k := by
    rcases Int.lt_or_le k 0 with e | e
    · have hl : 0 < (placesTo fs st fs.length).length := by rw [placesTo_len]; omega
      have := h.2 0 hl (by omega)
      rw [placesTo_at hl] at this
      simp [place] at this
      omega
    · exact e
  obtain ⟨q, rfl⟩ : ∃ q : Nat, k = (q : Int) := ⟨k.toNat, by omega⟩
  rw [placesTo_len] at h2
  refine ⟨q, rfl, by omega, ?_, fun j hj hjl => ?_⟩
  · have hl : q < (placesTo fs st fs.length).length := by rw [placesTo_len]; omega
    have := h.1 q hl (by omega)
    rw [placesTo_at hl] at this
    exact this
  · have hl : j < (placesTo fs st fs.length).length := by rw [placesTo_len]; omega
    have := h.2 j hl (by omega)
    rw [placesTo_at hl] at this
    exact this
/-- What stands at a place, the stones being counted on. -/
def StandEnd (w : World) (fs : List FunD) (st : List (List ByteArray)) (pl : Nat) (aa : Int) (e : Ending) (w' : World) : Prop :=
  Below w.heap.size w w' ∧ (((aa < 0 ∨ (pl : Int) ≤ aa) ∧ e = .returned (.tuple #[.agg #[.int .i64 0, .int .i64 0], .bool false])) ∨ (0 ≤ aa ∧ aa < (pl : Int) ∧ ∃ q : Nat, q < fs.length ∧ UpTo fs st aa q ∧ e = .returned (.tuple #[.agg #[.int .i64 q, .int .i64 (aa - (place fs st q : Int))], .bool true])))
theorem below_two {w w' : World} (h : Below w.heap.size w w') (v0 v1 : Value) : Below w.heap.size w ((w'.setCell ⟨w.heap.size + 1, 0, none⟩ v0).setCell ⟨w.heap.size + 1, 1, none⟩ v1) := below_set2 (by omega) h _ _
set_option maxHeartbeats 4000000 in
theorem standing_none (aa : Int) (g1 g2 : Value) (na : Option Addr) (n nc pl : Nat) (w : World) (h : aa < 0 ∨ (pl : Int) ≤ aa) (hpl : pl ≤ 100000000) :
    Calls Try.prog 65 #[.agg #[.slice na n nc, g1, g2, .int .i64 (pl : Int)], .int .i64 aa] w fun e w' => e = .returned (.tuple #[.agg #[.int .i64 0, .int .i64 0], .bool false]) ∧ Below w.heap.size w w' := by
  have hB0 := below_alloc2 w (.cells #[.slice na n nc, g1, g2, .int .i64 (pl : Int)] 100) (.cells #[.int .i64 0, .int .i64 0] 36)
  have hX := box4 (box_below (new_block w (.cells #[.slice na n nc, g1, g2, .int .i64 (pl : Int)] 100)) (below_alloc1 _ (.cells #[.int .i64 0, .int .i64 0] 36)))
  have hY := new_block (w.alloc (.cells #[.slice na n nc, g1, g2, .int .i64 (pl : Int)] 100)) (.cells #[.int .i64 0, .int .i64 0] 36)
  rw [World.size_alloc] at hY
  replace hY := box2 hY
  by_cases h0 : aa < 0
  · go_enter Try.func65, Try.ntmps65
    go_wp2_with fail
    exact bodyPost_ret (v := .tuple #[.agg #[.int .i64 0, .int .i64 0], .bool false]) (by simp [results, Try.results65, go_sem, hY]) rfl ⟨rfl, hB0⟩
  · have h1 : (pl : Int) ≤ aa := h.elim (fun e => absurd e h0) id
    go_enter Try.func65, Try.ntmps65
    go_wp2_with fail
    exact bodyPost_ret (v := .tuple #[.agg #[.int .i64 0, .int .i64 0], .bool false]) (by simp [results, Try.results65, go_sem, hY]) rfl ⟨rfl, hB0⟩
set_option maxHeartbeats 4000000 in
theorem standing_some (aa : Int) (g1 g2 : Value) (na : Option Addr) (nc pl : Nat) (fs : List FunD) (st : List (List ByteArray)) (w : World) (wa : (Lit.int .i64 aa).wf = true) (h0 : 0 ≤ aa) (h1 : aa < (pl : Int)) (hpl : pl ≤ 100000000) (hn : 1 ≤ fs.length) (h40 : fs.length ≤ 40) (hle : ∀ i, i < fs.length → 1 ≤ lenAt fs i) (hcap : fs.length ≤ nc) (hcm : nc ≤ maxLen) (hK : NumRow w na (placesTo fs st fs.length)) :
    Calls Try.prog 65 #[.agg #[.slice na fs.length nc, g1, g2, .int .i64 (pl : Int)], .int .i64 aa] w fun e w' => (∃ q : Nat, q < fs.length ∧ UpTo fs st aa q ∧ e = .returned (.tuple #[.agg #[.int .i64 q, .int .i64 (aa - (place fs st q : Int))], .bool true])) ∧ Below w.heap.size w w' := by
  have hB0 := below_alloc2 w (.cells #[.slice na fs.length nc, g1, g2, .int .i64 (pl : Int)] 100) (.cells #[.int .i64 0, .int .i64 0] 36)
  have HX := hide (box_below (new_block w (.cells #[.slice na fs.length nc, g1, g2, .int .i64 (pl : Int)] 100)) (below_alloc1 _ (.cells #[.int .i64 0, .int .i64 0] 36)))
  have hY := new_block (w.alloc (.cells #[.slice na fs.length nc, g1, g2, .int .i64 (pl : Int)] 100)) (.cells #[.int .i64 0, .int .i64 0] 36)
  rw [World.size_alloc] at hY
  have HY := hide hY
  have HK := hide hK
  have HL := hide hle
  have HU := hide (fun (b : Nat) => hcap)
  have hX := box4 (unhide HX)
  have HC := hide (fun w' (h : NumRow w' na (placesTo fs st fs.length)) => lastUpTo_any na nc (placesTo fs st fs.length) aa w' wa (by rw [placesTo_len]; exact hcap) (by rw [placesTo_len]; omega) hcm (places_ascend (unhide HL)) h)
  rw [placesTo_len] at HC
  clear hY hK hle
  go_enter Try.func65, Try.ntmps65
  go_wp2_with fail
  refine (unhide HC _ ((unhide HK).below hB0)).mono ?_
  rintro e w1 ⟨⟨k, k1, k2, rfl, hH⟩, hb1⟩
  have hB1 := bl_trans hB0 hb1
  have HX1 := hide (box_below (unhide HX) hb1)
  have HY1 := hide (box_below (unhide HY) hb1)
  obtain ⟨q, rfl, hq, hU⟩ := upTo_of (fs := fs) (st := st) h0 k1 (by rw [placesTo_len]; exact k2) hn hH
  have HQ := hide hU
  have hkp : q < (placesTo fs st fs.length).length := by rw [placesTo_len]; exact hq
  obtain ⟨gb, go', rfl⟩ := (unhide HK).get (by omega)
  have g0 := ((unhide HK).below hB1).cells hkp
  rw [placesTo_at hkp] at g0
  have hpq : (place fs st q : Int) ≤ aa := hU.1
  have hq' : (q : Int) < (fs.length : Int) := by omega
  have hq0 : (0 : Int) ≤ (q : Int) := by omega
  have hlf : (fs.length : Int) ≤ 9223372036854775807 := by omega
  clear hX hH hkp hU HC k1 k2
  have hX := box4 (unhide HX1)
  have hY := box2 (unhide HY1)
  generalize hp : place fs st q = p0 at *
  have HP := hide hp
  clear hp
  go_wp2_with fail
  exact bodyPost_ret (v := .tuple #[.agg #[.int .i64 q, .int .i64 (aa - (p0 : Int))], .bool true]) (by simp [results, Try.results65, go_sem, hY]) rfl ⟨⟨q, hq, unhide HQ, by rw [unhide HP]⟩, below_two hB1 _ _⟩
/-- What MapSpot answers, by what stands there. -/
theorem spotE_out {fs : List FunD} {ns : List Int} {st : List (List ByteArray)} {aa : Int} (hf : formB fs ns st = true) (h : aa < 0 ∨ (place fs st fs.length : Int) ≤ aa) : spotE fs ns st aa = (0, 0, false) := spotE_none (spotN_none fun j hj => by
  cases e : hitB fs st aa j with
  | false => rfl
  | true =>
    rw [hit_iff] at e
    have := place_mono (fs := fs) (st := st) (show j + 1 ≤ fs.length by omega)
    rw [place] at this
    omega)
set_option maxHeartbeats 4000000 in
theorem implMapSpot_any (a : Option Addr) (cap : Nat) (fs : List FunD) (na sa : Option Addr) (nc sc : Nat) (ns : List Int) (st : List (List ByteArray)) (aa : Int) (w : World) (wa : (Lit.int .i64 aa).wf = true) (hcap : fs.length ≤ cap) (hcm : cap ≤ maxLen) (h1 : ns.length ≤ nc) (h2 : nc ≤ maxLen) (h3 : st.length ≤ sc) (h4 : sc ≤ maxLen) (hft : FewT st) (hR : FunRow w a fs) (hs : NumRow w na ns) (ho : TextsRow w sa st) :
    Calls Try.prog 22 #[.slice a fs.length cap, .agg #[.slice na ns.length nc, .slice sa st.length sc], .int .i64 aa] w (SpotEnd w (spotE fs ns st aa)) := by
  have HR := hide hR
  have HS := hide hs
  have HO := hide ho
  have hB0 := below_alloc2 w (.cells #[.slice na ns.length nc, .slice sa st.length sc] 34) (.cells #[.int .i64 0, .int .i64 0] 36)
  have hY := new_block (w.alloc (.cells #[.slice na ns.length nc, .slice sa st.length sc] 34)) (.cells #[.int .i64 0, .int .i64 0] 36)
  rw [World.size_alloc] at hY
  have HY := hide hY
  clear hR hs ho hY
  go_enter Try.func22, Try.ntmps22
  go_wp2_with fail
  refine (groundAsLaid_any _ _ _ _ _ _ fs ns st _ hcap hcm h1 h2 h3 h4 hft ((unhide HR).below hB0) ((unhide HS).below hB0) ((unhide HO).below hB0)).mono ?_
  rintro e w1 hge
  obtain ⟨hb1, ⟨hf, rfl⟩ | ⟨hf, na', nc', G, B1, B2, rfl, hG⟩⟩ := ground_ways hge
  · have HE := hide (spotE_none (spotN_form (at_ := aa) hf))
    have hB1 := bl_alloc (bl_trans hB0 hb1) (.cells #[.slice none 0 0, .map none, .map none, .int .i64 0] 100)
    have HY1 := hide (box_below (box_below (unhide HY) hb1) (below_alloc1 _ (.cells #[.slice none 0 0, .map none, .map none, .int .i64 0] 100)))
    have hZ := box4 (new_block w1 (.cells #[.slice none 0 0, .map none, .map none, .int .i64 0] 100))
    clear hge
    go_wp2_with fail
    refine (standing_none aa (.map none) (.map none) none 0 0 0 _ (by omega) (by omega)).mono ?_
    rintro e w2 ⟨rfl, hb2⟩
    have hB2 := bl_alloc (bl_trans hB1 hb2) (.cells #[.int .i64 0, .int .i64 0] 36)
    have hY := box2 (box_below (box_below (unhide HY1) hb2) (below_alloc1 _ (.cells #[.int .i64 0, .int .i64 0] 36)))
    clear hZ
    go_wp2_with fail
    exact bodyPost_ret (v := .tuple #[.agg #[.int .i64 0, .int .i64 0], .bool false]) (by simp [results, Try.results22, go_sem, hY]) rfl (spot_none (unhide HE) hB2 _ _)
  have HL := hide (lying_of hf hft)
  have hpl := (unhide HL).small fs.length (Nat.le_refl _)
  have hkp := (form_parts hf).1
  have hn1 := (keep_parts hkp).1
  have h40 := (keep_parts hkp).2.1
  have HLE := hide (lens_one hkp)
  obtain ⟨k1, k2, k3⟩ := GS.nums hG
  have HOUT := hide (fun h => spotE_out (aa := aa) hf h)
  have HHIT : Hid (∀ q : Nat, q < fs.length → UpTo fs st aa q → (spotQ fs (q : Int) (aa - (place fs st q : Int)) = true → spotE fs ns st aa = ((q : Int), aa - (place fs st q : Int), true)) ∧ (spotQ fs (q : Int) (aa - (place fs st q : Int)) = false → spotE fs ns st aa = (0, 0, false))) := fun q hq hu => by
    have e1 := hu.1
    refine ⟨fun h => ?_, fun h => ?_⟩
    · unfold spotQ at h
      simp only [Bool.and_eq_true, decide_eq_true_iff, Int.toNat_natCast] at h
      exact spotE_some (spotN_some hf hq (hit_iff.2 ⟨e1, by omega⟩))
    · refine spotE_none (upTo_miss hu ?_)
      rcases Int.lt_or_le aa ((place fs st q + lenAt fs q : Nat) : Int) with e | e
      · rw [show spotQ fs (q : Int) (aa - (place fs st q : Int)) = true from by
          unfold spotQ
          simp only [Bool.and_eq_true, decide_eq_true_iff, Int.toNat_natCast]
          exact ⟨⟨⟨by omega, by omega⟩, by omega⟩, by omega⟩] at h
        cases h
      · exact e
  have hB1 := bl_alloc (bl_trans hB0 hb1) (.cells #[.slice na' fs.length nc', .map (some B1), .map (some B2), .int .i64 (place fs st fs.length : Nat)] 100)
  have HY1 := hide (box_below (box_below (unhide HY) hb1) (below_alloc1 _ (.cells #[.slice na' fs.length nc', .map (some B1), .map (some B2), .int .i64 (place fs st fs.length : Nat)] 100)))
  have hZ := box4 (new_block w1 (.cells #[.slice na' fs.length nc', .map (some B1), .map (some B2), .int .i64 (place fs st fs.length : Nat)] 100))
  have HK := hide (k3.below (below_alloc1 w1 (.cells #[.slice na' fs.length nc', .map (some B1), .map (some B2), .int .i64 (place fs st fs.length : Nat)] 100)))
  clear hge hG HY hB0 hb1 k3 hf hkp
  generalize place fs st fs.length = pt at *
  by_cases ho : aa < 0 ∨ (pt : Int) ≤ aa
  · have HE := hide (unhide HOUT ho)
    go_wp2_with fail
    refine (standing_none aa _ _ _ _ _ pt _ ho (by omega)).mono ?_
    rintro e w2 ⟨rfl, hb2⟩
    have hB2 := bl_alloc (bl_trans hB1 hb2) (.cells #[.int .i64 0, .int .i64 0] 36)
    have hY := box2 (box_below (box_below (unhide HY1) hb2) (below_alloc1 _ (.cells #[.int .i64 0, .int .i64 0] 36)))
    clear hZ
    go_wp2_with fail
    exact bodyPost_ret (v := .tuple #[.agg #[.int .i64 0, .int .i64 0], .bool false]) (by simp [results, Try.results22, go_sem, hY]) rfl (spot_none (unhide HE) hB2 _ _)
  go_wp2_with fail
  refine (standing_some aa _ _ _ _ pt fs st _ wa (by omega) (by omega) (by omega) hn1 h40 (unhide HLE) k1 k2 (unhide HK)).mono ?_
  rintro e w2 ⟨⟨q, hq, hu, rfl⟩, hb2⟩
  obtain ⟨hy, hno⟩ := unhide HHIT q hq hu
  have HYES := hide hy
  have HNO := hide hno
  clear hy hno hu
  generalize hz : aa - (place fs st q : Int) = z at *
  clear hz
  have hB2 := bl_alloc (bl_trans hB1 hb2) (.cells #[.int .i64 q, .int .i64 z] 36)
  have HY2 := hide (box_below (box_below (unhide HY1) hb2) (below_alloc1 _ (.cells #[.int .i64 q, .int .i64 z] 36)))
  have HV2 := hide (new_block w2 (.cells #[.int .i64 q, .int .i64 z] 36))
  have hV := box2 (unhide HV2)
  clear hZ hb2 hB1
  cases hs : spotQ fs (q : Int) z
  · have HE := hide (unhide HNO hs)
    go_wp2_with fail
    refine (spotOk_any a cap fs _ _ _ hcap hcm ((unhide HR).below hB2)).mono ?_
    rw [hs]
    rintro e w3 ⟨rfl, hb3⟩
    have hB3 := bl_trans hB2 hb3
    have hY := box2 (box_below (unhide HY2) hb3)
    clear hV
    go_wp2_with fail
    exact bodyPost_ret (v := .tuple #[.agg #[.int .i64 0, .int .i64 0], .bool false]) (by simp [results, Try.results22, go_sem, hY]) rfl (spot_none (unhide HE) hB3 _ _)
  · have HE := hide (unhide HYES hs)
    go_wp2_with fail
    refine (spotOk_any a cap fs _ _ _ hcap hcm ((unhide HR).below hB2)).mono ?_
    rw [hs]
    rintro e w3 ⟨rfl, hb3⟩
    have hB3 := bl_trans hB2 hb3
    have hY := box2 (box_below (unhide HY2) hb3)
    have hV3 := box2 (box_below (unhide HV2) hb3)
    clear hV
    go_wp2_with fail
    exact bodyPost_ret (v := .tuple #[.agg #[.int .i64 q, .int .i64 z], .bool true]) (by simp [results, Try.results22, go_sem, hY]) rfl (spot_some (unhide HE) hB3 _ _)
end Go.Proofs.Ytjbhbkkkjdpamaa.MapK
