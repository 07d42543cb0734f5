/- The contract of the specification's MapSpot. -/
import Derived.Test.YtjbhbkkkjdpamaaGreatDoorMapS
namespace Go.Proofs.YtjbhbkkkjdpamaaGreatDoor.MapT
open Go.ChangeShapes Go.WideShapes Go.ChangeAt Go.RowKit Go.Joins Go.Deep
open Go.Proofs.YtjbhbkkkjdpamaaGreatDoor.Base Go.Proofs.YtjbhbkkkjdpamaaGreatDoor.InsA Go.Proofs.YtjbhbkkkjdpamaaGreatDoor.Funs Go.Proofs.YtjbhbkkkjdpamaaGreatDoor.Open Go.Proofs.YtjbhbkkkjdpamaaGreatDoor.Keep Go.Proofs.YtjbhbkkkjdpamaaGreatDoor.UnitS Go.Proofs.YtjbhbkkkjdpamaaGreatDoor.Refs Go.Proofs.YtjbhbkkkjdpamaaGreatDoor.LayN Go.Proofs.YtjbhbkkkjdpamaaGreatDoor.LayA Go.Proofs.YtjbhbkkkjdpamaaGreatDoor.KeepD Go.Proofs.YtjbhbkkkjdpamaaGreatDoor.KeepA Go.Proofs.YtjbhbkkkjdpamaaGreatDoor.LayD Go.Proofs.YtjbhbkkkjdpamaaGreatDoor.LayS Go.Proofs.YtjbhbkkkjdpamaaGreatDoor.LayT Go.Proofs.YtjbhbkkkjdpamaaGreatDoor.LayU Go.Proofs.YtjbhbkkkjdpamaaGreatDoor.LayV Go.Proofs.YtjbhbkkkjdpamaaGreatDoor.MapD Go.Proofs.YtjbhbkkkjdpamaaGreatDoor.MapA
set_option linter.unusedVariables false
set_option maxRecDepth 100000

def SpotEnd (w : World) (z : Int × Int × Bool) (e : Ending) (w' : World) : Prop := e = .returned (.tuple #[.agg #[.int .i64 z.1, .int .i64 z.2.1], .bool z.2.2]) ∧ Below w.heap.size w w'
theorem below_set2 {w w' : World} {B : Nat} (hB : w.heap.size ≤ B) (h : Below w.heap.size w w') (v0 v1 : Value) : Below w.heap.size w ((w'.setCell ⟨B, 0, none⟩ v0).setCell ⟨B, 1, none⟩ v1) := (h.setCell (by show w.heap.size ≤ B; exact hB) _).setCell (by show w.heap.size ≤ B; exact hB) _
theorem spot_none {w w' : World} {z : Int × Int × Bool} (h : z = (0, 0, false)) (hb : Below w.heap.size w w') (v0 v1 : Value) : SpotEnd w z (.returned (.tuple #[.agg #[.int .i64 0, .int .i64 0], .bool false])) ((w'.setCell ⟨w.heap.size + 1, 0, none⟩ v0).setCell ⟨w.heap.size + 1, 1, none⟩ v1) := by
  subst h
  exact ⟨rfl, below_set2 (by omega) hb _ _⟩
theorem spot_some {w w' : World} {z : Int × Int × Bool} {k p : Int} (h : z = (k, p, true)) (hb : Below w.heap.size w w') (v0 v1 : Value) : SpotEnd w z (.returned (.tuple #[.agg #[.int .i64 k, .int .i64 p], .bool true])) ((w'.setCell ⟨w.heap.size + 1, 0, none⟩ v0).setCell ⟨w.heap.size + 1, 1, none⟩ v1) := by
  subst h
  exact ⟨rfl, below_set2 (by omega) hb _ _⟩
set_option maxHeartbeats 8000000 in
theorem specMapSpot_any (a : Option Addr) (cap : Nat) (fs : List FunD) (na sa : Option Addr) (nc sc : Nat) (ns : List Int) (st : List (List ByteArray)) (aa : Int) (w : World) (wa : (Lit.int .i64 aa).wf = true) (hcap : fs.length ≤ cap) (hcm : cap ≤ maxLen) (h1 : ns.length ≤ nc) (h2 : nc ≤ maxLen) (h3 : st.length ≤ sc) (h4 : sc ≤ maxLen) (hft : FewT st) (hR : FunRow w a fs) (hs : NumRow w na ns) (ho : TextsRow w sa st) :
    Calls Tryz.prog 24 #[.slice a fs.length cap, .agg #[.slice na ns.length nc, .slice sa st.length sc], .int .i64 aa] w (SpotEnd w (spotE fs ns st aa)) := by
  have HR := hide hR
  have HS := hide hs
  have HO := hide ho
  have HFT := hide hft
  have hB0 := below_alloc2 w (.cells #[.slice na ns.length nc, .slice sa st.length sc] 32) (.cells #[.int .i64 0, .int .i64 0] 48)
  have HX := hide (box_below (new_block w (.cells #[.slice na ns.length nc, .slice sa st.length sc] 32)) (below_alloc1 _ (.cells #[.int .i64 0, .int .i64 0] 48)))
  have hY := new_block (w.alloc (.cells #[.slice na ns.length nc, .slice sa st.length sc] 32)) (.cells #[.int .i64 0, .int .i64 0] 48)
  rw [World.size_alloc] at hY
  have HY := hide hY
  have hlf : (fs.length : Int) ≤ 9223372036854775807 := by unfold maxLen at hcm; omega
  have hln : (ns.length : Int) ≤ 9223372036854775807 := by unfold maxLen at h2; omega
  clear hR hs ho hY hft
  go_enter Tryz.func24, Tryz.ntmps24
  go_wp2_with fail
  go_loopw [8] (fun i w' => ∃ k : Nat, k ≤ fs.length ∧ i = .int .i64 k ∧ Hid (∀ j, j < k → hitB fs st aa j = false) ∧ w'.heap[w.heap.size]? = some (.cells #[.slice na ns.length nc, .slice sa st.length sc] 32) ∧ w'.heap[w.heap.size + 1]? = some (.cells #[.int .i64 0, .int .i64 0] 48) ∧ Below w.heap.size w w') (fun i _ => fs.length - (intOf i).toNat)
  case atStart => exact ⟨0, Nat.zero_le _, rfl, fun j h => by omega, unhide HX, unhide HY, hB0⟩
  case round =>
    obtain ⟨k, hk, rfl, HJ, hX, hY, hB⟩ := hrel
    clear HX HY hB0
    have HX := hide hX
    have HY := hide hY
    clear hX hY
    by_cases hkl : k < fs.length
    · have hkl' : (k : Int) < (fs.length : Int) := by omega
      cases hf : formB fs ns st
      · have HE := hide (spotE_none (spotN_form (at_ := aa) hf))
        have hX := box2 (unhide HX)
        go_wp2_with fail
        refine (l7Form_any _ _ _ _ _ _ fs ns st _ hcap hcm h1 h2 h3 h4 (unhide HFT) ((unhide HR).below hB) ((unhide HS).below hB) ((unhide HO).below hB)).mono ?_
        rw [hf]
        rintro e w3 ⟨rfl, hb3⟩
        have hY := box2 (box_below (unhide HY) hb3)
        have hB3 := bl_trans hB hb3
        clear hX
        go_wp2_with fail
        exact bodyPost_ret (v := .tuple #[.agg #[.int .i64 0, .int .i64 0], .bool false]) (by simp [results, Tryz.results24, go_sem, hY]) rfl (spot_none (unhide HE) hB3 _ _)
      · have HL := hide (lying_of hf (unhide HFT))
        have hkn : k < ns.length := by rw [(unhide HL).len]; exact hkl
        have hkn' : (k : Int) < (ns.length : Int) := by omega
        have hk0 : (0 : Int) ≤ (k : Int) := by omega
        have hfl : fs[k].body.length ≤ 10 := (unhide HL).2.1 _ (List.getElem_mem _)
        have hpb := (unhide HL).small k (by omega)
        obtain ⟨b, off, rfl⟩ := (unhide HR).get (by omega)
        obtain ⟨nb, no, rfl⟩ := (unhide HS).get (by omega)
        have HAF : Hid (∀ w', Below w.heap.size w w' → ∃ fi fc, w'.cell? ⟨b, off + k * 3 + 2, none⟩ = some (.slice fi fs[k].body.length fc)) := fun w' hb => by
          obtain ⟨fi, fc, _, _, f2, _⟩ := ((unhide HR).below hb).at hkl
          exact ⟨fi, fc, f2⟩
        have HAN : Hid (∀ w', Below w.heap.size w w' → w'.cell? ⟨nb, no + k, none⟩ = some (.int .i64 (place fs st k : Nat))) := fun w' hb => by
          have n0 := ((unhide HS).below hb).cells hkn
          rw [(unhide HL).at hkn] at n0
          exact n0
        have HIT : Hid ((place fs st k : Int) ≤ aa → aa < (place fs st k : Int) + (fs[k].body.length : Int) → spotE fs ns st aa = ((k : Int), aa - (place fs st k : Int), true)) := fun e1 e2 => spotE_some (spotN_some hf hkl (hit_iff.2 ⟨e1, by rw [lenAt_is hkl]; omega⟩))
        have HMI : Hid (¬ ((place fs st k : Int) ≤ aa ∧ aa < (place fs st k : Int) + (fs[k].body.length : Int)) → ∀ j, j < k + 1 → hitB fs st aa j = false) := fun h j hj => by
          by_cases e : j = k
          · subst e
            cases e2 : hitB fs st aa j with
            | false => rfl
            | true =>
              rw [hit_iff, lenAt_is hkl] at e2
              exact absurd ⟨e2.1, by omega⟩ h
          · exact unhide HJ j (by omega)
        have hX := box2 (unhide HX)
        have hwf := int_wf wa
        generalize fs[k].body.length = m at *
        generalize place fs st k = pl at *
        go_wp2_with fail
        refine (l7Form_any _ _ _ _ _ _ fs ns st _ hcap hcm h1 h2 h3 h4 (unhide HFT) ((unhide HR).below hB) ((unhide HS).below hB) ((unhide HO).below hB)).mono ?_
        rw [hf]
        rintro e w3 ⟨rfl, hb3⟩
        have HX3 := hide (box_below (unhide HX) hb3)
        have HY3 := hide (box_below (unhide HY) hb3)
        have hB3 := bl_trans hB hb3
        clear hX hb3 hf HX HY hB
        have hX := box2 (unhide HX3)
        obtain ⟨fi, fc, f2⟩ := unhide HAF _ hB3
        have n0 := unhide HAN _ hB3
        have hpm : ((pl : Int) + (m : Int)) ≤ 100000000 := by omega
        have hpm0 : 0 ≤ ((pl : Int) + (m : Int)) := by omega
        have hml : (m : Int) ≤ 10 := by omega
        by_cases hg : (pl : Int) ≤ aa
        · have d0 : decide ((pl : Int) ≤ aa) = true := decide_eq_true hg
          by_cases hh : aa < (pl : Int) + (m : Int)
          · have d1 : decide (aa < (pl : Int) + (m : Int)) = true := decide_eq_true hh
            have HE := hide (unhide HIT hg hh)
            have hY := box2 (unhide HY3)
            go_wp2_with fail
            go_quiet (fail)
            go_wp2_with fail
            exact bodyPost_ret (v := .tuple #[.agg #[.int .i64 k, .int .i64 (aa - (pl : Int))], .bool true]) (by simp [results, Tryz.results24, go_sem, hY]) rfl (spot_some (unhide HE) (by first | exact hB3 | exact bl_drewN hB3 _ | exact hB3.drew) _ _)
          · have d1 : decide (aa < (pl : Int) + (m : Int)) = false := decide_eq_false hh
            have HN := hide (unhide HMI (fun e => hh e.2))
            go_wp2_with fail
            go_quiet (fail)
            go_wp2_with fail
            exact ⟨⟨k + 1, by omega, by go_num, unhide HN, by first | exact unhide HX3 | (simp [unhide HX3]), by first | exact unhide HY3 | (simp [unhide HY3]), by first | exact hB3 | exact bl_drewN hB3 _ | exact hB3.drew⟩, by simp [intOf]; omega⟩
        · have d0 : decide ((pl : Int) ≤ aa) = false := decide_eq_false hg
          have HN := hide (unhide HMI (fun e => hg e.1))
          go_wp2_with fail
          go_quiet (fail)
          go_wp2_with fail
          exact ⟨⟨k + 1, by omega, by go_num, unhide HN, by first | exact unhide HX3 | (simp [unhide HX3]), by first | exact unhide HY3 | (simp [unhide HY3]), by first | exact hB3 | exact bl_drewN hB3 _ | exact hB3.drew⟩, by simp [intOf]; omega⟩
    · have hkl' : ¬ (k : Int) < (fs.length : Int) := by omega
      have HE := hide (spotE_none (spotN_none (fs := fs) (ns := ns) (st := st) (at_ := aa) (fun j hj => unhide HJ j (by omega))))
      have hY := box2 (unhide HY)
      go_wp2_with fail
      exact bodyPost_ret (v := .tuple #[.agg #[.int .i64 0, .int .i64 0], .bool false]) (by simp [results, Tryz.results24, go_sem, hY]) rfl (spot_none (unhide HE) hB _ _)
end Go.Proofs.YtjbhbkkkjdpamaaGreatDoor.MapT
