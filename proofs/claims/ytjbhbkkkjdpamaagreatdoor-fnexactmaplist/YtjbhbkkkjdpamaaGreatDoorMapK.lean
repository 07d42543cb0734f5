/- The contracts of the program's standing and MapSpot. -/
import Derived.Test.YtjbhbkkkjdpamaaGreatDoorMapJ
import Derived.Test.YtjbhbkkkjdpamaaGreatDoorMapT
namespace Go.Proofs.YtjbhbkkkjdpamaaGreatDoor.MapK
open Go.ChangeShapes Go.WideShapes Go.ChangeAt Go.RowKit Go.Joins Go.WideMaps Go.Maps Go.Deep
open Go.Proofs.YtjbhbkkkjdpamaaGreatDoor.Base Go.Proofs.YtjbhbkkkjdpamaaGreatDoor.InsA Go.Proofs.YtjbhbkkkjdpamaaGreatDoor.Funs Go.Proofs.YtjbhbkkkjdpamaaGreatDoor.Open Go.Proofs.YtjbhbkkkjdpamaaGreatDoor.FunS Go.Proofs.YtjbhbkkkjdpamaaGreatDoor.Keep Go.Proofs.YtjbhbkkkjdpamaaGreatDoor.UnitS Go.Proofs.YtjbhbkkkjdpamaaGreatDoor.UnitM Go.Proofs.YtjbhbkkkjdpamaaGreatDoor.Refs Go.Proofs.YtjbhbkkkjdpamaaGreatDoor.LayN Go.Proofs.YtjbhbkkkjdpamaaGreatDoor.LayA Go.Proofs.YtjbhbkkkjdpamaaGreatDoor.KeepD Go.Proofs.YtjbhbkkkjdpamaaGreatDoor.KeepA Go.Proofs.YtjbhbkkkjdpamaaGreatDoor.LayD Go.Proofs.YtjbhbkkkjdpamaaGreatDoor.LayS Go.Proofs.YtjbhbkkkjdpamaaGreatDoor.LayT Go.Proofs.YtjbhbkkkjdpamaaGreatDoor.LayG Go.Proofs.YtjbhbkkkjdpamaaGreatDoor.LayH Go.Proofs.YtjbhbkkkjdpamaaGreatDoor.LayJ Go.Proofs.YtjbhbkkkjdpamaaGreatDoor.LayK Go.Proofs.YtjbhbkkkjdpamaaGreatDoor.LayV Go.Proofs.YtjbhbkkkjdpamaaGreatDoor.LayM Go.Proofs.YtjbhbkkkjdpamaaGreatDoor.LayO Go.Proofs.YtjbhbkkkjdpamaaGreatDoor.MapD Go.Proofs.YtjbhbkkkjdpamaaGreatDoor.MapA Go.Proofs.YtjbhbkkkjdpamaaGreatDoor.MapJ Go.Proofs.YtjbhbkkkjdpamaaGreatDoor.MapT
set_option linter.unusedVariables false
set_option maxRecDepth 100000

theorem lens_one {fs : List FunD} (h : keepOkB fs = true) : ∀ i, i < fs.length → 1 ≤ lenAt fs i := fun i hi => by
  have h1 := (keep_parts h).2.2.1 fs[i] (List.getElem_mem _)
  unfold funOkB at h1
  simp only [Bool.and_eq_true, decide_eq_true_iff] at h1
  rw [lenAt_is hi]
  exact h1.1.1.2.1
theorem place_less {fs : List FunD} {st : List (List ByteArray)} (h : ∀ i, i < fs.length → 1 ≤ lenAt fs i) {i j : Nat} (hij : i < j) (hj : j ≤ fs.length) : place fs st i < place fs st j := by
  have h1 := h i (by omega)
  have h2 := place_mono (fs := fs) (st := st) (show i + 1 ≤ j by omega)
  rw [place] at h2
  omega
theorem places_ascend {fs : List FunD} {st : List (List ByteArray)} (h : ∀ i, i < fs.length → 1 ≤ lenAt fs i) : Ascends (placesTo fs st fs.length) := fun i j hi hj hij => by
  rw [placesTo_at hi, placesTo_at hj]
  rw [placesTo_len] at hi hj
  have := place_less (st := st) h hij (by omega)
  omega
theorem upTo_of {fs : List FunD} {st : List (List ByteArray)} {aa k : Int} (h0 : 0 ≤ aa) (h1 : -1 ≤ k) (h2 : k < ((placesTo fs st fs.length).length : Int)) (hn : 1 ≤ fs.length) (h : Halved (placesTo fs st fs.length) aa k (k + 1)) : ∃ q : Nat, k = (q : Int) ∧ q < fs.length ∧ UpTo fs st aa q := by
  have hk0 : 0 ≤ k := by
    rcases Int.lt_or_le k 0 with e | e
    · have hl : 0 < (placesTo fs st fs.length).length := by rw [placesTo_len]; omega
      have := h.2 0 hl (by omega)
      rw [placesTo_at hl] at this
      simp [place] at this
      omega
    · exact e
  obtain ⟨q, rfl⟩ : ∃ q : Nat, k = (q : Int) := ⟨k.toNat, by omega⟩
  rw [placesTo_len] at h2
  refine ⟨q, rfl, by omega, ?_, fun j hj hjl => ?_⟩
  · have hl : q < (placesTo fs st fs.length).length := by rw [placesTo_len]; omega
    have := h.1 q hl (by omega)
    rw [placesTo_at hl] at this
    exact this
  · have hl : j < (placesTo fs st fs.length).length := by rw [placesTo_len]; omega
    have := h.2 j hl (by omega)
    rw [placesTo_at hl] at this
    exact this
/-- What stands at a place, the stones being counted on. -/
def StandEnd (w : World) (fs : List FunD) (st : List (List ByteArray)) (pl : Nat) (aa : Int) (e : Ending) (w' : World) : Prop :=
  Below w.heap.size w w' ∧ (((aa < 0 ∨ (pl : Int) ≤ aa) ∧ e = .returned (.tuple #[.agg #[.int .i64 0, .int .i64 0], .bool false])) ∨ (0 ≤ aa ∧ aa < (pl : Int) ∧ ∃ q : Nat, q < fs.length ∧ UpTo fs st aa q ∧ e = .returned (.tuple #[.agg #[.int .i64 q, .int .i64 (aa - (place fs st q : Int))], .bool true])))
theorem below_two {w w' : World} (h : Below w.heap.size w w') (v0 v1 : Value) : Below w.heap.size w ((w'.setCell ⟨w.heap.size + 1, 0, none⟩ v0).setCell ⟨w.heap.size + 1, 1, none⟩ v1) := below_set2 (by omega) h _ _
set_option maxHeartbeats 4000000 in
theorem standing_none (aa : Int) (g1 g2 : Value) (na : Option Addr) (n nc pl : Nat) (w : World) (h : aa < 0 ∨ (pl : Int) ≤ aa) (hpl : pl ≤ 100000000) :
    Calls Tryz.prog 32 #[.agg #[.slice na n nc, g1, g2, .int .i64 (pl : Int)], .int .i64 aa] w fun e w' => e = .returned (.tuple #[.agg #[.int .i64 0, .int .i64 0], .bool false]) ∧ Below w.heap.size w w' := by
  have hB0 := below_alloc2 w (.cells #[.slice na n nc, g1, g2, .int .i64 (pl : Int)] 69) (.cells #[.int .i64 0, .int .i64 0] 48)
  have hX := box4 (box_below (new_block w (.cells #[.slice na n nc, g1, g2, .int .i64 (pl : Int)] 69)) (below_alloc1 _ (.cells #[.int .i64 0, .int .i64 0] 48)))
  have hY := new_block (w.alloc (.cells #[.slice na n nc, g1, g2, .int .i64 (pl : Int)] 69)) (.cells #[.int .i64 0, .int .i64 0] 48)
  rw [World.size_alloc] at hY
  replace hY := box2 hY
  by_cases h0 : aa < 0
  · go_enter Tryz.func32, Tryz.ntmps32
    go_wp2_with fail
    exact bodyPost_ret (v := .tuple #[.agg #[.int .i64 0, .int .i64 0], .bool false]) (by simp [results, Tryz.results32, go_sem, hY]) rfl ⟨rfl, hB0⟩
  · have h1 : (pl : Int) ≤ aa := h.elim (fun e => absurd e h0) id
    go_enter Tryz.func32, Tryz.ntmps32
    go_wp2_with fail
    exact bodyPost_ret (v := .tuple #[.agg #[.int .i64 0, .int .i64 0], .bool false]) (by simp [results, Tryz.results32, go_sem, hY]) rfl ⟨rfl, hB0⟩
set_option maxHeartbeats 4000000 in
theorem standing_some (aa : Int) (g1 g2 : Value) (na : Option Addr) (nc pl : Nat) (fs : List FunD) (st : List (List ByteArray)) (w : World) (wa : (Lit.int .i64 aa).wf = true) (h0 : 0 ≤ aa) (h1 : aa < (pl : Int)) (hpl : pl ≤ 100000000) (hn : 1 ≤ fs.length) (h40 : fs.length ≤ 40) (hle : ∀ i, i < fs.length → 1 ≤ lenAt fs i) (hcap : fs.length ≤ nc) (hcm : nc ≤ maxLen) (hK : NumRow w na (placesTo fs st fs.length)) :
    Calls Tryz.prog 32 #[.agg #[.slice na fs.length nc, g1, g2, .int .i64 (pl : Int)], .int .i64 aa] w fun e w' => (∃ q : Nat, q < fs.length ∧ UpTo fs st aa q ∧ e = .returned (.tuple #[.agg #[.int .i64 q, .int .i64 (aa - (place fs st q : Int))], .bool true])) ∧ Below w.heap.size w w' := by
  have hB0 := below_alloc2 w (.cells #[.slice na fs.length nc, g1, g2, .int .i64 (pl : Int)] 69) (.cells #[.int .i64 0, .int .i64 0] 48)
  have HX := hide (box_below (new_block w (.cells #[.slice na fs.length nc, g1, g2, .int .i64 (pl : Int)] 69)) (below_alloc1 _ (.cells #[.int .i64 0, .int .i64 0] 48)))
  have hY := new_block (w.alloc (.cells #[.slice na fs.length nc, g1, g2, .int .i64 (pl : Int)] 69)) (.cells #[.int .i64 0, .int .i64 0] 48)
  rw [World.size_alloc] at hY
  have HY := hide hY
  have HK := hide hK
  have HL := hide hle
  have HU := hide (fun (b : Nat) => hcap)
  have hX := box4 (unhide HX)
  have HC := hide (fun w' (h : NumRow w' na (placesTo fs st fs.length)) => lastUpTo_any na nc (placesTo fs st fs.length) aa w' wa (by rw [placesTo_len]; exact hcap) (by rw [placesTo_len]; omega) hcm (places_ascend (unhide HL)) h)
  rw [placesTo_len] at HC
  clear hY hK hle
  go_enter Tryz.func32, Tryz.ntmps32
  go_wp2_with fail
  refine (unhide HC _ ((unhide HK).below hB0)).mono ?_
  rintro e w1 ⟨⟨k, k1, k2, rfl, hH⟩, hb1⟩
  have hB1 := bl_trans hB0 hb1
  have HX1 := hide (box_below (unhide HX) hb1)
  have HY1 := hide (box_below (unhide HY) hb1)
  obtain ⟨q, rfl, hq, hU⟩ := upTo_of (fs := fs) (st := st) h0 k1 (by rw [placesTo_len]; exact k2) hn hH
  have HQ := hide hU
  have hkp : q < (placesTo fs st fs.length).length := by rw [placesTo_len]; exact hq
  obtain ⟨gb, go', rfl⟩ := (unhide HK).get (by omega)
  have g0 := ((unhide HK).below hB1).cells hkp
  rw [placesTo_at hkp] at g0
  have hpq : (place fs st q : Int) ≤ aa := hU.1
  have hq' : (q : Int) < (fs.length : Int) := by omega
  have hq0 : (0 : Int) ≤ (q : Int) := by omega
  have hlf : (fs.length : Int) ≤ 9223372036854775807 := by omega
  clear hX hH hkp hU HC k1 k2
  have hX := box4 (unhide HX1)
  have hY := box2 (unhide HY1)
  generalize hp : place fs st q = p0 at *
  have HP := hide hp
  clear hp
  go_wp2_with fail
  exact bodyPost_ret (v := .tuple #[.agg #[.int .i64 q, .int .i64 (aa - (p0 : Int))], .bool true]) (by simp [results, Tryz.results32, go_sem, hY]) rfl ⟨⟨q, hq, unhide HQ, by rw [unhide HP]⟩, below_two hB1 _ _⟩
end Go.Proofs.YtjbhbkkkjdpamaaGreatDoor.MapK
