/- For every slice of bytes the law FnMap answers true, and the bytes read afterwards as they did. No condition. -/
import Derived.Test.YtjbhbkkkjdpamaaGreatPk3b7a8e77
import Derived.WalkKit
import Derived.ProofKit
import Derived.OpenShut
import Derived.ShutString
import Derived.ChangeOld
import Derived.Below
import Derived.Lib.SmallJoins
import Derived.Deep.DeepCutAuto
import Derived.Laws.StructEq
import Derived.Test.YtjbhbkkkjdpamaaGreatFuns
import Derived.Test.YtjbhbkkkjdpamaaGreatPkd23f725c
import Derived.Test.YtjbhbkkkjdpamaaGreatPkbd957d2b
import Derived.Test.YtjbhbkkkjdpamaaGreatRefs
import Derived.Test.YtjbhbkkkjdpamaaGreatLayN
import Derived.Test.YtjbhbkkkjdpamaaGreatLayA
import Derived.Test.YtjbhbkkkjdpamaaGreatLayB
import Derived.Test.YtjbhbkkkjdpamaaGreatPk3b5fe753
import Derived.Test.YtjbhbkkkjdpamaaGreatPkfad6cd44
import Derived.Test.YtjbhbkkkjdpamaaGreatLayD
import Derived.Test.YtjbhbkkkjdpamaaGreatLayS
import Derived.Test.YtjbhbkkkjdpamaaGreatLayT
import Derived.Test.YtjbhbkkkjdpamaaGreatPke34f4da7
import Derived.Test.YtjbhbkkkjdpamaaGreatPk1e662b72
import Derived.Test.YtjbhbkkkjdpamaaGreatPk6dbd2828
import Derived.Test.YtjbhbkkkjdpamaaGreatPkd8868971
import Derived.Test.YtjbhbkkkjdpamaaGreatMapK
import Derived.Test.YtjbhbkkkjdpamaaGreatRd
import Derived.Test.YtjbhbkkkjdpamaaGreatPkc600f0e5
import Derived.Test.YtjbhbkkkjdpamaaGreatDrawM
import Derived.Test.YtjbhbkkkjdpamaaGreatDrawT
namespace Go.Proofs.YtjbhbkkkjdpamaaGreat.fnMap
open Go.ChangeShapes Go.WideShapes Go.ChangeAt Go.RowKit Go.Joins
open Go.ChangeMaps (open_string shut_string)
open Go.Proofs.YtjbhbkkkjdpamaaGreat.Base
open Go.Proofs.YtjbhbkkkjdpamaaGreat.Funs
open Go.Proofs.YtjbhbkkkjdpamaaGreat.Open
open Go.Proofs.YtjbhbkkkjdpamaaGreat.Keep
open Go.Proofs.YtjbhbkkkjdpamaaGreat.UnitS
open Go.Proofs.YtjbhbkkkjdpamaaGreat.Refs
open Go.Proofs.YtjbhbkkkjdpamaaGreat.LayN
open Go.Proofs.YtjbhbkkkjdpamaaGreat.LayA
open Go.Proofs.YtjbhbkkkjdpamaaGreat.LayB
open Go.Proofs.YtjbhbkkkjdpamaaGreat.KeepA
open Go.Proofs.YtjbhbkkkjdpamaaGreat.KeepD
open Go.Proofs.YtjbhbkkkjdpamaaGreat.LayD
open Go.Proofs.YtjbhbkkkjdpamaaGreat.LayS
open Go.Proofs.YtjbhbkkkjdpamaaGreat.LayT
open Go.Proofs.YtjbhbkkkjdpamaaGreat.LayV
open Go.Proofs.YtjbhbkkkjdpamaaGreat.LayO
open Go.Proofs.YtjbhbkkkjdpamaaGreat.MapD
open Go.Proofs.YtjbhbkkkjdpamaaGreat.MapA
open Go.Proofs.YtjbhbkkkjdpamaaGreat.MapS
open Go.Proofs.YtjbhbkkkjdpamaaGreat.MapI
open Go.Proofs.YtjbhbkkkjdpamaaGreat.MapJ
open Go.Proofs.YtjbhbkkkjdpamaaGreat.MapT
open Go.Proofs.YtjbhbkkkjdpamaaGreat.MapK
open Go.Proofs.YtjbhbkkkjdpamaaGreat.Rd
open Go.Proofs.YtjbhbkkkjdpamaaGreat.DrawO
open Go.Proofs.YtjbhbkkkjdpamaaGreat.DrawM
open Go.Proofs.YtjbhbkkkjdpamaaGreat.DrawT
set_option linter.unusedVariables false
set_option maxRecDepth 100000
theorem own : ownKnob Tryz.prog.godebug = none := by kernel_rfl
theorem laidOut : laidOutB Tryz.prog = true := by kernel_rfl

theorem wf_small {x : Int} (h0 : -1000000000 ≤ x) (h1 : x ≤ 1000000000) : (Lit.int .i64 x).wf = true := by
  unfold Lit.wf
  rw [Bool.and_eq_true, decide_eq_true_iff, decide_eq_true_iff]
  exact ⟨by show -9223372036854775808 ≤ x; omega, by show x ≤ 9223372036854775807; omega⟩
theorem ml {n : Nat} (h : n ≤ 1048576) : n ≤ maxLen := by unfold maxLen; omega
/-- How many of the first places no instruction stands at. -/
def cntS (fs : List FunD) (ns : List Int) (st : List (List ByteArray)) (i : Nat) : Nat := ((List.range i).filter (fun (j : Nat) => (spotN fs ns st (j : Int)).isNone)).length
theorem cnt_none {fs : List FunD} {ns : List Int} {st : List (List ByteArray)} {i : Nat} (h : spotN fs ns st (i : Int) = none) : cntS fs ns st (i + 1) = cntS fs ns st i + 1 := by simp [cntS, List.range_succ, h]
theorem cnt_some {fs : List FunD} {ns : List Int} {st : List (List ByteArray)} {i k : Nat} (h : spotN fs ns st (i : Int) = some k) : cntS fs ns st (i + 1) = cntS fs ns st i := by simp [cntS, List.range_succ, h]
theorem cnt_body {fs : List FunD} {ns : List Int} {st : List (List ByteArray)} (hf : formB fs ns st = true) {k : Nat} (hk : k < fs.length) : ∀ m, m ≤ lenAt fs k → cntS fs ns st (place fs st k + m) = cntS fs ns st (place fs st k)
  | 0, _ => rfl
  | m + 1, hm => by
    rw [← Nat.add_assoc, cnt_some (spotN_some hf hk (hit_iff.2 ⟨by omega, by omega⟩)), cnt_body hf hk m (by omega)]
theorem cnt_stones {fs : List FunD} {ns : List Int} {st : List (List ByteArray)} (hf : formB fs ns st = true) {k : Nat} (hk : k < fs.length) : ∀ m, m ≤ (stAt st k).length → cntS fs ns st (place fs st k + lenAt fs k + m) = cntS fs ns st (place fs st k) + m
  | 0, _ => cnt_body hf hk _ (Nat.le_refl _)
  | m + 1, hm => by
    have hu : UpTo fs st ((place fs st k + lenAt fs k + m : Nat) : Int) k := ⟨by omega, fun j h1 h2 => by
      have := place_mono (fs := fs) (st := st) (show k + 1 ≤ j by omega)
      rw [place] at this
      omega⟩
    rw [← Nat.add_assoc, cnt_none (upTo_miss hu (by omega)), cnt_stones hf hk m (by omega)]
    omega
theorem cnt_place {fs : List FunD} {ns : List Int} {st : List (List ByteArray)} (hf : formB fs ns st = true) : ∀ k, k ≤ fs.length → cntS fs ns st (place fs st k) = manyTo st k
  | 0, _ => rfl
  | k + 1, hk => by
    rw [place, cnt_stones hf (by omega) _ (Nat.le_refl _), cnt_place hf k (by omega)]
    rfl
theorem spot_back {fs : List FunD} {ns : List Int} {st : List (List ByteArray)} {aa : Int} {k : Nat} (h : spotN fs ns st aa = some k) : mapAtI fs ns st (k : Int) (aa - (place fs st k : Int)) = aa := by
  obtain ⟨hf, hk, hh⟩ := spotN_facts h
  rw [hit_iff] at hh
  have hs : spotQ fs (k : Int) (aa - (place fs st k : Int)) = true := by
    unfold spotQ
    simp only [Bool.and_eq_true, decide_eq_true_iff, Int.toNat_natCast]
    exact ⟨⟨⟨by omega, by omega⟩, by omega⟩, by omega⟩
  unfold mapAtI
  rw [hf, hs]
  simp
  omega
theorem spot_in {fs : List FunD} {ns : List Int} {st : List (List ByteArray)} {aa : Int} {k : Nat} (h : spotN fs ns st aa = some k) : 0 ≤ aa ∧ aa < (place fs st fs.length : Int) := by
  obtain ⟨hf, hk, hh⟩ := spotN_facts h
  rw [hit_iff] at hh
  have := place_mono (fs := fs) (st := st) (show k + 1 ≤ fs.length by omega)
  rw [place] at this
  omega
/-- What MapSpot answers at a place, and MapAt of it. -/
theorem spot_ways (fs : List FunD) (ns : List Int) (st : List (List ByteArray)) (aa : Int) : (spotN fs ns st aa = none ∧ spotE fs ns st aa = (0, 0, false)) ∨ ∃ x y : Int, (spotN fs ns st aa).isNone = false ∧ spotE fs ns st aa = (x, y, true) ∧ mapAtI fs ns st x y = aa ∧ 0 ≤ aa ∧ aa < (place fs st fs.length : Int) := by
  cases h : spotN fs ns st aa with
  | none => exact .inl ⟨rfl, spotE_none h⟩
  | some k => exact .inr ⟨_, _, rfl, spotE_some h, spot_back h, (spot_in h).1, (spot_in h).2⟩
theorem cnt_yes {fs : List FunD} {ns : List Int} {st : List (List ByteArray)} {i : Nat} (h : (spotN fs ns st (i : Int)).isNone = false) : cntS fs ns st (i + 1) = cntS fs ns st i := by
  cases h2 : spotN fs ns st (i : Int) with
  | none => rw [h2] at h; cases h
  | some k => exact cnt_some h2
theorem cnt_le (fs : List FunD) (ns : List Int) (st : List (List ByteArray)) (i : Nat) : cntS fs ns st i ≤ i := by
  unfold cntS
  exact Nat.le_trans (List.length_filter_le _ _) (by simp)
set_option maxHeartbeats 8000000 in
theorem walk (a0 : Option Addr) (len cap0 : Nat) (bs : List Int) (W : World) (hrow : IsRow .u8 W a0 len cap0 bs) :
    Calls Tryz.prog 3 #[.slice a0 len cap0] W fun e w' => e = .returned (.bool true) ∧ Below W.heap.size W w' := by
  obtain ⟨hl, hm, hb⟩ := isRow_bytes hrow
  by_cases hlt : (1048576 : Int) < len
  · go_enter Tryz.func3, Tryz.ntmps3
    go_wp2
    go_ret
    exact ⟨rfl, Below.refl _ _⟩
  have Hb := hide hb
  clear hb hrow
  go_enter Tryz.func3, Tryz.ntmps3
  go_wp2_with fail
  refine (drawMapSpot_any _ _ _ _ hl hm (unhide Hb)).mono ?_
  rintro e w1 ⟨a, cap, fs, na, sa, nc, sc, zs, st, aa, rfl, q1, q2, hM⟩
  have hbA := below_alloc1 w1 (.cells #[.slice na zs.length nc, .slice sa st.length sc] 27)
  have HST : Hid (Stable (fun w' => w'.heap[w1.heap.size]? = some (.cells #[.slice na zs.length nc, .slice sa st.length sc] 27) ∧ FunRow w' a fs ∧ NumRow w' na zs ∧ TextsRow w' sa st ∧ Below W.heap.size W w')) := ((Stable.box _ _).and ((Stable.frow a fs).and ((Stable.nrow na zs).and ((Stable.tsrow sa st).and (Stable.below W)))))
  have HS : Hid ((fun w' => w'.heap[w1.heap.size]? = some (.cells #[.slice na zs.length nc, .slice sa st.length sc] 27) ∧ FunRow w' a fs ∧ NumRow w' na zs ∧ TextsRow w' sa st ∧ Below W.heap.size W w') (w1.alloc (.cells #[.slice na zs.length nc, .slice sa st.length sc] 27))) := ⟨new_block w1 (.cells #[.slice na zs.length nc, .slice sa st.length sc] 27), hM.fr.below hbA, hM.nr.below hbA, hM.tr.below hbA, bl_trans hM.bw hbA⟩
  have HFT := hide hM.tm.few
  have c1 := hM.h1
  have c2 := hM.h2
  have d1 := hM.n1
  have d2 := hM.n2
  have d3 := hM.s1
  have d4 := hM.s2
  clear hM hbA
  have HIS := hide (fun (aa : Int) (h0 : -1000000000 ≤ aa) (h9 : aa ≤ 1000000000) w' h1 h2 h3 => implMapSpot_any a cap fs na sa nc sc zs st aa w' (wf_small h0 h9) c1 c2 d1 d2 d3 d4 (unhide HFT) h1 h2 h3)
  have HSS := hide (fun w' h1 h2 h3 => specMapSpot_any a cap fs na sa nc sc zs st aa w' (wf_small (by omega) (by omega)) c1 c2 d1 d2 d3 d4 (unhide HFT) h1 h2 h3)
  have HIA := hide (fun (ff pp : Int) w' h1 h2 h3 => implMapAt_any a cap fs na sa nc sc zs st ff pp w' c1 c2 d1 d2 d3 d4 (unhide HFT) h1 h2 h3)
  have HLS := hide (fun w' h1 h2 h3 => implLaySize_any a cap fs na sa nc sc zs st w' c1 c2 d1 d2 d3 d4 (unhide HFT) h1 h2 h3)
  have HLM := hide (fun w' h3 => implMany_any na sa zs.length nc sc st w' (unhide HFT) d3 d4 h3)
  obtain ⟨z1, z2, z3, hz⟩ : ∃ z1 z2 z3, spotE fs zs st aa = (z1, z2, z3) := ⟨_, _, _, rfl⟩
  have hIS := fun w' => unhide HIS aa (by omega) (by omega) w'
  rw [hz] at hIS HSS
  have HI1 := hide hIS
  have HZE := hide hz
  clear hz hIS
  have hX := box2 (unhide HS).1
  go_wp2_with fail
  refine (unhide HI1 _ (unhide HS).2.1 (unhide HS).2.2.1 (unhide HS).2.2.2.1).mono ?_
  rintro e w2 ⟨rfl, hb2⟩
  have hb2' := bl_trans hb2 (below_alloc1 w2 (.cells #[.int .i64 z1, .int .i64 z2] 31))
  have HP := hide (new_block w2 (.cells #[.int .i64 z1, .int .i64 z2] 31))
  replace HS := hide ((unhide HST).1 _ _ hb2' (unhide HS))
  clear hX hb2 hb2' HI1
  have hX := box2 (unhide HS).1
  go_wp2_with fail
  refine (unhide HSS _ (unhide HS).2.1 (unhide HS).2.2.1 (unhide HS).2.2.2.1).mono ?_
  rintro e w3 ⟨rfl, hb3⟩
  have hb3' := bl_trans hb3 (below_alloc1 w3 (.cells #[.int .i64 z1, .int .i64 z2] 31))
  have hQ := box2 (new_block w3 (.cells #[.int .i64 z1, .int .i64 z2] 31))
  replace HS := hide ((unhide HST).1 _ _ hb3' (unhide HS))
  replace HP := hide (box_below (unhide HP) hb3')
  clear hX hb3 hb3' HSS
  have hX := box2 (unhide HS).1
  have hP := box2 (unhide HP)
  obtain ⟨zz, hzz⟩ : ∃ zz, sizeI fs zs st = zz := ⟨_, rfl⟩
  rw [hzz] at HLS
  have HZZ := hide hzz
  clear hzz
  go_wp2_with fail
  refine (unhide HLS _ (unhide HS).2.1 (unhide HS).2.2.1 (unhide HS).2.2.2.1).mono ?_
  rintro e w4 ⟨rfl, hb4⟩
  replace HS := hide ((unhide HST).1 _ _ hb4 (unhide HS))
  replace HP := hide (box_below (unhide HP) hb4)
  clear hX hP hQ hb4 HLS
  by_cases h0 : (zz == 0) = true
  · have hz3 : z3 = false := by
      have hf : formB fs zs st = false := by
        cases hf : formB fs zs st
        · rfl
        · have hz := unhide HZZ
          rw [size_yes hf] at hz
          have hk := (form_parts hf).1
          have := place_less (st := st) (lens_one hk) (show 0 < fs.length by have := (keep_parts hk).1; omega) (Nat.le_refl _)
          have : zz = 0 := by simpa using h0
          omega
      have h := unhide HZE
      rw [spotE_none (spotN_form hf)] at h
      simp only [Prod.mk.injEq] at h
      exact h.2.2.symm
    subst hz3
    have hB := (unhide HS).2.2.2.2
    go_wp2_with fail
    go_ret
    exact ⟨rfl, hB⟩
  have h0f : (zz == 0) = false := by simpa using h0
  have hf : formB fs zs st = true := by
    cases hf : formB fs zs st
    · have hz := unhide HZZ
      rw [size_no hf] at hz
      subst hz
      exact absurd rfl h0
    · rfl
  have HL := hide (lying_of hf (unhide HFT))
  have hsm := (unhide HL).small fs.length (Nat.le_refl _)
  obtain ⟨n, rfl, HNE⟩ : ∃ n : Nat, zz = (n : Int) ∧ Hid (n = place fs st fs.length) := ⟨_, by rw [← unhide HZZ]; exact size_yes hf, rfl⟩
  have hnb : n ≤ 42000000 := by have := unhide HNE; omega
  have HCN : Hid (cntS fs zs st n = manyN st) := by
    show _ = _
    rw [unhide HNE, cnt_place hf _ (Nat.le_refl _), ← (unhide HL).2.2.1]
    rfl
  have HWY := hide (spot_ways fs zs st)
  have hW0 := unhide HWY aa
  rw [unhide HZE] at hW0
  simp only [Prod.mk.injEq] at hW0
  have HW0 := hide hW0
  clear h0 hf HZZ hW0 hsm
  go_upto_region 11 with fail
  go_cut [61] (fun v wx => v = .bool false ∧ (fun w' => w'.heap[w1.heap.size]? = some (.cells #[.slice na zs.length nc, .slice sa st.length sc] 27) ∧ FunRow w' a fs ∧ NumRow w' na zs ∧ TextsRow w' sa st ∧ Below W.heap.size W w') wx)
  case first =>
    have hX := box2 (unhide HS).1
    have hP := box2 (unhide HP)
    rcases unhide HW0 with ⟨_, rfl, rfl, rfl⟩ | ⟨x, y, _, ⟨rfl, rfl, rfl⟩, hma, _⟩
    · go_wp2_with fail
      go_meet
      exact ⟨rfl, unhide HS⟩
    · have hIA := unhide HIA z1 z2
      rw [hma] at hIA
      clear hma
      go_wp2_with fail
      refine (hIA _ (unhide HS).2.1 (unhide HS).2.2.1 (unhide HS).2.2.2.1).mono ?_
      rintro e w5 ⟨rfl, hb5⟩
      have hS5 := (unhide HST).1 _ _ hb5 (unhide HS)
      clear hX hP hb5
      go_wp2_with fail
      go_meet
      exact ⟨rfl, hS5⟩
  case rest =>
    obtain ⟨rfl, hS5⟩ := hcut
    replace HS := hide hS5
    clear hS5 HP
    go_wp2_with fail
    go_loopw [11, 12] (fun c i w' => ∃ (k m : Nat), k ≤ n ∧ i = .int .i64 k ∧ c = .int .i64 m ∧ Hid (m = cntS fs zs st k) ∧ m ≤ k ∧ Hid ((fun w' => w'.heap[w1.heap.size]? = some (.cells #[.slice na zs.length nc, .slice sa st.length sc] 27) ∧ FunRow w' a fs ∧ NumRow w' na zs ∧ TextsRow w' sa st ∧ Below W.heap.size W w') w')) (fun _ i _ => n - (intOf i).toNat)
    case atStart => exact ⟨0, 0, Nat.zero_le _, rfl, rfl, rfl, Nat.le_refl _, HS⟩
    case round =>
      obtain ⟨k, m, hk, rfl, rfl, HM, hmk, HS7⟩ := hrel
      clear HS
      have hX := box2 (unhide HS7).1
      by_cases hkl : k < n
      · have hkl' : (k : Int) < (n : Int) := by omega
        have hI7 := fun w' => unhide HIS (k : Int) (by omega) (by omega) w'
        rcases unhide HWY (k : Int) with ⟨hno, hE⟩ | ⟨x, y, hno, hE, hma, _⟩
        · have HC := hide (cnt_none hno)
          rw [hE] at hI7
          clear hE hno
          go_wp2_with fail
          refine (hI7 _ (unhide HS7).2.1 (unhide HS7).2.2.1 (unhide HS7).2.2.2.1).mono ?_
          rintro e w8 ⟨rfl, hb8⟩
          have hb8' := bl_trans hb8 (below_alloc1 w8 (.cells #[.int .i64 0, .int .i64 0] 31))
          have HS8 := hide ((unhide HST).1 _ _ hb8' (unhide HS7))
          clear hX hb8 hb8' hI7
          go_wp2_with fail
          exact ⟨⟨k + 1, m + 1, by omega, by go_num, by go_num, by show _ = _; rw [unhide HC, ← unhide HM], by omega, HS8⟩, by simp [intOf]; omega⟩
        · have HC := hide (cnt_yes hno)
          rw [hE] at hI7
          have hIA := unhide HIA x y
          rw [hma] at hIA
          clear hE hno hma
          go_wp2_with fail
          refine (hI7 _ (unhide HS7).2.1 (unhide HS7).2.2.1 (unhide HS7).2.2.2.1).mono ?_
          rintro e w8 ⟨rfl, hb8⟩
          have hb8' := bl_trans hb8 (below_alloc1 w8 (.cells #[.int .i64 x, .int .i64 y] 31))
          have hV := box2 (new_block w8 (.cells #[.int .i64 x, .int .i64 y] 31))
          have HS8 := hide ((unhide HST).1 _ _ hb8' (unhide HS7))
          clear hX hb8 hb8' hI7 HS7
          have hX := box2 (unhide HS8).1
          go_wp2_with fail
          refine (hIA _ (unhide HS8).2.1 (unhide HS8).2.2.1 (unhide HS8).2.2.2.1).mono ?_
          rintro e w9 ⟨rfl, hb9⟩
          have HS9 := hide ((unhide HST).1 _ _ hb9 (unhide HS8))
          clear hX hV hb9 hIA HS8
          go_wp2_with fail
          exact ⟨⟨k + 1, m, by omega, by go_num, rfl, by show _ = _; rw [unhide HC, ← unhide HM], by omega, HS9⟩, by simp [intOf]; omega⟩
      · have hkl' : ¬ (k : Int) < (n : Int) := by omega
        have hmm : m = manyN st := by rw [unhide HM, ← unhide HCN, show k = n by omega]
        subst hmm
        have hms : manyN st ≤ 100000000 := by omega
        have hLM := unhide HLM
        generalize manyN st = mm at *
        rcases unhide HW0 with ⟨_, rfl, rfl, rfl⟩ | ⟨x, y, _, ⟨rfl, rfl, rfl⟩, _, ha0, ha1⟩
        · by_cases ha : 0 ≤ aa
          · by_cases hb : aa < (n : Int)
            · go_wp2_with fail
              refine (hLM _ (unhide HS7).2.2.2.1).mono ?_
              rintro e w9 ⟨rfl, hb9⟩
              have hB9 := ((unhide HST).1 _ _ hb9 (unhide HS7)).2.2.2.2
              clear hX hb9
              go_wp2_with fail
              go_ret
              exact ⟨rfl, hB9⟩
            · go_wp2_with fail
              refine (hLM _ (unhide HS7).2.2.2.1).mono ?_
              rintro e w9 ⟨rfl, hb9⟩
              have hB9 := ((unhide HST).1 _ _ hb9 (unhide HS7)).2.2.2.2
              clear hX hb9
              go_wp2_with fail
              go_ret
              exact ⟨rfl, hB9⟩
          · go_wp2_with fail
            refine (hLM _ (unhide HS7).2.2.2.1).mono ?_
            rintro e w9 ⟨rfl, hb9⟩
            have hB9 := ((unhide HST).1 _ _ hb9 (unhide HS7)).2.2.2.2
            clear hX hb9
            go_wp2_with fail
            go_ret
            exact ⟨rfl, hB9⟩
        · have ha1' : aa < (n : Int) := by have := unhide HNE; omega
          clear ha1
          go_wp2_with fail
          refine (hLM _ (unhide HS7).2.2.2.1).mono ?_
          rintro e w9 ⟨rfl, hb9⟩
          have hB9 := ((unhide HST).1 _ _ hb9 (unhide HS7)).2.2.2.2
          clear hX hb9
          go_wp2_with fail
          go_ret
          exact ⟨rfl, hB9⟩

set_option maxRecDepth 100000 in
theorem lifted (os : Os) (started : os.Started) (H : Type) (enc : TypeId × Value → H) :
    ReturnsInHanded {} Tryz.checked os 3 .any (Rows.fnMapSpec.pre6 enc Tryz.prog Tryz.f3 Rows.fnMapRow.domain false) (Rows.fnMapSpec.post enc Tryz.prog Tryz.f3 false true false false) := by
  refine returnsInHanded_of_change (C := Tryz.checked) own started (by kernel_rfl) Tryz.func3
    (ChangeSpec.witness6 (enc := enc) (C := Tryz.checked) false ⟨#[], #[.slice none 0 0], []⟩ 8 (by kernel_rfl) (by kernel_rfl) (by kernel_rfl) (by kernel_rfl)) ?_
  intro W base args ds gs before hval0 hW hcnd _
  have hval : ∀ (j : Nat) t v, Tryz.f3.params[j]? = some t → args[j]? = some v → Value.okWide Tryz.prog W .any base t v := hval0
  have hW' := hW
  obtain ⟨p, q, hA0, hV, rfl, hfz, hnd⟩ := hW
  have hA : DataW.TrodAll enc Tryz.prog W 0 (fun _ => true) true Tryz.f3.params.toList args.toList ds p := hA0
  rw [Tryz.params3] at hA hval
  obtain ⟨v0, vs0, d0, ds0, p0, q0, hargs, rfl, rfl, h0, r0⟩ := trodAll_cons hA
  obtain ⟨rfl, rfl, rfl⟩ := trodAll_nil r0
  obtain rfl : args = #[v0] := by cases args; simp_all
  obtain ⟨rfl, rfl⟩ := trodVars_none hV
  have k0 := h0
  have lt0 : ∀ x ∈ p0, x.block < W.heap.size := by obtain ⟨m, hm⟩ := k0; exact DataW.trod_lt m _ _ _ hm
  obtain ⟨a0, len0, cap0, hv0⟩ := okWide_slice Tryz.underlying22 (hval 0 22 v0 rfl rfl)
  obtain ⟨z0, w0⟩ : ∃ zs, IsRow .u8 W a0 len0 cap0 zs := by
    subst hv0
    obtain ⟨fuel, hf⟩ := h0
    rcases open_ints Tryz.underlying22 Tryz.underlying5 (by kernel_rfl) hf with ⟨hcs, _⟩ | ⟨x, l, c, zs, hcs, _, hl, hm, hz, _, hcell, hwz⟩
    · simp [Value.cells] at hcs
      obtain ⟨rfl, rfl, rfl⟩ := hcs
      exact ⟨[], .inl ⟨rfl, rfl, rfl, rfl⟩⟩
    · simp [Value.cells] at hcs
      obtain ⟨rfl, rfl, rfl⟩ := hcs
      exact ⟨zs, .inr ⟨_, rfl, hl, hm, by simpa using hz, hcell, hwz⟩⟩
  clear hA0 hval0
  subst hv0
  refine (walk a0 len0 cap0 z0 W w0).mono fun e W' ⟨he, bel⟩ => ?_
  subst he
  exact ⟨_, rfl, _, _, _, [], _, [], hW', trodAll_mk1 (shut_bool Tryz.underlying4 _), (trodAll_cons_mk (Below.trod laidOut (by kernel_rfl) (of_decide_eq_true (by kernel_rfl)) k0 bel lt0) trodAll_mk0), rfl, bel.frame _, fun h => by cases h⟩

theorem proved : Rows.FnMapSaid :=
  OpenClaim.holds_of_wide 3 Tryz.f3 rfl rfl rfl rfl rfl rfl rfl ⟨rfl, rfl, rfl, rfl, rfl⟩ rfl rfl rfl rfl rfl (by kernel_rfl) Tryz.func3 (by kernel_rfl)
    (of_decide_eq_true (by kernel_rfl)) (by unfold Func.isWrapper; first | (rw [if_pos (by decide +kernel)]; kernel_rfl) | (rw [if_neg (by decide +kernel)]; exact ⟨rfl, rfl⟩))
    (fun os started H enc _ => lifted os started H enc)
#print axioms proved
end Go.Proofs.YtjbhbkkkjdpamaaGreat.fnMap
