/- For every slice of bytes the law FnMapAll answers true, and the bytes read afterwards as they did. No condition. -/
import Derived.Test.YthbbmookhcalkaaGreatDoorPk3b7a8e77
import Derived.WalkKit
import Derived.ProofKit
import Derived.OpenShut
import Derived.ShutString
import Derived.ChangeOld
import Derived.Below
import Derived.Lib.SmallJoins
import Derived.Deep.DeepCutAuto
import Derived.Laws.StructEq
import Derived.Deep.RegionHeld3
import Derived.LaidMore
import Derived.Stop.Joined
import Derived.Stop.LaidErr
import Derived.MakeChecks
import Derived.SevenTiedAt
import Derived.Lib.LaidTab
import Derived.Lib.ItoaNum
import Derived.Test.YthbbmookhcalkaaGreatDoorTie
import Derived.Test.YthbbmookhcalkaaGreatDoorCards
import Derived.Test.YthbbmookhcalkaaGreatDoorFuns
import Derived.Test.YthbbmookhcalkaaGreatDoorOpen
import Derived.Test.YthbbmookhcalkaaGreatDoorPkbd044065
import Derived.Test.YthbbmookhcalkaaGreatDoorPkbd957d2b
import Derived.Test.YthbbmookhcalkaaGreatDoorRefs
import Derived.Test.YthbbmookhcalkaaGreatDoorLayN
import Derived.Test.YthbbmookhcalkaaGreatDoorLayA
import Derived.Test.YthbbmookhcalkaaGreatDoorKeepA
import Derived.Test.YthbbmookhcalkaaGreatDoorPkfad6cd44
import Derived.Test.YthbbmookhcalkaaGreatDoorPk4f501f7b
import Derived.Test.YthbbmookhcalkaaGreatDoorLayD
import Derived.Test.YthbbmookhcalkaaGreatDoorLayS
import Derived.Test.YthbbmookhcalkaaGreatDoorLayT
import Derived.Test.YthbbmookhcalkaaGreatDoorPke34f4da7
import Derived.Test.YthbbmookhcalkaaGreatDoorPk18af4b8d
import Derived.Test.YthbbmookhcalkaaGreatDoorPkd23958c8
import Derived.Test.YthbbmookhcalkaaGreatDoorPk5f5a7224
import Derived.Test.YthbbmookhcalkaaGreatDoorMapL
import Derived.Test.YthbbmookhcalkaaGreatDoorRd
import Derived.Test.YthbbmookhcalkaaGreatDoorPkc600f0e5
import Derived.Test.YthbbmookhcalkaaGreatDoorDrawM
import Derived.Test.YthbbmookhcalkaaGreatDoorDrawW
namespace Go.Proofs.YthbbmookhcalkaaGreatDoor.fnMapAll
open Go.ChangeShapes Go.WideShapes Go.ChangeAt Go.RowKit Go.Joins
open Go.ChangeMaps (open_string shut_string)
open Go.Proofs.YthbbmookhcalkaaGreatDoor.Base
open Go.Proofs.YthbbmookhcalkaaGreatDoor.Funs
open Go.Proofs.YthbbmookhcalkaaGreatDoor.Open
open Go.Proofs.YthbbmookhcalkaaGreatDoor.Keep
open Go.Proofs.YthbbmookhcalkaaGreatDoor.UnitS
open Go.Proofs.YthbbmookhcalkaaGreatDoor.Refs
open Go.Proofs.YthbbmookhcalkaaGreatDoor.LayN
open Go.Proofs.YthbbmookhcalkaaGreatDoor.LayA
open Go.Proofs.YthbbmookhcalkaaGreatDoor.KeepA
open Go.Proofs.YthbbmookhcalkaaGreatDoor.KeepD
open Go.Proofs.YthbbmookhcalkaaGreatDoor.LayB
open Go.Proofs.YthbbmookhcalkaaGreatDoor.LayD
open Go.Proofs.YthbbmookhcalkaaGreatDoor.LayS
open Go.Proofs.YthbbmookhcalkaaGreatDoor.LayT
open Go.Proofs.YthbbmookhcalkaaGreatDoor.LayV
open Go.Proofs.YthbbmookhcalkaaGreatDoor.LayO
open Go.Proofs.YthbbmookhcalkaaGreatDoor.MapD
open Go.Proofs.YthbbmookhcalkaaGreatDoor.MapA
open Go.Proofs.YthbbmookhcalkaaGreatDoor.MapS
open Go.Proofs.YthbbmookhcalkaaGreatDoor.MapI
open Go.Proofs.YthbbmookhcalkaaGreatDoor.MapJ
open Go.Proofs.YthbbmookhcalkaaGreatDoor.MapK
open Go.Proofs.YthbbmookhcalkaaGreatDoor.Text
open Go.Proofs.YthbbmookhcalkaaGreatDoor.MapL
open Go.Proofs.YthbbmookhcalkaaGreatDoor.Rd
open Go.Proofs.YthbbmookhcalkaaGreatDoor.DrawO
open Go.Proofs.YthbbmookhcalkaaGreatDoor.DrawM
open Go.Proofs.YthbbmookhcalkaaGreatDoor.DrawT
open Go.Proofs.YthbbmookhcalkaaGreatDoor.DrawW
set_option linter.unusedVariables false
set_option maxRecDepth 100000
theorem own : ownKnob Tryz.prog.godebug = none := by kernel_rfl
theorem laidOut : laidOutB Tryz.prog = true := by kernel_rfl

theorem ml {n : Nat} (h : n ≤ 1048576) : n ≤ maxLen := by unfold maxLen; omega
/-- How many instructions the first functions have. -/
def lensTo (fs : List FunD) : Nat → Nat
  | 0 => 0
  | k + 1 => lensTo fs k + lenAt fs k
theorem place_sum (fs : List FunD) (st : List (List ByteArray)) : ∀ k, place fs st k = lensTo fs k + manyTo st k
  | 0 => rfl
  | k + 1 => by
    rw [place, place_sum fs st k]
    show _ = lensTo fs k + lenAt fs k + (manyTo st k + (st.getD k []).length)
    unfold stAt
    omega
theorem place_up (fs : List FunD) (st : List (List ByteArray)) (k : Nat) : place fs st k + lenAt fs k ≤ place fs st (k + 1) := by
  rw [place]
  omega
theorem spotQ_out {fs : List FunD} (p : Int) : spotQ fs (fs.length : Int) p = false := by
  unfold spotQ
  have : ¬ ((fs.length : Int) < (fs.length : Int)) := by omega
  simp
theorem q5 {a b c d e g : Prop} (h : a ∧ b ∧ c ∧ d ∧ e ∧ g) : g := h.2.2.2.2.2
theorem list_no {fs : List FunD} {ns : List Int} {st : List (List ByteArray)} (h : formB fs ns st = false) : mapListB fs ns st = ⟨#[]⟩ := by
  unfold mapListB
  rw [if_neg (by rw [h]; decide)]
set_option maxHeartbeats 8000000 in
theorem walk (a0 : Option Addr) (len cap0 : Nat) (bs : List Int) (W : World) (hrow : IsRow .u8 W a0 len cap0 bs) (htab : Lib.TabIs Tryz.prog W "internal/strconv.uint64pow10" .u64 Lib.pow10Tab) :
    Calls Tryz.prog 6 #[.slice a0 len cap0] W fun e w' => e = .returned (.bool true) ∧ Below W.heap.size W w' := by
  obtain ⟨hl, hm, hb⟩ := isRow_bytes hrow
  have HT := hide htab
  clear htab
  by_cases hlt : (1048576 : Int) < len
  · go_enter Tryz.func6, Tryz.ntmps6
    go_wp2
    go_ret
    exact ⟨rfl, Below.refl _ _⟩
  have Hb := hide hb
  clear hb hrow
  go_enter Tryz.func6, Tryz.ntmps6
  go_wp2_with fail
  refine (drawMapList_any _ _ _ _ hl hm (unhide Hb)).mono ?_
  rintro e w1 ⟨a, cap, fs, na, sa, nc, sc, zs, st, rfl, hM, _, _⟩
  have hbA := below_alloc1 w1 (.cells #[.slice na zs.length nc, .slice sa st.length sc] 47)
  have HST : Hid (Stable (fun w' => w'.cell? ⟨w1.heap.size, 0, none⟩ = some (.slice na zs.length nc) ∧ w'.cell? ⟨w1.heap.size, 1, none⟩ = some (.slice sa st.length sc) ∧ FunRow w' a fs ∧ NumRow w' na zs ∧ TextsRow w' sa st ∧ Below W.heap.size W w')) := ((Stable.cell _ _).and ((Stable.cell _ _).and ((Stable.frow a fs).and ((Stable.nrow na zs).and ((Stable.tsrow sa st).and (Stable.below W))))))
  have hXB := (box2 (new_block w1 (.cells #[.slice na zs.length nc, .slice sa st.length sc] 47))).1
  have HS : Hid ((fun w' => w'.cell? ⟨w1.heap.size, 0, none⟩ = some (.slice na zs.length nc) ∧ w'.cell? ⟨w1.heap.size, 1, none⟩ = some (.slice sa st.length sc) ∧ FunRow w' a fs ∧ NumRow w' na zs ∧ TextsRow w' sa st ∧ Below W.heap.size W w') (w1.alloc (.cells #[.slice na zs.length nc, .slice sa st.length sc] 47))) := ⟨hXB.1, hXB.2, hM.fr.below hbA, hM.nr.below hbA, hM.tr.below hbA, bl_trans hM.bw hbA⟩
  have HFT := hide hM.tm.few
  have c1 := hM.h1
  have c2 := hM.h2
  have d1 := hM.n1
  have d2 := hM.n2
  have d3 := hM.s1
  have d4 := hM.s2
  have HN42 := hide hM.h3
  clear hM hbA hXB
  have HIL := hide (fun w' h1 h2 h3 (hB : Below W.heap.size W w') => implMapList_any a cap fs na sa nc sc zs st w' c1 c2 d1 d2 d3 d4 (unhide HFT) h1 h2 h3 (hide (tab_stays Go.Proofs.YthbbmookhcalkaaGreatDoor.Text.gPow (unhide HT) hB (Nat.le_refl _))))
  have HSL := hide (fun w' h1 h2 h3 => specMapList_any a cap fs na sa nc sc zs st w' c1 c2 d1 d2 d3 d4 (unhide HFT) h1 h2 h3)
  have HIA := hide (fun (ff pp : Int) w' h1 h2 h3 => implMapAt_any a cap fs na sa nc sc zs st ff pp w' c1 c2 d1 d2 d3 d4 (unhide HFT) h1 h2 h3)
  have HLS := hide (fun w' h1 h2 h3 => implLaySize_any a cap fs na sa nc sc zs st w' c1 c2 d1 d2 d3 d4 (unhide HFT) h1 h2 h3)
  have HZS := hide (fun w' h1 h2 h3 => specLaySize_any a cap fs na sa nc sc zs st w' c1 c2 d1 d2 d3 d4 (unhide HFT) h1 h2 h3)
  have HLM := hide (fun w' h3 => implMany_any na sa zs.length nc sc st w' (unhide HFT) d3 d4 h3)
  obtain ⟨zz, hzz⟩ : ∃ zz, sizeI fs zs st = zz := ⟨_, rfl⟩
  rw [hzz] at HLS HZS
  have HZZ := hide hzz
  clear hzz
  obtain ⟨ml, hml⟩ : ∃ ml, mapListB fs zs st = ml := ⟨_, rfl⟩
  rw [hml] at HIL HSL
  have HML := hide hml
  clear hml
  have hX0 := (unhide HS).1
  have hX1 := (unhide HS).2.1
  go_wp2_with fail
  refine (unhide HLS _ (unhide HS).2.2.1 (unhide HS).2.2.2.1 (unhide HS).2.2.2.2.1).mono ?_
  rintro e w4 ⟨rfl, hb4⟩
  have hS4 := (unhide HST).1 _ _ hb4 (unhide HS)
  clear hX0 hX1 hb4 HLS HS
  go_upto_region 5 with fail
  go_cut [35] (fun v wx => v = .bool false ∧ (fun w' => w'.cell? ⟨w1.heap.size, 0, none⟩ = some (.slice na zs.length nc) ∧ w'.cell? ⟨w1.heap.size, 1, none⟩ = some (.slice sa st.length sc) ∧ FunRow w' a fs ∧ NumRow w' na zs ∧ TextsRow w' sa st ∧ Below W.heap.size W w') wx)
  case first =>
    go_region_held3 (fun w' => w'.cell? ⟨w1.heap.size, 0, none⟩ = some (.slice na zs.length nc) ∧ w'.cell? ⟨w1.heap.size, 1, none⟩ = some (.slice sa st.length sc) ∧ FunRow w' a fs ∧ NumRow w' na zs ∧ TextsRow w' sa st ∧ Below W.heap.size W w') (first | assumption | (refine (unhide HST).1 _ _ hbk ?_; assumption) | (refine (unhide HST).2 _ ?_; assumption))
      (first
        | (go_at_call 23; refine (unhide HZS _ (by apply s2; assumption) (by apply s3; assumption) (by apply s4; assumption)).mono ?_; rintro e wk1 ⟨rfl, hbk⟩)
        | (go_at_call 24; refine (unhide HIL _ (by apply s2; assumption) (by apply s3; assumption) (by apply s4; assumption) (by apply q5; assumption)).mono ?_; rintro e wk1 ⟨rfl, hbk⟩)
        | (go_at_call 25; refine (unhide HSL _ (by apply s2; assumption) (by apply s3; assumption) (by apply s4; assumption)).mono ?_; rintro e wk1 ⟨rfl, hbk⟩))
    all_goals (go_wp2_with fail)
    all_goals (go_meet; exact ⟨rfl, by assumption⟩)
  case rest =>
    obtain ⟨rfl, hS5⟩ := hcut
    have HS := hide hS5
    clear hS5 hS4 HZS HSL
    have hX0 := (unhide HS).1
    have hX1 := (unhide HS).2.1
    by_cases h0 : (zz == 0) = true
    · have hml0 : ml = ⟨#[]⟩ := by
        have hf : formB fs zs st = false := by
          cases hf : formB fs zs st
          · rfl
          · have hz := unhide HZZ
            rw [size_yes hf] at hz
            have hk := (form_parts hf).1
            have hk1 := (keep_parts hk).1
            have hk2 := place_up fs st 0
            have hk3 := place_mono (fs := fs) (st := st) (show 0 + 1 ≤ fs.length by omega)
            have hk4 := fun_pos ((keep_parts hk).2.2.1 fs[0] (List.getElem_mem (by omega)))
            rw [lenAt_is (by omega)] at hk2
            have : zz = 0 := by simpa using h0
            omega
        rw [← unhide HML]
        exact list_no hf
      subst hml0
      go_wp2_with fail
      refine (unhide HIL _ (unhide HS).2.2.1 (unhide HS).2.2.2.1 (unhide HS).2.2.2.2.1 (unhide HS).2.2.2.2.2).mono ?_
      rintro e w5 ⟨rfl, hb5⟩
      have hB := bl_trans (unhide HS).2.2.2.2.2 hb5
      go_wp2_with fail
      go_ret
      exact ⟨rfl, hB⟩
    have h0f : (zz == 0) = false := by simpa using h0
    have hf : formB fs zs st = true := by
      cases hf : formB fs zs st
      · have hz := unhide HZZ
        rw [size_no hf] at hz
        subst hz
        exact absurd rfl h0
      · rfl
    have HF := hide hf
    have HL := hide (lying_of hf (unhide HFT))
    have hsm := (unhide HL).small fs.length (Nat.le_refl _)
    obtain ⟨n, rfl, HNE⟩ : ∃ n : Nat, zz = (n : Int) ∧ Hid (n = place fs st fs.length) := ⟨_, by rw [← unhide HZZ]; exact size_yes hf, rfl⟩
    have hnb : n ≤ 42000000 := by have := unhide HNE; omega
    have HMN : Hid (manyTo st fs.length = manyN st) := by
      show _ = _
      rw [← (unhide HL).2.2.1]
      rfl
    have HKP := hide (form_parts hf).1
    have hpos : 0 < fs.length := (keep_parts (unhide HKP)).1
    clear h0 hf HZZ hsm HIL HML
    obtain ⟨b, off, rfl⟩ := (unhide HS).2.2.1.get hpos
    go_wp2_with fail
    go_loopw [6, 7, 8] (fun l c i w' => ∃ (k m : Nat) (q : Int), k ≤ fs.length ∧ i = .int .i64 k ∧ c = .int .i64 m ∧ l = .int .i64 q ∧ Hid (m = lensTo fs k) ∧ -1 ≤ q ∧ Hid (q < (place fs st k : Int)) ∧ m ≤ 42000000 ∧ q ≤ 42000000 ∧ Hid ((fun w' => w'.cell? ⟨w1.heap.size, 0, none⟩ = some (.slice na zs.length nc) ∧ w'.cell? ⟨w1.heap.size, 1, none⟩ = some (.slice sa st.length sc) ∧ FunRow w' (some ⟨b, off, none⟩) fs ∧ NumRow w' na zs ∧ TextsRow w' sa st ∧ Below W.heap.size W w') w')) (fun _ _ i _ => fs.length - (intOf i).toNat)
    case atStart => exact ⟨0, 0, -1, Nat.zero_le _, rfl, rfl, rfl, rfl, by omega, by show (-1 : Int) < ((0 : Nat) : Int); omega, by omega, by omega, HS⟩
    case round =>
      obtain ⟨k, m, q, hk, rfl, rfl, rfl, HM, hq, HQ, hm4, hq4, HS7⟩ := hrel
      clear HS hX0 hX1
      have hX0 := (unhide HS7).1
      have hX1 := (unhide HS7).2.1
      by_cases hkl : k < fs.length
      · have hkl' : (k : Int) < (fs.length : Int) := by omega
        have hk42 : (k : Int) ≤ 42 := by have := unhide HN42; omega
        have hk0 : (0 : Int) ≤ (k : Int) := by omega
        have HPU := hide (place_up fs st k)
        have HP9 := hide ((unhide HL).small (k + 1) (by omega))
        have HPS := hide (place_sum fs st (k + 1))
        have HLK := hide (lenAt_is hkl)
        have HB10 := hide ((unhide HL).2.1 fs[k] (List.getElem_mem hkl))
        go_wp2_with fail
        go_loopw [6, 7, 9] (fun l c i w' => ∃ (j m' : Nat) (q' : Int), j ≤ fs[k].body.length ∧ i = .int .i64 j ∧ c = .int .i64 m' ∧ l = .int .i64 q' ∧ Hid (m' = lensTo fs k + j) ∧ -1 ≤ q' ∧ Hid (q' < (place fs st k : Int) + j) ∧ m' ≤ 42000000 ∧ q' ≤ 42000000 ∧ Hid ((fun w' => w'.cell? ⟨w1.heap.size, 0, none⟩ = some (.slice na zs.length nc) ∧ w'.cell? ⟨w1.heap.size, 1, none⟩ = some (.slice sa st.length sc) ∧ FunRow w' (some ⟨b, off, none⟩) fs ∧ NumRow w' na zs ∧ TextsRow w' sa st ∧ Below W.heap.size W w') w')) (fun _ _ i _ => fs[k].body.length - (intOf i).toNat)
        case atStart => exact ⟨0, m, q, Nat.zero_le _, rfl, rfl, rfl, by show _ = _; rw [unhide HM]; rfl, hq, by have := unhide HQ; show q < _; omega, hm4, hq4, HS7⟩
        case round =>
          obtain ⟨j, m', q', hj, rfl, rfl, rfl, HMJ, hqj, HQJ, hmj4, hqj4, HS8⟩ := hrel
          clear HS7 hX0 hX1 HQ HM
          have hX0 := (unhide HS8).1
          have hX1 := (unhide HS8).2.1
          obtain ⟨ai, ci, f0, f1, f2, _, f4, f5, f6⟩ := (unhide HS8).2.2.1.at hkl
          by_cases hjl : j < fs[k].body.length
          · have hjl' : (j : Int) < (fs[k].body.length : Int) := by omega
            have hma := mapAt_yes (unhide HF) (spotQ_yes hkl hjl)
            have hIA := unhide HIA (k : Int) (j : Int)
            rw [hma] at hIA
            have h1 := unhide HPU
            have h2 := unhide HP9
            have h3 := unhide HPS
            have h4 := unhide HLK
            have h5 := unhide HQJ
            have h6 := unhide HMJ
            have h7 : lensTo fs (k + 1) = lensTo fs k + lenAt fs k := rfl
            have HNX : Hid (m' + 1 = lensTo fs k + (j + 1) ∧ ((place fs st k + j : Nat) : Int) < (place fs st k : Int) + ((j + 1 : Nat) : Int) ∧ m' + 1 ≤ 42000000) := ⟨by omega, by omega, by omega⟩
            have hat : q' < ((place fs st k + j : Nat) : Int) := by omega
            have hat4 : ((place fs st k + j : Nat) : Int) ≤ 42000000 := by omega
            clear h1 h2 h3 h4 h5 h6 h7 hma f6
            generalize hpp : ((place fs st k + j : Nat) : Int) = pp at *
            go_wp2_with fail
            refine (hIA _ (unhide HS8).2.2.1 (unhide HS8).2.2.2.1 (unhide HS8).2.2.2.2.1).mono ?_
            rintro e w9 ⟨rfl, hb9⟩
            have HS9 := hide ((unhide HST).1 _ _ hb9 (unhide HS8))
            clear hX0 hX1 hb9 hIA f0 f1 f2
            have hN := unhide HNX
            go_wp2_with fail
            exact ⟨⟨j + 1, m' + 1, pp, by omega, by go_num, by go_num, rfl, hN.1, by omega, hN.2.1, hN.2.2, hat4, HS9⟩, by simp [intOf]; omega⟩
          · have hje : j = fs[k].body.length := by omega
            have hjl' : ¬ (j : Int) < (fs[k].body.length : Int) := by omega
            have h1 := unhide HPU
            have h4 := unhide HLK
            have h5 := unhide HQJ
            have h6 := unhide HMJ
            have h7 : lensTo fs (k + 1) = lensTo fs k + lenAt fs k := rfl
            have HNX : Hid (m' = lensTo fs (k + 1) ∧ q' < (place fs st (k + 1) : Int)) := ⟨by omega, by omega⟩
            clear h1 h4 h5 h6 h7 f6
            go_wp2_with fail
            have hN := unhide HNX
            exact ⟨⟨k + 1, m', q', by omega, by go_num, rfl, rfl, hN.1, hqj, hN.2, hmj4, hqj4, HS8⟩, by simp [intOf]; omega⟩
      · have hke : k = fs.length := by omega
        have hkl' : ¬ (k : Int) < (fs.length : Int) := by omega
        have h1 := unhide HM
        have h2 := unhide HNE
        have h3 := place_sum fs st fs.length
        have h4 := unhide HMN
        have hsum : m + manyN st = n := by rw [hke] at h1; omega
        have hq1 : (((m : Int) + (manyN st : Int)) == (n : Int)) = true := by rw [beq_iff_eq]; omega
        have hms : manyN st ≤ 42000000 := by omega
        have hLM := unhide HLM
        have hIA := unhide HIA (fs.length : Int) 0
        rw [mapAt_no (.inr (spotQ_out 0))] at hIA
        have hfn : (fs.length : Int) ≤ 42 := by have := unhide HN42; omega
        clear h1 h2 h3 h4 hsum
        generalize manyN st = mm at *
        go_wp2_with fail
        refine (hLM _ (unhide HS7).2.2.2.2.1).mono ?_
        rintro e w9 ⟨rfl, hb9⟩
        have HS9 := hide ((unhide HST).1 _ _ hb9 (unhide HS7))
        clear hX0 hX1 hb9 hLM
        have hX0 := (unhide HS9).1
        have hX1 := (unhide HS9).2.1
        go_wp2_with fail
        refine (hIA _ (unhide HS9).2.2.1 (unhide HS9).2.2.2.1 (unhide HS9).2.2.2.2.1).mono ?_
        rintro e w10 ⟨rfl, hb10⟩
        have hB10 := bl_trans (unhide HS9).2.2.2.2.2 hb10
        go_wp2_with fail
        go_ret
        exact ⟨rfl, hB10⟩

theorem gPow : Tryz.prog.globalNamed "internal/strconv.uint64pow10" = some 0 := by kernel_rfl
theorem gPowType : (Tryz.prog.globals[0]?).map (·.type) = some 197 := by kernel_rfl
theorem powCells : Tryz.prog.cellsOf 197 = 20 := by kernel_rfl
theorem u64Cells : Tryz.prog.cellsOf 181 = 1 := by kernel_rfl
theorem powDatum : (Rows.laid_internal_strconv_uint64pow10 : DataW Unit) = Lib.tabData .u64 Lib.pow10Tab := by kernel_rfl
/-- What the listed variables give the walk: the table of the powers of ten. -/
theorem tab_of {W : World} (h : laidMetH Tryz.prog Rows.fnMapAllRow.laid W) : Lib.TabIs Tryz.prog W "internal/strconv.uint64pow10" .u64 Lib.pow10Tab := by
  rw [MakeChecks.laidMetH_plain _ _ _ (by kernel_rfl)] at h
  have h2 : laidMet Tryz.prog [("internal/strconv.uint64pow10", Rows.laid_internal_strconv_uint64pow10)] W := laidMet.tail (laidMet.tail h)
  rw [powDatum] at h2
  exact Lib.tabIs_of_head gPow gPowType Tryz.underlying197 Tryz.underlying181 u64Cells powCells h2
theorem door_met (os : Os) (args : Array Value) : laidMetH Tryz.prog Rows.fnMapAllRow.laid ((World.doorLaid Tryz.prog 400 os).forCall (fun _ _ => 0) ⟨#[], args, []⟩).memory :=
  laidMetH_of_parts3 (fuel := 8) (laidMet_of_run' 8 (by kernel_rfl) (by kernel_rfl)) (by kernel_rfl) (by kernel_rfl)

set_option maxRecDepth 100000 in
theorem lifted (os : Os) (started : os.Started) (H : Type) (enc : TypeId × Value → H) :
    ReturnsInHanded {} Tryz.checked os 6 .any (fun w args => (Rows.fnMapAllSpec.pre enc Tryz.prog Tryz.f6 [] false w args ∧ laidMetH Tryz.prog Rows.fnMapAllRow.laid w) ∧ sizedMet enc Tryz.prog Tryz.f6 (OpenSpec.ofChange Rows.fnMapAllSpec) false w args) (Rows.fnMapAllSpec.post enc Tryz.prog Tryz.f6 false true false false) := by
  refine returnsInHanded_of_change_and (C := Tryz.checked) (X := fun w _ => laidMetH Tryz.prog Rows.fnMapAllRow.laid w) (fun _ _ _ hh h => h.of_heap hh) own started (by kernel_rfl) Tryz.func6
    (ChangeSpec.witness_shaped (enc := enc) (C := Tryz.checked) (os := os) (X := fun w _ => laidMetH Tryz.prog Rows.fnMapAllRow.laid w) false (World.doorLaid Tryz.prog 400 os) #[.slice none 0 0] 8 rfl (World.shaped_of_RefB (by kernel_rfl) (by kernel_rfl)) (by kernel_rfl) (by kernel_rfl) (by kernel_rfl) (door_met os _)) ?_
  intro W base args ds gs before hval0 hW _ _ hL _
  have htab := tab_of hL
  have hval : ∀ (j : Nat) t v, Tryz.f6.params[j]? = some t → args[j]? = some v → Value.okWide Tryz.prog W .any base t v := hval0
  have hW' := hW
  obtain ⟨p, q, hA0, hV, rfl, hfz, hnd⟩ := hW
  have hA : DataW.TrodAll enc Tryz.prog W 0 (fun _ => true) true Tryz.f6.params.toList args.toList ds p := hA0
  rw [Tryz.params6] at hA hval
  obtain ⟨v0, vs0, d0, ds0, p0, q0, hargs, rfl, rfl, h0, r0⟩ := trodAll_cons hA
  obtain ⟨rfl, rfl, rfl⟩ := trodAll_nil r0
  obtain rfl : args = #[v0] := by cases args; simp_all
  obtain ⟨rfl, rfl⟩ := trodVars_none hV
  have k0 := h0
  have lt0 : ∀ x ∈ p0, x.block < W.heap.size := by obtain ⟨m, hm⟩ := k0; exact DataW.trod_lt m _ _ _ hm
  obtain ⟨a0, len0, cap0, hv0⟩ := okWide_slice Tryz.underlying22 (hval 0 22 v0 rfl rfl)
  obtain ⟨z0, w0⟩ : ∃ zs, IsRow .u8 W a0 len0 cap0 zs := by
    subst hv0
    obtain ⟨fuel, hf⟩ := h0
    rcases open_ints Tryz.underlying22 Tryz.underlying5 (by kernel_rfl) hf with ⟨hcs, _⟩ | ⟨x, l, c, zs, hcs, _, hl, hm, hz, _, hcell, hwz⟩
    · simp [Value.cells] at hcs
      obtain ⟨rfl, rfl, rfl⟩ := hcs
      exact ⟨[], .inl ⟨rfl, rfl, rfl, rfl⟩⟩
    · simp [Value.cells] at hcs
      obtain ⟨rfl, rfl, rfl⟩ := hcs
      exact ⟨zs, .inr ⟨_, rfl, hl, hm, by simpa using hz, hcell, hwz⟩⟩
  clear hA0 hval0
  subst hv0
  refine (walk a0 len0 cap0 z0 W w0 htab).mono fun e W' ⟨he, bel⟩ => ?_
  subst he
  exact ⟨_, rfl, _, _, _, [], _, [], hW', trodAll_mk1 (shut_bool Tryz.underlying4 _), (trodAll_cons_mk (Below.trod laidOut (by kernel_rfl) (of_decide_eq_true (by kernel_rfl)) k0 bel lt0) trodAll_mk0), rfl, bel.frame _, fun h => by cases h⟩

theorem row_holds : Rows.FnMapAllSaid :=
  OpenClaim.holds_of_wide 6 Tryz.f6 rfl rfl rfl rfl rfl rfl rfl ⟨rfl, rfl, rfl, rfl, rfl⟩ rfl rfl rfl rfl rfl (by kernel_rfl) Tryz.func6 (by kernel_rfl)
    (of_decide_eq_true (by kernel_rfl)) (by unfold Func.isWrapper; first | (rw [if_pos (by decide +kernel)]; kernel_rfl) | (rw [if_neg (by decide +kernel)]; exact ⟨rfl, rfl⟩))
    (fun os started H enc _ => lifted os started H enc)

theorem proved : Rows.FnMapAllCardSaid :=
  Claim7.holds_tied_plain_at .later [] [.data, .data, .data] true (true, "fc8d3014333b242f06ac6dc40fa6a60af1d16a71b965edeb077e08166d9b832b") false
    row_holds (fun _ h => by cases h) (by kernel_rfl) (fun _ h => by cases h) fnMapAll_row_tie rfl ⟨rfl, rfl⟩ (by kernel_rfl) rfl
    (fun f fn hf hfn => by
      obtain rfl : f = 6 := Option.some.inj ((show Tryz.prog.funcNamed "loop.example/stepstone/laws.FnMapAll" = some 6 by kernel_rfl).symm.trans hf) |>.symm
      obtain rfl : fn = Tryz.f6 := (Option.some.inj (Tryz.func6.symm.trans hfn)).symm
      exact ⟨by kernel_rfl, fun j t ht => by
        rw [Tryz.params6] at ht
        have hm : t ∈ [22] := by simpa using Array.mem_of_getElem? ht
        have hall : ([22].all fun u => !Tryz.prog.wantsStandIn u) = true := by kernel_rfl
        exact (show Tryz.prog.wantsStandIn t = false by simpa using List.all_eq_true.1 hall t hm)⟩)
    (by kernel_rfl)
#print axioms proved
end Go.Proofs.YthbbmookhcalkaaGreatDoor.fnMapAll
