/- The contracts of both sides' MapList. -/
import Derived.Test.YthbbmookhcalkaaGreatDoorPk5f5a7224
import Derived.Test.YthbbmookhcalkaaGreatDoorShelf
import Derived.LaidMore
import Derived.Stop.LaidErr
import Derived.Lib.LaidTab
import Derived.Deep.RegionHeld3
import Derived.Deep.RegionWith
import Derived.Lib.AppendIntMem
namespace Go.Proofs.YthbbmookhcalkaaGreatDoor.MapL
open Go.ChangeShapes Go.WideShapes Go.ChangeAt Go.RowKit Go.Joins Go.WideMaps Go.Maps Go.Deep
open Go.Proofs.YthbbmookhcalkaaGreatDoor.Base Go.Proofs.YthbbmookhcalkaaGreatDoor.InsA Go.Proofs.YthbbmookhcalkaaGreatDoor.Name Go.Proofs.YthbbmookhcalkaaGreatDoor.Funs Go.Proofs.YthbbmookhcalkaaGreatDoor.Open Go.Proofs.YthbbmookhcalkaaGreatDoor.FunS Go.Proofs.YthbbmookhcalkaaGreatDoor.Keep Go.Proofs.YthbbmookhcalkaaGreatDoor.UnitS Go.Proofs.YthbbmookhcalkaaGreatDoor.UnitM Go.Proofs.YthbbmookhcalkaaGreatDoor.Refs Go.Proofs.YthbbmookhcalkaaGreatDoor.LayN Go.Proofs.YthbbmookhcalkaaGreatDoor.LayA Go.Proofs.YthbbmookhcalkaaGreatDoor.KeepD Go.Proofs.YthbbmookhcalkaaGreatDoor.KeepA Go.Proofs.YthbbmookhcalkaaGreatDoor.LayD Go.Proofs.YthbbmookhcalkaaGreatDoor.LayS Go.Proofs.YthbbmookhcalkaaGreatDoor.LayT Go.Proofs.YthbbmookhcalkaaGreatDoor.LayG Go.Proofs.YthbbmookhcalkaaGreatDoor.LayH Go.Proofs.YthbbmookhcalkaaGreatDoor.LayJ Go.Proofs.YthbbmookhcalkaaGreatDoor.LayK Go.Proofs.YthbbmookhcalkaaGreatDoor.LayV Go.Proofs.YthbbmookhcalkaaGreatDoor.LayM Go.Proofs.YthbbmookhcalkaaGreatDoor.LayO Go.Proofs.YthbbmookhcalkaaGreatDoor.MapD Go.Proofs.YthbbmookhcalkaaGreatDoor.MapA Go.Proofs.YthbbmookhcalkaaGreatDoor.MapJ Go.Proofs.YthbbmookhcalkaaGreatDoor.MapT Go.Proofs.YthbbmookhcalkaaGreatDoor.MapK Go.Proofs.YthbbmookhcalkaaGreatDoor.Dec Go.Proofs.YthbbmookhcalkaaGreatDoor.MapN Go.Proofs.YthbbmookhcalkaaGreatDoor.MapP Go.Proofs.YthbbmookhcalkaaGreatDoor.Bld
set_option linter.unusedVariables false
set_option maxRecDepth 100000


def blankB : ByteArray := ⟨#[32]⟩
def endB : ByteArray := ⟨#[10]⟩
/-- A line of the map's list. -/
def lineB (pl bl sl : Nat) (nm : ByteArray) : ByteArray := decB pl ++ (blankB ++ (decB bl ++ (blankB ++ (decB sl ++ (blankB ++ (nm ++ endB))))))
def listB (fs : List FunD) (st : List (List ByteArray)) : Nat → ByteArray
  | 0 => ⟨#[]⟩
  | n + 1 => listB fs st n ++ lineB (place fs st n) (lenAt fs n) (stAt st n).length (fs.getD n default).nm
def mapListB (fs : List FunD) (ns : List Int) (st : List (List ByteArray)) : ByteArray := if formB fs ns st = true then listB fs st fs.length else ⟨#[]⟩
theorem decB_size (n : Nat) : (decB n).size ≤ n + 1 := dlen n
theorem line_size {pl bl sl : Nat} {nm : ByteArray} (h1 : pl ≤ 42000000) (h2 : bl ≤ 10) (h3 : sl ≤ 1048576) (h4 : nm.size ≤ 6) : (lineB pl bl sl nm).size ≤ 50000000 := by
  have a := decB_size pl
  have b := decB_size bl
  have c := decB_size sl
  unfold lineB
  simp only [ByteArray.size_append]
  have e1 : blankB.size = 1 := rfl
  have e2 : endB.size = 1 := rfl
  omega
theorem list_size {fs : List FunD} {ns : List Int} {st : List (List ByteArray)} (hf : formB fs ns st = true) (hl : Lying fs ns st) : ∀ k, k ≤ fs.length → (listB fs st k).size ≤ k * 50000000 := by
  intro k
  induction k with
  | zero => intro _; exact Nat.le_refl 0
  | succ k ih =>
    intro hk
    have h1 := ih (by omega)
    have hks : k < st.length := by rw [hl.2.2.1]; omega
    have hk' : k < fs.length := by omega
    have h2 := line_size (pl := place fs st k) (bl := lenAt fs k) (sl := (stAt st k).length) (nm := (fs.getD k default).nm) (hl.small k (by omega)) (by rw [lenAt_is hk']; exact hl.2.1 _ (List.getElem_mem _)) (by rw [stAt_is hks]; exact hl.2.2.2.2.2 _ (List.getElem_mem _)) (by simp [List.getD, List.getElem?_eq_getElem hk']; exact nm_six hf _ (List.getElem_mem hk'))
    show (listB fs st k ++ lineB _ _ _ _).size ≤ _
    rw [ByteArray.size_append]
    omega
theorem line_eq (s n : ByteArray) (pl bl sl : Nat) : (((((((s ++ ⟨(Lib.decDigits pl).toArray⟩) ++ ⟨#[32]⟩) ++ ⟨(Lib.decDigits bl).toArray⟩) ++ ⟨#[32]⟩) ++ ⟨(Lib.decDigits sl).toArray⟩) ++ ⟨#[32]⟩) ++ n) ++ ⟨#[10]⟩ = s ++ lineB pl bl sl n := by
  unfold lineB decB blankB endB
  simp only [ByteArray.append_assoc]
set_option maxHeartbeats 400000 in
theorem decBig_any (n : Nat) (w : World) (h1 : n ≤ 100000000) :
    Calls Tryz.prog 61 #[.int .i64 n] w fun e w' => e = .returned (.string ⟨(Lib.decDigits n).toArray⟩) ∧ Below w.heap.size w w' := by
  go_enter Tryz.func61, Tryz.ntmps61
  go_wp2
  go_loopw [0, 3] (fun m out w' => ∃ (k : Nat) (l : List UInt8), k ≤ 100000000 ∧ m = .int .i64 k ∧ out = .string ⟨l.toArray⟩ ∧ Lib.decDigits n = Lib.decDigits k ++ l ∧ l.length + k ≤ n ∧ Below w.heap.size w w') (fun m _ _ => (intOf m).toNat)
  case atStart => exact ⟨n, [], h1, rfl, rfl, by simp, by simp, Below.refl _ _⟩
  case round =>
    obtain ⟨k, l, hk, rfl, rfl, hd, hlen, hb⟩ := hrel
    have HD : Hid (Lib.decDigits n = Lib.decDigits k ++ l) := hd
    clear hd
    have hc1 := conv1 wr
    by_cases h9 : 9 < k
    · have h9' : (9 : Int) < (k : Int) := by omega
      go_wp2
      exact ⟨⟨k / 10, _, by omega, by go_num, str_cons _ _, by rw [dec_step HD.out h9, ofNat_add], by simp; omega, bl_alloc hb _⟩, by simp [intOf]; omega⟩
    · have h9' : ¬ (9 : Int) < (k : Int) := by omega
      go_wp2
      go_ret
      exact ⟨ret_str (by rw [dec_end HD.out h9, ofNat_add]; exact str_cons_eq _ _), bl_alloc hb _⟩
set_option maxHeartbeats 2000000 in
theorem specMapList_any (a : Option Addr) (cap : Nat) (fs : List FunD) (na sa : Option Addr) (nc sc : Nat) (ns : List Int) (st : List (List ByteArray)) (w : World) (hcap : fs.length ≤ cap) (hcm : cap ≤ maxLen) (h1 : ns.length ≤ nc) (h2 : nc ≤ maxLen) (h3 : st.length ≤ sc) (h4 : sc ≤ maxLen) (hft : FewT st) (hR : FunRow w a fs) (hs : NumRow w na ns) (ho : TextsRow w sa st) :
    Calls Tryz.prog 25 #[.slice a fs.length cap, .agg #[.slice na ns.length nc, .slice sa st.length sc]] w fun e w' => e = .returned (.string (mapListB fs ns st)) ∧ Below w.heap.size w w' := by
  have HR := hide hR
  have HS := hide hs
  have HO := hide ho
  have HFT := hide hft
  have hB0 := below_alloc1 w (.cells #[.slice na ns.length nc, .slice sa st.length sc] 47)
  have HX := hide (new_block w (.cells #[.slice na ns.length nc, .slice sa st.length sc] 47))
  have hlf : (fs.length : Int) ≤ 9223372036854775807 := by unfold maxLen at hcm; omega
  have hls : (st.length : Int) ≤ 9223372036854775807 := by unfold maxLen at h4; omega
  have hln : (ns.length : Int) ≤ 9223372036854775807 := by unfold maxLen at h2; omega
  clear hR hs ho hft
  go_enter Tryz.func25, Tryz.ntmps25
  go_wp2_with fail
  go_loopw [5, 6] (fun s i w' => ∃ k : Nat, k ≤ fs.length ∧ s = .string (listB fs st k) ∧ i = .int .i64 k ∧ Hid (0 < k → formB fs ns st = true) ∧ w'.heap[w.heap.size]? = some (.cells #[.slice na ns.length nc, .slice sa st.length sc] 47) ∧ Below w.heap.size w w') (fun _ i _ => fs.length - (intOf i).toNat)
  case atStart => exact ⟨0, Nat.zero_le _, rfl, rfl, fun h => absurd h (Nat.lt_irrefl 0), unhide HX, hB0⟩
  case round =>
    obtain ⟨k, hk, rfl, rfl, HJ, hX, hB⟩ := hrel
    clear HX hB0
    have HX := hide hX
    clear hX
    by_cases hkl : k < fs.length
    · have hkl' : (k : Int) < (fs.length : Int) := by omega
      have hX := box2 (unhide HX)
      cases hf : formB fs ns st
      · have hk0 : k = 0 := by
          rcases Nat.eq_zero_or_pos k with h | h
          · exact h
          · have := unhide HJ h; rw [hf] at this; cases this
        have HE : Hid (listB fs st k = mapListB fs ns st) := by
          show _ = _
          rw [hk0]
          unfold mapListB
          rw [hf, if_neg (by simp)]
          rfl
        clear hk0
        go_wp2_with fail
        refine (l7Form_any _ _ _ _ _ _ fs ns st _ hcap hcm h1 h2 h3 h4 (unhide HFT) ((unhide HR).below hB) ((unhide HS).below hB) ((unhide HO).below hB)).mono ?_
        rw [hf]
        rintro e w3 ⟨rfl, hb3⟩
        have hB3 := bl_trans hB hb3
        clear hX
        go_wp2_with fail
        go_ret
        exact ⟨ret_str (unhide HE), hB3⟩
      · have HL := hide (lying_of hf (unhide HFT))
        have hks : k < st.length := by rw [(unhide HL).2.2.1]; exact hkl
        have hks' : (k : Int) < (st.length : Int) := by omega
        have hpn : ns = places fs st := (unhide HL).2.2.2.1
        have hkn : k < ns.length := by rw [hpn, places_len]; exact hkl
        have hkn' : (k : Int) < (ns.length : Int) := by omega
        have hk0 : (0 : Int) ≤ (k : Int) := by omega
        have hsl := (unhide HL).2.2.2.2.2 st[k] (List.getElem_mem _)
        have hpb := (unhide HL).small k (by omega)
        have h40 := (unhide HL).1
        have hfl : fs[k].body.length ≤ 10 := (unhide HL).2.1 _ (List.getElem_mem _)
        have hnm := nm_six hf _ (List.getElem_mem hkl)
        have hss := list_size hf (unhide HL) k (by omega)
        obtain ⟨sb, so, rfl⟩ := (unhide HO).get (by omega)
        obtain ⟨nb, no, rfl⟩ := (unhide HS).get (by omega)
        obtain ⟨fb, fo, rfl⟩ := (unhide HR).get (by omega)
        have HPK : Hid (ns[k] = (place fs st k : Int)) := by
          show _ = _
          subst hpn
          exact placesTo_at hkn
        clear hpn
        go_wp2_with fail
        refine (l7Form_any _ _ _ _ _ _ fs ns st _ hcap hcm h1 h2 h3 h4 (unhide HFT) ((unhide HR).below hB) ((unhide HS).below hB) ((unhide HO).below hB)).mono ?_
        rw [hf]
        rintro e w3 ⟨rfl, hb3⟩
        have HX3 := hide (box_below (unhide HX) hb3)
        have hB3 := bl_trans hB hb3
        obtain ⟨fi, fc, f0, _, f2, _⟩ := ((unhide HR).below hB3).at hkl
        obtain ⟨ai, ci, t0, _, _, _⟩ := ((unhide HO).below hB3).at hks
        have n0 := ((unhide HS).below hB3).cells hkn
        rw [unhide HPK] at n0
        clear hX hb3 hf HX hB HPK
        have HL0 : Hid ((((((((listB fs st k ++ ⟨(Lib.decDigits (place fs st k)).toArray⟩) ++ ⟨#[32]⟩) ++ ⟨(Lib.decDigits fs[k].body.length).toArray⟩) ++ ⟨#[32]⟩) ++ ⟨(Lib.decDigits st[k].length).toArray⟩) ++ ⟨#[32]⟩) ++ fs[k].nm) ++ ⟨#[10]⟩ = listB fs st (k + 1)) := by
          show _ = _
          rw [line_eq]
          show _ = listB fs st k ++ lineB _ _ _ _
          rw [lenAt_is hkl, stAt_is hks, List.getD, List.getElem?_eq_getElem hkl]
          rfl
        have HLE : Hid (Value.string ((((((((listB fs st k ++ ⟨(Lib.decDigits (place fs st k)).toArray⟩) ++ ⟨#[32]⟩) ++ ⟨(Lib.decDigits fs[k].body.length).toArray⟩) ++ ⟨#[32]⟩) ++ ⟨(Lib.decDigits st[k].length).toArray⟩) ++ ⟨#[32]⟩) ++ fs[k].nm) ++ ⟨#[10]⟩) = .string (listB fs st (k + 1))) := by
          show _ = _
          rw [unhide HL0]
        clear HL0
        have d1 := dlen (place fs st k)
        have d2 := dlen fs[k].body.length
        have d3 := dlen st[k].length
        generalize listB fs st k = s0 at *
        generalize place fs st k = pl at *
        generalize fs[k].body.length = bl at *
        generalize fs[k].nm = nm at *
        generalize st[k].length = sl at *
        have q1 : ¬ 9223372036854775807 < s0.size + (Lib.decDigits pl).length := by omega
        have q2 : ¬ 9223372036854775807 < s0.size + (Lib.decDigits pl).length + 1 := by omega
        have q3 : ¬ 9223372036854775807 < s0.size + (Lib.decDigits pl).length + 1 + (Lib.decDigits bl).length := by omega
        have q4 : ¬ 9223372036854775807 < s0.size + (Lib.decDigits pl).length + 1 + (Lib.decDigits bl).length + 1 := by omega
        have q5 : ¬ 9223372036854775807 < s0.size + (Lib.decDigits pl).length + 1 + (Lib.decDigits bl).length + 1 + (Lib.decDigits sl).length := by omega
        have q6 : ¬ 9223372036854775807 < s0.size + (Lib.decDigits pl).length + 1 + (Lib.decDigits bl).length + 1 + (Lib.decDigits sl).length + 1 := by omega
        have q7 : ¬ 9223372036854775807 < s0.size + (Lib.decDigits pl).length + 1 + (Lib.decDigits bl).length + 1 + (Lib.decDigits sl).length + 1 + nm.size := by omega
        have q8 : ¬ 9223372036854775807 < s0.size + (Lib.decDigits pl).length + 1 + (Lib.decDigits bl).length + 1 + (Lib.decDigits sl).length + 1 + nm.size + 1 := by omega
        have HST : Hid (Stable (fun w' => w'.cell? ⟨w.heap.size, 0, none⟩ = some (.slice (some ⟨nb, no, none⟩) ns.length nc) ∧ w'.cell? ⟨w.heap.size, 1, none⟩ = some (.slice (some ⟨sb, so, none⟩) st.length sc) ∧ w'.cell? ⟨nb, no + k, none⟩ = some (.int .i64 pl) ∧ w'.cell? ⟨fb, fo + k * 3, none⟩ = some (.string nm) ∧ w'.cell? ⟨fb, fo + k * 3 + 2, none⟩ = some (.slice fi bl fc) ∧ w'.cell? ⟨sb, so + k, none⟩ = some (.slice ai sl ci) ∧ w'.heap[w.heap.size]? = some (.cells #[.slice (some ⟨nb, no, none⟩) ns.length nc, .slice (some ⟨sb, so, none⟩) st.length sc] 47) ∧ Below w.heap.size w w')) := ((Stable.cell _ _).and ((Stable.cell _ _).and ((Stable.cell _ _).and ((Stable.cell _ _).and ((Stable.cell _ _).and ((Stable.cell _ _).and ((Stable.box _ _).and (Stable.below w))))))))
        have HSQ : Hid ((fun w' => w'.cell? ⟨w.heap.size, 0, none⟩ = some (.slice (some ⟨nb, no, none⟩) ns.length nc) ∧ w'.cell? ⟨w.heap.size, 1, none⟩ = some (.slice (some ⟨sb, so, none⟩) st.length sc) ∧ w'.cell? ⟨nb, no + k, none⟩ = some (.int .i64 pl) ∧ w'.cell? ⟨fb, fo + k * 3, none⟩ = some (.string nm) ∧ w'.cell? ⟨fb, fo + k * 3 + 2, none⟩ = some (.slice fi bl fc) ∧ w'.cell? ⟨sb, so + k, none⟩ = some (.slice ai sl ci) ∧ w'.heap[w.heap.size]? = some (.cells #[.slice (some ⟨nb, no, none⟩) ns.length nc, .slice (some ⟨sb, so, none⟩) st.length sc] 47) ∧ Below w.heap.size w w') w3) := ⟨(box2 (unhide HX3)).1.1, (box2 (unhide HX3)).1.2, n0, f0, f2, t0, unhide HX3, hB3⟩
        clear d1 d2 d3 hss hnm
        go_upto_region 5 with fail
        clear n0 f0 f2 t0 HX3 HS
        have HS := HSQ
        refine wp_region_held_drew (S := (fun w' => w'.cell? ⟨w.heap.size, 0, none⟩ = some (.slice (some ⟨nb, no, none⟩) ns.length nc) ∧ w'.cell? ⟨w.heap.size, 1, none⟩ = some (.slice (some ⟨sb, so, none⟩) st.length sc) ∧ w'.cell? ⟨nb, no + k, none⟩ = some (.int .i64 pl) ∧ w'.cell? ⟨fb, fo + k * 3, none⟩ = some (.string nm) ∧ w'.cell? ⟨fb, fo + k * 3 + 2, none⟩ = some (.slice fi bl fc) ∧ w'.cell? ⟨sb, so + k, none⟩ = some (.slice ai sl ci) ∧ w'.heap[w.heap.size]? = some (.cells #[.slice (some ⟨nb, no, none⟩) ns.length nc, .slice (some ⟨sb, so, none⟩) st.length sc] 47) ∧ Below w.heap.size w w')) (by kernel_rfl) ((unhide HST).2 _ (unhide HS)) (fun hHeld => ?_)
        generalize w3.drew = wa at *
        refine wpAnyH_take (i := 0) (oi := { dst := some 18, op := Go.Op.move (Go.Operand.tmp 5), type := 9, pos := "l9_map.go:46", after := #[], guard := none }) (v := ?v1_0) rfl (by kernel_rfl) (by kernel_rfl) (by kernel_rfl) (fun _ _ _ h => h) (Or.inl ⟨by rfl, ?y1_0⟩) (by assumption) ?r1_0
        case y1_0 => (intro w hSw; (try dsimp only at hSw); go_simp; try (with_reducible rfl))
        try simp only [Act.put, List.setIfInBounds_toArray, List.set_cons_zero, List.set_cons_succ]
        refine wpAnyH_take (i := 1) (oi := { dst := some 19, op := Go.Op.fieldAddr 47 (Go.Operand.tmp 3) 0, type := 0, pos := "l9_map.go:46", after := #[], guard := none }) (v := ?v2_1) rfl (by kernel_rfl) (by kernel_rfl) (by kernel_rfl) (fun _ _ _ h => h) (Or.inl ⟨by rfl, ?y2_1⟩) (by assumption) ?r2_1
        case y2_1 => (intro w hSw; (try dsimp only at hSw); go_simp; try (with_reducible rfl))
        try simp only [Act.put, List.setIfInBounds_toArray, List.set_cons_zero, List.set_cons_succ]
        refine wpAnyH_take (i := 2) (oi := { dst := some 20, op := Go.Op.load 33 (Go.Operand.tmp 19), type := 33, pos := "l9_map.go:46", after := #[{ on := 1, ground := Go.Ground.data }], guard := none }) (v := ?v3_2) rfl (by kernel_rfl) (by kernel_rfl) (by kernel_rfl) (fun _ _ _ h => h) (Or.inl ⟨by rfl, ?y3_2⟩) (by assumption) ?r3_2
        case y3_2 => (intro w hSw; (try dsimp only at hSw); go_simp; try (with_reducible rfl))
        try simp only [Act.put, List.setIfInBounds_toArray, List.set_cons_zero, List.set_cons_succ]
        refine wpAnyH_take (i := 3) (oi := { dst := some 21, op := Go.Op.move (Go.Operand.tmp 6), type := 3, pos := "l9_map.go:46", after := #[], guard := none }) (v := ?v4_3) rfl (by kernel_rfl) (by kernel_rfl) (by kernel_rfl) (fun _ _ _ h => h) (Or.inl ⟨by rfl, ?y4_3⟩) (by assumption) ?r4_3
        case y4_3 => (intro w hSw; (try dsimp only at hSw); go_simp; try (with_reducible rfl))
        try simp only [Act.put, List.setIfInBounds_toArray, List.set_cons_zero, List.set_cons_succ]
        refine wpAnyH_take (i := 4) (oi := { dst := some 22, op := Go.Op.indexAddr 33 (Go.Operand.tmp 20) (Go.Operand.tmp 21), type := 0, pos := "l9_map.go:46", after := #[{ on := 2, ground := Go.Ground.data }, { on := 3, ground := Go.Ground.data }], guard := none }) (v := ?v5_4) rfl (by kernel_rfl) (by kernel_rfl) (by kernel_rfl) (fun _ _ _ h => h) (Or.inl ⟨by rfl, ?y5_4⟩) (by assumption) ?r5_4
        case y5_4 => (intro w hSw; (try dsimp only at hSw); go_simp; try (with_reducible rfl))
        try simp only [Act.put, List.setIfInBounds_toArray, List.set_cons_zero, List.set_cons_succ]
        refine wpAnyH_take (i := 5) (oi := { dst := some 23, op := Go.Op.load 3 (Go.Operand.tmp 22), type := 3, pos := "l9_map.go:46", after := #[{ on := 4, ground := Go.Ground.data }], guard := none }) (v := ?v6_5) rfl (by kernel_rfl) (by kernel_rfl) (by kernel_rfl) (fun _ _ _ h => h) (Or.inl ⟨by rfl, ?y6_5⟩) (by assumption) ?r6_5
        case y6_5 => (intro w hSw; (try dsimp only at hSw); go_simp; try (with_reducible rfl))
        try simp only [Act.put, List.setIfInBounds_toArray, List.set_cons_zero, List.set_cons_succ]
        refine wpAnyH_take (i := 9) (oi := { dst := some 27, op := Go.Op.move (Go.Operand.tmp 0), type := 23, pos := "l9_map.go:46", after := #[], guard := none }) (v := ?v7_9) rfl (by kernel_rfl) (by kernel_rfl) (by kernel_rfl) (fun _ _ _ h => h) (Or.inl ⟨by rfl, ?y7_9⟩) (by assumption) ?r7_9
        case y7_9 => (intro w hSw; (try dsimp only at hSw); go_simp; try (with_reducible rfl))
        try simp only [Act.put, List.setIfInBounds_toArray, List.set_cons_zero, List.set_cons_succ]
        refine wpAnyH_take (i := 10) (oi := { dst := some 28, op := Go.Op.move (Go.Operand.tmp 6), type := 3, pos := "l9_map.go:46", after := #[], guard := none }) (v := ?v8_10) rfl (by kernel_rfl) (by kernel_rfl) (by kernel_rfl) (fun _ _ _ h => h) (Or.inl ⟨by rfl, ?y8_10⟩) (by assumption) ?r8_10
        case y8_10 => (intro w hSw; (try dsimp only at hSw); go_simp; try (with_reducible rfl))
        try simp only [Act.put, List.setIfInBounds_toArray, List.set_cons_zero, List.set_cons_succ]
        refine wpAnyH_take (i := 11) (oi := { dst := some 29, op := Go.Op.indexAddr 23 (Go.Operand.tmp 27) (Go.Operand.tmp 28), type := 0, pos := "l9_map.go:46", after := #[{ on := 9, ground := Go.Ground.data }, { on := 10, ground := Go.Ground.data }], guard := none }) (v := ?v9_11) rfl (by kernel_rfl) (by kernel_rfl) (by kernel_rfl) (fun _ _ _ h => h) (Or.inl ⟨by rfl, ?y9_11⟩) (by assumption) ?r9_11
        case y9_11 => (intro w hSw; (try dsimp only at hSw); go_simp; try (with_reducible rfl))
        try simp only [Act.put, List.setIfInBounds_toArray, List.set_cons_zero, List.set_cons_succ]
        refine wpAnyH_take (i := 12) (oi := { dst := some 30, op := Go.Op.fieldAddr 28 (Go.Operand.tmp 29) 2, type := 0, pos := "l9_map.go:46", after := #[{ on := 11, ground := Go.Ground.data }], guard := none }) (v := ?v10_12) rfl (by kernel_rfl) (by kernel_rfl) (by kernel_rfl) (fun _ _ _ h => h) (Or.inl ⟨by rfl, ?y10_12⟩) (by assumption) ?r10_12
        case y10_12 => (intro w hSw; (try dsimp only at hSw); go_simp; try (with_reducible rfl))
        try simp only [Act.put, List.setIfInBounds_toArray, List.set_cons_zero, List.set_cons_succ]
        refine wpAnyH_take (i := 13) (oi := { dst := some 31, op := Go.Op.load 26 (Go.Operand.tmp 30), type := 26, pos := "l9_map.go:46", after := #[{ on := 12, ground := Go.Ground.data }], guard := none }) (v := ?v11_13) rfl (by kernel_rfl) (by kernel_rfl) (by kernel_rfl) (fun _ _ _ h => h) (Or.inl ⟨by rfl, ?y11_13⟩) (by assumption) ?r11_13
        case y11_13 => (intro w hSw; (try dsimp only at hSw); go_simp; try (with_reducible rfl))
        try simp only [Act.put, List.setIfInBounds_toArray, List.set_cons_zero, List.set_cons_succ]
        refine wpAnyH_take (i := 14) (oi := { dst := some 32, op := Go.Op.call { callee := Go.Callee.builtin Go.Builtin.len, args := #[Go.Operand.tmp 31], argTypes := #[26] }, type := 3, pos := "l9_map.go:46", after := #[{ on := 13, ground := Go.Ground.data }], guard := none }) (v := ?v12_14) rfl (by kernel_rfl) (by kernel_rfl) (by kernel_rfl) (fun _ _ _ h => h) (Or.inl ⟨by rfl, ?y12_14⟩) (by assumption) ?r12_14
        case y12_14 => (intro w hSw; (try dsimp only at hSw); go_simp; try (with_reducible rfl))
        try simp only [Act.put, List.setIfInBounds_toArray, List.set_cons_zero, List.set_cons_succ]
        refine wpAnyH_take (i := 18) (oi := { dst := some 36, op := Go.Op.fieldAddr 47 (Go.Operand.tmp 3) 1, type := 0, pos := "l9_map.go:46", after := #[], guard := none }) (v := ?v13_18) rfl (by kernel_rfl) (by kernel_rfl) (by kernel_rfl) (fun _ _ _ h => h) (Or.inl ⟨by rfl, ?y13_18⟩) (by assumption) ?r13_18
        case y13_18 => (intro w hSw; (try dsimp only at hSw); go_simp; try (with_reducible rfl))
        try simp only [Act.put, List.setIfInBounds_toArray, List.set_cons_zero, List.set_cons_succ]
        refine wpAnyH_take (i := 19) (oi := { dst := some 37, op := Go.Op.load 45 (Go.Operand.tmp 36), type := 45, pos := "l9_map.go:46", after := #[{ on := 18, ground := Go.Ground.data }], guard := none }) (v := ?v14_19) rfl (by kernel_rfl) (by kernel_rfl) (by kernel_rfl) (fun _ _ _ h => h) (Or.inl ⟨by rfl, ?y14_19⟩) (by assumption) ?r14_19
        case y14_19 => (intro w hSw; (try dsimp only at hSw); go_simp; try (with_reducible rfl))
        try simp only [Act.put, List.setIfInBounds_toArray, List.set_cons_zero, List.set_cons_succ]
        refine wpAnyH_take (i := 20) (oi := { dst := some 38, op := Go.Op.move (Go.Operand.tmp 6), type := 3, pos := "l9_map.go:46", after := #[], guard := none }) (v := ?v15_20) rfl (by kernel_rfl) (by kernel_rfl) (by kernel_rfl) (fun _ _ _ h => h) (Or.inl ⟨by rfl, ?y15_20⟩) (by assumption) ?r15_20
        case y15_20 => (intro w hSw; (try dsimp only at hSw); go_simp; try (with_reducible rfl))
        try simp only [Act.put, List.setIfInBounds_toArray, List.set_cons_zero, List.set_cons_succ]
        refine wpAnyH_take (i := 21) (oi := { dst := some 39, op := Go.Op.indexAddr 45 (Go.Operand.tmp 37) (Go.Operand.tmp 38), type := 0, pos := "l9_map.go:46", after := #[{ on := 19, ground := Go.Ground.data }, { on := 20, ground := Go.Ground.data }], guard := none }) (v := ?v16_21) rfl (by kernel_rfl) (by kernel_rfl) (by kernel_rfl) (fun _ _ _ h => h) (Or.inl ⟨by rfl, ?y16_21⟩) (by assumption) ?r16_21
        case y16_21 => (intro w hSw; (try dsimp only at hSw); go_simp; try (with_reducible rfl))
        try simp only [Act.put, List.setIfInBounds_toArray, List.set_cons_zero, List.set_cons_succ]
        refine wpAnyH_take (i := 22) (oi := { dst := some 40, op := Go.Op.load 60 (Go.Operand.tmp 39), type := 60, pos := "l9_map.go:46", after := #[{ on := 21, ground := Go.Ground.data }], guard := none }) (v := ?v17_22) rfl (by kernel_rfl) (by kernel_rfl) (by kernel_rfl) (fun _ _ _ h => h) (Or.inl ⟨by rfl, ?y17_22⟩) (by assumption) ?r17_22
        case y17_22 => (intro w hSw; (try dsimp only at hSw); go_simp; try (with_reducible rfl))
        try simp only [Act.put, List.setIfInBounds_toArray, List.set_cons_zero, List.set_cons_succ]
        refine wpAnyH_take (i := 23) (oi := { dst := some 41, op := Go.Op.call { callee := Go.Callee.builtin Go.Builtin.len, args := #[Go.Operand.tmp 40], argTypes := #[60] }, type := 3, pos := "l9_map.go:46", after := #[{ on := 22, ground := Go.Ground.data }], guard := none }) (v := ?v18_23) rfl (by kernel_rfl) (by kernel_rfl) (by kernel_rfl) (fun _ _ _ h => h) (Or.inl ⟨by rfl, ?y18_23⟩) (by assumption) ?r18_23
        case y18_23 => (intro w hSw; (try dsimp only at hSw); go_simp; try (with_reducible rfl))
        try simp only [Act.put, List.setIfInBounds_toArray, List.set_cons_zero, List.set_cons_succ]
        refine wpAnyH_take (i := 27) (oi := { dst := some 45, op := Go.Op.move (Go.Operand.tmp 0), type := 23, pos := "l9_map.go:46", after := #[], guard := none }) (v := ?v19_27) rfl (by kernel_rfl) (by kernel_rfl) (by kernel_rfl) (fun _ _ _ h => h) (Or.inl ⟨by rfl, ?y19_27⟩) (by assumption) ?r19_27
        case y19_27 => (intro w hSw; (try dsimp only at hSw); go_simp; try (with_reducible rfl))
        try simp only [Act.put, List.setIfInBounds_toArray, List.set_cons_zero, List.set_cons_succ]
        refine wpAnyH_take (i := 28) (oi := { dst := some 46, op := Go.Op.move (Go.Operand.tmp 6), type := 3, pos := "l9_map.go:46", after := #[], guard := none }) (v := ?v20_28) rfl (by kernel_rfl) (by kernel_rfl) (by kernel_rfl) (fun _ _ _ h => h) (Or.inl ⟨by rfl, ?y20_28⟩) (by assumption) ?r20_28
        case y20_28 => (intro w hSw; (try dsimp only at hSw); go_simp; try (with_reducible rfl))
        try simp only [Act.put, List.setIfInBounds_toArray, List.set_cons_zero, List.set_cons_succ]
        refine wpAnyH_take (i := 29) (oi := { dst := some 47, op := Go.Op.indexAddr 23 (Go.Operand.tmp 45) (Go.Operand.tmp 46), type := 0, pos := "l9_map.go:46", after := #[{ on := 27, ground := Go.Ground.data }, { on := 28, ground := Go.Ground.data }], guard := none }) (v := ?v21_29) rfl (by kernel_rfl) (by kernel_rfl) (by kernel_rfl) (fun _ _ _ h => h) (Or.inl ⟨by rfl, ?y21_29⟩) (by assumption) ?r21_29
        case y21_29 => (intro w hSw; (try dsimp only at hSw); go_simp; try (with_reducible rfl))
        try simp only [Act.put, List.setIfInBounds_toArray, List.set_cons_zero, List.set_cons_succ]
        refine wpAnyH_take (i := 30) (oi := { dst := some 48, op := Go.Op.fieldAddr 28 (Go.Operand.tmp 47) 0, type := 0, pos := "l9_map.go:46", after := #[{ on := 29, ground := Go.Ground.data }], guard := none }) (v := ?v22_30) rfl (by kernel_rfl) (by kernel_rfl) (by kernel_rfl) (fun _ _ _ h => h) (Or.inl ⟨by rfl, ?y22_30⟩) (by assumption) ?r22_30
        case y22_30 => (intro w hSw; (try dsimp only at hSw); go_simp; try (with_reducible rfl))
        try simp only [Act.put, List.setIfInBounds_toArray, List.set_cons_zero, List.set_cons_succ]
        refine wpAnyH_take (i := 31) (oi := { dst := some 49, op := Go.Op.load 9 (Go.Operand.tmp 48), type := 9, pos := "l9_map.go:46", after := #[{ on := 30, ground := Go.Ground.data }], guard := none }) (v := ?v23_31) rfl (by kernel_rfl) (by kernel_rfl) (by kernel_rfl) (fun _ _ _ h => h) (Or.inl ⟨by rfl, ?y23_31⟩) (by assumption) ?r23_31
        case y23_31 => (intro w hSw; (try dsimp only at hSw); go_simp; try (with_reducible rfl))
        try simp only [Act.put, List.setIfInBounds_toArray, List.set_cons_zero, List.set_cons_succ]
        refine wpAnyH_ready (rs := [6]) (by kernel_rfl) (by simp) ?_
        refine AllReadyH.cons (o := { dst := some 24, op := Go.Op.call { callee := Go.Callee.value (Go.Operand.func 61), args := #[Go.Operand.tmp 23], argTypes := #[3] }, type := 9, pos := "l9_map.go:46", after := #[{ on := 5, ground := Go.Ground.data }], guard := none }) rfl (fun K hK => ?_) AllReadyH.nil
        go_simp
        go_at_call 61
        refine (decBig_any pl _ (by omega)).mono ?_
        rintro e w5 ⟨rfl, hbk⟩
        replace hHeld := (unhide HST).1 _ _ hbk hHeld
        clear hbk
        go_wp2_with fail
        refine hK.out _ _ hHeld (fun _ => ?_)
        clear hK K
        try simp only [Act.put, List.setIfInBounds_toArray, List.set_cons_zero, List.set_cons_succ]
        refine wpAnyH_take (i := 7) (oi := { dst := some 25, op := Go.Op.binOp Go.BinOp.add 9 (Go.Operand.tmp 18) (Go.Operand.tmp 24) 9, type := 9, pos := "l9_map.go:46", after := #[{ on := 0, ground := Go.Ground.data }, { on := 6, ground := Go.Ground.data }], guard := none }) (v := ?v24_7) rfl (by kernel_rfl) (by kernel_rfl) (by kernel_rfl) (fun _ _ _ h => h) (Or.inl ⟨by rfl, ?y24_7⟩) (by assumption) ?r24_7
        case y24_7 => (intro w hSw; (try dsimp only at hSw); go_simp; try (with_reducible rfl))
        try simp only [Act.put, List.setIfInBounds_toArray, List.set_cons_zero, List.set_cons_succ]
        refine wpAnyH_take (i := 8) (oi := { dst := some 26, op := Go.Op.binOp Go.BinOp.add 9 (Go.Operand.tmp 25) (Go.Operand.const (Go.Value.string { data := #[32] })) 9, type := 9, pos := "l9_map.go:46", after := #[{ on := 7, ground := Go.Ground.data }], guard := none }) (v := ?v25_8) rfl (by kernel_rfl) (by kernel_rfl) (by kernel_rfl) (fun _ _ _ h => h) (Or.inl ⟨by rfl, ?y25_8⟩) (by assumption) ?r25_8
        case y25_8 => (intro w hSw; (try dsimp only at hSw); go_simp; try (with_reducible rfl))
        try simp only [Act.put, List.setIfInBounds_toArray, List.set_cons_zero, List.set_cons_succ]
        refine wpAnyH_ready (rs := [15]) (by kernel_rfl) (by simp) ?_
        refine AllReadyH.cons (o := { dst := some 33, op := Go.Op.call { callee := Go.Callee.value (Go.Operand.func 61), args := #[Go.Operand.tmp 32], argTypes := #[3] }, type := 9, pos := "l9_map.go:46", after := #[{ on := 14, ground := Go.Ground.data }, { on := 6, ground := Go.Ground.chain }], guard := none }) rfl (fun K hK => ?_) AllReadyH.nil
        go_simp
        go_at_call 61
        refine (decBig_any bl _ (by omega)).mono ?_
        rintro e w6 ⟨rfl, hbk⟩
        replace hHeld := (unhide HST).1 _ _ hbk hHeld
        clear hbk
        go_wp2_with fail
        refine hK.out _ _ hHeld (fun _ => ?_)
        clear hK K
        try simp only [Act.put, List.setIfInBounds_toArray, List.set_cons_zero, List.set_cons_succ]
        refine wpAnyH_take (i := 16) (oi := { dst := some 34, op := Go.Op.binOp Go.BinOp.add 9 (Go.Operand.tmp 26) (Go.Operand.tmp 33) 9, type := 9, pos := "l9_map.go:46", after := #[{ on := 8, ground := Go.Ground.data }, { on := 15, ground := Go.Ground.data }], guard := none }) (v := ?v26_16) rfl (by kernel_rfl) (by kernel_rfl) (by kernel_rfl) (fun _ _ _ h => h) (Or.inl ⟨by rfl, ?y26_16⟩) (by assumption) ?r26_16
        case y26_16 => (intro w hSw; (try dsimp only at hSw); go_simp; try (with_reducible rfl))
        try simp only [Act.put, List.setIfInBounds_toArray, List.set_cons_zero, List.set_cons_succ]
        refine wpAnyH_take (i := 17) (oi := { dst := some 35, op := Go.Op.binOp Go.BinOp.add 9 (Go.Operand.tmp 34) (Go.Operand.const (Go.Value.string { data := #[32] })) 9, type := 9, pos := "l9_map.go:46", after := #[{ on := 16, ground := Go.Ground.data }], guard := none }) (v := ?v27_17) rfl (by kernel_rfl) (by kernel_rfl) (by kernel_rfl) (fun _ _ _ h => h) (Or.inl ⟨by rfl, ?y27_17⟩) (by assumption) ?r27_17
        case y27_17 => (intro w hSw; (try dsimp only at hSw); go_simp; try (with_reducible rfl))
        try simp only [Act.put, List.setIfInBounds_toArray, List.set_cons_zero, List.set_cons_succ]
        refine wpAnyH_ready (rs := [24]) (by kernel_rfl) (by simp) ?_
        refine AllReadyH.cons (o := { dst := some 42, op := Go.Op.call { callee := Go.Callee.value (Go.Operand.func 61), args := #[Go.Operand.tmp 41], argTypes := #[3] }, type := 9, pos := "l9_map.go:46", after := #[{ on := 23, ground := Go.Ground.data }, { on := 15, ground := Go.Ground.chain }], guard := none }) rfl (fun K hK => ?_) AllReadyH.nil
        go_simp
        go_at_call 61
        refine (decBig_any sl _ (by omega)).mono ?_
        rintro e w7 ⟨rfl, hbk⟩
        replace hHeld := (unhide HST).1 _ _ hbk hHeld
        clear hbk
        go_wp2_with fail
        refine hK.out _ _ hHeld (fun _ => ?_)
        clear hK K
        try simp only [Act.put, List.setIfInBounds_toArray, List.set_cons_zero, List.set_cons_succ]
        refine wpAnyH_take (i := 25) (oi := { dst := some 43, op := Go.Op.binOp Go.BinOp.add 9 (Go.Operand.tmp 35) (Go.Operand.tmp 42) 9, type := 9, pos := "l9_map.go:46", after := #[{ on := 17, ground := Go.Ground.data }, { on := 24, ground := Go.Ground.data }], guard := none }) (v := ?v28_25) rfl (by kernel_rfl) (by kernel_rfl) (by kernel_rfl) (fun _ _ _ h => h) (Or.inl ⟨by rfl, ?y28_25⟩) (by assumption) ?r28_25
        case y28_25 => (intro w hSw; (try dsimp only at hSw); go_simp; try (with_reducible rfl))
        try simp only [Act.put, List.setIfInBounds_toArray, List.set_cons_zero, List.set_cons_succ]
        refine wpAnyH_take (i := 26) (oi := { dst := some 44, op := Go.Op.binOp Go.BinOp.add 9 (Go.Operand.tmp 43) (Go.Operand.const (Go.Value.string { data := #[32] })) 9, type := 9, pos := "l9_map.go:46", after := #[{ on := 25, ground := Go.Ground.data }], guard := none }) (v := ?v29_26) rfl (by kernel_rfl) (by kernel_rfl) (by kernel_rfl) (fun _ _ _ h => h) (Or.inl ⟨by rfl, ?y29_26⟩) (by assumption) ?r29_26
        case y29_26 => (intro w hSw; (try dsimp only at hSw); go_simp; try (with_reducible rfl))
        try simp only [Act.put, List.setIfInBounds_toArray, List.set_cons_zero, List.set_cons_succ]
        refine wpAnyH_take (i := 32) (oi := { dst := some 50, op := Go.Op.binOp Go.BinOp.add 9 (Go.Operand.tmp 44) (Go.Operand.tmp 49) 9, type := 9, pos := "l9_map.go:46", after := #[{ on := 26, ground := Go.Ground.data }, { on := 31, ground := Go.Ground.data }], guard := none }) (v := ?v30_32) rfl (by kernel_rfl) (by kernel_rfl) (by kernel_rfl) (fun _ _ _ h => h) (Or.inl ⟨by rfl, ?y30_32⟩) (by assumption) ?r30_32
        case y30_32 => (intro w hSw; (try dsimp only at hSw); go_simp; try (with_reducible rfl))
        try simp only [Act.put, List.setIfInBounds_toArray, List.set_cons_zero, List.set_cons_succ]
        refine wpAnyH_take (i := 33) (oi := { dst := some 51, op := Go.Op.binOp Go.BinOp.add 9 (Go.Operand.tmp 50) (Go.Operand.const (Go.Value.string { data := #[10] })) 9, type := 9, pos := "l9_map.go:46", after := #[{ on := 32, ground := Go.Ground.data }], guard := none }) (v := ?v31_33) rfl (by kernel_rfl) (by kernel_rfl) (by kernel_rfl) (fun _ _ _ h => h) (Or.inl ⟨by rfl, ?y31_33⟩) (by assumption) ?r31_33
        case y31_33 => (intro w hSw; (try dsimp only at hSw); go_simp; try (with_reducible rfl))
        try simp only [Act.put, List.setIfInBounds_toArray, List.set_cons_zero, List.set_cons_succ]
        refine wpAnyH_take (i := 34) (oi := { dst := some 5, op := Go.Op.assign (Go.Operand.tmp 51), type := 9, pos := "l9_map.go:46", after := #[{ on := 33, ground := Go.Ground.data }, { on := 24, ground := Go.Ground.chain }, { on := 0, ground := Go.Ground.phase }, { on := 1, ground := Go.Ground.phase }, { on := 2, ground := Go.Ground.phase }, { on := 3, ground := Go.Ground.phase }, { on := 4, ground := Go.Ground.phase }, { on := 5, ground := Go.Ground.phase }, { on := 6, ground := Go.Ground.phase }, { on := 7, ground := Go.Ground.phase }, { on := 8, ground := Go.Ground.phase }, { on := 9, ground := Go.Ground.phase }, { on := 10, ground := Go.Ground.phase }, { on := 11, ground := Go.Ground.phase }, { on := 12, ground := Go.Ground.phase }, { on := 13, ground := Go.Ground.phase }, { on := 14, ground := Go.Ground.phase }, { on := 15, ground := Go.Ground.phase }, { on := 16, ground := Go.Ground.phase }, { on := 17, ground := Go.Ground.phase }, { on := 18, ground := Go.Ground.phase }, { on := 19, ground := Go.Ground.phase }, { on := 20, ground := Go.Ground.phase }, { on := 21, ground := Go.Ground.phase }, { on := 22, ground := Go.Ground.phase }, { on := 23, ground := Go.Ground.phase }, { on := 24, ground := Go.Ground.phase }, { on := 25, ground := Go.Ground.phase }, { on := 26, ground := Go.Ground.phase }, { on := 27, ground := Go.Ground.phase }, { on := 28, ground := Go.Ground.phase }, { on := 29, ground := Go.Ground.phase }, { on := 30, ground := Go.Ground.phase }, { on := 31, ground := Go.Ground.phase }, { on := 32, ground := Go.Ground.phase }, { on := 33, ground := Go.Ground.phase }], guard := none }) (v := ?v32_34) rfl (by kernel_rfl) (by kernel_rfl) (by kernel_rfl) (fun _ _ _ h => h) (Or.inl ⟨by rfl, ?y32_34⟩) (by assumption) ?r32_34
        case y32_34 => (intro w hSw; (try dsimp only at hSw); go_simp; try (with_reducible rfl))
        try simp only [Act.put, List.setIfInBounds_toArray, List.set_cons_zero, List.set_cons_succ]
        refine wpAnyH_done (by kernel_rfl) ?_ _
        have hX9 := hHeld.2.2.2.2.2.2.1
        have hB9 := hHeld.2.2.2.2.2.2.2
        clear hHeld
        go_wp2_with fail
        exact ⟨⟨k + 1, by omega, unhide HLE, by go_num, (fun _ => trivial), hX9, hB9⟩, by simp [intOf]; omega⟩
    · have hkl' : ¬ (k : Int) < (fs.length : Int) := by omega
      have hke : k = fs.length := by omega
      have HE : Hid (listB fs st k = mapListB fs ns st) := by
        show _ = _
        unfold mapListB
        by_cases hf : formB fs ns st = true
        · rw [if_pos hf, hke]
        · rw [if_neg hf]
          rcases Nat.eq_zero_or_pos k with h | h
          · rw [h]; rfl
          · exact absurd (unhide HJ h) hf
      clear hke
      go_wp2_with fail
      go_ret
      exact ⟨ret_str (unhide HE), hB⟩

theorem bld_below {B b : Nat} {bs : List Value} {w w' : World} (h : Lib.IsBuilderF BT U8 B b bs w) (hb : Below w.heap.size w w') : Lib.IsBuilderF BT U8 B b bs w' := by
  have u : ∀ p, Lib.BuilderAtF BT U8 B b p bs w → Lib.BuilderAtF BT U8 B b p bs w' := by
    rintro p ⟨hB, v, hbk, ⟨e1, e2⟩, hne⟩
    refine ⟨hB, v, box_below hbk hb, ⟨e1, ?_⟩, hne⟩
    rcases e2 with e2 | ⟨g, cap, cur, fz, hv, hBg, hg, r⟩
    · exact .inl e2
    · exact .inr ⟨g, cap, cur, fz, hv, hBg, box_below hg hb, r⟩
  exact h.imp (u _) (u _)
theorem bld_new (w : World) (B : Nat) (hB : B = w.heap.size) : Lib.IsBuilderF BT U8 B B [] (w.alloc (.cells #[.pointer none, .slice none 0 0] 95)) := by
  subst hB
  exact .inl ⟨Nat.le_refl _, .slice none 0 0, new_block w (.cells #[.pointer none, .slice none 0 0] 95), World.ownsRowF_nil _ _ _ _, by simp [Value.ownBlock]⟩
theorem bld_lt {B b : Nat} {bs : List Value} {w : World} (h : Lib.IsBuilderF BT U8 B b bs w) : b < w.heap.size := by
  rcases h with h | h <;> exact h.lt
theorem st_bld {B b : Nat} {bs : List Value} : Stable (fun w' => Lib.IsBuilderF BT U8 B b bs w') := ⟨fun w w' hb h => bld_below h hb, fun w h => h⟩
theorem bc_len (s : ByteArray) : (Lib.byteCells s.data.toList).length = s.size := by
  rw [Lib.byteCells_length, Array.length_toList]
  rfl
def numsA (pl bl sl : Nat) (m : Nat) : Nat := [pl, bl, sl].getD m 0
def partB (s : ByteArray) (pl bl sl : Nat) : Nat → ByteArray
  | 0 => s
  | m + 1 => partB s pl bl sl m ++ decB (numsA pl bl sl m) ++ blankB
theorem nums_at {w : World} {b pl bl sl m : Nat} (h : w.heap[b]? = some (.cells #[.int .i64 pl, .int .i64 bl, .int .i64 sl] 3)) (hm : m < 3) : w.cell? ⟨b, m, none⟩ = some (.int .i64 (numsA pl bl sl m : Nat)) := by
  rw [Lib.cell_of_heap h]
  rcases m with _ | _ | _ | m
  · rfl
  · rfl
  · rfl
  · omega
theorem part_all (s nm : ByteArray) (pl bl sl : Nat) : partB s pl bl sl 3 ++ nm ++ endB = s ++ lineB pl bl sl nm := by
  unfold partB partB partB partB lineB
  show ((((((s ++ decB pl) ++ blankB) ++ decB bl) ++ blankB) ++ decB sl) ++ blankB) ++ nm ++ endB = _
  simp only [ByteArray.append_assoc]
theorem nums_le {pl bl sl m : Nat} (h1 : pl ≤ 42000000) (h2 : bl ≤ 10) (h3 : sl ≤ 1048576) : numsA pl bl sl m ≤ 42000000 := by
  rcases m with _ | _ | _ | m
  · exact h1
  · show bl ≤ _; omega
  · show sl ≤ _; omega
  · exact Nat.zero_le _
theorem part_size {s : ByteArray} {pl bl sl : Nat} (h1 : pl ≤ 42000000) (h2 : bl ≤ 10) (h3 : sl ≤ 1048576) : ∀ m, (partB s pl bl sl m).size ≤ s.size + m * 42000002 := by
  intro m
  induction m with
  | zero => show s.size ≤ _; omega
  | succ m ih =>
    show (partB s pl bl sl m ++ decB (numsA pl bl sl m) ++ blankB).size ≤ _
    have a := decB_size (numsA pl bl sl m)
    have b := nums_le (m := m) h1 h2 h3
    have e1 : blankB.size = 1 := rfl
    simp only [ByteArray.size_append]
    omega
theorem cells_str (s t : ByteArray) : Lib.byteCells s.data.toList ++ Lib.strCells t = Lib.byteCells (s ++ t).data.toList := by
  rw [Lib.strCells_eq, ← Lib.byteCells_append, ByteArray.data_append, Array.toList_append]
theorem cells_one (s : ByteArray) (c : UInt8) : Lib.byteCells s.data.toList ++ [.int .u8 (c.toNat : Nat)] = Lib.byteCells (s ++ ⟨#[c]⟩).data.toList := by
  rw [← cells_str]
  rfl
theorem part_step (s : ByteArray) (pl bl sl m : Nat) : Lib.byteCells (partB s pl bl sl m).data.toList ++ Lib.strCells ⟨(Lib.itoa (numsA pl bl sl m : Nat)).toArray⟩ ++ [.int .u8 32] = Lib.byteCells (partB s pl bl sl (m + 1)).data.toList := by
  rw [itoa_nat, cells_str]
  exact cells_one _ 32
theorem line_step (s nm : ByteArray) : Lib.byteCells s.data.toList ++ Lib.strCells nm ++ [.int .u8 10] = Lib.byteCells (s ++ nm ++ endB).data.toList := by
  rw [cells_str]
  exact cells_one _ 10
set_option maxHeartbeats 4000000 in
theorem implMapList_any (a : Option Addr) (cap : Nat) (fs : List FunD) (na sa : Option Addr) (nc sc : Nat) (ns : List Int) (st : List (List ByteArray)) (w : World) (hcap : fs.length ≤ cap) (hcm : cap ≤ maxLen) (h1 : ns.length ≤ nc) (h2 : nc ≤ maxLen) (h3 : st.length ≤ sc) (h4 : sc ≤ maxLen) (hft : FewT st) (hR : FunRow w a fs) (hs : NumRow w na ns) (ho : TextsRow w sa st) (HT : Hid (Lib.TabIs Tryz.prog w "internal/strconv.uint64pow10" .u64 Lib.pow10Tab)) :
    Calls Tryz.prog 24 #[.slice a fs.length cap, .agg #[.slice na ns.length nc, .slice sa st.length sc]] w fun e w' => e = .returned (.string (mapListB fs ns st)) ∧ Below w.heap.size w w' := by
  have HR := hide hR
  have HS := hide hs
  have HO := hide ho
  have hB0 := below_alloc1 w (.cells #[.slice na ns.length nc, .slice sa st.length sc] 47)
  have HX := hide (new_block w (.cells #[.slice na ns.length nc, .slice sa st.length sc] 47))
  clear hR hs ho
  go_enter Tryz.func24, Tryz.ntmps24
  go_wp2_with fail
  refine (groundAsLaid_any _ _ _ _ _ _ fs ns st _ hcap hcm h1 h2 h3 h4 hft ((unhide HR).below hB0) ((unhide HS).below hB0) ((unhide HO).below hB0)).mono ?_
  rintro e w1 hge
  obtain ⟨hb1, ⟨hf, rfl⟩ | ⟨hf, na', nc', G, B1, B2, rfl, hG⟩⟩ := ground_ways hge
  · have HE : Hid (mapListB fs ns st = ⟨#[]⟩) := by
      show _ = _
      unfold mapListB
      rw [hf, if_neg (by simp)]
    have hB1 := bl_alloc (bl_trans hB0 hb1) (.cells #[.slice none 0 0, .map none, .map none, .int .i64 0] 89)
    clear hge hf
    go_wp2_with fail
    go_ret
    exact ⟨ret_str (unhide HE).symm, hB1⟩
  have HL := hide (lying_of hf hft)
  have HE : Hid (mapListB fs ns st = listB fs st fs.length) := by
    show _ = _
    unfold mapListB
    rw [if_pos hf]
  have HSZ := hide (list_size hf (unhide HL))
  have HN6 := hide (nm_six hf)
  obtain ⟨k1, k2, k3⟩ := GS.nums hG
  have hB1 := bl_alloc (bl_trans hB0 hb1) (.cells #[.slice na' fs.length nc', .map (some B1), .map (some B2), .int .i64 (place fs st fs.length : Nat)] 89)
  have HX1 := hide (box_below (box_below (unhide HX) hb1) (below_alloc1 _ (.cells #[.slice na' fs.length nc', .map (some B1), .map (some B2), .int .i64 (place fs st fs.length : Nat)] 89)))
  have HG1 := hide (new_block w1 (.cells #[.slice na' fs.length nc', .map (some B1), .map (some B2), .int .i64 (place fs st fs.length : Nat)] 89))
  have HK := hide (k3.below (below_alloc1 w1 (.cells #[.slice na' fs.length nc', .map (some B1), .map (some B2), .int .i64 (place fs st fs.length : Nat)] 89)))
  have HBB := hide (World.size_alloc w1 (.cells #[.slice na' fs.length nc', .map (some B1), .map (some B2), .int .i64 (place fs st fs.length : Nat)] 89))
  have HBN := hide (bld_new (w1.alloc (.cells #[.slice na' fs.length nc', .map (some B1), .map (some B2), .int .i64 (place fs st fs.length : Nat)] 89)) (w1.heap.size + 1) (unhide HBB).symm)
  have HBL := hide (below_alloc1 (w1.alloc (.cells #[.slice na' fs.length nc', .map (some B1), .map (some B2), .int .i64 (place fs st fs.length : Nat)] 89)) (.cells #[.pointer none, .slice none 0 0] 95))
  have HR1 := hide ((unhide HR).below hB1)
  have HO1 := hide ((unhide HO).below hB1)
  have HT1 := hide (tab_stays Go.Proofs.YthbbmookhcalkaaGreatDoor.Text.gPow (unhide HT) hB1 (Nat.le_refl _))
  have h40 := (unhide HL).1
  have hlf : (fs.length : Int) ≤ 9223372036854775807 := by omega
  clear hge hG HX hB0 hb1 k3 hf HR HO HT HS
  go_upto_region 5 with fail
  generalize w1.alloc (.cells #[.slice na' fs.length nc', .map (some B1), .map (some B2), .int .i64 (place fs st fs.length : Nat)] 89) = wB at *
  generalize w1.heap.size = gb at *
  go_wp2_with fail
  go_loopw [22] (fun i w' => ∃ k : Nat, k ≤ fs.length ∧ i = .int .i64 k ∧ Hid (Lib.IsBuilderF BT U8 (gb + 1) (gb + 1) (Lib.byteCells (listB fs st k).data.toList) w') ∧ Below (gb + 1) wB w') (fun i _ => fs.length - (intOf i).toNat)
  case atStart => exact ⟨0, Nat.zero_le _, rfl, unhide HBN, by have h := unhide HBL; rw [unhide HBB] at h; exact h⟩
  case round =>
    obtain ⟨k, hk, rfl, HI, hB⟩ := hrel
    clear HBN HBL
    have hBx : Below wB.heap.size wB wr := by rw [unhide HBB]; exact hB
    by_cases hkl : k < fs.length
    · have hkl' : (k : Int) < (fs.length : Int) := by omega
      have hk0 : (0 : Int) ≤ (k : Int) := by omega
      have hks : k < st.length := by rw [(unhide HL).2.2.1]; exact hkl
      have hks' : (k : Int) < (st.length : Int) := by omega
      have hls : (st.length : Int) ≤ 9223372036854775807 := by unfold maxLen at h4; omega
      have hsl := (unhide HL).2.2.2.2.2 st[k] (List.getElem_mem _)
      have hpb := (unhide HL).small k (by omega)
      have hfl : fs[k].body.length ≤ 10 := (unhide HL).2.1 _ (List.getElem_mem _)
      have hnm := unhide HN6 _ (List.getElem_mem hkl)
      have hss := unhide HSZ k (by omega)
      have HLN : Hid (partB (listB fs st k) (place fs st k) fs[k].body.length st[k].length 3 ++ fs[k].nm ++ endB = listB fs st (k + 1)) := by
        show _ = _
        rw [part_all]
        show _ = listB fs st k ++ lineB _ _ _ _
        rw [lenAt_is hkl, stAt_is hks, List.getD, List.getElem?_eq_getElem hkl]
        rfl
      obtain ⟨sb, so, rfl⟩ := (unhide HO1).get (by omega)
      obtain ⟨nb, no, rfl⟩ := (unhide HK).get (by rw [placesTo_len]; omega)
      obtain ⟨fb, fo, rfl⟩ := (unhide HR1).get (by omega)
      obtain ⟨fi, fc, f0, f1, f2, _⟩ := ((unhide HR1).below hBx).at hkl
      obtain ⟨ai, ci, t0, _, _, _⟩ := ((unhide HO1).below hBx).at hks
      have n0 := ((unhide HK).below hBx).cells (k := k) (by rw [placesTo_len]; omega)
      rw [placesTo_at] at n0
      have hX := box2 (box_below (unhide HX1) hBx)
      have hG := box4 (box_below (unhide HG1) hBx)
      generalize listB fs st k = s0 at *
      generalize place fs st k = pl at *
      generalize fs[k].body.length = bl at *
      generalize fs[k].nm = nm at *
      generalize fs[k].wk = wk at *
      generalize st[k].length = sl at *
      have hlt := bld_lt (unhide HI)
      have hFK := new_block wr (.cells #[.string nm, .bool wk, .slice fi bl fc] 28)
      have hB7 := hB.alloc (by have := hB.size; have := unhide HBB; omega) (.cells #[.string nm, .bool wk, .slice fi bl fc] 28)
      have HI7 := hide (bld_below (unhide HI) (below_alloc1 wr (.cells #[.string nm, .bool wk, .slice fi bl fc] 28)))
      have g0 := cell_below (below_alloc1 wr (.cells #[.string nm, .bool wk, .slice fi bl fc] 28)) hG.1.1
      have x0 := cell_below (below_alloc1 wr (.cells #[.string nm, .bool wk, .slice fi bl fc] 28)) hX.1.2
      have n1 := cell_below (below_alloc1 wr (.cells #[.string nm, .bool wk, .slice fi bl fc] 28)) n0
      have t1 := cell_below (below_alloc1 wr (.cells #[.string nm, .bool wk, .slice fi bl fc] 28)) t0
      go_upto_region 8 with fail
      generalize wr.alloc (.cells #[.string nm, .bool wk, .slice fi bl fc] 28) = wf at *
      generalize wr.heap.size = fk at *
      have hfk : fk ≠ gb + 1 := by omega
      have HST : Hid (Stable (fun w' => w'.cell? ⟨gb, 0, none⟩ = some (.slice (some ⟨nb, no, none⟩) fs.length nc') ∧ w'.cell? ⟨nb, no + k, none⟩ = some (.int .i64 pl) ∧ w'.cell? ⟨fk, 2, none⟩ = some (.slice fi bl fc) ∧ w'.cell? ⟨w.heap.size, 1, none⟩ = some (.slice (some ⟨sb, so, none⟩) st.length sc) ∧ w'.cell? ⟨sb, so + k, none⟩ = some (.slice ai sl ci) ∧ w'.heap[fk]? = some (.cells #[.string nm, .bool wk, .slice fi bl fc] 28) ∧ Lib.IsBuilderF BT U8 (gb + 1) (gb + 1) (Lib.byteCells s0.data.toList) w' ∧ Below wB.heap.size wB w')) := ((Stable.cell _ _).and ((Stable.cell _ _).and ((Stable.cell _ _).and ((Stable.cell _ _).and ((Stable.cell _ _).and ((Stable.box _ _).and (st_bld.and (Stable.below wB))))))))
      have HS : Hid ((fun w' => w'.cell? ⟨gb, 0, none⟩ = some (.slice (some ⟨nb, no, none⟩) fs.length nc') ∧ w'.cell? ⟨nb, no + k, none⟩ = some (.int .i64 pl) ∧ w'.cell? ⟨fk, 2, none⟩ = some (.slice fi bl fc) ∧ w'.cell? ⟨w.heap.size, 1, none⟩ = some (.slice (some ⟨sb, so, none⟩) st.length sc) ∧ w'.cell? ⟨sb, so + k, none⟩ = some (.slice ai sl ci) ∧ w'.heap[fk]? = some (.cells #[.string nm, .bool wk, .slice fi bl fc] 28) ∧ Lib.IsBuilderF BT U8 (gb + 1) (gb + 1) (Lib.byteCells s0.data.toList) w' ∧ Below wB.heap.size wB w') wf) := ⟨g0, n1, (box3 hFK).1.2.2, x0, t1, hFK, unhide HI7, by rw [unhide HBB]; exact hB7⟩
      clear hFK hB7 HI7 g0 x0 n1 t1 n0 t0 f0 f1 f2 hX hG hlt hB hBx HI
      refine wp_region_held_drew (S := (fun w' => w'.cell? ⟨gb, 0, none⟩ = some (.slice (some ⟨nb, no, none⟩) fs.length nc') ∧ w'.cell? ⟨nb, no + k, none⟩ = some (.int .i64 pl) ∧ w'.cell? ⟨fk, 2, none⟩ = some (.slice fi bl fc) ∧ w'.cell? ⟨w.heap.size, 1, none⟩ = some (.slice (some ⟨sb, so, none⟩) st.length sc) ∧ w'.cell? ⟨sb, so + k, none⟩ = some (.slice ai sl ci) ∧ w'.heap[fk]? = some (.cells #[.string nm, .bool wk, .slice fi bl fc] 28) ∧ Lib.IsBuilderF BT U8 (gb + 1) (gb + 1) (Lib.byteCells s0.data.toList) w' ∧ Below wB.heap.size wB w')) (by kernel_rfl) ((unhide HST).2 _ (unhide HS)) (fun hHeld => ?_)
      generalize wf.drew = wa at *
      refine wpAnyH_take (i := 0) (oi := { dst := some 27, op := Go.Op.fieldAddr 89 (Go.Operand.tmp 5) 0, type := 0, pos := "l9_map.go:71", after := #[], guard := none }) (v := ?v33_0) rfl (by kernel_rfl) (by kernel_rfl) (by kernel_rfl) (fun _ _ _ h => h) (Or.inl ⟨by rfl, ?y33_0⟩) (by assumption) ?r33_0
      case y33_0 => (intro w hSw; (try dsimp only at hSw); go_simp; try (with_reducible rfl))
      try simp only [Act.put, List.setIfInBounds_toArray, List.set_cons_zero, List.set_cons_succ]
      refine wpAnyH_take (i := 1) (oi := { dst := some 28, op := Go.Op.load 33 (Go.Operand.tmp 27), type := 33, pos := "l9_map.go:71", after := #[{ on := 0, ground := Go.Ground.data }], guard := none }) (v := ?v34_1) rfl (by kernel_rfl) (by kernel_rfl) (by kernel_rfl) (fun _ _ _ h => h) (Or.inl ⟨by rfl, ?y34_1⟩) (by assumption) ?r34_1
      case y34_1 => (intro w hSw; (try dsimp only at hSw); go_simp; try (with_reducible rfl))
      try simp only [Act.put, List.setIfInBounds_toArray, List.set_cons_zero, List.set_cons_succ]
      refine wpAnyH_take (i := 2) (oi := { dst := some 29, op := Go.Op.move (Go.Operand.tmp 8), type := 3, pos := "l9_map.go:71", after := #[], guard := none }) (v := ?v35_2) rfl (by kernel_rfl) (by kernel_rfl) (by kernel_rfl) (fun _ _ _ h => h) (Or.inl ⟨by rfl, ?y35_2⟩) (by assumption) ?r35_2
      case y35_2 => (intro w hSw; (try dsimp only at hSw); go_simp; try (with_reducible rfl))
      try simp only [Act.put, List.setIfInBounds_toArray, List.set_cons_zero, List.set_cons_succ]
      refine wpAnyH_take (i := 3) (oi := { dst := some 30, op := Go.Op.indexAddr 33 (Go.Operand.tmp 28) (Go.Operand.tmp 29), type := 0, pos := "l9_map.go:71", after := #[{ on := 1, ground := Go.Ground.data }, { on := 2, ground := Go.Ground.data }], guard := none }) (v := ?v36_3) rfl (by kernel_rfl) (by kernel_rfl) (by kernel_rfl) (fun _ _ _ h => h) (Or.inl ⟨by rfl, ?y36_3⟩) (by assumption) ?r36_3
      case y36_3 => (intro w hSw; (try dsimp only at hSw); go_simp; try (with_reducible rfl))
      try simp only [Act.put, List.setIfInBounds_toArray, List.set_cons_zero, List.set_cons_succ]
      refine wpAnyH_take (i := 4) (oi := { dst := some 31, op := Go.Op.load 3 (Go.Operand.tmp 30), type := 3, pos := "l9_map.go:71", after := #[{ on := 3, ground := Go.Ground.data }], guard := none }) (v := ?v37_4) rfl (by kernel_rfl) (by kernel_rfl) (by kernel_rfl) (fun _ _ _ h => h) (Or.inl ⟨by rfl, ?y37_4⟩) (by assumption) ?r37_4
      case y37_4 => (intro w hSw; (try dsimp only at hSw); go_simp; try (with_reducible rfl))
      try simp only [Act.put, List.setIfInBounds_toArray, List.set_cons_zero, List.set_cons_succ]
      refine wpAnyH_take (i := 5) (oi := { dst := some 32, op := Go.Op.fieldAddr 28 (Go.Operand.tmp 9) 2, type := 0, pos := "l9_map.go:71", after := #[], guard := none }) (v := ?v38_5) rfl (by kernel_rfl) (by kernel_rfl) (by kernel_rfl) (fun _ _ _ h => h) (Or.inl ⟨by rfl, ?y38_5⟩) (by assumption) ?r38_5
      case y38_5 => (intro w hSw; (try dsimp only at hSw); go_simp; try (with_reducible rfl))
      try simp only [Act.put, List.setIfInBounds_toArray, List.set_cons_zero, List.set_cons_succ]
      refine wpAnyH_take (i := 6) (oi := { dst := some 33, op := Go.Op.load 26 (Go.Operand.tmp 32), type := 26, pos := "l9_map.go:71", after := #[{ on := 5, ground := Go.Ground.data }], guard := none }) (v := ?v39_6) rfl (by kernel_rfl) (by kernel_rfl) (by kernel_rfl) (fun _ _ _ h => h) (Or.inl ⟨by rfl, ?y39_6⟩) (by assumption) ?r39_6
      case y39_6 => (intro w hSw; (try dsimp only at hSw); go_simp; try (with_reducible rfl))
      try simp only [Act.put, List.setIfInBounds_toArray, List.set_cons_zero, List.set_cons_succ]
      refine wpAnyH_take (i := 7) (oi := { dst := some 34, op := Go.Op.call { callee := Go.Callee.builtin Go.Builtin.len, args := #[Go.Operand.tmp 33], argTypes := #[26] }, type := 3, pos := "l9_map.go:71", after := #[{ on := 6, ground := Go.Ground.data }], guard := none }) (v := ?v40_7) rfl (by kernel_rfl) (by kernel_rfl) (by kernel_rfl) (fun _ _ _ h => h) (Or.inl ⟨by rfl, ?y40_7⟩) (by assumption) ?r40_7
      case y40_7 => (intro w hSw; (try dsimp only at hSw); go_simp; try (with_reducible rfl))
      try simp only [Act.put, List.setIfInBounds_toArray, List.set_cons_zero, List.set_cons_succ]
      refine wpAnyH_take (i := 8) (oi := { dst := some 35, op := Go.Op.fieldAddr 47 (Go.Operand.tmp 3) 1, type := 0, pos := "l9_map.go:71", after := #[], guard := none }) (v := ?v41_8) rfl (by kernel_rfl) (by kernel_rfl) (by kernel_rfl) (fun _ _ _ h => h) (Or.inl ⟨by rfl, ?y41_8⟩) (by assumption) ?r41_8
      case y41_8 => (intro w hSw; (try dsimp only at hSw); go_simp; try (with_reducible rfl))
      try simp only [Act.put, List.setIfInBounds_toArray, List.set_cons_zero, List.set_cons_succ]
      refine wpAnyH_take (i := 9) (oi := { dst := some 36, op := Go.Op.load 45 (Go.Operand.tmp 35), type := 45, pos := "l9_map.go:71", after := #[{ on := 8, ground := Go.Ground.data }], guard := none }) (v := ?v42_9) rfl (by kernel_rfl) (by kernel_rfl) (by kernel_rfl) (fun _ _ _ h => h) (Or.inl ⟨by rfl, ?y42_9⟩) (by assumption) ?r42_9
      case y42_9 => (intro w hSw; (try dsimp only at hSw); go_simp; try (with_reducible rfl))
      try simp only [Act.put, List.setIfInBounds_toArray, List.set_cons_zero, List.set_cons_succ]
      refine wpAnyH_take (i := 10) (oi := { dst := some 37, op := Go.Op.move (Go.Operand.tmp 8), type := 3, pos := "l9_map.go:71", after := #[], guard := none }) (v := ?v43_10) rfl (by kernel_rfl) (by kernel_rfl) (by kernel_rfl) (fun _ _ _ h => h) (Or.inl ⟨by rfl, ?y43_10⟩) (by assumption) ?r43_10
      case y43_10 => (intro w hSw; (try dsimp only at hSw); go_simp; try (with_reducible rfl))
      try simp only [Act.put, List.setIfInBounds_toArray, List.set_cons_zero, List.set_cons_succ]
      refine wpAnyH_take (i := 11) (oi := { dst := some 38, op := Go.Op.indexAddr 45 (Go.Operand.tmp 36) (Go.Operand.tmp 37), type := 0, pos := "l9_map.go:71", after := #[{ on := 9, ground := Go.Ground.data }, { on := 10, ground := Go.Ground.data }], guard := none }) (v := ?v44_11) rfl (by kernel_rfl) (by kernel_rfl) (by kernel_rfl) (fun _ _ _ h => h) (Or.inl ⟨by rfl, ?y44_11⟩) (by assumption) ?r44_11
      case y44_11 => (intro w hSw; (try dsimp only at hSw); go_simp; try (with_reducible rfl))
      try simp only [Act.put, List.setIfInBounds_toArray, List.set_cons_zero, List.set_cons_succ]
      refine wpAnyH_take (i := 12) (oi := { dst := some 39, op := Go.Op.load 60 (Go.Operand.tmp 38), type := 60, pos := "l9_map.go:71", after := #[{ on := 11, ground := Go.Ground.data }], guard := none }) (v := ?v45_12) rfl (by kernel_rfl) (by kernel_rfl) (by kernel_rfl) (fun _ _ _ h => h) (Or.inl ⟨by rfl, ?y45_12⟩) (by assumption) ?r45_12
      case y45_12 => (intro w hSw; (try dsimp only at hSw); go_simp; try (with_reducible rfl))
      try simp only [Act.put, List.setIfInBounds_toArray, List.set_cons_zero, List.set_cons_succ]
      refine wpAnyH_take (i := 13) (oi := { dst := some 40, op := Go.Op.call { callee := Go.Callee.builtin Go.Builtin.len, args := #[Go.Operand.tmp 39], argTypes := #[60] }, type := 3, pos := "l9_map.go:71", after := #[{ on := 12, ground := Go.Ground.data }], guard := none }) (v := ?v46_13) rfl (by kernel_rfl) (by kernel_rfl) (by kernel_rfl) (fun _ _ _ h => h) (Or.inl ⟨by rfl, ?y46_13⟩) (by assumption) ?r46_13
      case y46_13 => (intro w hSw; (try dsimp only at hSw); go_simp; try (with_reducible rfl))
      try simp only [Act.put, List.setIfInBounds_toArray, List.set_cons_zero, List.set_cons_succ]
      refine wpAnyH_take (i := 16) (oi := { dst := some 43, op := Go.Op.move (Go.Operand.const (Go.Value.int Go.IntKind.i64 0)), type := 3, pos := "l9_map.go:71", after := #[], guard := none }) (v := ?v47_16) rfl (by kernel_rfl) (by kernel_rfl) (by kernel_rfl) (fun _ _ _ h => h) (Or.inl ⟨by rfl, ?y47_16⟩) (by assumption) ?r47_16
      case y47_16 => (intro w hSw; (try dsimp only at hSw); go_simp; try (with_reducible rfl))
      try simp only [Act.put, List.setIfInBounds_toArray, List.set_cons_zero, List.set_cons_succ]
      refine wpAnyH_ready (rs := [14]) (by kernel_rfl) (by simp) ?_
      refine AllReadyH.cons (o := { dst := some 41, op := Go.Op.buildSlice 33 3 #[(0, Go.Operand.tmp 31), (1, Go.Operand.tmp 34), (2, Go.Operand.tmp 40)], type := 33, pos := "l9_map.go:71", after := #[{ on := 4, ground := Go.Ground.data }, { on := 7, ground := Go.Ground.data }, { on := 13, ground := Go.Ground.data }], guard := none }) rfl (fun K hK => ?_) AllReadyH.nil
      go_simp
      have hres := new_block wa (.cells #[.int .i64 pl, .int .i64 bl, .int .i64 sl] 3)
      have hIL := bld_lt hHeld.2.2.2.2.2.2.1
      have hbk := below_alloc1 wa (.cells #[.int .i64 pl, .int .i64 bl, .int .i64 sl] 3)
      replace hHeld := (unhide HST).1 _ _ hbk hHeld
      clear hbk
      generalize wa.alloc (.cells #[.int .i64 pl, .int .i64 bl, .int .i64 sl] 3) = wb at *
      generalize hib : wa.heap.size = ib at *
      clear hib
      refine hK.out _ _ hHeld (fun _ => ?_)
      clear hK K
      try simp only [Act.put, List.setIfInBounds_toArray, List.set_cons_zero, List.set_cons_succ]
      refine wpAnyH_take (i := 15) (oi := { dst := some 42, op := Go.Op.call { callee := Go.Callee.builtin Go.Builtin.len, args := #[Go.Operand.tmp 41], argTypes := #[33] }, type := 3, pos := "l9_map.go:71", after := #[{ on := 14, ground := Go.Ground.data }], guard := none }) (v := ?v48_15) rfl (by kernel_rfl) (by kernel_rfl) (by kernel_rfl) (fun _ _ _ h => h) (Or.inl ⟨by rfl, ?y48_15⟩) (by assumption) ?r48_15
      case y48_15 => (intro w hSw; (try dsimp only at hSw); go_simp; try (with_reducible rfl))
      try simp only [Act.put, List.setIfInBounds_toArray, List.set_cons_zero, List.set_cons_succ]
      refine wpAnyH_done (by kernel_rfl) ?_ _
      obtain ⟨_, _, _, _, _, hF, hI, hB⟩ := hHeld
      rw [unhide HBB] at hB
      have hibn : ib ≠ gb + 1 := by omega
      have HI := hide hI
      clear hI hIL
      go_wp2_with fail
      go_loopw [43] (fun i w' => ∃ m : Nat, m ≤ 3 ∧ i = .int .i64 m ∧ Hid (Lib.IsBuilderF BT U8 (gb + 1) (gb + 1) (Lib.byteCells (partB s0 pl bl sl m).data.toList) w') ∧ w'.heap[fk]? = some (.cells #[.string nm, .bool wk, .slice fi bl fc] 28) ∧ w'.heap[ib]? = some (.cells #[.int .i64 pl, .int .i64 bl, .int .i64 sl] 3) ∧ Below (gb + 1) wB w') (fun i _ => 3 - (intOf i).toNat)
      case atStart => exact ⟨0, by omega, rfl, HI, hF, hres, hB⟩
      case round =>
        clear HI hF hres hB
        obtain ⟨m, hm, rfl, HI, hF, hres, hB⟩ := hrel
        have HF := hide hF
        have HRES := hide hres
        have hBx : Below wB.heap.size wB wr := by rw [unhide HBB]; exact hB
        have hsz : gb + 1 ≤ wr.heap.size := by have := hB.size; have := unhide HBB; omega
        clear hF hres
        by_cases hml : m < 3
        · have hml' : (m : Int) < 3 := by omega
          have hm0 : (0 : Int) ≤ (m : Int) := by omega
          have c0 := nums_at (unhide HRES) hml
          have hps := part_size (s := s0) hpb hfl hsl m
          have hnn := nums_le (m := m) hpb hfl hsl
          have HSTEP := hide (part_step s0 pl bl sl m)
          have hil : (Lib.itoa (numsA pl bl sl m : Nat)).length ≤ 42000001 := by rw [itoa_nat]; exact Nat.le_trans (dlen _) (by omega)
          generalize numsA pl bl sl m = nn at *
          generalize partB s0 pl bl sl m = p0 at *
          go_wp2_with fail
          refine (Tryz.strconv_Itoa (nn : Int) (by omega) (by omega) _ (tab_stays Go.Proofs.YthbbmookhcalkaaGreatDoor.Text.gPow (unhide HT1) hBx (Nat.le_refl _))).mono ?_
          rintro e wk ⟨rfl, kk, os, rfl⟩
          have hg := Lib.below_grow wr.heap.size wr (Nat.le_refl _) kk os
          have hB5 := Below.trans hB (Lib.below_grow (gb + 1) wr hsz kk os)
          have hI5 := bld_below (unhide HI) hg
          have hF5 := box_below (unhide HF) hg
          have hR5 := box_below (unhide HRES) hg
          have hsz5 := Nat.le_trans hsz hg.size
          clear HI HF HRES hB hBx hg c0
          generalize Sort.grow (wr.drewN kk) os = w5 at *
          have HI5 := hide hI5
          have HF5 := hide hF5
          have HR5 := hide hR5
          clear hI5 hF5 hR5
          go_wp2_with fail
          refine (writeString_any (gb + 1) (gb + 1) _ _ _ (unhide HI5) (by rw [bc_len]; show _ + (Lib.itoa (nn : Nat)).length ≤ _; omega) hsz5).mono ?_
          rintro e w6 ⟨rfl, hI6, hb6, ho6⟩
          have HI6 := hide hI6
          have hB6 := Below.trans hB5 hb6
          have HF6 := hide (ho6 _ _ (unhide HF5) (by simpa using hfk) (by intro c fz h; injection h with _ h _; exact absurd h (by decide)))
          have HR6 := hide (ho6 _ _ (unhide HR5) (by simpa using hibn) (by intro c fz h; injection h with _ h _; exact absurd h (by decide)))
          have hsz6 := Nat.le_trans hsz5 hb6.size
          clear HI5 HF5 HR5 hI6 hb6 ho6 hB5
          go_wp2_with fail
          refine (writeByte_any (gb + 1) (gb + 1) _ _ _ (unhide HI6) (by rw [List.length_append, bc_len, Lib.strCells_length]; show _ + (Lib.itoa (nn : Nat)).length + 1 ≤ _; omega) hsz6).mono ?_
          rintro e w7 ⟨rfl, hI7, hb7, ho7⟩
          rw [unhide HSTEP] at hI7
          have HI7 := hide hI7
          have hB7 := Below.trans hB6 hb7
          have HF7 := hide (ho7 _ _ (unhide HF6) (by simpa using hfk) (by intro c fz h; injection h with _ h _; exact absurd h (by decide)))
          have HR7 := hide (ho7 _ _ (unhide HR6) (by simpa using hibn) (by intro c fz h; injection h with _ h _; exact absurd h (by decide)))
          clear HI6 HF6 HR6 hI7 hb7 ho7 hB6
          go_wp2_with fail
          exact ⟨⟨m + 1, by omega, by go_num, HI7, unhide HF7, unhide HR7, hB7⟩, by simp [intOf]; omega⟩
        · have hml' : ¬ (m : Int) < 3 := by omega
          have hm3 : m = 3 := by omega
          have hps := part_size (s := s0) hpb hfl hsl m
          have HLN2 : Hid (Lib.byteCells (partB s0 pl bl sl m).data.toList ++ Lib.strCells nm ++ [.int .u8 10] = Lib.byteCells (listB fs st (k + 1)).data.toList) := by
            show _ = _
            rw [line_step, hm3, unhide HLN]
          generalize partB s0 pl bl sl m = p0 at *
          have hZ := box3 (unhide HF)
          clear hm3 HLN
          go_wp2_with fail
          refine (writeString_any (gb + 1) (gb + 1) _ _ _ (unhide HI) (by rw [bc_len]; omega) hsz).mono ?_
          rintro e w6 ⟨rfl, hI6, hb6, ho6⟩
          have HI6 := hide hI6
          have hB6 := Below.trans hB hb6
          have hsz6 := Nat.le_trans hsz hb6.size
          clear HI HF HRES hI6 hb6 ho6 hB hBx hZ
          go_wp2_with fail
          refine (writeByte_any (gb + 1) (gb + 1) _ _ _ (unhide HI6) (by rw [List.length_append, bc_len, Lib.strCells_length]; omega) hsz6).mono ?_
          rintro e w7 ⟨rfl, hI7, hb7, ho7⟩
          rw [unhide HLN2] at hI7
          have HI7 := hide hI7
          have hB7 := Below.trans hB6 hb7
          clear HI6 hI7 hb7 ho7 hB6
          go_wp2_with fail
          exact ⟨⟨k + 1, by omega, by go_num, HI7, hB7⟩, by simp [intOf]; omega⟩
    · have hkl' : ¬ (k : Int) < (fs.length : Int) := by omega
      have hke : k = fs.length := by omega
      have HI2 : Hid (Lib.IsBuilderF BT U8 (gb + 1) (gb + 1) (Lib.byteCells (listB fs st fs.length).data.toList) wr) := by rw [← hke]; exact HI
      clear hke HI
      go_wp2_with fail
      refine (Tryz.Builder_String_any_f (gb + 1) (gb + 1) _ _ (unhide HI2) (by have := hB.size; rw [← unhide HBB]; omega)).mono ?_
      rintro e w3 ⟨rfl, _, hb3⟩
      go_wp2_with fail
      go_ret
      exact ⟨ret_str (by rw [unhide HE]), bl_trans hB1 (by rw [unhide HBB]; exact Below.trans hB hb3)⟩
end Go.Proofs.YthbbmookhcalkaaGreatDoor.MapL
