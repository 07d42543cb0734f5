/- The contracts of both sides' MapName. -/
import Derived.Test.YtjbhbkkkjdpamaaGreatDoorMapN
import Derived.Test.YtjbhbkkkjdpamaaGreatDoorShelf
import Derived.LaidMore
import Derived.Stop.LaidErr
import Derived.Lib.LaidTab
import Derived.Deep.RegionHeld3
import Derived.Deep.RegionWith
import Derived.Lib.AppendIntMem
namespace Go.Proofs.YtjbhbkkkjdpamaaGreatDoor.MapP
open Go.ChangeShapes Go.WideShapes Go.ChangeAt Go.RowKit Go.Joins Go.WideMaps Go.Maps Go.Deep
open Go.Proofs.YtjbhbkkkjdpamaaGreatDoor.Base Go.Proofs.YtjbhbkkkjdpamaaGreatDoor.InsA Go.Proofs.YtjbhbkkkjdpamaaGreatDoor.Name Go.Proofs.YtjbhbkkkjdpamaaGreatDoor.Funs Go.Proofs.YtjbhbkkkjdpamaaGreatDoor.Open Go.Proofs.YtjbhbkkkjdpamaaGreatDoor.FunS Go.Proofs.YtjbhbkkkjdpamaaGreatDoor.Keep Go.Proofs.YtjbhbkkkjdpamaaGreatDoor.UnitS Go.Proofs.YtjbhbkkkjdpamaaGreatDoor.UnitM Go.Proofs.YtjbhbkkkjdpamaaGreatDoor.Refs Go.Proofs.YtjbhbkkkjdpamaaGreatDoor.LayN Go.Proofs.YtjbhbkkkjdpamaaGreatDoor.LayA Go.Proofs.YtjbhbkkkjdpamaaGreatDoor.KeepD Go.Proofs.YtjbhbkkkjdpamaaGreatDoor.KeepA Go.Proofs.YtjbhbkkkjdpamaaGreatDoor.LayD Go.Proofs.YtjbhbkkkjdpamaaGreatDoor.LayS Go.Proofs.YtjbhbkkkjdpamaaGreatDoor.LayT Go.Proofs.YtjbhbkkkjdpamaaGreatDoor.LayG Go.Proofs.YtjbhbkkkjdpamaaGreatDoor.LayH Go.Proofs.YtjbhbkkkjdpamaaGreatDoor.LayJ Go.Proofs.YtjbhbkkkjdpamaaGreatDoor.LayK Go.Proofs.YtjbhbkkkjdpamaaGreatDoor.LayV Go.Proofs.YtjbhbkkkjdpamaaGreatDoor.LayM Go.Proofs.YtjbhbkkkjdpamaaGreatDoor.LayO Go.Proofs.YtjbhbkkkjdpamaaGreatDoor.MapD Go.Proofs.YtjbhbkkkjdpamaaGreatDoor.MapA Go.Proofs.YtjbhbkkkjdpamaaGreatDoor.MapJ Go.Proofs.YtjbhbkkkjdpamaaGreatDoor.MapT Go.Proofs.YtjbhbkkkjdpamaaGreatDoor.MapK Go.Proofs.YtjbhbkkkjdpamaaGreatDoor.Dec Go.Proofs.YtjbhbkkkjdpamaaGreatDoor.MapN
set_option linter.unusedVariables false
set_option maxRecDepth 100000

theorem nm_six {fs : List FunD} {ns : List Int} {st : List (List ByteArray)} (h : formB fs ns st = true) : ∀ f ∈ fs, f.nm.size ≤ 6 := fun f hf => by
  have h1 := (keep_parts (form_parts h).1).2.2.1 f hf
  unfold funOkB nameB at h1
  simp only [Bool.and_eq_true, decide_eq_true_iff] at h1
  exact h1.1.1.1.2.2
theorem st_six {fs : List FunD} {ns : List Int} {st : List (List ByteArray)} (h : formB fs ns st = true) : ∀ ss ∈ st, ∀ s ∈ ss, s.size ≤ 6 := fun ss hss s hs => by
  have h1 := (stones_parts ((form_parts h).2.2.1 ss hss)).1 s hs
  unfold findI at h1
  by_cases hl : fs.findIdx (isNm s) < fs.length
  · have e : isNm s fs[fs.findIdx (isNm s)] = true := List.findIdx_getElem (w := hl)
    generalize fs.findIdx (isNm s) = i at *
    have e2 : fs[i].nm.toList = s.toList := by simpa [isNm] using e
    rw [ByteArray.toList_eq, ByteArray.toList_eq] at e2
    have h6 := nm_six h _ (List.getElem_mem hl)
    have h7 : fs[i].nm.size = s.size := by simpa using congrArg List.length e2
    omega
  · rw [if_neg hl] at h1; omega
def NmEnd (w : World) (fs : List FunD) (ns : List Int) (st : List (List ByteArray)) (aa : Int) (e : Ending) (w' : World) : Prop := ∃ o, e = .returned (.string o) ∧ NameIs fs ns st aa o ∧ Below w.heap.size w w'
theorem dec_len (j : Nat) (h : j ≤ 10) : (Lib.decDigits j).length ≤ 11 := Nat.le_trans (dlen j) (by omega)
theorem spotN_less {fs : List FunD} {ns : List Int} {st : List (List ByteArray)} {aa : Int} {k : Nat} (h : spotN fs ns st aa = some k) : ∃ j : Nat, aa - (place fs st k : Int) = (j : Int) ∧ ∃ hk : k < fs.length, j < fs[k].body.length := by
  obtain ⟨hf, hk, hh⟩ := spotN_facts h
  rw [hit_iff, lenAt_is hk] at hh
  exact ⟨(aa - (place fs st k : Int)).toNat, by omega, hk, by omega⟩
theorem name_ins {fs : List FunD} {ns : List Int} {st : List (List ByteArray)} {aa : Int} {k j : Nat} (h : spotN fs ns st aa = some k) (hk : k < fs.length) (hj : aa - (place fs st k : Int) = (j : Int)) : NameIs fs ns st aa (insN fs[k].nm j) := .inl ⟨k, h, by rw [hj]; simp [List.getD, List.getElem?_eq_getElem hk]⟩
theorem stand_ways {fs : List FunD} {ns : List Int} {st : List (List ByteArray)} {aa : Int} {q j : Nat} (hf : formB fs ns st = true) (hl : st.length = fs.length) (hq : q < fs.length) (hu : UpTo fs st aa q) (hsz : aa < (place fs st fs.length : Int)) (hj : aa - (place fs st q : Int) = (j : Int)) : (j < fs[q].body.length → NameIs fs ns st aa (insN fs[q].nm j)) ∧ (fs[q].body.length ≤ j → ∃ h : j - fs[q].body.length < (st[q]'(hl ▸ hq)).length, NameIs fs ns st aa (starB ++ (st[q]'(hl ▸ hq))[j - fs[q].body.length])) := by
  have hqs : q < st.length := hl ▸ hq
  have e1 := hu.1
  refine ⟨fun h => ?_, fun h => ?_⟩
  · exact name_ins (spotN_some hf hq (hit_iff.2 ⟨e1, by rw [lenAt_is hq]; omega⟩)) hq hj
  · have hm : ((place fs st q + lenAt fs q : Nat) : Int) ≤ aa := by rw [lenAt_is hq]; omega
    have hs := upTo_stone hq hu hsz hm
    have ej : (aa - ((place fs st q + lenAt fs q : Nat) : Int)).toNat = j - fs[q].body.length := by rw [lenAt_is hq]; omega
    rw [ej] at hs
    have h3 : j - fs[q].body.length < st[q].length := by have := hs.2.2; rw [stAt_is hqs] at this; exact this
    exact ⟨h3, .inr (.inl ⟨upTo_miss hu hm, hf, q, _, hs, by simp [stAt_is hqs, List.getD, List.getElem?_eq_getElem h3]⟩)⟩
theorem itoa_nat (j : Nat) : Lib.itoa (j : Int) = Lib.decDigits j := by
  unfold Lib.itoa
  rw [if_neg (by omega)]
  simp
set_option maxHeartbeats 8000000 in
theorem specMapName_any (a : Option Addr) (cap : Nat) (fs : List FunD) (na sa : Option Addr) (nc sc : Nat) (ns : List Int) (st : List (List ByteArray)) (aa : Int) (w : World) (wa : (Lit.int .i64 aa).wf = true) (hcap : fs.length ≤ cap) (hcm : cap ≤ maxLen) (h1 : ns.length ≤ nc) (h2 : nc ≤ maxLen) (h3 : st.length ≤ sc) (h4 : sc ≤ maxLen) (hft : FewT st) (hR : FunRow w a fs) (hs : NumRow w na ns) (ho : TextsRow w sa st) :
    Calls Tryz.prog 8 #[.slice a fs.length cap, .agg #[.slice na ns.length nc, .slice sa st.length sc], .int .i64 aa] w (NmEnd w fs ns st aa) := by
  have HR := hide hR
  have HS := hide hs
  have HO := hide ho
  have HFT := hide hft
  have hB0 := below_alloc1 w (.cells #[.slice na ns.length nc, .slice sa st.length sc] 32)
  have HX := hide (new_block w (.cells #[.slice na ns.length nc, .slice sa st.length sc] 32))
  have hlf : (fs.length : Int) ≤ 9223372036854775807 := by unfold maxLen at hcm; omega
  have hls : (st.length : Int) ≤ 9223372036854775807 := by unfold maxLen at h4; omega
  clear hR hs ho hft
  have hX := box2 (unhide HX)
  go_enter Tryz.func8, Tryz.ntmps8
  go_wp2_with fail
  refine (specMapSpot_any a cap fs na sa nc sc ns st aa _ wa hcap hcm h1 h2 h3 h4 (unhide HFT) ((unhide HR).below hB0) ((unhide HS).below hB0) ((unhide HO).below hB0)).mono ?_
  rintro e w1 ⟨rfl, hb1⟩
  have hB1 := bl_trans hB0 hb1
  have HX1 := hide (box_below (unhide HX) hb1)
  clear hX HX hB0 hb1
  cases hn : spotN fs ns st aa with
  | some k =>
    rw [spotE_some hn]
    obtain ⟨hf, _⟩ := spotN_facts hn
    obtain ⟨j, hj, hk, hjb⟩ := spotN_less hn
    have HNI := hide (name_ins hn hk hj)
    rw [hj]
    have hfl : fs[k].body.length ≤ 10 := keep_bodies (form_parts hf).1 _ (List.getElem_mem _)
    have hnm := nm_six hf _ (List.getElem_mem hk)
    have hk' : (k : Int) < (fs.length : Int) := by omega
    have hk0 : (0 : Int) ≤ (k : Int) := by omega
    have hj10 : j ≤ 10 := by omega
    have hB2 := bl_alloc hB1 (.cells #[.int .i64 k, .int .i64 j] 48)
    obtain ⟨fb, fo, rfl⟩ := (unhide HR).get (by omega)
    obtain ⟨fi, fc, f0, _⟩ := ((unhide HR).below hB2).at hk
    have hP := box2 (new_block w1 (.cells #[.int .i64 k, .int .i64 j] 48))
    clear hn hj hjb hfl hf
    generalize fs[k].nm = nm at *
    by_cases hj0 : ((j : Int) == 0) = true
    · have hj00 : j = 0 := by simpa using hj0
      have HNO : Hid (NameIs fs ns st aa nm) := by have h := unhide HNI; unfold insN at h; rw [if_pos hj00] at h; exact h
      clear hj00 HNI
      go_wp2_with fail
      go_ret
      exact ⟨_, rfl, unhide HNO, hB2⟩
    have hj1 : ((j : Int) == 0) = false := by simpa using hj0
    have hjn : j ≠ 0 := by intro e; subst e; exact hj0 rfl
    have hdl := dec_len j hj10
    have q1 : ¬ 9223372036854775807 < nm.size + 1 := by omega
    have q2 : ¬ 9223372036854775807 < nm.size + 1 + (Lib.decDigits j).length := by omega
    have HST : Hid (Stable (fun w' => w'.cell? ⟨w1.heap.size, 0, none⟩ = some (.int .i64 k) ∧ w'.cell? ⟨w1.heap.size, 1, none⟩ = some (.int .i64 j) ∧ w'.cell? ⟨fb, fo + k * 3, none⟩ = some (.string nm) ∧ Below w.heap.size w w')) := ((Stable.cell _ _).and ((Stable.cell _ _).and ((Stable.cell _ _).and (Stable.below w))))
    have HSQ : Hid ((fun w' => w'.cell? ⟨w1.heap.size, 0, none⟩ = some (.int .i64 k) ∧ w'.cell? ⟨w1.heap.size, 1, none⟩ = some (.int .i64 j) ∧ w'.cell? ⟨fb, fo + k * 3, none⟩ = some (.string nm) ∧ Below w.heap.size w w') (w1.alloc (.cells #[.int .i64 k, .int .i64 j] 48))) := ⟨hP.1.1, hP.1.2, f0, hB2⟩
    clear hj0
    go_upto_region 5 with fail
    clear hP f0 hdl
    have HS := HSQ
    refine wp_region_held_drew (S := (fun w' => w'.cell? ⟨w1.heap.size, 0, none⟩ = some (.int .i64 k) ∧ w'.cell? ⟨w1.heap.size, 1, none⟩ = some (.int .i64 j) ∧ w'.cell? ⟨fb, fo + k * 3, none⟩ = some (.string nm) ∧ Below w.heap.size w w')) (by kernel_rfl) ((unhide HST).2 _ (unhide HS)) (fun hHeld => ?_)
    generalize (w1.alloc (.cells #[.int .i64 k, .int .i64 j] 48)).drew = wa at *
    refine wpAnyH_take (i := 0) (oi := { dst := some 31, op := Go.Op.move (Go.Operand.tmp 0), type := 30, pos := "l9_map.go:30", after := #[], guard := none }) (v := ?v1_0) rfl (by kernel_rfl) (by kernel_rfl) (by kernel_rfl) (fun _ _ _ h => h) (Or.inl ⟨by rfl, ?y1_0⟩) (by assumption) ?r1_0
    case y1_0 => (intro w hSw; (try dsimp only at hSw); go_simp; try (with_reducible rfl))
    try simp only [Act.put, List.setIfInBounds_toArray, List.set_cons_zero, List.set_cons_succ]
    refine wpAnyH_take (i := 1) (oi := { dst := some 32, op := Go.Op.fieldAddr 48 (Go.Operand.tmp 7) 0, type := 0, pos := "l9_map.go:30", after := #[], guard := none }) (v := ?v2_1) rfl (by kernel_rfl) (by kernel_rfl) (by kernel_rfl) (fun _ _ _ h => h) (Or.inl ⟨by rfl, ?y2_1⟩) (by assumption) ?r2_1
    case y2_1 => (intro w hSw; (try dsimp only at hSw); go_simp; try (with_reducible rfl))
    try simp only [Act.put, List.setIfInBounds_toArray, List.set_cons_zero, List.set_cons_succ]
    refine wpAnyH_take (i := 2) (oi := { dst := some 33, op := Go.Op.load 3 (Go.Operand.tmp 32), type := 3, pos := "l9_map.go:30", after := #[{ on := 1, ground := Go.Ground.data }], guard := none }) (v := ?v3_2) rfl (by kernel_rfl) (by kernel_rfl) (by kernel_rfl) (fun _ _ _ h => h) (Or.inl ⟨by rfl, ?y3_2⟩) (by assumption) ?r3_2
    case y3_2 => (intro w hSw; (try dsimp only at hSw); go_simp; try (with_reducible rfl))
    try simp only [Act.put, List.setIfInBounds_toArray, List.set_cons_zero, List.set_cons_succ]
    refine wpAnyH_take (i := 3) (oi := { dst := some 34, op := Go.Op.indexAddr 30 (Go.Operand.tmp 31) (Go.Operand.tmp 33), type := 0, pos := "l9_map.go:30", after := #[{ on := 0, ground := Go.Ground.data }, { on := 2, ground := Go.Ground.data }], guard := none }) (v := ?v4_3) rfl (by kernel_rfl) (by kernel_rfl) (by kernel_rfl) (fun _ _ _ h => h) (Or.inl ⟨by rfl, ?y4_3⟩) (by assumption) ?r4_3
    case y4_3 => (intro w hSw; (try dsimp only at hSw); go_simp; try (with_reducible rfl))
    try simp only [Act.put, List.setIfInBounds_toArray, List.set_cons_zero, List.set_cons_succ]
    refine wpAnyH_take (i := 4) (oi := { dst := some 35, op := Go.Op.fieldAddr 45 (Go.Operand.tmp 34) 0, type := 0, pos := "l9_map.go:30", after := #[{ on := 3, ground := Go.Ground.data }], guard := none }) (v := ?v5_4) rfl (by kernel_rfl) (by kernel_rfl) (by kernel_rfl) (fun _ _ _ h => h) (Or.inl ⟨by rfl, ?y5_4⟩) (by assumption) ?r5_4
    case y5_4 => (intro w hSw; (try dsimp only at hSw); go_simp; try (with_reducible rfl))
    try simp only [Act.put, List.setIfInBounds_toArray, List.set_cons_zero, List.set_cons_succ]
    refine wpAnyH_take (i := 5) (oi := { dst := some 36, op := Go.Op.load 9 (Go.Operand.tmp 35), type := 9, pos := "l9_map.go:30", after := #[{ on := 4, ground := Go.Ground.data }], guard := none }) (v := ?v6_5) rfl (by kernel_rfl) (by kernel_rfl) (by kernel_rfl) (fun _ _ _ h => h) (Or.inl ⟨by rfl, ?y6_5⟩) (by assumption) ?r6_5
    case y6_5 => (intro w hSw; (try dsimp only at hSw); go_simp; try (with_reducible rfl))
    try simp only [Act.put, List.setIfInBounds_toArray, List.set_cons_zero, List.set_cons_succ]
    refine wpAnyH_take (i := 6) (oi := { dst := some 37, op := Go.Op.binOp Go.BinOp.add 9 (Go.Operand.tmp 36) (Go.Operand.const (Go.Value.string { data := #[43] })) 9, type := 9, pos := "l9_map.go:30", after := #[{ on := 5, ground := Go.Ground.data }], guard := none }) (v := ?v7_6) rfl (by kernel_rfl) (by kernel_rfl) (by kernel_rfl) (fun _ _ _ h => h) (Or.inl ⟨by rfl, ?y7_6⟩) (by assumption) ?r7_6
    case y7_6 => (intro w hSw; (try dsimp only at hSw); go_simp; try (with_reducible rfl))
    try simp only [Act.put, List.setIfInBounds_toArray, List.set_cons_zero, List.set_cons_succ]
    refine wpAnyH_take (i := 7) (oi := { dst := some 38, op := Go.Op.fieldAddr 48 (Go.Operand.tmp 7) 1, type := 0, pos := "l9_map.go:30", after := #[], guard := none }) (v := ?v8_7) rfl (by kernel_rfl) (by kernel_rfl) (by kernel_rfl) (fun _ _ _ h => h) (Or.inl ⟨by rfl, ?y8_7⟩) (by assumption) ?r8_7
    case y8_7 => (intro w hSw; (try dsimp only at hSw); go_simp; try (with_reducible rfl))
    try simp only [Act.put, List.setIfInBounds_toArray, List.set_cons_zero, List.set_cons_succ]
    refine wpAnyH_take (i := 8) (oi := { dst := some 39, op := Go.Op.load 3 (Go.Operand.tmp 38), type := 3, pos := "l9_map.go:30", after := #[{ on := 7, ground := Go.Ground.data }], guard := none }) (v := ?v9_8) rfl (by kernel_rfl) (by kernel_rfl) (by kernel_rfl) (fun _ _ _ h => h) (Or.inl ⟨by rfl, ?y9_8⟩) (by assumption) ?r9_8
    case y9_8 => (intro w hSw; (try dsimp only at hSw); go_simp; try (with_reducible rfl))
    try simp only [Act.put, List.setIfInBounds_toArray, List.set_cons_zero, List.set_cons_succ]
    refine wpAnyH_ready (rs := [9]) (by kernel_rfl) (by simp) ?_
    refine AllReadyH.cons (o := { dst := some 40, op := Go.Op.call { callee := Go.Callee.value (Go.Operand.func 25), args := #[Go.Operand.tmp 39], argTypes := #[3] }, type := 9, pos := "l9_map.go:30", after := #[{ on := 8, ground := Go.Ground.data }], guard := none }) rfl (fun K hK => ?_) AllReadyH.nil
    go_simp
    go_at_call 25
    refine (decPos_any j _ (by omega)).mono ?_
    rintro e w3 ⟨rfl, hbk⟩
    replace hHeld := (unhide HST).1 _ _ hbk hHeld
    clear hbk
    go_wp2_with fail
    refine hK.out _ _ hHeld (fun _ => ?_)
    clear hK K
    try simp only [Act.put, List.setIfInBounds_toArray, List.set_cons_zero, List.set_cons_succ]
    refine wpAnyH_take (i := 10) (oi := { dst := some 41, op := Go.Op.binOp Go.BinOp.add 9 (Go.Operand.tmp 37) (Go.Operand.tmp 40) 9, type := 9, pos := "l9_map.go:30", after := #[{ on := 6, ground := Go.Ground.data }, { on := 9, ground := Go.Ground.data }], guard := none }) (v := ?v10_10) rfl (by kernel_rfl) (by kernel_rfl) (by kernel_rfl) (fun _ _ _ h => h) (Or.inl ⟨by rfl, ?y10_10⟩) (by assumption) ?r10_10
    case y10_10 => (intro w hSw; (try dsimp only at hSw); go_simp; try (with_reducible rfl))
    try simp only [Act.put, List.setIfInBounds_toArray, List.set_cons_zero, List.set_cons_succ]
    refine wpAnyH_take (i := 11) (oi := { dst := some 6, op := Go.Op.assign (Go.Operand.tmp 41), type := 9, pos := "l9_map.go:30", after := #[{ on := 10, ground := Go.Ground.data }, { on := 9, ground := Go.Ground.chain }, { on := 0, ground := Go.Ground.phase }, { on := 1, ground := Go.Ground.phase }, { on := 2, ground := Go.Ground.phase }, { on := 3, ground := Go.Ground.phase }, { on := 4, ground := Go.Ground.phase }, { on := 5, ground := Go.Ground.phase }, { on := 6, ground := Go.Ground.phase }, { on := 7, ground := Go.Ground.phase }, { on := 8, ground := Go.Ground.phase }, { on := 9, ground := Go.Ground.phase }, { on := 10, ground := Go.Ground.phase }], guard := none }) (v := ?v11_11) rfl (by kernel_rfl) (by kernel_rfl) (by kernel_rfl) (fun _ _ _ h => h) (Or.inl ⟨by rfl, ?y11_11⟩) (by assumption) ?r11_11
    case y11_11 => (intro w hSw; (try dsimp only at hSw); go_simp; try (with_reducible rfl))
    try simp only [Act.put, List.setIfInBounds_toArray, List.set_cons_zero, List.set_cons_succ]
    refine wpAnyH_done (by kernel_rfl) ?_ _
    have hB9 := hHeld.2.2.2
    clear hHeld
    go_wp2_with fail
    go_ret
    exact ⟨_, rfl, by have h := unhide HNI; unfold insN at h; rw [if_neg (by omega)] at h; exact h, hB9⟩
  | none =>
    rw [spotE_none hn]
    have hB2 := bl_alloc hB1 (.cells #[.int .i64 0, .int .i64 0] 48)
    have HX2 := hide (box_below (unhide HX1) (below_alloc1 w1 (.cells #[.int .i64 0, .int .i64 0] 48)))
    have hP := box2 (new_block w1 (.cells #[.int .i64 0, .int .i64 0] 48))
    have HN := hide hn
    clear HX1 hB1 hn
    go_wp2_with fail
    clear hP
    go_loopw [9] (fun i w' => ∃ k : Nat, k ≤ fs.length ∧ i = .int .i64 k ∧ Hid (∀ i j, i < k → ¬ stoneAt fs st aa i j) ∧ w'.heap[w.heap.size]? = some (.cells #[.slice na ns.length nc, .slice sa st.length sc] 32) ∧ Below w.heap.size w w') (fun i _ => fs.length - (intOf i).toNat)
    case atStart => exact ⟨0, Nat.zero_le _, rfl, fun i j h => by omega, unhide HX2, hB2⟩
    case round =>
      obtain ⟨k, hk, rfl, HJ, hX, hB⟩ := hrel
      clear HX2 hB2
      have HX := hide hX
      clear hX
      by_cases hkl : k < fs.length
      · have hkl' : (k : Int) < (fs.length : Int) := by omega
        have hX := box2 (unhide HX)
        cases hf : formB fs ns st
        · have HE : Hid (NameIs fs ns st aa ⟨#[]⟩) := .inr (.inr ⟨unhide HN, (fun (h : formB fs ns st = true) => by rw [hf] at h; cases h), rfl⟩)
          go_wp2_with fail
          refine (l7Form_any _ _ _ _ _ _ fs ns st _ hcap hcm h1 h2 h3 h4 (unhide HFT) ((unhide HR).below hB) ((unhide HS).below hB) ((unhide HO).below hB)).mono ?_
          rw [hf]
          rintro e w3 ⟨rfl, hb3⟩
          have hB3 := bl_trans hB hb3
          clear hX
          go_wp2_with fail
          go_ret
          exact ⟨_, rfl, unhide HE, hB3⟩
        · have HL := hide (lying_of hf (unhide HFT))
          have hks : k < st.length := by rw [(unhide HL).2.2.1]; exact hkl
          have hks' : (k : Int) < (st.length : Int) := by omega
          have hk0 : (0 : Int) ≤ (k : Int) := by omega
          have hsl := (unhide HL).2.2.2.2.2 st[k] (List.getElem_mem _)
          have hpb := (unhide HL).small k (by omega)
          have hfl : lenAt fs k ≤ 10 := by rw [lenAt_is hkl]; exact (unhide HL).2.1 _ (List.getElem_mem _)
          have HSX := hide (st_six hf st[k] (List.getElem_mem _))
          obtain ⟨sb, so, rfl⟩ := (unhide HO).get (by omega)
          have HTA : Hid (∀ w', Below w.heap.size w w' → ∃ ai ci, w'.cell? ⟨sb, so + k, none⟩ = some (.slice ai st[k].length ci) ∧ TextRow w' ai st[k]) := fun w' hb => by
            obtain ⟨ai, ci, t0, _, _, t3⟩ := ((unhide HO).below hb).at hks
            exact ⟨ai, ci, t0, t3⟩
          have HYES : Hid (∀ j (hj : j < st[k].length), ((place fs st k + lenAt fs k + j : Nat) : Int) = aa → NameIs fs ns st aa (starB ++ st[k][j])) := fun j hj h => .inr (.inl ⟨unhide HN, hf, k, j, ⟨h, hkl, by rw [stAt_is hks]; exact hj⟩, by simp [stAt_is hks, List.getD, List.getElem?_eq_getElem hj]⟩)
          have HNX : Hid ((∀ j, j < st[k].length → ((place fs st k + lenAt fs k + j : Nat) : Int) ≠ aa) → ∀ i j, i < k + 1 → ¬ stoneAt fs st aa i j) := fun h i j hi hs => by
            by_cases e : i = k
            · subst e
              obtain ⟨e1, e2, e3⟩ := hs
              rw [stAt_is hks] at e3
              exact h j e3 e1
            · exact unhide HJ i j (by omega) hs
          have HSTO := hide (fun j w' hj hr hn => l7Stone_any a na (some ⟨sb, so, none⟩) cap nc sc fs ns st k j w' (unhide HL) hkl hj hcap hcm h1 h2 h3 h4 hr hn)
          generalize st[k] = ss at *
          generalize place fs st k + lenAt fs k = pk at *
          go_wp2_with fail
          refine (l7Form_any _ _ _ _ _ _ fs ns st _ hcap hcm h1 h2 h3 h4 (unhide HFT) ((unhide HR).below hB) ((unhide HS).below hB) ((unhide HO).below hB)).mono ?_
          rw [hf]
          rintro e w3 ⟨rfl, hb3⟩
          have HX3 := hide (box_below (unhide HX) hb3)
          have hB3 := bl_trans hB hb3
          clear hX hb3 hf HX hB
          have hX := box2 (unhide HX3)
          go_wp2_with fail
          clear hX
          go_loopw [10] (fun i w' => ∃ j : Nat, j ≤ ss.length ∧ i = .int .i64 j ∧ Hid (∀ i, i < j → ((pk + i : Nat) : Int) ≠ aa) ∧ w'.heap[w.heap.size]? = some (.cells #[.slice na ns.length nc, .slice (some ⟨sb, so, none⟩) st.length sc] 32) ∧ Below w.heap.size w w') (fun i _ => ss.length - (intOf i).toNat)
          case atStart => exact ⟨0, Nat.zero_le _, rfl, fun i h => by omega, unhide HX3, hB3⟩
          case round =>
            obtain ⟨j, hj, rfl, HJ2, hX, hB⟩ := hrel
            clear HX3 hB3
            have HX := hide hX
            clear hX
            have hX := box2 (unhide HX)
            obtain ⟨ai, ci, t0, t3⟩ := unhide HTA _ hB
            by_cases hjl : j < ss.length
            · have hjl' : (j : Int) < (ss.length : Int) := by omega
              have hj0 : (0 : Int) ≤ (j : Int) := by omega
              have hsl2 : (ss.length : Int) ≤ 9223372036854775807 := by omega
              clear t3
              go_wp2_with fail
              refine (unhide HSTO j _ (by omega) ((unhide HR).below hB) ((unhide HS).below hB)).mono ?_
              rintro e w4 ⟨rfl, hb4⟩
              replace HX := hide (box_below (unhide HX) hb4)
              replace hB := bl_trans hB hb4
              clear hX t0 hb4
              have hX := box2 (unhide HX)
              by_cases hq : ((pk + j : Nat) : Int) = aa
              · have HE := hide (unhide HYES j hjl hq)
                have hq' : (((pk + j : Nat) : Int) == aa) = true := by simpa using hq
                obtain ⟨ai, ci, t0, t3⟩ := unhide HTA _ hB
                obtain ⟨tb, to', rfl⟩ := t3.get (by omega)
                have u0 := (t3.cells hjl).1
                have h6 := unhide HSX ss[j] (List.getElem_mem _)
                clear t3 hq
                generalize ss[j] = s' at *
                have q1 : ¬ 9223372036854775807 < 1 + s'.size := by omega
                go_wp2_with fail
                go_ret
                exact ⟨_, rfl, unhide HE, hB⟩
              · have hq' : (((pk + j : Nat) : Int) == aa) = false := by simpa using hq
                have HJ3 : Hid (∀ i, i < j + 1 → ((pk + i : Nat) : Int) ≠ aa) := fun i hi => by
                  by_cases e : i = j
                  · rw [e]; exact hq
                  · exact unhide HJ2 i (by omega)
                clear hq
                go_wp2_with fail
                exact ⟨⟨j + 1, by omega, by go_num, unhide HJ3, unhide HX, hB⟩, by simp [intOf]; omega⟩
            · have hjl' : ¬ (j : Int) < (ss.length : Int) := by omega
              have hsl2 : (ss.length : Int) ≤ 9223372036854775807 := by omega
              have HJ3 := hide (unhide HNX (fun i hi => unhide HJ2 i (by omega)))
              clear t3
              go_wp2_with fail
              exact ⟨⟨k + 1, by omega, by go_num, unhide HJ3, unhide HX, hB⟩, by simp [intOf]; omega⟩
      · have hkl' : ¬ (k : Int) < (fs.length : Int) := by omega
        have HE : Hid (NameIs fs ns st aa ⟨#[]⟩) := .inr (.inr ⟨unhide HN, (fun _ i j hs => unhide HJ i j (by have := hs.2.1; omega) hs), rfl⟩)
        go_wp2_with fail
        go_ret
        exact ⟨_, rfl, unhide HE, hB⟩

theorem gPow : Tryz.prog.globalNamed "internal/strconv.uint64pow10" = some 0 := by kernel_rfl
set_option maxHeartbeats 8000000 in
theorem implMapName_any (a : Option Addr) (cap : Nat) (fs : List FunD) (na sa : Option Addr) (nc sc : Nat) (ns : List Int) (st : List (List ByteArray)) (aa : Int) (w : World) (wa : (Lit.int .i64 aa).wf = true) (hcap : fs.length ≤ cap) (hcm : cap ≤ maxLen) (h1 : ns.length ≤ nc) (h2 : nc ≤ maxLen) (h3 : st.length ≤ sc) (h4 : sc ≤ maxLen) (hft : FewT st) (hR : FunRow w a fs) (hs : NumRow w na ns) (ho : TextsRow w sa st) (HT : Hid (Lib.TabIs Tryz.prog w "internal/strconv.uint64pow10" .u64 Lib.pow10Tab)) :
    Calls Tryz.prog 11 #[.slice a fs.length cap, .agg #[.slice na ns.length nc, .slice sa st.length sc], .int .i64 aa] w (NmEnd w fs ns st aa) := by
  have HR := hide hR
  have HS := hide hs
  have HO := hide ho
  have hB0 := below_alloc1 w (.cells #[.slice na ns.length nc, .slice sa st.length sc] 32)
  have HX := hide (new_block w (.cells #[.slice na ns.length nc, .slice sa st.length sc] 32))
  clear hR hs ho
  go_enter Tryz.func11, Tryz.ntmps11
  go_wp2_with fail
  refine (groundAsLaid_any _ _ _ _ _ _ fs ns st _ hcap hcm h1 h2 h3 h4 hft ((unhide HR).below hB0) ((unhide HS).below hB0) ((unhide HO).below hB0)).mono ?_
  rintro e w1 hge
  obtain ⟨hb1, ⟨hf, rfl⟩ | ⟨hf, na', nc', G, B1, B2, rfl, hG⟩⟩ := ground_ways hge
  · have HE : Hid (NameIs fs ns st aa ⟨#[]⟩) := .inr (.inr ⟨spotN_form hf, (fun (h : formB fs ns st = true) => by rw [hf] at h; cases h), rfl⟩)
    have hB1 := bl_alloc (bl_trans hB0 hb1) (.cells #[.slice none 0 0, .map none, .map none, .int .i64 0] 69)
    have hZ := box4 (new_block w1 (.cells #[.slice none 0 0, .map none, .map none, .int .i64 0] 69))
    clear hge
    go_wp2_with fail
    refine (standing_none aa (.map none) (.map none) none 0 0 0 _ (by omega) (by omega)).mono ?_
    rintro e w2 ⟨rfl, hb2⟩
    have hB2 := bl_alloc (bl_trans hB1 hb2) (.cells #[.int .i64 0, .int .i64 0] 48)
    clear hZ
    go_wp2_with fail
    go_ret
    exact ⟨_, rfl, unhide HE, hB2⟩
  have HL := hide (lying_of hf hft)
  have hpl := (unhide HL).small fs.length (Nat.le_refl _)
  have hkp := (form_parts hf).1
  have hn1 := (keep_parts hkp).1
  have h40 := (keep_parts hkp).2.1
  have HLE := hide (lens_one hkp)
  obtain ⟨k1, k2, k3⟩ := GS.nums hG
  have HOUT : Hid (aa < 0 ∨ (place fs st fs.length : Int) ≤ aa → NameIs fs ns st aa ⟨#[]⟩) := fun h => .inr (.inr ⟨spotN_none fun j hj => by
    cases e : hitB fs st aa j with
    | false => rfl
    | true =>
      rw [hit_iff] at e
      have := place_mono (fs := fs) (st := st) (show j + 1 ≤ fs.length by omega)
      rw [place] at this
      omega, fun _ => out_stone h, rfl⟩)
  have HWAYS : Hid (∀ (q j : Nat) (hq : q < fs.length), UpTo fs st aa q → aa < (place fs st fs.length : Int) → aa - (place fs st q : Int) = (j : Int) → (j < fs[q].body.length → NameIs fs ns st aa (insN fs[q].nm j)) ∧ (fs[q].body.length ≤ j → ∃ hs : q < st.length, ∃ h : j - fs[q].body.length < st[q].length, st[q].length ≤ 1048576 ∧ (st[q][j - fs[q].body.length]).size ≤ 6 ∧ NameIs fs ns st aa (starB ++ st[q][j - fs[q].body.length]))) := fun q j hq hu hsz hj => by
    obtain ⟨y1, y2⟩ := stand_ways hf (unhide HL).2.2.1 hq hu hsz hj
    refine ⟨y1, fun h => ?_⟩
    obtain ⟨h3, h4⟩ := y2 h
    have hqs : q < st.length := by rw [(unhide HL).2.2.1]; exact hq
    exact ⟨hqs, h3, by have := (unhide HL).2.2.2.2.2 st[q] (List.getElem_mem _); omega, st_six hf st[q] (List.getElem_mem _) _ (List.getElem_mem _), h4⟩
  have HN6 := hide (nm_six hf)
  have hB1 := bl_alloc (bl_trans hB0 hb1) (.cells #[.slice na' fs.length nc', .map (some B1), .map (some B2), .int .i64 (place fs st fs.length : Nat)] 69)
  have HX1 := hide (box_below (box_below (unhide HX) hb1) (below_alloc1 _ (.cells #[.slice na' fs.length nc', .map (some B1), .map (some B2), .int .i64 (place fs st fs.length : Nat)] 69)))
  have hZ := box4 (new_block w1 (.cells #[.slice na' fs.length nc', .map (some B1), .map (some B2), .int .i64 (place fs st fs.length : Nat)] 69))
  have HK := hide (k3.below (below_alloc1 w1 (.cells #[.slice na' fs.length nc', .map (some B1), .map (some B2), .int .i64 (place fs st fs.length : Nat)] 69)))
  clear hge hG HX hB0 hb1 k3 hf hkp
  generalize place fs st fs.length = pt at *
  by_cases ho : aa < 0 ∨ (pt : Int) ≤ aa
  · have HE := hide (unhide HOUT ho)
    go_wp2_with fail
    refine (standing_none aa _ _ _ _ _ pt _ ho (by omega)).mono ?_
    rintro e w2 ⟨rfl, hb2⟩
    have hB2 := bl_alloc (bl_trans hB1 hb2) (.cells #[.int .i64 0, .int .i64 0] 48)
    clear hZ
    go_wp2_with fail
    go_ret
    exact ⟨_, rfl, unhide HE, hB2⟩
  go_wp2_with fail
  refine (standing_some aa _ _ _ _ pt fs st _ wa (by omega) (by omega) (by omega) hn1 h40 (unhide HLE) k1 k2 (unhide HK)).mono ?_
  rintro e w2 ⟨⟨q, hq, hu, rfl⟩, hb2⟩
  obtain ⟨j, hj⟩ : ∃ j : Nat, aa - (place fs st q : Int) = (j : Int) := ⟨(aa - (place fs st q : Int)).toNat, by have := hu.1; omega⟩
  have HWAY := hide (unhide HWAYS q j hq hu (by omega) hj)
  rw [hj]
  have hjs : j ≤ 100000000 := by omega
  have hfl : fs[q].body.length ≤ 10 := (unhide HL).2.1 _ (List.getElem_mem _)
  have hnm := unhide HN6 _ (List.getElem_mem hq)
  have hq' : (q : Int) < (fs.length : Int) := by omega
  have hq0 : (0 : Int) ≤ (q : Int) := by omega
  have hj0' : (0 : Int) ≤ (j : Int) := by omega
  have hlf : (fs.length : Int) ≤ 9223372036854775807 := by omega
  clear hu hj HOUT HWAYS HK HLE
  have hB2 := bl_alloc (bl_trans hB1 hb2) (.cells #[.int .i64 q, .int .i64 j] 48)
  have HX2 := hide (box_below (box_below (unhide HX1) hb2) (below_alloc1 _ (.cells #[.int .i64 q, .int .i64 j] 48)))
  have hP := box2 (new_block w2 (.cells #[.int .i64 q, .int .i64 j] 48))
  obtain ⟨fb, fo, rfl⟩ := (unhide HR).get (by omega)
  obtain ⟨fi, fc, f0, f1, f2, _⟩ := ((unhide HR).below hB2).at hq
  clear hZ hB1 hb2 HX1
  generalize hbl : fs[q].body.length = bl at *
  clear hbl
  generalize fs[q].nm = nm at *
  generalize fs[q].wk = wk at *
  have hB3 := bl_alloc hB2 (.cells #[.string nm, .bool wk, .slice fi bl fc] 45)
  have hP3 := box2 (box_below (new_block w2 (.cells #[.int .i64 q, .int .i64 j] 48)) (below_alloc1 (w2.alloc (.cells #[.int .i64 q, .int .i64 j] 48)) (.cells #[.string nm, .bool wk, .slice fi bl fc] 45)))
  have hF := box3 (new_block (w2.alloc (.cells #[.int .i64 q, .int .i64 j] 48)) (.cells #[.string nm, .bool wk, .slice fi bl fc] 45))
  rw [World.size_alloc] at hF
  by_cases hjb : bl ≤ j
  · obtain ⟨hqs, hjl, hsl, hs6, hNI⟩ := (unhide HWAY).2 hjb
    have HE := hide hNI
    have hX := box2 (box_below (unhide HX2) (below_alloc1 (w2.alloc (.cells #[.int .i64 q, .int .i64 j] 48)) (.cells #[.string nm, .bool wk, .slice fi bl fc] 45)))
    obtain ⟨sb, so, rfl⟩ := (unhide HO).get (by omega)
    obtain ⟨ai, ci, t0, _, _, t3⟩ := ((unhide HO).below hB3).at hqs
    obtain ⟨tb, to', rfl⟩ := t3.get (by omega)
    have u0 := (t3.cells hjl).1
    have hqs' : (q : Int) < (st.length : Int) := by omega
    have hls : (st.length : Int) ≤ 9223372036854775807 := by unfold maxLen at h4; omega
    have hjb' : (bl : Int) ≤ (j : Int) := by omega
    have ejb : (j : Int) - (bl : Int) = ((j - bl : Nat) : Int) := by omega
    clear t3 hNI HWAY hjb
    generalize st[q][j - bl] = s' at *
    generalize st[q].length = sl at *
    have q1 : ¬ 9223372036854775807 < 1 + s'.size := by omega
    have hjl' : ((j - bl : Nat) : Int) < (sl : Int) := by omega
    have hjl0 : (0 : Int) ≤ ((j - bl : Nat) : Int) := by omega
    go_wp2_with fail
    clear hP hF f0 f1 f2
    go_quiet (fail)
    go_wp2_with fail
    go_ret
    exact ⟨_, rfl, unhide HE, bl_drewN hB3 _⟩
  have hjb' : ¬ (bl : Int) ≤ (j : Int) := by omega
  have HNI := hide ((unhide HWAY).1 (by omega))
  clear HWAY HX2 HN6
  by_cases hj0 : j = 0
  · have HNO : Hid (NameIs fs ns st aa nm) := by have h := unhide HNI; unfold insN at h; rw [if_pos hj0] at h; exact h
    have hj1 : ¬ (0 : Int) < (j : Int) := by omega
    clear HNI hj0
    go_wp2_with fail
    go_ret
    exact ⟨_, rfl, unhide HNO, hB3⟩
  have hj1 : (0 : Int) < (j : Int) := by omega
  have hil : (Lib.itoa (j : Int)).length ≤ 11 := by rw [itoa_nat]; exact dec_len j (by omega)
  have HNF : Hid (NameIs fs ns st aa ((nm ++ ⟨#[43]⟩) ++ ⟨(Lib.itoa (j : Int)).toArray⟩)) := by
    have h := unhide HNI
    unfold insN at h
    rw [if_neg hj0] at h
    rw [itoa_nat]
    exact h
  have q1 : ¬ 9223372036854775807 < nm.size + 1 := by omega
  have q2 : ¬ 9223372036854775807 < nm.size + 1 + (Lib.itoa (j : Int)).length := by omega
  have HST : Hid (Stable (fun w' => w'.cell? ⟨w2.heap.size, 1, none⟩ = some (.int .i64 j) ∧ w'.cell? ⟨w2.heap.size + 1, 0, none⟩ = some (.string nm) ∧ Below w.heap.size w w')) := ((Stable.cell _ _).and ((Stable.cell _ _).and (Stable.below w)))
  have HSQ : Hid ((fun w' => w'.cell? ⟨w2.heap.size, 1, none⟩ = some (.int .i64 j) ∧ w'.cell? ⟨w2.heap.size + 1, 0, none⟩ = some (.string nm) ∧ Below w.heap.size w w') ((w2.alloc (.cells #[.int .i64 q, .int .i64 j] 48)).alloc (.cells #[.string nm, .bool wk, .slice fi bl fc] 45))) := ⟨hP3.1.2, hF.1.1, hB3⟩
  clear HNI hil hj0
  go_wp2_with fail
  clear hP hP3 hF f0 f1 f2
  have HS := HSQ
  refine wp_region_held_drew (S := (fun w' => w'.cell? ⟨w2.heap.size, 1, none⟩ = some (.int .i64 j) ∧ w'.cell? ⟨w2.heap.size + 1, 0, none⟩ = some (.string nm) ∧ Below w.heap.size w w')) (by kernel_rfl) ((unhide HST).2 _ (unhide HS)) (fun hHeld => ?_)
  generalize ((w2.alloc (.cells #[.int .i64 q, .int .i64 j] 48)).alloc (.cells #[.string nm, .bool wk, .slice fi bl fc] 45)).drew = wa at *
  refine wpAnyH_take (i := 0) (oi := { dst := some 57, op := Go.Op.fieldAddr 45 (Go.Operand.tmp 11) 0, type := 0, pos := "l9_map.go:58", after := #[], guard := none }) (v := ?v12_0) rfl (by kernel_rfl) (by kernel_rfl) (by kernel_rfl) (fun _ _ _ h => h) (Or.inl ⟨by rfl, ?y12_0⟩) (by assumption) ?r12_0
  case y12_0 => (intro w hSw; (try dsimp only at hSw); go_simp; try (with_reducible rfl))
  try simp only [Act.put, List.setIfInBounds_toArray, List.set_cons_zero, List.set_cons_succ]
  refine wpAnyH_take (i := 1) (oi := { dst := some 58, op := Go.Op.load 9 (Go.Operand.tmp 57), type := 9, pos := "l9_map.go:58", after := #[{ on := 0, ground := Go.Ground.data }], guard := none }) (v := ?v13_1) rfl (by kernel_rfl) (by kernel_rfl) (by kernel_rfl) (fun _ _ _ h => h) (Or.inl ⟨by rfl, ?y13_1⟩) (by assumption) ?r13_1
  case y13_1 => (intro w hSw; (try dsimp only at hSw); go_simp; try (with_reducible rfl))
  try simp only [Act.put, List.setIfInBounds_toArray, List.set_cons_zero, List.set_cons_succ]
  refine wpAnyH_take (i := 2) (oi := { dst := some 59, op := Go.Op.binOp Go.BinOp.add 9 (Go.Operand.tmp 58) (Go.Operand.const (Go.Value.string { data := #[43] })) 9, type := 9, pos := "l9_map.go:58", after := #[{ on := 1, ground := Go.Ground.data }], guard := none }) (v := ?v14_2) rfl (by kernel_rfl) (by kernel_rfl) (by kernel_rfl) (fun _ _ _ h => h) (Or.inl ⟨by rfl, ?y14_2⟩) (by assumption) ?r14_2
  case y14_2 => (intro w hSw; (try dsimp only at hSw); go_simp; try (with_reducible rfl))
  try simp only [Act.put, List.setIfInBounds_toArray, List.set_cons_zero, List.set_cons_succ]
  refine wpAnyH_take (i := 3) (oi := { dst := some 60, op := Go.Op.fieldAddr 48 (Go.Operand.tmp 9) 1, type := 0, pos := "l9_map.go:58", after := #[], guard := none }) (v := ?v15_3) rfl (by kernel_rfl) (by kernel_rfl) (by kernel_rfl) (fun _ _ _ h => h) (Or.inl ⟨by rfl, ?y15_3⟩) (by assumption) ?r15_3
  case y15_3 => (intro w hSw; (try dsimp only at hSw); go_simp; try (with_reducible rfl))
  try simp only [Act.put, List.setIfInBounds_toArray, List.set_cons_zero, List.set_cons_succ]
  refine wpAnyH_take (i := 4) (oi := { dst := some 61, op := Go.Op.load 3 (Go.Operand.tmp 60), type := 3, pos := "l9_map.go:58", after := #[{ on := 3, ground := Go.Ground.data }], guard := none }) (v := ?v16_4) rfl (by kernel_rfl) (by kernel_rfl) (by kernel_rfl) (fun _ _ _ h => h) (Or.inl ⟨by rfl, ?y16_4⟩) (by assumption) ?r16_4
  case y16_4 => (intro w hSw; (try dsimp only at hSw); go_simp; try (with_reducible rfl))
  try simp only [Act.put, List.setIfInBounds_toArray, List.set_cons_zero, List.set_cons_succ]
  refine wpAnyH_ready (rs := [5]) (by kernel_rfl) (by simp) ?_
  refine AllReadyH.cons (o := { dst := some 62, op := Go.Op.call { callee := Go.Callee.value (Go.Operand.func 33), args := #[Go.Operand.tmp 61], argTypes := #[3] }, type := 9, pos := "l9_map.go:58", after := #[{ on := 4, ground := Go.Ground.data }], guard := none }) rfl (fun K hK => ?_) AllReadyH.nil
  go_simp
  go_at_call 33
  refine (Tryz.strconv_Itoa (j : Int) (by omega) (by omega) _ (tab_stays gPow (unhide HT) hHeld.2.2 (Nat.le_refl _))).mono ?_
  rintro e wk ⟨rfl, k, os, rfl⟩
  replace hHeld := (unhide HST).1 _ _ (Lib.below_grow _ _ (Nat.le_refl _) k os) hHeld
  go_wp2_with fail
  refine hK.out _ _ hHeld (fun _ => ?_)
  clear hK K
  try simp only [Act.put, List.setIfInBounds_toArray, List.set_cons_zero, List.set_cons_succ]
  refine wpAnyH_take (i := 6) (oi := { dst := some 63, op := Go.Op.binOp Go.BinOp.add 9 (Go.Operand.tmp 59) (Go.Operand.tmp 62) 9, type := 9, pos := "l9_map.go:58", after := #[{ on := 2, ground := Go.Ground.data }, { on := 5, ground := Go.Ground.data }], guard := none }) (v := ?v17_6) rfl (by kernel_rfl) (by kernel_rfl) (by kernel_rfl) (fun _ _ _ h => h) (Or.inl ⟨by rfl, ?y17_6⟩) (by assumption) ?r17_6
  case y17_6 => (intro w hSw; (try dsimp only at hSw); go_simp; try (with_reducible rfl))
  try simp only [Act.put, List.setIfInBounds_toArray, List.set_cons_zero, List.set_cons_succ]
  refine wpAnyH_take (i := 7) (oi := { dst := some 6, op := Go.Op.assign (Go.Operand.tmp 63), type := 9, pos := "l9_map.go:58", after := #[{ on := 6, ground := Go.Ground.data }, { on := 5, ground := Go.Ground.chain }, { on := 0, ground := Go.Ground.phase }, { on := 1, ground := Go.Ground.phase }, { on := 2, ground := Go.Ground.phase }, { on := 3, ground := Go.Ground.phase }, { on := 4, ground := Go.Ground.phase }, { on := 5, ground := Go.Ground.phase }, { on := 6, ground := Go.Ground.phase }], guard := none }) (v := ?v18_7) rfl (by kernel_rfl) (by kernel_rfl) (by kernel_rfl) (fun _ _ _ h => h) (Or.inl ⟨by rfl, ?y18_7⟩) (by assumption) ?r18_7
  case y18_7 => (intro w hSw; (try dsimp only at hSw); go_simp; try (with_reducible rfl))
  try simp only [Act.put, List.setIfInBounds_toArray, List.set_cons_zero, List.set_cons_succ]
  refine wpAnyH_done (by kernel_rfl) ?_ _
  have hB9 := hHeld.2.2
  clear hHeld
  go_wp2_with fail
  go_ret
  exact ⟨_, rfl, unhide HNF, hB9⟩
end Go.Proofs.YtjbhbkkkjdpamaaGreatDoor.MapP
