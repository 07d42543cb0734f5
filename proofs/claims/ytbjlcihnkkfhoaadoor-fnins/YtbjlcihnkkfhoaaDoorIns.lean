/- For all two slices of bytes the law FnIns answers true, and the bytes read afterwards as they did; the package variables that it lists are tied to the program's text. No condition. -/
import Derived.Test.YtbjlcihnkkfhoaaDoorBase
import Derived.WalkKit
import Derived.ProofKit
import Derived.OpenShut
import Derived.ShutString
import Derived.ChangeOld
import Derived.Below
import Derived.Lib.SmallJoins
import Derived.Deep.RegionHeld3
import Derived.Deep.RegionWith
import Derived.Deep.DeepCutAuto
import Derived.LaidMore
import Derived.Stop.Joined
import Derived.Stop.LaidErr
import Derived.MakeChecks
import Derived.SevenTiedAt
import Derived.Lib.LaidTab
import Derived.Lib.ItoaNum
import Derived.Test.YtbjlcihnkkfhoaaDoorTie
import Derived.Test.YtbjlcihnkkfhoaaDoorCards
import Derived.Test.YtbjlcihnkkfhoaaDoorInsA
import Derived.Test.YtbjlcihnkkfhoaaDoorInsB
import Derived.Test.YtbjlcihnkkfhoaaDoorText
import Derived.Test.YtbjlcihnkkfhoaaDoorSplit
import Derived.Test.YtbjlcihnkkfhoaaDoorRead
import Derived.Test.YtbjlcihnkkfhoaaDoorReadI
import Derived.Test.YtbjlcihnkkfhoaaDoorReadS
import Derived.Test.YtbjlcihnkkfhoaaDoorRd
import Derived.Test.YtbjlcihnkkfhoaaDoorDrawInsB
import Derived.Test.YtbjlcihnkkfhoaaDoorRT
import Derived.Test.YtbjlcihnkkfhoaaDoorDrawRead
namespace Go.Proofs.YtbjlcihnkkfhoaaDoor.fnIns
open Go.ChangeShapes Go.WideShapes Go.ChangeAt Go.RowKit Go.Joins
open Go.ChangeMaps (open_string shut_string)
open Go.Proofs.YtbjlcihnkkfhoaaDoor.Base
open Go.Proofs.YtbjlcihnkkfhoaaDoor.InsA
open Go.Proofs.YtbjlcihnkkfhoaaDoor.InsB
open Go.Proofs.YtbjlcihnkkfhoaaDoor.Text
open Go.Proofs.YtbjlcihnkkfhoaaDoor.Split
open Go.Proofs.YtbjlcihnkkfhoaaDoor.Read
open Go.Proofs.YtbjlcihnkkfhoaaDoor.ReadI
open Go.Proofs.YtbjlcihnkkfhoaaDoor.ReadS
open Go.Proofs.YtbjlcihnkkfhoaaDoor.Rd
open Go.Proofs.YtbjlcihnkkfhoaaDoor.DrawInsB
open Go.Proofs.YtbjlcihnkkfhoaaDoor.RT
open Go.Proofs.YtbjlcihnkkfhoaaDoor.DrawRead
set_option linter.unusedVariables false
theorem own : ownKnob Tryd.prog.godebug = none := by kernel_rfl
theorem laidOut : laidOutB Tryd.prog = true := by kernel_rfl

theorem keep_call {A B : Nat} {W w w' : World} {v0 v1 v2 u0 u1 u2 : Value} (h : (w.cell? ⟨A, 0, none⟩ = some v0 ∧ w.cell? ⟨A, 1, none⟩ = some v1 ∧ w.cell? ⟨A, 2, none⟩ = some v2) ∧ (w.cell? ⟨B, 0, none⟩ = some u0 ∧ w.cell? ⟨B, 1, none⟩ = some u1 ∧ w.cell? ⟨B, 2, none⟩ = some u2) ∧ Below W.heap.size W w) (hb : Below w.heap.size w w') :
    (w'.cell? ⟨A, 0, none⟩ = some v0 ∧ w'.cell? ⟨A, 1, none⟩ = some v1 ∧ w'.cell? ⟨A, 2, none⟩ = some v2) ∧ (w'.cell? ⟨B, 0, none⟩ = some u0 ∧ w'.cell? ⟨B, 1, none⟩ = some u1 ∧ w'.cell? ⟨B, 2, none⟩ = some u2) ∧ Below W.heap.size W w' := by
  obtain ⟨⟨a0, a1, a2⟩, ⟨b0, b1, b2⟩, hW⟩ := h
  have t : ∀ b o v, w.cell? ⟨b, o, none⟩ = some v → w'.cell? ⟨b, o, none⟩ = some v := fun b o v hc => (hb.cell (p := ⟨b, o, none⟩) (World.block_lt_of_cell? w _ hc)).trans hc
  exact ⟨⟨t _ _ _ a0, t _ _ _ a1, t _ _ _ a2⟩, ⟨t _ _ _ b0, t _ _ _ b1, t _ _ _ b2⟩, bl_trans hW hb⟩
theorem keep_drew {A B : Nat} {W w : World} {v0 v1 v2 u0 u1 u2 : Value} (h : (w.cell? ⟨A, 0, none⟩ = some v0 ∧ w.cell? ⟨A, 1, none⟩ = some v1 ∧ w.cell? ⟨A, 2, none⟩ = some v2) ∧ (w.cell? ⟨B, 0, none⟩ = some u0 ∧ w.cell? ⟨B, 1, none⟩ = some u1 ∧ w.cell? ⟨B, 2, none⟩ = some u2) ∧ Below W.heap.size W w) :
    (w.drew.cell? ⟨A, 0, none⟩ = some v0 ∧ w.drew.cell? ⟨A, 1, none⟩ = some v1 ∧ w.drew.cell? ⟨A, 2, none⟩ = some v2) ∧ (w.drew.cell? ⟨B, 0, none⟩ = some u0 ∧ w.drew.cell? ⟨B, 1, none⟩ = some u1 ∧ w.drew.cell? ⟨B, 2, none⟩ = some u2) ∧ Below W.heap.size W w.drew :=
  ⟨h.1, h.2.1, h.2.2.drew⟩
/-- What is read from the text of an instruction. -/
theorem read_text {o n o' n' : Int} {s t' wd rs : ByteArray} {sp ok : Bool} (hp : Parted (textA o n s) wd rs sp) (hr : Res wd rs sp o' n' t' ok) :
    (insOkB o n s = true ∧ o' = o ∧ n' = n ∧ t' = s ∧ ok = true) ∨ (insOkB o n s = false ∧ o' = 0 ∧ n' = 0 ∧ t' = ⟨#[]⟩ ∧ ok = false) := by
  cases hok : insOkB o n s
  · rcases hr with ⟨rfl, hg⟩ | ⟨rfl, rfl, rfl, rfl, _⟩
    · exact absurd hg (back_no hok hp _ _ _)
    · exact .inr ⟨rfl, rfl, rfl, rfl, rfl⟩
  · obtain ⟨wd', rs', sp', hp', hg'⟩ := back hok
    obtain ⟨rfl, rfl, rfl⟩ := parted_unique hp hp'
    obtain ⟨rfl, rfl, rfl, rfl⟩ := res_unique hr (.inl ⟨rfl, hg'⟩)
    exact .inl ⟨rfl, rfl, rfl, rfl, rfl⟩

theorem ok_size {o n : Int} {t : ByteArray} (h : insOkB o n t = true) : t.size ≤ 6 := by
  have hn : ∀ o : Int, (o = 3 ∨ o = 4 ∨ o = 5) → insOkB o n t = true → t.size ≤ 6 := fun o ho h => by
    have := (ok_refs2 ho h).2
    unfold Go.Proofs.YtbjlcihnkkfhoaaDoor.Name.nameB at this
    simp only [Bool.and_eq_true, decide_eq_true_eq] at this
    exact this.2.2
  rcases ok_kind h with rfl | rfl | rfl | rfl | rfl | rfl | rfl
  · obtain ⟨_, rfl⟩ := ok_bare2 (by omega) h; exact Nat.zero_le _
  · obtain ⟨_, _, rfl⟩ := ok_add2 h; exact Nat.zero_le _
  · exact hn 3 (by omega) h
  · exact hn 4 (by omega) h
  · exact hn 5 (by omega) h
  · obtain ⟨_, rfl⟩ := ok_bare2 (by omega) h; exact Nat.zero_le _
  · obtain ⟨_, rfl⟩ := ok_bare2 (by omega) h; exact Nat.zero_le _

set_option maxHeartbeats 4000000 in
theorem walk (a : Option Addr) (len cap : Nat) (zs : List Int) (a1 : Option Addr) (len1 cap1 : Nat) (zs1 : List Int) (W : World) (hrow : IsRow .u8 W a len cap zs) (hrow1 : IsRow .u8 W a1 len1 cap1 zs1) (htab : Lib.TabIs Tryd.prog W "internal/strconv.uint64pow10" .u64 Lib.pow10Tab) :
    Calls Tryd.prog 3 #[.slice a len cap, .slice a1 len1 cap1] W fun e w' => e = .returned (.bool true) ∧ Below W.heap.size W w' := by
  obtain ⟨hl, hm, hb⟩ := isRow_bytes hrow
  obtain ⟨hl1, hm1, hb1⟩ := isRow_bytes hrow1
  have HT := hide htab
  have Hb := hide hb
  have Hb1 := hide hb1
  clear htab hb hb1 hrow hrow1
  by_cases hlt : (1048576 : Int) < len
  · go_enter Tryd.func3, Tryd.ntmps3
    go_wp2
    go_ret
    exact ⟨rfl, Below.refl _ _⟩
  by_cases hlt1 : (1048576 : Int) < len1
  · go_enter Tryd.func3, Tryd.ntmps3
    go_wp2
    go_ret
    exact ⟨rfl, Below.refl _ _⟩
  go_enter Tryd.func3, Tryd.ntmps3
  go_wp2_with fail
  refine (drawText_any _ _ _ _ hl hm (unhide Hb)).mono ?_
  rintro e w1 ⟨o, n, s, rfl, hs, hB1⟩
  have Hb1a := hide (bytes_below (unhide Hb1) (bl_alloc hB1 (.cells #[.int .i64 o, .int .i64 n, .string s] 24)))
  go_wp2_with fail
  refine (implText_any o n s _ (by omega) (tab_stays Go.Proofs.YtbjlcihnkkfhoaaDoor.Text.gPow (unhide HT) (bl_alloc hB1 _) (Nat.le_refl _))).mono ?_
  rintro e w2 ⟨rfl, hb2⟩
  have hB2 := bl_trans (bl_alloc hB1 _) hb2
  have HX2 := hide (box_below (new_block w1 _) hb2)
  clear hb2
  have hts := text_size o n s hs
  go_wp2_with fail
  refine (impl_any (textA o n s) _ (by unfold maxLen; omega) (tab_stays Go.Proofs.YtbjlcihnkkfhoaaDoor.Text.gPow (unhide HT) hB2 (Nat.le_refl _))).mono ?_
  rintro e w3 ⟨wd, rs, sp, o', n', t', ok, rfl, hP, hR, hb3⟩
  have hcase := read_text hP hR
  have hB3 := bl_alloc (bl_trans hB2 hb3) (.cells #[.int .i64 o', .int .i64 n', .string t'] 24)
  have b0 := (box3 (box_below (box_below (unhide HX2) hb3) (below_alloc1 w3 (.cells #[.int .i64 o', .int .i64 n', .string t'] 24)))).1
  have b1 := (box3 (new_block w3 (.cells #[.int .i64 o', .int .i64 n', .string t'] 24))).1
  have hS0 := And.intro b0 (And.intro b1 hB3)
  clear hP hR hb3 b0 b1 hB3 HX2 hB2
  have hs2 : s.size ≤ maxLen := by unfold maxLen; omega
  have hs3 : s.size ≤ 1048576 := by omega
  go_upto_region 6 with fail
  go_cut [55] (fun t wx => t = .bool false ∧ (fun w' => (w'.cell? ⟨w1.heap.size, 0, none⟩ = some (.int .i64 o) ∧ w'.cell? ⟨w1.heap.size, 1, none⟩ = some (.int .i64 n) ∧ w'.cell? ⟨w1.heap.size, 2, none⟩ = some (.string s)) ∧ (w'.cell? ⟨w3.heap.size, 0, none⟩ = some (.int .i64 o') ∧ w'.cell? ⟨w3.heap.size, 1, none⟩ = some (.int .i64 n') ∧ w'.cell? ⟨w3.heap.size, 2, none⟩ = some (.string t')) ∧ Below W.heap.size W w') wx)
  case first =>
    rcases hcase with ⟨hok, rfl, rfl, rfl, rfl⟩ | ⟨hok, rfl, rfl, rfl, rfl⟩
    · go_region_held3 (fun w' => (w'.cell? ⟨w1.heap.size, 0, none⟩ = some (.int .i64 o') ∧ w'.cell? ⟨w1.heap.size, 1, none⟩ = some (.int .i64 n') ∧ w'.cell? ⟨w1.heap.size, 2, none⟩ = some (.string t')) ∧ (w'.cell? ⟨w3.heap.size, 0, none⟩ = some (.int .i64 o') ∧ w'.cell? ⟨w3.heap.size, 1, none⟩ = some (.int .i64 n') ∧ w'.cell? ⟨w3.heap.size, 2, none⟩ = some (.string t')) ∧ Below W.heap.size W w') (first | assumption | (refine keep_call ?_ hbk; assumption) | (refine keep_drew ?_; assumption)) (first | (go_at_call 8; refine (specText_any _ _ _ _ hs3).mono ?_; rintro e wk ⟨rfl, hbk⟩) | (go_at_call 9; refine (implOk_any _ _ _ _ hs2).mono ?_; rintro e wk ⟨rfl, hbk⟩) | (go_at_call 10; refine (specOk_any _ _ _ _ hs2).mono ?_; rintro e wk ⟨rfl, hbk⟩))
      have hS1 : (fun w' => (w'.cell? ⟨w1.heap.size, 0, none⟩ = some (.int .i64 o') ∧ w'.cell? ⟨w1.heap.size, 1, none⟩ = some (.int .i64 n') ∧ w'.cell? ⟨w1.heap.size, 2, none⟩ = some (.string t')) ∧ (w'.cell? ⟨w3.heap.size, 0, none⟩ = some (.int .i64 o') ∧ w'.cell? ⟨w3.heap.size, 1, none⟩ = some (.int .i64 n') ∧ w'.cell? ⟨w3.heap.size, 2, none⟩ = some (.string t')) ∧ Below W.heap.size W w') wk := by assumption
      go_wp2_with fail
      go_meet
      exact ⟨rfl, hS1⟩
    · have hS2 := keep_drew hS0
      obtain ⟨⟨g0, g1, g2⟩, _, _⟩ := hS0
      first | go_region_with (first | (go_at_call 8; refine (specText_any _ _ _ _ hs3).mono ?_; rintro e wk ⟨rfl, hbk⟩; replace hS2 := keep_call hS2 hbk; clear hbk g0 g1 g2; have hS4 := hS2; obtain ⟨⟨g0, g1, g2⟩, _, _⟩ := hS4) | (go_at_call 9; refine (implOk_any _ _ _ _ hs2).mono ?_; rintro e wk ⟨rfl, hbk⟩; replace hS2 := keep_call hS2 hbk; clear hbk g0 g1 g2; have hS4 := hS2; obtain ⟨⟨g0, g1, g2⟩, _, _⟩ := hS4) | (go_at_call 10; refine (specOk_any _ _ _ _ hs2).mono ?_; rintro e wk ⟨rfl, hbk⟩; replace hS2 := keep_call hS2 hbk; clear hbk g0 g1 g2; have hS4 := hS2; obtain ⟨⟨g0, g1, g2⟩, _, _⟩ := hS4)) | fail
      all_goals (go_wp2_with fail; go_meet; exact ⟨rfl, hS2⟩)
  case rest =>
    obtain ⟨rfl, hS1⟩ := hcut
    have hB4 := hS1.2.2
    clear hS1 hS0 hcase
    go_wp2_with fail
    refine (drawRead_any _ _ _ _ hl1 hm1 (bytes_below (unhide Hb1) hB4)).mono ?_
    rintro e w5 ⟨X, hX, rfl, hb5⟩
    have hB5 := bl_trans hB4 hb5
    clear hb5 hB4
    have hXm : X.size ≤ maxLen := by unfold maxLen; omega
    go_wp2_with fail
    refine (impl_any X _ hXm (tab_stays Go.Proofs.YtbjlcihnkkfhoaaDoor.Text.gPow (unhide HT) hB5 (Nat.le_refl _))).mono ?_
    rintro e w6 ⟨wd1, rs1, sp1, o1, n1, t1, ok1, rfl, hP1, hR1, hb6⟩
    have hB6 := bl_trans hB5 hb6
    have HP1 := hide hP1
    have HR1 := hide hR1
    clear hb6 hB5 hP1 hR1
    go_wp2_with fail
    refine (spec_any X _ hXm).mono ?_
    rintro e w7 ⟨wd2, rs2, sp2, o2, n2, t2, ok2, rfl, hP2, hR2, hb7⟩
    obtain ⟨rfl, rfl, rfl⟩ := parted_unique (unhide HP1) hP2
    obtain ⟨rfl, rfl, rfl, rfl⟩ := res_unique (unhide HR1) hR2
    have hB7 := bl_alloc (bl_trans (bl_alloc hB6 (.cells #[.int .i64 o1, .int .i64 n1, .string t1] 24)) hb7) (.cells #[.int .i64 o1, .int .i64 n1, .string t1] 24)
    have HY := hide (box_below (box_below (new_block w6 (.cells #[.int .i64 o1, .int .i64 n1, .string t1] 24)) hb7) (below_alloc1 w7 (.cells #[.int .i64 o1, .int .i64 n1, .string t1] 24)))
    clear hb7 hB6 hP2 hR2
    rcases unhide HR1 with ⟨rfl, hg⟩ | ⟨rfl, rfl, rfl, rfl, _⟩
    · obtain ⟨hok1, htx⟩ := forth (unhide HP1) hg
      have ht6 := ok_size hok1
      have ht7 : t1.size ≤ maxLen := by unfold maxLen; omega
      clear hg
      obtain ⟨⟨c0, c1, c2⟩, _⟩ := box3 (unhide HY)
      go_wp2_with fail
      refine (implText_any o1 n1 t1 _ (by omega) (tab_stays Go.Proofs.YtbjlcihnkkfhoaaDoor.Text.gPow (unhide HT) hB7 (Nat.le_refl _))).mono ?_
      rintro e w8 ⟨rfl, hb8⟩
      have hB8 := bl_trans hB7 hb8
      have HY8 := hide (box_below (unhide HY) hb8)
      clear hb8 hB7 c0 c1 c2
      obtain ⟨⟨c0, c1, c2⟩, _⟩ := box3 (unhide HY8)
      go_wp2_with (go_at_call 9; refine (implOk_any _ _ _ _ ht7).mono ?_; rintro e w9 ⟨rfl, hb9⟩)
      go_ret
      exact ⟨rfl, bl_trans hB8 hb9⟩
    · go_wp2_with fail
      go_ret
      exact ⟨rfl, hB7⟩

theorem gPow : Tryd.prog.globalNamed "internal/strconv.uint64pow10" = some 0 := by kernel_rfl
theorem gPowType : (Tryd.prog.globals[0]?).map (·.type) = some 65 := by kernel_rfl
theorem powCells : Tryd.prog.cellsOf 65 = 20 := by kernel_rfl
theorem u64Cells : Tryd.prog.cellsOf 59 = 1 := by kernel_rfl
theorem powDatum : (Rows.laid_internal_strconv_uint64pow10 : DataW Unit) = Lib.tabData .u64 Lib.pow10Tab := by kernel_rfl
/-- What the listed variables give the walk: the table of the powers of ten. -/
theorem tab_of {W : World} (h : laidMetH Tryd.prog Rows.fnInsRow.laid W) : Lib.TabIs Tryd.prog W "internal/strconv.uint64pow10" .u64 Lib.pow10Tab := by
  rw [MakeChecks.laidMetH_plain _ _ _ (by kernel_rfl)] at h
  have h2 : laidMet Tryd.prog [("internal/strconv.uint64pow10", Rows.laid_internal_strconv_uint64pow10)] W := laidMet.tail (laidMet.tail h)
  rw [powDatum] at h2
  exact Lib.tabIs_of_head gPow gPowType Tryd.underlying65 Tryd.underlying59 u64Cells powCells h2
theorem door_met (os : Os) (args : Array Value) : laidMetH Tryd.prog Rows.fnInsRow.laid ((World.doorLaid Tryd.prog 400 os).forCall (fun _ _ => 0) ⟨#[], args, []⟩).memory :=
  laidMetH_of_parts3 (fuel := 8) (laidMet_of_run' 8 (by kernel_rfl) (by kernel_rfl)) (by kernel_rfl) (by kernel_rfl)

set_option maxRecDepth 100000 in
theorem lifted (os : Os) (started : os.Started) (H : Type) (enc : TypeId × Value → H) :
    ReturnsInHanded {} Tryd.checked os 3 .any (fun w args => (Rows.fnInsSpec.pre enc Tryd.prog Tryd.f3 [] false w args ∧ laidMetH Tryd.prog Rows.fnInsRow.laid w) ∧ sizedMet enc Tryd.prog Tryd.f3 (OpenSpec.ofChange Rows.fnInsSpec) false w args) (Rows.fnInsSpec.post enc Tryd.prog Tryd.f3 false true false false) := by
  refine returnsInHanded_of_change_and (C := Tryd.checked) (X := fun w _ => laidMetH Tryd.prog Rows.fnInsRow.laid w) (fun _ _ _ hh h => h.of_heap hh) own started (by kernel_rfl) Tryd.func3
    (ChangeSpec.witness_shaped (enc := enc) (C := Tryd.checked) (os := os) (X := fun w _ => laidMetH Tryd.prog Rows.fnInsRow.laid w) false (World.doorLaid Tryd.prog 400 os) #[.slice none 0 0, .slice none 0 0] 8 rfl (World.shaped_of_RefB (by kernel_rfl) (by kernel_rfl)) (by kernel_rfl) (by kernel_rfl) (by kernel_rfl) (door_met os _)) ?_
  intro W base args ds gs before hval0 hW _ _ hL _
  have htab := tab_of hL
  have hval : ∀ (j : Nat) t v, Tryd.f3.params[j]? = some t → args[j]? = some v → Value.okWide Tryd.prog W .any base t v := hval0
  have hW' := hW
  obtain ⟨p, q, hA0, hV, rfl, hfz, hnd⟩ := hW
  have hA : DataW.TrodAll enc Tryd.prog W 0 (fun _ => true) true Tryd.f3.params.toList args.toList ds p := hA0
  rw [Tryd.params3] at hA hval
  obtain ⟨v0, vs0, d0, ds0, p0, q0, hargs, rfl, rfl, h0, r0⟩ := trodAll_cons hA
  obtain ⟨v1, vs1, d1, ds1, p1, q1, rfl, rfl, rfl, h1, r1⟩ := trodAll_cons r0
  obtain ⟨rfl, rfl, rfl⟩ := trodAll_nil r1
  obtain rfl : args = #[v0, v1] := by cases args; simp_all
  obtain ⟨rfl, rfl⟩ := trodVars_none hV
  have k0 := h0
  have lt0 : ∀ x ∈ p0, x.block < W.heap.size := by obtain ⟨m, hm⟩ := k0; exact DataW.trod_lt m _ _ _ hm
  obtain ⟨a0, len0, cap0, hv0⟩ := okWide_slice Tryd.underlying22 (hval 0 22 v0 rfl rfl)
  obtain ⟨z0, w0⟩ : ∃ zs, IsRow .u8 W a0 len0 cap0 zs := by
    subst hv0
    obtain ⟨fuel, hf⟩ := h0
    rcases open_ints Tryd.underlying22 Tryd.underlying5 (by kernel_rfl) hf with ⟨hcs, _⟩ | ⟨x, l, c, zs, hcs, _, hl, hm, hz, _, hcell, hwz⟩
    · simp [Value.cells] at hcs
      obtain ⟨rfl, rfl, rfl⟩ := hcs
      exact ⟨[], .inl ⟨rfl, rfl, rfl, rfl⟩⟩
    · simp [Value.cells] at hcs
      obtain ⟨rfl, rfl, rfl⟩ := hcs
      exact ⟨zs, .inr ⟨_, rfl, hl, hm, by simpa using hz, hcell, hwz⟩⟩
  have k1 := h1
  have lt1 : ∀ x ∈ p1, x.block < W.heap.size := by obtain ⟨m, hm⟩ := k1; exact DataW.trod_lt m _ _ _ hm
  obtain ⟨a1, len1, cap1, hv1⟩ := okWide_slice Tryd.underlying22 (hval 1 22 v1 rfl rfl)
  obtain ⟨z1, w1⟩ : ∃ zs, IsRow .u8 W a1 len1 cap1 zs := by
    subst hv1
    obtain ⟨fuel, hf⟩ := h1
    rcases open_ints Tryd.underlying22 Tryd.underlying5 (by kernel_rfl) hf with ⟨hcs, _⟩ | ⟨x, l, c, zs, hcs, _, hl, hm, hz, _, hcell, hwz⟩
    · simp [Value.cells] at hcs
      obtain ⟨rfl, rfl, rfl⟩ := hcs
      exact ⟨[], .inl ⟨rfl, rfl, rfl, rfl⟩⟩
    · simp [Value.cells] at hcs
      obtain ⟨rfl, rfl, rfl⟩ := hcs
      exact ⟨zs, .inr ⟨_, rfl, hl, hm, by simpa using hz, hcell, hwz⟩⟩
  clear hA0 hval0
  subst hv0 hv1
  refine (walk a0 len0 cap0 z0 a1 len1 cap1 z1 W w0 w1 htab).mono fun e W' ⟨he, bel⟩ => ?_
  subst he
  exact ⟨_, rfl, _, _, _, [], _, [], hW', trodAll_mk1 (shut_bool Tryd.underlying4 _), (trodAll_cons_mk (Below.trod laidOut (by kernel_rfl) (of_decide_eq_true (by kernel_rfl)) k0 bel lt0) (trodAll_cons_mk (Below.trod laidOut (by kernel_rfl) (of_decide_eq_true (by kernel_rfl)) k1 bel lt1) trodAll_mk0)), rfl, bel.frame _, fun h => by cases h⟩

theorem row_holds : Rows.FnInsSaid :=
  OpenClaim.holds_of_wide 3 Tryd.f3 rfl rfl rfl rfl rfl rfl rfl ⟨rfl, rfl, rfl, rfl, rfl⟩ rfl rfl rfl rfl rfl (by kernel_rfl) Tryd.func3 (by kernel_rfl)
    (of_decide_eq_true (by kernel_rfl)) (by unfold Func.isWrapper; first | (rw [if_pos (by decide +kernel)]; kernel_rfl) | (rw [if_neg (by decide +kernel)]; exact ⟨rfl, rfl⟩))
    (fun os started H enc _ => lifted os started H enc)

theorem proved : Rows.FnInsCardSaid :=
  Claim7.holds_tied_plain_at .later [] [.data, .data, .data] true (true, "4afc605d22916f9d51857db53720ac0960a335a2f2d2dc79851d3e9bf42e0898") false
    row_holds (fun _ h => by cases h) (by kernel_rfl) (fun _ h => by cases h) fnIns_row_tie rfl ⟨rfl, rfl⟩ (by kernel_rfl) rfl
    (fun f fn hf hfn => by
      obtain rfl : f = 3 := Option.some.inj ((show Tryd.prog.funcNamed "loop.example/stepstone/laws.FnIns" = some 3 by kernel_rfl).symm.trans hf) |>.symm
      obtain rfl : fn = Tryd.f3 := (Option.some.inj (Tryd.func3.symm.trans hfn)).symm
      exact ⟨by kernel_rfl, fun j t ht => by
        rw [Tryd.params3] at ht
        have hm : t ∈ [22, 22] := by simpa using Array.mem_of_getElem? ht
        have hall : ([22, 22].all fun u => !Tryd.prog.wantsStandIn u) = true := by kernel_rfl
        exact (show Tryd.prog.wantsStandIn t = false by simpa using List.all_eq_true.1 hall t hm)⟩)
    (by kernel_rfl)
#print axioms proved
end Go.Proofs.YtbjlcihnkkfhoaaDoor.fnIns
