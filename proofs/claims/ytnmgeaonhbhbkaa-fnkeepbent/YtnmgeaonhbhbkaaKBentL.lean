/- For every slice of bytes the law FnKeepBent answers true, and the bytes read afterwards as they did. No condition. -/
import Derived.Test.YtnmgeaonhbhbkaaBase
import Derived.WalkKit
import Derived.ProofKit
import Derived.OpenShut
import Derived.ShutString
import Derived.ChangeOld
import Derived.Below
import Derived.Lib.SmallJoins
import Derived.BigQuiet
import Derived.Deep.RegionHeld3
import Derived.Deep.RegionLaw
import Derived.Deep.QuietTactic
import Derived.Test.YtnmgeaonhbhbkaaFuns
import Derived.Test.YtnmgeaonhbhbkaaOpen
import Derived.Test.YtnmgeaonhbhbkaaFunS
import Derived.Test.YtnmgeaonhbhbkaaPkb1c3ccdf
import Derived.Test.YtnmgeaonhbhbkaaUnitS
import Derived.Test.YtnmgeaonhbhbkaaRefs
import Derived.Test.YtnmgeaonhbhbkaaRd
import Derived.Test.YtnmgeaonhbhbkaaDrawIns
import Derived.Test.YtnmgeaonhbhbkaaConcat
import Derived.Test.YtnmgeaonhbhbkaaKeepC
import Derived.Test.YtnmgeaonhbhbkaaKeepA
import Derived.Test.YtnmgeaonhbhbkaaKeepD
import Derived.Test.YtnmgeaonhbhbkaaKeepL
import Derived.Test.YtnmgeaonhbhbkaaKeepW
import Derived.Test.YtnmgeaonhbhbkaaKeepR
import Derived.Test.YtnmgeaonhbhbkaaKeepN
import Derived.Test.YtnmgeaonhbhbkaaKeepT
import Derived.Test.YtnmgeaonhbhbkaaKeepB
import Derived.Test.YtnmgeaonhbhbkaaKeepV
import Derived.Test.YtnmgeaonhbhbkaaDrawP
import Derived.Test.YtnmgeaonhbhbkaaDrawQ
import Derived.Test.YtnmgeaonhbhbkaaDrawR
import Derived.Test.YtnmgeaonhbhbkaaDrawS
namespace Go.Proofs.Ytnmgeaonhbhbkaa.fnKeepBent
open Go.ChangeShapes Go.WideShapes Go.ChangeAt Go.RowKit Go.Joins
open Go.ChangeMaps (open_string shut_string)
open Go.Proofs.Ytnmgeaonhbhbkaa.Base
open Go.Proofs.Ytnmgeaonhbhbkaa.Funs
open Go.Proofs.Ytnmgeaonhbhbkaa.Open
open Go.Proofs.Ytnmgeaonhbhbkaa.FunS
open Go.Proofs.Ytnmgeaonhbhbkaa.Keep
open Go.Proofs.Ytnmgeaonhbhbkaa.UnitS
open Go.Proofs.Ytnmgeaonhbhbkaa.Refs
open Go.Proofs.Ytnmgeaonhbhbkaa.Rd
open Go.Proofs.Ytnmgeaonhbhbkaa.DrawIns
open Go.Proofs.Ytnmgeaonhbhbkaa.Concat
open Go.Proofs.Ytnmgeaonhbhbkaa.KeepC
open Go.Proofs.Ytnmgeaonhbhbkaa.KeepA
open Go.Proofs.Ytnmgeaonhbhbkaa.KeepD
open Go.Proofs.Ytnmgeaonhbhbkaa.KeepL
open Go.Proofs.Ytnmgeaonhbhbkaa.KeepW
open Go.Proofs.Ytnmgeaonhbhbkaa.KeepR
open Go.Proofs.Ytnmgeaonhbhbkaa.KeepN
open Go.Proofs.Ytnmgeaonhbhbkaa.KeepT
open Go.Proofs.Ytnmgeaonhbhbkaa.KeepB
open Go.Proofs.Ytnmgeaonhbhbkaa.KeepV
open Go.Proofs.Ytnmgeaonhbhbkaa.DrawP
open Go.Proofs.Ytnmgeaonhbhbkaa.DrawQ
open Go.Proofs.Ytnmgeaonhbhbkaa.DrawR
open Go.Proofs.Ytnmgeaonhbhbkaa.DrawS
set_option linter.unusedVariables false
set_option maxRecDepth 100000
theorem own : ownKnob Try.prog.godebug = none := by kernel_rfl
theorem laidOut : laidOutB Try.prog = true := by kernel_rfl

theorem box_two {w6 w7 : World} {o1 : Obj} {c0 c1 c2 : Value} (h : ((w6.drew.alloc o1).alloc (.cells #[c0, c1, c2] 31)).grownBy w7 (some w6.heap.size)) : w7.heap[w6.heap.size + 1]? = some (.cells #[c0, c1, c2] 31) := by
  have hb := new_block (w6.drew.alloc o1) (.cells #[c0, c1, c2] 31)
  rw [World.size_alloc] at hb
  exact (h.block (w6.heap.size + 1) (Array.getElem?_eq_some_iff.1 hb).1 (fun e => by have e2 := Option.some.inj e; omega)).trans hb
theorem box_one {w6 w7 : World} {o1 : Obj} {c0 c1 c2 : Value} (h : ((w6.drew.alloc (.cells #[c0, c1, c2] 31)).alloc o1).grownBy w7 (some (w6.heap.size + 1))) : w7.heap[w6.heap.size]? = some (.cells #[c0, c1, c2] 31) := by
  have hb := box_below (new_block w6.drew (.cells #[c0, c1, c2] 31)) (below_alloc1 _ o1)
  exact (h.block w6.heap.size (Array.getElem?_eq_some_iff.1 hb).1 (fun e => by have e2 := Option.some.inj e; omega)).trans hb
set_option maxHeartbeats 8000000 in
theorem walk (a : Option Addr) (len cap : Nat) (zs : List Int) (W : World) (hrow : IsRow .u8 W a len cap zs) :
    Calls Try.prog 3 #[.slice a len cap] W fun e w' => e = .returned (.bool true) ∧ Below W.heap.size W w' := by
  obtain ⟨hl, hm, hb⟩ := isRow_bytes hrow
  by_cases hlt : (1048576 : Int) < len
  · go_enter Try.func3, Try.ntmps3
    go_wp2
    go_ret
    exact ⟨rfl, Below.refl _ _⟩
  have Hb := hide hb
  clear hb hrow
  go_enter Try.func3, Try.ntmps3
  go_wp2_with fail
  refine (drawKeepOk_any _ _ _ _ hl hm (unhide Hb)).mono ?_
  rintro e w1 ⟨b, c, fs, rfl, HNM, h1, h2, h42, hrow, hB1⟩
  have HR1 := hide hrow
  have hlen : (fs.length : Int) ≤ 9223372036854775807 := by omega
  clear hrow
  cases hok : keepOkB fs
  · go_wp2_with fail
    refine (implKeepOk_any b c fs _ h1 h2 (unhide HR1)).mono ?_
    rintro e w2 ⟨rfl, hb2⟩
    rw [hok]
    have HR2 := hide ((unhide HR1).below hb2)
    have hB2 := bl_trans hB1 hb2
    clear HR1 hB1 hb2
    go_wp2_with fail
    refine (specKeepOk_any b c fs _ h1 h2 (unhide HR2)).mono ?_
    rintro e w3 ⟨rfl, hb3⟩
    rw [hok]
    have HR3 := hide ((unhide HR2).below hb3)
    have hB3 := bl_trans hB2 hb3
    clear HR2 hB2 hb3
    go_wp2_with fail
    refine (specKeepOk_any b c fs _ h1 h2 (unhide HR3)).mono ?_
    rintro e w4 ⟨rfl, hb4⟩
    rw [hok]
    have HR4 := hide ((unhide HR3).below hb4)
    have hB4 := bl_trans hB3 hb4
    clear HR3 hB3 hb4
    go_wp2_with fail
    refine (implKeepOk_any b c fs _ h1 h2 (unhide HR4)).mono ?_
    rintro e w5 ⟨rfl, hb5⟩
    rw [hok]
    have HR5 := hide ((unhide HR4).below hb5)
    have hB5 := bl_trans hB4 hb5
    clear HR4 hB4 hb5
    go_wp2_with fail
    refine (specKeepOk_any b c fs _ h1 h2 (unhide HR5)).mono ?_
    rintro e w6 ⟨rfl, hb6⟩
    rw [hok]
    have HR6 := hide ((unhide HR5).below hb6)
    have hB6 := bl_trans hB5 hb6
    clear HR5 hB5 hb6
    go_wp2_with fail
    refine (specKeepOk_any b c fs _ h1 h2 (unhide HR6)).mono ?_
    rintro e w7 ⟨rfl, hb7⟩
    rw [hok]
    have HR7 := hide ((unhide HR6).below hb7)
    have hB7 := bl_trans hB6 hb7
    clear HR6 hB6 hb7
    go_wp2_with fail
    refine (implKeepOnly_any b c fs _ h1 h2 (unhide HR7)).mono ?_
    rintro e w8 ⟨v8, vs, rfl, hvs, hO8, hb8⟩
    rw [only_bad hok] at hvs
    have hv0 : vs = [] := by simpa using hvs
    subst hv0
    obtain ⟨va, vc, ev⟩ := row_form hO8.1
    subst ev
    have hB8 := bl_trans hB7 hb8
    clear hO8 hb8 HR7 hvs
    go_wp2_with fail
    go_ret
    exact ⟨rfl, hB8⟩
  · obtain ⟨hk1, hk40, _⟩ := keep_parts hok
    go_wp2_with fail
    refine (implKeepOk_any b c fs _ h1 h2 (unhide HR1)).mono ?_
    rintro e w2 ⟨rfl, hb2⟩
    rw [hok]
    have HR2 := hide ((unhide HR1).below hb2)
    have hB2 := bl_trans hB1 hb2
    clear HR1 hB1 hb2
    go_wp2_with fail
    refine (specKeepOk_any b c fs _ h1 h2 (unhide HR2)).mono ?_
    rintro e w3 ⟨rfl, hb3⟩
    rw [hok]
    have HR3 := hide ((unhide HR2).below hb3)
    have hB3 := bl_trans hB2 hb3
    clear HR2 hB2 hb3
    go_wp2_with fail
    refine (specKeepOk_any b c fs _ h1 h2 (unhide HR3)).mono ?_
    rintro e w4 ⟨rfl, hb4⟩
    rw [hok]
    have HR4 := hide ((unhide HR3).below hb4)
    have hB4 := bl_trans hB3 hb4
    clear HR3 hB3 hb4
    have HCR := hide (fun ty => copy_run (ci := c) (unhide HR4) h42 ty)
    have hs4 : w4.heap.size ≤ w4.heap.size := Nat.le_refl _
    go_wp2_with (first
      | (at_builtin; obtain ⟨us, v5, w5, hus, hrun5, hP5, hb5⟩ := unhide HCR _; refine Lib.wpList_append_run _ rfl _ _ _ _ rfl _ _ rfl rfl _ _ hrun5 ?_; have HUS := hide hus; have HMR := hide (fun ty => more_run hus hP5 h42 hb5.size nowhB (by decide) ty); obtain ⟨a5, c5, e5⟩ := row_form hP5.1; subst e5; clear hus hP5 hrun5 HCR)
      | (at_builtin; obtain ⟨qa, a6, c6, w6, hrun6, HQA, hq1, hq2, hR6, hb6⟩ := unhide HMR _; refine Lib.wpList_append_run _ rfl _ _ _ _ rfl _ _ rfl rfl _ _ hrun6 ?_; clear hrun6 HMR))
    obtain ⟨hb46, hB6⟩ := one_more hB4 hb5 hb6
    have HR6 := hide ((unhide HR4).below hb46)
    have HRA6 := hide hR6
    have HKA : Hid (keepOkB qa = false) := by show _ = _; rw [unhide HQA]; exact bent_a (unhide HNM)
    clear hb5 hb6 hb46 HR4 hR6 hB4 HQA HUS hs4
    obtain ⟨g, off, rfl⟩ := (unhide HR6).get (by omega)
    obtain ⟨ai, ci, c0, c1, c2, hfn, k4, k5, k6⟩ := (unhide HR6).at (k := 0) (by omega)
    have h0' : (0 : Int) < (fs.length : Int) := by omega
    simp only [Nat.zero_mul, Nat.add_zero] at c0 c1 c2
    have HF0 : Hid (∀ qs, qs = fs ++ [fs[0]] → keepOkB qs = false) := fun qs e => by rw [e]; exact bent_b (by omega)
    have HBD : Hid (BodyAt w6 (fs[0], .slice ai fs[0].body.length ci)) := ⟨ai, ci, rfl, hfn, k4, k5, k6⟩
    clear k6 hfn
    generalize fs[0] = f0 at *
    have HSA : Hid (Stable (fun w' => w'.cell? ⟨g, off, none⟩ = some (.string f0.nm) ∧ w'.cell? ⟨g, off + 1, none⟩ = some (.bool f0.wk) ∧ w'.cell? ⟨g, off + 2, none⟩ = some (.slice ai f0.body.length ci) ∧ Below w6.heap.size w6 w')) := (Stable.cell _ _).and ((Stable.cell _ _).and ((Stable.cell _ _).and (Stable.below w6)))
    have HS0 : Hid ((fun w' => w'.cell? ⟨g, off, none⟩ = some (.string f0.nm) ∧ w'.cell? ⟨g, off + 1, none⟩ = some (.bool f0.wk) ∧ w'.cell? ⟨g, off + 2, none⟩ = some (.slice ai f0.body.length ci) ∧ Below w6.heap.size w6 w') w6) := ⟨c0, c1, c2, Below.refl _ _⟩
    have h00 : (0 : Int) ≤ 0 := by omega
    clear c0 c1 c2
    refine wp_region_held_drew (S := (fun w' => w'.cell? ⟨g, off, none⟩ = some (.string f0.nm) ∧ w'.cell? ⟨g, off + 1, none⟩ = some (.bool f0.wk) ∧ w'.cell? ⟨g, off + 2, none⟩ = some (.slice ai f0.body.length ci) ∧ Below w6.heap.size w6 w')) (by kernel_rfl) ((unhide HSA).2 _ (unhide HS0)) (fun hHeld => ?_)
    refine wpAnyH_take (i := 1) (oi := { dst := some 46, op := Go.Op.move (Go.Operand.tmp 3), type := 23, pos := "laws.go:638", after := #[], guard := none }) (v := ?v1_1) rfl (by kernel_rfl) (by kernel_rfl) (by kernel_rfl) (fun _ _ _ h => h) (Or.inl ⟨by rfl, ?y1_1⟩) (by assumption) ?r1_1
    case y1_1 => (intro w hSw; (try dsimp only at hSw); go_simp; (try rw [if_pos (show 0 < fs.length by omega)]); try (with_reducible rfl))
    try simp only [Act.put, List.setIfInBounds_toArray, List.set_cons_zero, List.set_cons_succ]
    refine wpAnyH_take (i := 3) (oi := { dst := some 48, op := Go.Op.move (Go.Operand.tmp 3), type := 23, pos := "laws.go:638", after := #[], guard := none }) (v := ?v2_3) rfl (by kernel_rfl) (by kernel_rfl) (by kernel_rfl) (fun _ _ _ h => h) (Or.inl ⟨by rfl, ?y2_3⟩) (by assumption) ?r2_3
    case y2_3 => (intro w hSw; (try dsimp only at hSw); go_simp; (try rw [if_pos (show 0 < fs.length by omega)]); try (with_reducible rfl))
    try simp only [Act.put, List.setIfInBounds_toArray, List.set_cons_zero, List.set_cons_succ]
    refine wpAnyH_take (i := 4) (oi := { dst := some 49, op := Go.Op.indexAddr 23 (Go.Operand.tmp 48) (Go.Operand.const (Go.Value.int Go.IntKind.i64 0)), type := 0, pos := "laws.go:638", after := #[{ on := 3, ground := Go.Ground.data }], guard := none }) (v := ?v3_4) rfl (by kernel_rfl) (by kernel_rfl) (by kernel_rfl) (fun _ _ _ h => h) (Or.inl ⟨by rfl, ?y3_4⟩) (by assumption) ?r3_4
    case y3_4 => (intro w hSw; (try dsimp only at hSw); go_simp; (try rw [if_pos (show 0 < fs.length by omega)]); try (with_reducible rfl))
    try simp only [Act.put, List.setIfInBounds_toArray, List.set_cons_zero, List.set_cons_succ]
    refine wpAnyH_take (i := 5) (oi := { dst := some 50, op := Go.Op.load 31 (Go.Operand.tmp 49), type := 31, pos := "laws.go:638", after := #[{ on := 4, ground := Go.Ground.data }], guard := none }) (v := ?v4_5) rfl (by kernel_rfl) (by kernel_rfl) (by kernel_rfl) (fun _ _ _ h => h) (Or.inl ⟨by rfl, ?y4_5⟩) (by assumption) ?r4_5
    case y4_5 => (intro w hSw; (try dsimp only at hSw); go_simp; (try rw [if_pos (show 0 < fs.length by omega)]); try (with_reducible rfl))
    try simp only [Act.put, List.setIfInBounds_toArray, List.set_cons_zero, List.set_cons_succ]
    refine wpAnyH_ready (rs := [0, 6]) (by kernel_rfl) (by simp) ?_
    refine AllReadyH.cons (o := { dst := some 45, op := Go.Op.buildSlice 23 0 #[], type := 23, pos := "laws.go:638", after := #[], guard := none }) rfl (fun K hK => ?_) ?_
    · skip
      go_simp
      replace hHeld := (unhide HSA).alloc hHeld (.cells #[] 31)
      refine hK.out _ _ hHeld (fun _ => ?_)
      clear hK K
      try simp only [Act.put, List.setIfInBounds_toArray, List.set_cons_zero, List.set_cons_succ]
      refine wpAnyH_ready (rs := [2, 6]) (by kernel_rfl) (by simp) ?_
      refine AllReadyH.cons (o := { dst := some 47, op := Go.Op.call { callee := Go.Callee.builtin Go.Builtin.append, args := #[Go.Operand.tmp 45, Go.Operand.tmp 46], argTypes := #[23, 23] }, type := 23, pos := "laws.go:638", after := #[{ on := 0, ground := Go.Ground.data }, { on := 1, ground := Go.Ground.data }], guard := none }) rfl (fun K hK => ?_) ?_
      · skip
        obtain ⟨us, v7, w7, hus, hrun7, hP7, hg7, hb7⟩ := copy_at (w0 := w6) (w := w6.drew.alloc (.cells #[] 31)) (k := w6.heap.size) (bl_alloc (Below.refl _ _).drew _) (DrawThin.fun_made w6.drew) (unhide HR6) (ci := c) h42 23
        obtain ⟨a7, c7, e7⟩ := row_form hP7.1
        subst e7
        refine step_run rfl (.tmp 45) (.tmp 46) 23 23 rfl _ _ _ (by simp [Act.eval]) (by simp [Act.eval]) hrun7 ?_
        have hh7 := (unhide HSA).1 _ _ hb7 (unhide HS0)
        clear hHeld hrun7
        have hHeld := hh7
        clear hh7
        refine hK.out _ _ hHeld (fun _ => ?_)
        clear hK K
        try simp only [Act.put, List.setIfInBounds_toArray, List.set_cons_zero, List.set_cons_succ]
        refine wpAnyH_ready (rs := [6]) (by kernel_rfl) (by simp) ?_
        refine AllReadyH.cons (o := { dst := some 51, op := Go.Op.buildSlice 23 1 #[(0, Go.Operand.tmp 50)], type := 23, pos := "laws.go:638", after := #[{ on := 5, ground := Go.Ground.data }], guard := none }) rfl (fun K hK => ?_) AllReadyH.nil
        go_simp
        replace hHeld := (unhide HSA).alloc hHeld (.cells #[.string f0.nm, .bool f0.wk, .slice ai f0.body.length ci] 31)
        refine hK.out _ _ hHeld (fun _ => ?_)
        clear hK K
        try simp only [Act.put, List.setIfInBounds_toArray, List.set_cons_zero, List.set_cons_succ]
        refine wpAnyH_ready (rs := [7]) (by kernel_rfl) (by simp) ?_
        refine AllReadyH.cons (o := { dst := some 52, op := Go.Op.call { callee := Go.Callee.builtin Go.Builtin.append, args := #[Go.Operand.tmp 47, Go.Operand.tmp 51], argTypes := #[23, 23] }, type := 23, pos := "laws.go:638", after := #[{ on := 2, ground := Go.Ground.data }, { on := 6, ground := Go.Ground.data }, { on := 2, ground := Go.Ground.chain }], guard := none }) rfl (fun K hK => ?_) AllReadyH.nil
        obtain ⟨qb, a9, c9, w9, hrun9, HQB, hq3, hq4, hR9, hb9⟩ := last_run (w6 := w6) (w := w7.alloc (.cells #[.string f0.nm, .bool f0.wk, .slice ai f0.body.length ci] 31)) (g := w7.heap.size) (u := (f0, .slice ai f0.body.length ci)) hus (hP7.below (below_alloc1 _ _)) h42 (bl_alloc hb7 _) (unhide HBD) (new_block w7 _) 23
        refine step_run rfl (.tmp 47) (.tmp 51) 23 23 rfl _ _ _ (by simp [Act.eval]) (by simp [Act.eval]) hrun9 ?_
        have hh9 := (unhide HSA).1 _ _ hb9 (unhide HS0)
        clear hHeld hrun9
        have hHeld := hh9
        clear hh9
        refine hK.out _ _ hHeld (fun _ => ?_)
        clear hK K
        try simp only [Act.put, List.setIfInBounds_toArray, List.set_cons_zero, List.set_cons_succ]
        refine wpAnyH_take (i := 8) (oi := { dst := some 5, op := Go.Op.assign (Go.Operand.tmp 52), type := 23, pos := "laws.go:638", after := #[{ on := 7, ground := Go.Ground.data }, { on := 7, ground := Go.Ground.chain }, { on := 0, ground := Go.Ground.phase }, { on := 1, ground := Go.Ground.phase }, { on := 2, ground := Go.Ground.phase }, { on := 3, ground := Go.Ground.phase }, { on := 4, ground := Go.Ground.phase }, { on := 5, ground := Go.Ground.phase }, { on := 6, ground := Go.Ground.phase }, { on := 7, ground := Go.Ground.phase }], guard := none }) (v := ?v5_8) rfl (by kernel_rfl) (by kernel_rfl) (by kernel_rfl) (fun _ _ _ h => h) (Or.inl ⟨by rfl, ?y5_8⟩) (by assumption) ?r5_8
        case y5_8 => (intro w hSw; (try dsimp only at hSw); go_simp; (try rw [if_pos (show 0 < fs.length by omega)]); try (with_reducible rfl))
        try simp only [Act.put, List.setIfInBounds_toArray, List.set_cons_zero, List.set_cons_succ]
        refine wpAnyH_done (by kernel_rfl) ?_ _
        have HKB := hide (unhide HF0 qb HQB)
        have HRB := hide hR9
        have HB9 := hide hb9
        clear hHeld hR9 hb9 hP7 hg7 hb7 hus HQB HSA HS0 HBD HF0
        have hB9 := bl_trans hB6 (unhide HB9)
        have HR9 := hide ((unhide HR6).below (unhide HB9))
        have HRA9 := hide ((unhide HRA6).below (unhide HB9))
        clear HR6 HRA6 HB9
        have HCR := hide (fun ty => copy_run (ci := c) (unhide HR9) h42 ty)
        go_wp2_with (first
          | (at_builtin; obtain ⟨us, v10, w10, hus, hrun10, hP10, hb10⟩ := unhide HCR _; refine Lib.wpList_append_run _ rfl _ _ _ _ rfl _ _ rfl rfl _ _ hrun10 ?_; have HMR := hide (fun ty => more_run hus hP10 h42 hb10.size zyB (by decide) ty); obtain ⟨a10, c10, e10⟩ := row_form hP10.1; subst e10; clear hus hP10 hrun10 HCR)
          | (at_builtin; obtain ⟨qc, a11, c11, w11, hrun11, HQC, hq5, hq6, hR11, hb11⟩ := unhide HMR _; refine Lib.wpList_append_run _ rfl _ _ _ _ rfl _ _ rfl rfl _ _ hrun11 ?_; clear hrun11 HMR))
        obtain ⟨hb911, hB11⟩ := one_more hB9 hb10 hb11
        have HRA := hide ((unhide HRA9).below hb911)
        have HRBB := hide ((unhide HRB).below hb911)
        have HRC := hide hR11
        have HKC : Hid (keepOkB qc = decide (fs.length < 40)) := by show _ = _; rw [unhide HQC]; exact bent_c hok (unhide HNM)
        clear hb10 hb11 hb911 HRA9 HRB HR9 hR11 HQC hB9
        go_wp2_with fail
        refine (implKeepOk_any _ _ qa _ hq1 hq2 (unhide HRA)).mono ?_
        rintro e w12 ⟨rfl, hb12⟩
        rw [unhide HKA]
        have hB12 := bl_trans hB11 hb12
        have HRB12 := hide ((unhide HRBB).below hb12)
        have HRC12 := hide ((unhide HRC).below hb12)
        clear hb12 HRA HRBB HRC hB11
        go_wp2_with fail
        refine (implKeepOk_any _ _ qb _ hq3 hq4 (unhide HRB12)).mono ?_
        rintro e w13 ⟨rfl, hb13⟩
        rw [unhide HKB]
        have hB13 := bl_trans hB12 hb13
        have HRC13 := hide ((unhide HRC12).below hb13)
        clear hb13 HRB12 HRC12 hB12
        go_wp2_with fail
        refine (implKeepOk_any _ _ qc _ hq5 hq6 (unhide HRC13)).mono ?_
        rintro e w14 ⟨rfl, hb14⟩
        rw [unhide HKC]
        have hB14 := bl_trans hB13 hb14
        clear hb14 HRC13 hB13
        have hdec : fs.length < 40 ∧ (fs.length : Int) < 40 ∧ decide (fs.length < 40) = true ∨ ¬ fs.length < 40 ∧ ¬ (fs.length : Int) < 40 ∧ decide (fs.length < 40) = false := by
          by_cases h : fs.length < 40
          · exact .inl ⟨h, by omega, decide_eq_true h⟩
          · exact .inr ⟨h, by omega, decide_eq_false h⟩
        rcases hdec with ⟨d1, d2, d3⟩ | ⟨d1, d2, d3⟩
        · rw [d3]
          go_wp2_with fail
          refine (implKeepOk_any none 0 [] _ (Nat.le_refl _) (Nat.zero_le _) (.inl rfl)).mono ?_
          rintro e w15 ⟨rfl, hb15⟩
          rw [bent_nil]
          have hB15 := bl_trans hB14 hb15
          go_wp2_with fail
          go_ret
          exact ⟨rfl, hB15⟩
        · rw [d3]
          go_wp2_with fail
          refine (implKeepOk_any none 0 [] _ (Nat.le_refl _) (Nat.zero_le _) (.inl rfl)).mono ?_
          rintro e w15 ⟨rfl, hb15⟩
          rw [bent_nil]
          have hB15 := bl_trans hB14 hb15
          go_wp2_with fail
          go_ret
          exact ⟨by simp [d2], hB15⟩
      refine AllReadyH.cons (o := { dst := some 51, op := Go.Op.buildSlice 23 1 #[(0, Go.Operand.tmp 50)], type := 23, pos := "laws.go:638", after := #[{ on := 5, ground := Go.Ground.data }], guard := none }) rfl (fun K hK => ?_) AllReadyH.nil
      go_simp
      replace hHeld := (unhide HSA).alloc hHeld (.cells #[.string f0.nm, .bool f0.wk, .slice ai f0.body.length ci] 31)
      refine hK.out _ _ hHeld (fun _ => ?_)
      clear hK K
      try simp only [Act.put, List.setIfInBounds_toArray, List.set_cons_zero, List.set_cons_succ]
      refine wpAnyH_ready (rs := [2]) (by kernel_rfl) (by simp) ?_
      refine AllReadyH.cons (o := { dst := some 47, op := Go.Op.call { callee := Go.Callee.builtin Go.Builtin.append, args := #[Go.Operand.tmp 45, Go.Operand.tmp 46], argTypes := #[23, 23] }, type := 23, pos := "laws.go:638", after := #[{ on := 0, ground := Go.Ground.data }, { on := 1, ground := Go.Ground.data }], guard := none }) rfl (fun K hK => ?_) AllReadyH.nil
      obtain ⟨us, v7, w7, hus, hrun7, hP7, hg7, hb7⟩ := copy_at (w0 := w6) (w := (w6.drew.alloc (.cells #[] 31)).alloc (.cells #[.string f0.nm, .bool f0.wk, .slice ai f0.body.length ci] 31)) (k := w6.heap.size) (bl_alloc (bl_alloc (Below.refl _ _).drew _) _) (row_below (DrawThin.fun_made w6.drew) (below_alloc1 _ _)) (unhide HR6) (ci := c) h42 23
      obtain ⟨a7, c7, e7⟩ := row_form hP7.1
      subst e7
      refine step_run rfl (.tmp 45) (.tmp 46) 23 23 rfl _ _ _ (by simp [Act.eval]) (by simp [Act.eval]) hrun7 ?_
      have hh7 := (unhide HSA).1 _ _ hb7 (unhide HS0)
      clear hHeld hrun7
      have hHeld := hh7
      clear hh7
      refine hK.out _ _ hHeld (fun _ => ?_)
      clear hK K
      try simp only [Act.put, List.setIfInBounds_toArray, List.set_cons_zero, List.set_cons_succ]
      refine wpAnyH_ready (rs := [7]) (by kernel_rfl) (by simp) ?_
      refine AllReadyH.cons (o := { dst := some 52, op := Go.Op.call { callee := Go.Callee.builtin Go.Builtin.append, args := #[Go.Operand.tmp 47, Go.Operand.tmp 51], argTypes := #[23, 23] }, type := 23, pos := "laws.go:638", after := #[{ on := 2, ground := Go.Ground.data }, { on := 6, ground := Go.Ground.data }, { on := 2, ground := Go.Ground.chain }], guard := none }) rfl (fun K hK => ?_) AllReadyH.nil
      obtain ⟨qb, a9, c9, w9, hrun9, HQB, hq3, hq4, hR9, hb9⟩ := last_run (w6 := w6) (w := w7) (g := w6.heap.size + 1) (u := (f0, .slice ai f0.body.length ci)) hus hP7 h42 hb7 (unhide HBD) (box_two hg7) 23
      refine step_run rfl (.tmp 47) (.tmp 51) 23 23 rfl _ _ _ (by simp [Act.eval]) (by simp [Act.eval]) hrun9 ?_
      have hh9 := (unhide HSA).1 _ _ hb9 (unhide HS0)
      clear hHeld hrun9
      have hHeld := hh9
      clear hh9
      refine hK.out _ _ hHeld (fun _ => ?_)
      clear hK K
      try simp only [Act.put, List.setIfInBounds_toArray, List.set_cons_zero, List.set_cons_succ]
      refine wpAnyH_take (i := 8) (oi := { dst := some 5, op := Go.Op.assign (Go.Operand.tmp 52), type := 23, pos := "laws.go:638", after := #[{ on := 7, ground := Go.Ground.data }, { on := 7, ground := Go.Ground.chain }, { on := 0, ground := Go.Ground.phase }, { on := 1, ground := Go.Ground.phase }, { on := 2, ground := Go.Ground.phase }, { on := 3, ground := Go.Ground.phase }, { on := 4, ground := Go.Ground.phase }, { on := 5, ground := Go.Ground.phase }, { on := 6, ground := Go.Ground.phase }, { on := 7, ground := Go.Ground.phase }], guard := none }) (v := ?v6_8) rfl (by kernel_rfl) (by kernel_rfl) (by kernel_rfl) (fun _ _ _ h => h) (Or.inl ⟨by rfl, ?y6_8⟩) (by assumption) ?r6_8
      case y6_8 => (intro w hSw; (try dsimp only at hSw); go_simp; (try rw [if_pos (show 0 < fs.length by omega)]); try (with_reducible rfl))
      try simp only [Act.put, List.setIfInBounds_toArray, List.set_cons_zero, List.set_cons_succ]
      refine wpAnyH_done (by kernel_rfl) ?_ _
      have HKB := hide (unhide HF0 qb HQB)
      have HRB := hide hR9
      have HB9 := hide hb9
      clear hHeld hR9 hb9 hP7 hg7 hb7 hus HQB HSA HS0 HBD HF0
      have hB9 := bl_trans hB6 (unhide HB9)
      have HR9 := hide ((unhide HR6).below (unhide HB9))
      have HRA9 := hide ((unhide HRA6).below (unhide HB9))
      clear HR6 HRA6 HB9
      have HCR := hide (fun ty => copy_run (ci := c) (unhide HR9) h42 ty)
      go_wp2_with (first
        | (at_builtin; obtain ⟨us, v10, w10, hus, hrun10, hP10, hb10⟩ := unhide HCR _; refine Lib.wpList_append_run _ rfl _ _ _ _ rfl _ _ rfl rfl _ _ hrun10 ?_; have HMR := hide (fun ty => more_run hus hP10 h42 hb10.size zyB (by decide) ty); obtain ⟨a10, c10, e10⟩ := row_form hP10.1; subst e10; clear hus hP10 hrun10 HCR)
        | (at_builtin; obtain ⟨qc, a11, c11, w11, hrun11, HQC, hq5, hq6, hR11, hb11⟩ := unhide HMR _; refine Lib.wpList_append_run _ rfl _ _ _ _ rfl _ _ rfl rfl _ _ hrun11 ?_; clear hrun11 HMR))
      obtain ⟨hb911, hB11⟩ := one_more hB9 hb10 hb11
      have HRA := hide ((unhide HRA9).below hb911)
      have HRBB := hide ((unhide HRB).below hb911)
      have HRC := hide hR11
      have HKC : Hid (keepOkB qc = decide (fs.length < 40)) := by show _ = _; rw [unhide HQC]; exact bent_c hok (unhide HNM)
      clear hb10 hb11 hb911 HRA9 HRB HR9 hR11 HQC hB9
      go_wp2_with fail
      refine (implKeepOk_any _ _ qa _ hq1 hq2 (unhide HRA)).mono ?_
      rintro e w12 ⟨rfl, hb12⟩
      rw [unhide HKA]
      have hB12 := bl_trans hB11 hb12
      have HRB12 := hide ((unhide HRBB).below hb12)
      have HRC12 := hide ((unhide HRC).below hb12)
      clear hb12 HRA HRBB HRC hB11
      go_wp2_with fail
      refine (implKeepOk_any _ _ qb _ hq3 hq4 (unhide HRB12)).mono ?_
      rintro e w13 ⟨rfl, hb13⟩
      rw [unhide HKB]
      have hB13 := bl_trans hB12 hb13
      have HRC13 := hide ((unhide HRC12).below hb13)
      clear hb13 HRB12 HRC12 hB12
      go_wp2_with fail
      refine (implKeepOk_any _ _ qc _ hq5 hq6 (unhide HRC13)).mono ?_
      rintro e w14 ⟨rfl, hb14⟩
      rw [unhide HKC]
      have hB14 := bl_trans hB13 hb14
      clear hb14 HRC13 hB13
      have hdec : fs.length < 40 ∧ (fs.length : Int) < 40 ∧ decide (fs.length < 40) = true ∨ ¬ fs.length < 40 ∧ ¬ (fs.length : Int) < 40 ∧ decide (fs.length < 40) = false := by
        by_cases h : fs.length < 40
        · exact .inl ⟨h, by omega, decide_eq_true h⟩
        · exact .inr ⟨h, by omega, decide_eq_false h⟩
      rcases hdec with ⟨d1, d2, d3⟩ | ⟨d1, d2, d3⟩
      · rw [d3]
        go_wp2_with fail
        refine (implKeepOk_any none 0 [] _ (Nat.le_refl _) (Nat.zero_le _) (.inl rfl)).mono ?_
        rintro e w15 ⟨rfl, hb15⟩
        rw [bent_nil]
        have hB15 := bl_trans hB14 hb15
        go_wp2_with fail
        go_ret
        exact ⟨rfl, hB15⟩
      · rw [d3]
        go_wp2_with fail
        refine (implKeepOk_any none 0 [] _ (Nat.le_refl _) (Nat.zero_le _) (.inl rfl)).mono ?_
        rintro e w15 ⟨rfl, hb15⟩
        rw [bent_nil]
        have hB15 := bl_trans hB14 hb15
        go_wp2_with fail
        go_ret
        exact ⟨by simp [d2], hB15⟩
    refine AllReadyH.cons (o := { dst := some 51, op := Go.Op.buildSlice 23 1 #[(0, Go.Operand.tmp 50)], type := 23, pos := "laws.go:638", after := #[{ on := 5, ground := Go.Ground.data }], guard := none }) rfl (fun K hK => ?_) AllReadyH.nil
    go_simp
    replace hHeld := (unhide HSA).alloc hHeld (.cells #[.string f0.nm, .bool f0.wk, .slice ai f0.body.length ci] 31)
    refine hK.out _ _ hHeld (fun _ => ?_)
    clear hK K
    try simp only [Act.put, List.setIfInBounds_toArray, List.set_cons_zero, List.set_cons_succ]
    refine wpAnyH_ready (rs := [0]) (by kernel_rfl) (by simp) ?_
    refine AllReadyH.cons (o := { dst := some 45, op := Go.Op.buildSlice 23 0 #[], type := 23, pos := "laws.go:638", after := #[], guard := none }) rfl (fun K hK => ?_) AllReadyH.nil
    go_simp
    replace hHeld := (unhide HSA).alloc hHeld (.cells #[] 31)
    refine hK.out _ _ hHeld (fun _ => ?_)
    clear hK K
    try simp only [Act.put, List.setIfInBounds_toArray, List.set_cons_zero, List.set_cons_succ]
    refine wpAnyH_ready (rs := [2]) (by kernel_rfl) (by simp) ?_
    refine AllReadyH.cons (o := { dst := some 47, op := Go.Op.call { callee := Go.Callee.builtin Go.Builtin.append, args := #[Go.Operand.tmp 45, Go.Operand.tmp 46], argTypes := #[23, 23] }, type := 23, pos := "laws.go:638", after := #[{ on := 0, ground := Go.Ground.data }, { on := 1, ground := Go.Ground.data }], guard := none }) rfl (fun K hK => ?_) AllReadyH.nil
    obtain ⟨us, v7, w7, hus, hrun7, hP7, hg7, hb7⟩ := copy_at (w0 := w6) (w := (w6.drew.alloc (.cells #[.string f0.nm, .bool f0.wk, .slice ai f0.body.length ci] 31)).alloc (.cells #[] 31)) (k := w6.heap.size + 1) (bl_alloc (bl_alloc (Below.refl _ _).drew _) _) (fun_two w6.drew _) (unhide HR6) (ci := c) h42 23
    obtain ⟨a7, c7, e7⟩ := row_form hP7.1
    subst e7
    refine step_run rfl (.tmp 45) (.tmp 46) 23 23 rfl _ _ _ (by simp [Act.eval]) (by simp [Act.eval]) hrun7 ?_
    have hh7 := (unhide HSA).1 _ _ hb7 (unhide HS0)
    clear hHeld hrun7
    have hHeld := hh7
    clear hh7
    refine hK.out _ _ hHeld (fun _ => ?_)
    clear hK K
    try simp only [Act.put, List.setIfInBounds_toArray, List.set_cons_zero, List.set_cons_succ]
    refine wpAnyH_ready (rs := [7]) (by kernel_rfl) (by simp) ?_
    refine AllReadyH.cons (o := { dst := some 52, op := Go.Op.call { callee := Go.Callee.builtin Go.Builtin.append, args := #[Go.Operand.tmp 47, Go.Operand.tmp 51], argTypes := #[23, 23] }, type := 23, pos := "laws.go:638", after := #[{ on := 2, ground := Go.Ground.data }, { on := 6, ground := Go.Ground.data }, { on := 2, ground := Go.Ground.chain }], guard := none }) rfl (fun K hK => ?_) AllReadyH.nil
    obtain ⟨qb, a9, c9, w9, hrun9, HQB, hq3, hq4, hR9, hb9⟩ := last_run (w6 := w6) (w := w7) (g := w6.heap.size) (u := (f0, .slice ai f0.body.length ci)) hus hP7 h42 hb7 (unhide HBD) (box_one hg7) 23
    refine step_run rfl (.tmp 47) (.tmp 51) 23 23 rfl _ _ _ (by simp [Act.eval]) (by simp [Act.eval]) hrun9 ?_
    have hh9 := (unhide HSA).1 _ _ hb9 (unhide HS0)
    clear hHeld hrun9
    have hHeld := hh9
    clear hh9
    refine hK.out _ _ hHeld (fun _ => ?_)
    clear hK K
    try simp only [Act.put, List.setIfInBounds_toArray, List.set_cons_zero, List.set_cons_succ]
    refine wpAnyH_take (i := 8) (oi := { dst := some 5, op := Go.Op.assign (Go.Operand.tmp 52), type := 23, pos := "laws.go:638", after := #[{ on := 7, ground := Go.Ground.data }, { on := 7, ground := Go.Ground.chain }, { on := 0, ground := Go.Ground.phase }, { on := 1, ground := Go.Ground.phase }, { on := 2, ground := Go.Ground.phase }, { on := 3, ground := Go.Ground.phase }, { on := 4, ground := Go.Ground.phase }, { on := 5, ground := Go.Ground.phase }, { on := 6, ground := Go.Ground.phase }, { on := 7, ground := Go.Ground.phase }], guard := none }) (v := ?v7_8) rfl (by kernel_rfl) (by kernel_rfl) (by kernel_rfl) (fun _ _ _ h => h) (Or.inl ⟨by rfl, ?y7_8⟩) (by assumption) ?r7_8
    case y7_8 => (intro w hSw; (try dsimp only at hSw); go_simp; (try rw [if_pos (show 0 < fs.length by omega)]); try (with_reducible rfl))
    try simp only [Act.put, List.setIfInBounds_toArray, List.set_cons_zero, List.set_cons_succ]
    refine wpAnyH_done (by kernel_rfl) ?_ _
    have HKB := hide (unhide HF0 qb HQB)
    have HRB := hide hR9
    have HB9 := hide hb9
    clear hHeld hR9 hb9 hP7 hg7 hb7 hus HQB HSA HS0 HBD HF0
    have hB9 := bl_trans hB6 (unhide HB9)
    have HR9 := hide ((unhide HR6).below (unhide HB9))
    have HRA9 := hide ((unhide HRA6).below (unhide HB9))
    clear HR6 HRA6 HB9
    have HCR := hide (fun ty => copy_run (ci := c) (unhide HR9) h42 ty)
    go_wp2_with (first
      | (at_builtin; obtain ⟨us, v10, w10, hus, hrun10, hP10, hb10⟩ := unhide HCR _; refine Lib.wpList_append_run _ rfl _ _ _ _ rfl _ _ rfl rfl _ _ hrun10 ?_; have HMR := hide (fun ty => more_run hus hP10 h42 hb10.size zyB (by decide) ty); obtain ⟨a10, c10, e10⟩ := row_form hP10.1; subst e10; clear hus hP10 hrun10 HCR)
      | (at_builtin; obtain ⟨qc, a11, c11, w11, hrun11, HQC, hq5, hq6, hR11, hb11⟩ := unhide HMR _; refine Lib.wpList_append_run _ rfl _ _ _ _ rfl _ _ rfl rfl _ _ hrun11 ?_; clear hrun11 HMR))
    obtain ⟨hb911, hB11⟩ := one_more hB9 hb10 hb11
    have HRA := hide ((unhide HRA9).below hb911)
    have HRBB := hide ((unhide HRB).below hb911)
    have HRC := hide hR11
    have HKC : Hid (keepOkB qc = decide (fs.length < 40)) := by show _ = _; rw [unhide HQC]; exact bent_c hok (unhide HNM)
    clear hb10 hb11 hb911 HRA9 HRB HR9 hR11 HQC hB9
    go_wp2_with fail
    refine (implKeepOk_any _ _ qa _ hq1 hq2 (unhide HRA)).mono ?_
    rintro e w12 ⟨rfl, hb12⟩
    rw [unhide HKA]
    have hB12 := bl_trans hB11 hb12
    have HRB12 := hide ((unhide HRBB).below hb12)
    have HRC12 := hide ((unhide HRC).below hb12)
    clear hb12 HRA HRBB HRC hB11
    go_wp2_with fail
    refine (implKeepOk_any _ _ qb _ hq3 hq4 (unhide HRB12)).mono ?_
    rintro e w13 ⟨rfl, hb13⟩
    rw [unhide HKB]
    have hB13 := bl_trans hB12 hb13
    have HRC13 := hide ((unhide HRC12).below hb13)
    clear hb13 HRB12 HRC12 hB12
    go_wp2_with fail
    refine (implKeepOk_any _ _ qc _ hq5 hq6 (unhide HRC13)).mono ?_
    rintro e w14 ⟨rfl, hb14⟩
    rw [unhide HKC]
    have hB14 := bl_trans hB13 hb14
    clear hb14 HRC13 hB13
    have hdec : fs.length < 40 ∧ (fs.length : Int) < 40 ∧ decide (fs.length < 40) = true ∨ ¬ fs.length < 40 ∧ ¬ (fs.length : Int) < 40 ∧ decide (fs.length < 40) = false := by
      by_cases h : fs.length < 40
      · exact .inl ⟨h, by omega, decide_eq_true h⟩
      · exact .inr ⟨h, by omega, decide_eq_false h⟩
    rcases hdec with ⟨d1, d2, d3⟩ | ⟨d1, d2, d3⟩
    · rw [d3]
      go_wp2_with fail
      refine (implKeepOk_any none 0 [] _ (Nat.le_refl _) (Nat.zero_le _) (.inl rfl)).mono ?_
      rintro e w15 ⟨rfl, hb15⟩
      rw [bent_nil]
      have hB15 := bl_trans hB14 hb15
      go_wp2_with fail
      go_ret
      exact ⟨rfl, hB15⟩
    · rw [d3]
      go_wp2_with fail
      refine (implKeepOk_any none 0 [] _ (Nat.le_refl _) (Nat.zero_le _) (.inl rfl)).mono ?_
      rintro e w15 ⟨rfl, hb15⟩
      rw [bent_nil]
      have hB15 := bl_trans hB14 hb15
      go_wp2_with fail
      go_ret
      exact ⟨by simp [d2], hB15⟩

set_option maxRecDepth 100000 in
theorem lifted (os : Os) (started : os.Started) (H : Type) (enc : TypeId × Value → H) :
    ReturnsInHanded {} Try.checked os 3 .any (Rows.fnKeepBentSpec.pre6 enc Try.prog Try.f3 Rows.fnKeepBentRow.domain false) (Rows.fnKeepBentSpec.post enc Try.prog Try.f3 false true false false) := by
  refine returnsInHanded_of_change (C := Try.checked) own started (by kernel_rfl) Try.func3
    (ChangeSpec.witness6 (enc := enc) (C := Try.checked) false ⟨#[], #[.slice none 0 0], []⟩ 8 (by kernel_rfl) (by kernel_rfl) (by kernel_rfl) (by kernel_rfl)) ?_
  intro W base args ds gs before hval0 hW hcnd _
  have hval : ∀ (j : Nat) t v, Try.f3.params[j]? = some t → args[j]? = some v → Value.okWide Try.prog W .any base t v := hval0
  have hW' := hW
  obtain ⟨p, q, hA0, hV, rfl, hfz, hnd⟩ := hW
  have hA : DataW.TrodAll enc Try.prog W 0 (fun _ => true) true Try.f3.params.toList args.toList ds p := hA0
  rw [Try.params3] at hA hval
  obtain ⟨v0, vs0, d0, ds0, p0, q0, hargs, rfl, rfl, h0, r0⟩ := trodAll_cons hA
  obtain ⟨rfl, rfl, rfl⟩ := trodAll_nil r0
  obtain rfl : args = #[v0] := by cases args; simp_all
  obtain ⟨rfl, rfl⟩ := trodVars_none hV
  have k0 := h0
  have lt0 : ∀ x ∈ p0, x.block < W.heap.size := by obtain ⟨m, hm⟩ := k0; exact DataW.trod_lt m _ _ _ hm
  obtain ⟨a0, len0, cap0, hv0⟩ := okWide_slice Try.underlying22 (hval 0 22 v0 rfl rfl)
  obtain ⟨z0, w0⟩ : ∃ zs, IsRow .u8 W a0 len0 cap0 zs := by
    subst hv0
    obtain ⟨fuel, hf⟩ := h0
    rcases open_ints Try.underlying22 Try.underlying5 (by kernel_rfl) hf with ⟨hcs, _⟩ | ⟨x, l, c, zs, hcs, _, hl, hm, hz, _, hcell, hwz⟩
    · simp [Value.cells] at hcs
      obtain ⟨rfl, rfl, rfl⟩ := hcs
      exact ⟨[], .inl ⟨rfl, rfl, rfl, rfl⟩⟩
    · simp [Value.cells] at hcs
      obtain ⟨rfl, rfl, rfl⟩ := hcs
      exact ⟨zs, .inr ⟨_, rfl, hl, hm, by simpa using hz, hcell, hwz⟩⟩
  clear hA0 hval0
  subst hv0
  refine (walk a0 len0 cap0 z0 W w0).mono fun e W' ⟨he, bel⟩ => ?_
  subst he
  exact ⟨_, rfl, _, _, _, [], _, [], hW', trodAll_mk1 (shut_bool Try.underlying4 _), (trodAll_cons_mk (Below.trod laidOut (by kernel_rfl) (of_decide_eq_true (by kernel_rfl)) k0 bel lt0) trodAll_mk0), rfl, bel.frame _, fun h => by cases h⟩

theorem proved : Rows.FnKeepBentSaid :=
  OpenClaim.holds_of_wide 3 Try.f3 rfl rfl rfl rfl rfl rfl rfl ⟨rfl, rfl, rfl, rfl, rfl⟩ rfl rfl rfl rfl rfl (by kernel_rfl) Try.func3 (by kernel_rfl)
    (of_decide_eq_true (by kernel_rfl)) (by unfold Func.isWrapper; first | (rw [if_pos (by decide +kernel)]; kernel_rfl) | (rw [if_neg (by decide +kernel)]; exact ⟨rfl, rfl⟩))
    (fun os started H enc _ => lifted os started H enc)
#print axioms proved
end Go.Proofs.Ytnmgeaonhbhbkaa.fnKeepBent
