/- The contract of the draw of LayTo. -/
import Derived.Test.YtjbhbkkkjdpamaaDrawT
namespace Go.Proofs.Ytjbhbkkkjdpamaa.DrawV
open Go.ChangeShapes Go.WideShapes Go.ChangeAt Go.RowKit Go.Joins Go.Deep
open Go.Proofs.Ytjbhbkkkjdpamaa.Base Go.Proofs.Ytjbhbkkkjdpamaa.InsA Go.Proofs.Ytjbhbkkkjdpamaa.Funs Go.Proofs.Ytjbhbkkkjdpamaa.Open Go.Proofs.Ytjbhbkkkjdpamaa.FunS Go.Proofs.Ytjbhbkkkjdpamaa.Keep Go.Proofs.Ytjbhbkkkjdpamaa.UnitS Go.Proofs.Ytjbhbkkkjdpamaa.Refs Go.Proofs.Ytjbhbkkkjdpamaa.LayN Go.Proofs.Ytjbhbkkkjdpamaa.LayA Go.Proofs.Ytjbhbkkkjdpamaa.KeepD Go.Proofs.Ytjbhbkkkjdpamaa.LayD Go.Proofs.Ytjbhbkkkjdpamaa.LayS Go.Proofs.Ytjbhbkkkjdpamaa.LayT Go.Proofs.Ytjbhbkkkjdpamaa.LayV Go.Proofs.Ytjbhbkkkjdpamaa.LayW Go.Proofs.Ytjbhbkkkjdpamaa.LayX Go.Proofs.Ytjbhbkkkjdpamaa.LayY Go.Proofs.Ytjbhbkkkjdpamaa.Rd Go.Proofs.Ytjbhbkkkjdpamaa.DrawIns Go.Proofs.Ytjbhbkkkjdpamaa.DrawP Go.Proofs.Ytjbhbkkkjdpamaa.DrawO Go.Proofs.Ytjbhbkkkjdpamaa.DrawM Go.Proofs.Ytjbhbkkkjdpamaa.DrawT
open Go.Proofs.Ytjbhbkkkjdpamaa.DrawThin (name_in)
set_option linter.unusedVariables false
set_option maxRecDepth 100000

theorem str_far {W : World} {H b m : Nat} {s : ByteArray} (hn : NoStr W H) (hc : W.cell? ⟨b, m, none⟩ = some (.string s)) : H ≠ b := fun e => by
  subst e
  exact hn _ _ hc
theorem names_max {x : ByteArray} (h : x ∈ names) : x.size ≤ maxLen := (names_ok x h).max
def ToDrawn (w : World) (e : Ending) (w' : World) : Prop := ∃ a cap fs na sa nc sc zs st, ∃ (rr at_ : Int) (s : ByteArray), e = .returned (.tuple #[.slice a fs.length cap, .agg #[.slice na zs.length nc, .slice sa st.length sc], .int .i64 rr, .int .i64 at_, .string s]) ∧ 0 ≤ rr ∧ rr ≤ 101 ∧ -10 ≤ at_ ∧ at_ ≤ 100000000 ∧ s.size ≤ maxLen ∧ LayMet w w' a cap fs na sa nc sc zs st
set_option maxHeartbeats 8000000 in
theorem drawLayTo_any (w : World) (a0 : Option Addr) (len0 cap0 : Nat) (hl0 : len0 ≤ cap0) (hm0 : cap0 ≤ maxLen) (hb0 : len0 = 0 ∨ ∃ b off, a0 = some ⟨b, off, none⟩ ∧ b < w.heap.size ∧ ∀ i, i < len0 → ∃ c : Nat, c < 256 ∧ w.cell? ⟨b, off + i, none⟩ = some (.int .u8 c)) :
    Calls Try.prog 38 #[.slice a0 len0 cap0] w (ToDrawn w) := by
  have Hb := hide hb0
  clear hb0
  go_enter Try.func38, Try.ntmps38
  go_wp2_with fail
  refine (open_any (w.alloc (.cells #[.slice none 0 0, .slice none 0 0] 34)) _ _ _ hl0 hm0 (bytes_alloc (unhide Hb) _)).mono ?_
  rintro e w1 ⟨rfl, hr, hb1, hz⟩
  have hB1 : Below w.heap.size w w1 := bl_trans (below_alloc1 _ _) hb1
  have hz0 : w1.heap[w.heap.size]? = some (.cells #[.slice none 0 0, .slice none 0 0] 34) := box_below (new_block w _) hb1
  simp only [World.size_alloc] at hr hz ⊢
  clear hb1 Hb
  have HR := hide hr
  clear hr
  go_wp2_with fail
  refine (drawn_any _ (w.heap.size + 1) 0 (unhide HR) (by omega)).mono ?_
  rintro e w2 ⟨a, cap, fs, na, sa, nc, sc, zs, st, rr, p, rfl, hr0, hr1, c1, c2, c3, HN, d1, d2, d3, d4, HTM, hF, hN, hT, hfar, hp, hrd, htu⟩
  have hB2 : Below w.heap.size w w2 := hB1.trans (htu.below (by omega) (by omega))
  replace hz0 := box_turns hz0 htu (by omega)
  have hLM : LM w w2 (w.heap.size + 1) p a fs na sa zs st := ⟨hrd, hB2, by omega, hF, hN, hT, hfar.out.1, hfar.out.2⟩
  have hLne : w2.heap.size ≠ (w.heap.size + 1) := Nat.ne_of_gt (rd_lt hrd)
  have hLR : (w.heap.size + 1) < w2.heap.size := rd_lt hrd
  clear hrd hB2 hF hN hT hfar htu hB1 hz HR
  have HLM := hide (hLM.below (below_alloc1 w2 (.cells #[.slice na zs.length nc, .slice sa st.length sc] 34)))
  have HBX := hide (new_block w2 (.cells #[.slice na zs.length nc, .slice sa st.length sc] 34))
  have HZ := hide (box_below hz0 (below_alloc1 w2 (.cells #[.slice na zs.length nc, .slice sa st.length sc] 34)))
  have hlf : (fs.length : Int) ≤ 9223372036854775807 := by omega
  clear hLM hz0
  have hX := box2 (unhide HBX)
  go_wp2_with fail
  refine (specLaySize_any a cap fs na sa nc sc zs st _ c1 c2 d1 d2 d3 d4 HTM.out.few (unhide HLM).fr (unhide HLM).nr (unhide HLM).tr).mono ?_
  rintro e w3 ⟨rfl, hb3⟩
  obtain ⟨zz, hzz, hzz1⟩ := size_small (fs := fs) HTM.out
  rw [hzz]
  replace HLM := hide ((unhide HLM).below hb3)
  replace HBX := hide (box_below (unhide HBX) hb3)
  replace HZ := hide (box_below (unhide HZ) hb3)
  clear hX hb3 hzz
  go_wp2_with fail
  refine (pick_any _ (w.heap.size + 1) _ _ (unhide HLM).rd (by omega) (by first | omega | (rw [IntKind.wrap_i64]; omega))).mono ?_
  rintro e w4 ⟨v1, hv1, rfl, hr4, ht4⟩
  have hv1b : v1 ≤ 42000002 := by first | omega | (rw [IntKind.wrap_i64] at hv1; omega)
  replace HLM := hide ((unhide HLM).turns ht4 hr4)
  replace HBX := hide (box_turns (unhide HBX) ht4 hLne)
  replace HZ := hide (box_turns (unhide HZ) ht4 (by omega))
  clear hr4 ht4 hv1
  go_wp2_with fail
  refine (pick_any _ (w.heap.size + 1) _ 9 (unhide HLM).rd (by omega) (by omega)).mono ?_
  rintro e w5 ⟨v2, hv2, rfl, hr5, ht5⟩
  replace HLM := hide ((unhide HLM).turns ht5 hr5)
  replace HBX := hide (box_turns (unhide HBX) ht5 hLne)
  replace HZ := hide (box_turns (unhide HZ) ht5 (by omega))
  clear hr5 ht5
  have hq2 := quo8 v2 hv2
  go_upto_region 5 with fail
  generalize hxx : (v1 : Int) - (v2 : Int) / 8 = xx at *
  have hx0 : -10 ≤ xx := by omega
  have hx1 : xx ≤ 100000000 := by omega
  clear hxx hq2 hv1b hv2
  by_cases h0 : (0 : Int) < (fs.length : Int)
  · go_wp2_with fail
    refine (pick_any _ (w.heap.size + 1) _ 4 (unhide HLM).rd (by omega) (by omega)).mono ?_
    rintro e w6 ⟨v3, hv3, rfl, hr6, ht6⟩
    replace HLM := hide ((unhide HLM).turns ht6 hr6)
    replace HBX := hide (box_turns (unhide HBX) ht6 hLne)
    replace HZ := hide (box_turns (unhide HZ) ht6 (by omega))
    clear hr6 ht6
    by_cases h3 : (0 : Int) < (v3 : Int)
    · go_upto_region 6 with fail
      obtain ⟨fb, fo, rfl⟩ := (unhide HLM).fr.get (by omega)
      have hLM := (unhide HLM).drew
      have hbx : w6.drew.heap[w2.heap.size]? = some (.cells #[.slice na zs.length nc, .slice sa st.length sc] 34) := unhide HBX
      have hz0 : w6.drew.heap[w.heap.size]? = some (.cells #[.slice none 0 0, .slice none 0 0] 34) := unhide HZ
      have HST : Hid (Stable (fun w' => w'.cell? ⟨w2.heap.size, 0, none⟩ = some (.slice na zs.length nc) ∧ w'.cell? ⟨w2.heap.size, 1, none⟩ = some (.slice sa st.length sc))) := (Stable.cell _ _).and (Stable.cell _ _)
      have HQ : Hid ((fun w' => w'.cell? ⟨w2.heap.size, 0, none⟩ = some (.slice na zs.length nc) ∧ w'.cell? ⟨w2.heap.size, 1, none⟩ = some (.slice sa st.length sc)) w6) := (box2 (unhide HBX)).1
      clear HLM HBX HZ
      refine wp_region_held_drew (S := (fun w' => w'.cell? ⟨w2.heap.size, 0, none⟩ = some (.slice na zs.length nc) ∧ w'.cell? ⟨w2.heap.size, 1, none⟩ = some (.slice sa st.length sc))) (by kernel_rfl) ((unhide HST).2 _ (unhide HQ)) (fun hHeld => ?_)
      generalize w6.drew = wa at *
      refine wpAnyH_take (i := 0) (oi := { dst := some 40, op := Go.Op.move (Go.Operand.tmp 8), type := 32, pos := "l7_lay.go:261", after := #[], guard := none }) (v := ?v1_0) rfl (by kernel_rfl) (by kernel_rfl) (by kernel_rfl) (fun _ _ _ h => h) (Or.inl ⟨by rfl, ?y1_0⟩) (by assumption) ?r1_0
      case y1_0 => (intro w hSw; (try dsimp only at hSw); go_simp; try (with_reducible rfl))
      try simp only [Act.put, List.setIfInBounds_toArray, List.set_cons_zero, List.set_cons_succ]
      refine wpAnyH_take (i := 1) (oi := { dst := some 41, op := Go.Op.load 34 (Go.Operand.tmp 9), type := 34, pos := "l7_lay.go:261", after := #[{ on := 12, ground := Go.Ground.gcOnly Go.Departure.lateStores }], guard := none }) (v := ?v2_1) rfl (by kernel_rfl) (by kernel_rfl) (by kernel_rfl) (fun _ _ _ h => h) (Or.inl ⟨by rfl, ?y2_1⟩) (by assumption) ?r2_1
      case y2_1 => (intro w hSw; (try dsimp only at hSw); go_simp; try (with_reducible rfl))
      try simp only [Act.put, List.setIfInBounds_toArray, List.set_cons_zero, List.set_cons_succ]
      refine wpAnyH_take (i := 2) (oi := { dst := some 42, op := Go.Op.move (Go.Operand.tmp 10), type := 3, pos := "l7_lay.go:261", after := #[{ on := 13, ground := Go.Ground.gcOnly Go.Departure.lateStores }], guard := none }) (v := ?v3_2) rfl (by kernel_rfl) (by kernel_rfl) (by kernel_rfl) (fun _ _ _ h => h) (Or.inl ⟨by rfl, ?y3_2⟩) (by assumption) ?r3_2
      case y3_2 => (intro w hSw; (try dsimp only at hSw); go_simp; try (with_reducible rfl))
      try simp only [Act.put, List.setIfInBounds_toArray, List.set_cons_zero, List.set_cons_succ]
      refine wpAnyH_take (i := 3) (oi := { dst := some 43, op := Go.Op.move (Go.Operand.tmp 12), type := 3, pos := "l7_lay.go:261", after := #[{ on := 14, ground := Go.Ground.gcOnly Go.Departure.lateStores }], guard := none }) (v := ?v4_3) rfl (by kernel_rfl) (by kernel_rfl) (by kernel_rfl) (fun _ _ _ h => h) (Or.inl ⟨by rfl, ?y4_3⟩) (by assumption) ?r4_3
      case y4_3 => (intro w hSw; (try dsimp only at hSw); go_simp; try (with_reducible rfl))
      try simp only [Act.put, List.setIfInBounds_toArray, List.set_cons_zero, List.set_cons_succ]
      refine wpAnyH_take (i := 4) (oi := { dst := some 44, op := Go.Op.move (Go.Operand.tmp 8), type := 32, pos := "l7_lay.go:261", after := #[{ on := 15, ground := Go.Ground.gcOnly Go.Departure.lateStores }], guard := none }) (v := ?v5_4) rfl (by kernel_rfl) (by kernel_rfl) (by kernel_rfl) (fun _ _ _ h => h) (Or.inl ⟨by rfl, ?y5_4⟩) (by assumption) ?r5_4
      case y5_4 => (intro w hSw; (try dsimp only at hSw); go_simp; try (with_reducible rfl))
      try simp only [Act.put, List.setIfInBounds_toArray, List.set_cons_zero, List.set_cons_succ]
      refine wpAnyH_take (i := 5) (oi := { dst := some 45, op := Go.Op.move (Go.Operand.tmp 7), type := 107, pos := "l7_lay.go:261", after := #[], guard := none }) (v := ?v6_5) rfl (by kernel_rfl) (by kernel_rfl) (by kernel_rfl) (fun _ _ _ h => h) (Or.inl ⟨by rfl, ?y6_5⟩) (by assumption) ?r6_5
      case y6_5 => (intro w hSw; (try dsimp only at hSw); go_simp; try (with_reducible rfl))
      try simp only [Act.put, List.setIfInBounds_toArray, List.set_cons_zero, List.set_cons_succ]
      refine wpAnyH_take (i := 6) (oi := { dst := some 46, op := Go.Op.move (Go.Operand.tmp 8), type := 32, pos := "l7_lay.go:261", after := #[], guard := none }) (v := ?v7_6) rfl (by kernel_rfl) (by kernel_rfl) (by kernel_rfl) (fun _ _ _ h => h) (Or.inl ⟨by rfl, ?y7_6⟩) (by assumption) ?r7_6
      case y7_6 => (intro w hSw; (try dsimp only at hSw); go_simp; try (with_reducible rfl))
      try simp only [Act.put, List.setIfInBounds_toArray, List.set_cons_zero, List.set_cons_succ]
      refine wpAnyH_take (i := 7) (oi := { dst := some 47, op := Go.Op.call { callee := Go.Callee.builtin Go.Builtin.len, args := #[Go.Operand.tmp 46], argTypes := #[32] }, type := 3, pos := "l7_lay.go:261", after := #[{ on := 6, ground := Go.Ground.data }], guard := none }) (v := ?v8_7) rfl (by kernel_rfl) (by kernel_rfl) (by kernel_rfl) (fun _ _ _ h => h) (Or.inl ⟨by rfl, ?y8_7⟩) (by assumption) ?r8_7
      case y8_7 => (intro w hSw; (try dsimp only at hSw); go_simp; try (with_reducible rfl))
      try simp only [Act.put, List.setIfInBounds_toArray, List.set_cons_zero, List.set_cons_succ]
      refine wpAnyH_ready (rs := [8]) (by kernel_rfl) (by simp) ?_
      refine AllReadyH.cons (o := { dst := some 48, op := Go.Op.call { callee := Go.Callee.value (Go.Operand.func 68), args := #[Go.Operand.tmp 45, Go.Operand.tmp 47], argTypes := #[107, 3] }, type := 3, pos := "l7_lay.go:261", after := #[{ on := 5, ground := Go.Ground.data }, { on := 7, ground := Go.Ground.data }], guard := none }) rfl (fun K hK => ?_) AllReadyH.nil
      go_simp
      go_at_call 68
      refine (pick_any _ (w.heap.size + 1) _ _ hLM.rd (by omega) (by omega)).mono ?_
      rintro e wp ⟨v4, hv4, rfl, hr, ht⟩
      replace hLM := hLM.turns ht hr
      replace hbx := box_turns hbx ht hLne
      replace hz0 := box_turns hz0 ht (by omega)
      replace hHeld := (box2 hbx).1
      clear hr ht
      have hv4' : v4 < fs.length := by omega
      have hv40 : (0 : Int) ≤ (v4 : Int) := by omega
      obtain ⟨ai, ci, g0, _, _, gs, _⟩ := hLM.fr.at hv4'
      generalize fs[v4].nm = s at *
      go_wp2_with fail
      refine hK.out _ _ hHeld (fun _ => ?_)
      clear hK K
      try simp only [Act.put, List.setIfInBounds_toArray, List.set_cons_zero, List.set_cons_succ]
      refine wpAnyH_take (i := 9) (oi := { dst := some 49, op := Go.Op.indexAddr 32 (Go.Operand.tmp 44) (Go.Operand.tmp 48), type := 0, pos := "l7_lay.go:261", after := #[{ on := 4, ground := Go.Ground.data }, { on := 8, ground := Go.Ground.data }, { on := 15, ground := Go.Ground.gcOnly Go.Departure.lateStores }], guard := none }) (v := ?v9_9) rfl (by kernel_rfl) (by kernel_rfl) (by kernel_rfl) (fun _ _ _ h => h) (Or.inl ⟨by rfl, ?y9_9⟩) (by assumption) ?r9_9
      case y9_9 => (intro w hSw; (try dsimp only at hSw); go_simp; try (with_reducible rfl))
      try simp only [Act.put, List.setIfInBounds_toArray, List.set_cons_zero, List.set_cons_succ]
      refine wpAnyH_take (i := 10) (oi := { dst := some 50, op := Go.Op.fieldAddr 54 (Go.Operand.tmp 49) 0, type := 0, pos := "l7_lay.go:261", after := #[{ on := 9, ground := Go.Ground.data }, { on := 15, ground := Go.Ground.gcOnly Go.Departure.lateStores }], guard := none }) (v := ?v10_10) rfl (by kernel_rfl) (by kernel_rfl) (by kernel_rfl) (fun _ _ _ h => h) (Or.inl ⟨by rfl, ?y10_10⟩) (by assumption) ?r10_10
      case y10_10 => (intro w hSw; (try dsimp only at hSw); go_simp; try (with_reducible rfl))
      try simp only [Act.put, List.setIfInBounds_toArray, List.set_cons_zero, List.set_cons_succ]
      refine wpAnyH_take (i := 12) (oi := { dst := some 2, op := Go.Op.assign (Go.Operand.tmp 40), type := 32, pos := "l7_lay.go:261", after := #[{ on := 0, ground := Go.Ground.data }, { on := 8, ground := Go.Ground.chain }, { on := 0, ground := Go.Ground.phase }, { on := 1, ground := Go.Ground.textOnly Go.Departure.lateStores }, { on := 2, ground := Go.Ground.textOnly Go.Departure.lateStores }, { on := 3, ground := Go.Ground.textOnly Go.Departure.lateStores }, { on := 4, ground := Go.Ground.textOnly Go.Departure.lateStores }, { on := 5, ground := Go.Ground.textOnly Go.Departure.lateStores }, { on := 6, ground := Go.Ground.textOnly Go.Departure.lateStores }, { on := 7, ground := Go.Ground.textOnly Go.Departure.lateStoresUnsure }, { on := 8, ground := Go.Ground.textOnly Go.Departure.lateStoresUnsure }, { on := 9, ground := Go.Ground.textOnly Go.Departure.lateStores }, { on := 10, ground := Go.Ground.textOnly Go.Departure.lateStores }, { on := 11, ground := Go.Ground.textOnly Go.Departure.lateStores }], guard := none }) (v := ?v11_12) rfl (by kernel_rfl) (by kernel_rfl) (by kernel_rfl) (fun _ _ _ h => h) (Or.inl ⟨by rfl, ?y11_12⟩) (by assumption) ?r11_12
      case y11_12 => (intro w hSw; (try dsimp only at hSw); go_simp; try (with_reducible rfl))
      try simp only [Act.put, List.setIfInBounds_toArray, List.set_cons_zero, List.set_cons_succ]
      refine wpAnyH_ready (rs := [11, 13]) (by kernel_rfl) (by simp) ?_
      refine AllReadyH.cons (o := { dst := some 51, op := Go.Op.load 9 (Go.Operand.tmp 50), type := 9, pos := "l7_lay.go:261", after := #[{ on := 10, ground := Go.Ground.data }, { on := 15, ground := Go.Ground.gcOnly Go.Departure.lateStores }], guard := none }) rfl (fun K hK => ?_) ?_
      · skip
        have g1 := g0
        go_simp
        clear g1
        refine hK.out _ _ hHeld (fun _ => ?_)
        clear hK K
        try simp only [Act.put, List.setIfInBounds_toArray, List.set_cons_zero, List.set_cons_succ]
        refine wpAnyH_ready (rs := [13]) (by kernel_rfl) (by simp) ?_
        refine AllReadyH.cons (o := { dst := none, op := Go.Op.store 34 (Go.Operand.tmp 3) (Go.Operand.tmp 41), type := 0, pos := "l7_lay.go:261", after := #[{ on := 1, ground := Go.Ground.data }, { on := 12, ground := Go.Ground.chain }, { on := 0, ground := Go.Ground.phase }, { on := 1, ground := Go.Ground.phase }, { on := 2, ground := Go.Ground.textOnly Go.Departure.lateStores }, { on := 3, ground := Go.Ground.textOnly Go.Departure.lateStores }, { on := 4, ground := Go.Ground.textOnly Go.Departure.lateStores }, { on := 5, ground := Go.Ground.textOnly Go.Departure.lateStores }, { on := 6, ground := Go.Ground.textOnly Go.Departure.lateStores }, { on := 7, ground := Go.Ground.textOnly Go.Departure.lateStoresUnsure }, { on := 8, ground := Go.Ground.textOnly Go.Departure.lateStoresUnsure }, { on := 9, ground := Go.Ground.textOnly Go.Departure.lateStores }, { on := 10, ground := Go.Ground.textOnly Go.Departure.lateStores }, { on := 11, ground := Go.Ground.textOnly Go.Departure.lateStores }, { on := 12, ground := Go.Ground.phase }], guard := none }) rfl (fun K hK => ?_) AllReadyH.nil
        have hrN := box2 hz0
        go_simp
        have hLE := hLM.done.put2 (H := w.heap.size) (v0 := .slice na zs.length nc) (v1 := .slice sa st.length sc) (by omega) (Nat.le_refl _) hz0 rfl rfl rfl
        replace g0 : ((wp.setCell ⟨w.heap.size, 0, none⟩ (.slice na zs.length nc)).setCell ⟨w.heap.size, 1, none⟩ (.slice sa st.length sc)).cell? _ = _ := (World.cell?_setCell_far _ _ _ _ (str_far (nostr_of hz0 rfl rfl) g0)).trans ((World.cell?_setCell_far _ _ _ _ (str_far (nostr_of hz0 rfl rfl) g0)).trans g0)
        replace hz0 : ((wp.setCell ⟨w.heap.size, 0, none⟩ (.slice na zs.length nc)).setCell ⟨w.heap.size, 1, none⟩ (.slice sa st.length sc)).heap[w.heap.size]? = some (.cells #[.slice na zs.length nc, .slice sa st.length sc] 34) := block_setCell (block_setCell hz0 _) _
        replace hbx : ((wp.setCell ⟨w.heap.size, 0, none⟩ (.slice na zs.length nc)).setCell ⟨w.heap.size, 1, none⟩ (.slice sa st.length sc)).heap[w2.heap.size]? = some (.cells #[.slice na zs.length nc, .slice sa st.length sc] 34) := set_other (set_other hbx (by omega)) (by omega)
        replace hHeld := (box2 hbx).1
        clear hrN hLM
        refine hK.out _ _ hHeld (fun _ => ?_)
        clear hK K
        try simp only [Act.put, List.setIfInBounds_toArray, List.set_cons_zero, List.set_cons_succ]
        generalize ((wp.setCell ⟨w.heap.size, 0, none⟩ (.slice na zs.length nc)).setCell ⟨w.heap.size, 1, none⟩ (.slice sa st.length sc)) = wz at *
        refine wpAnyH_take (i := 14) (oi := { dst := some 4, op := Go.Op.assign (Go.Operand.tmp 42), type := 3, pos := "l7_lay.go:261", after := #[{ on := 2, ground := Go.Ground.data }, { on := 13, ground := Go.Ground.chain }, { on := 0, ground := Go.Ground.phase }, { on := 1, ground := Go.Ground.phase }, { on := 2, ground := Go.Ground.phase }, { on := 3, ground := Go.Ground.textOnly Go.Departure.lateStores }, { on := 4, ground := Go.Ground.textOnly Go.Departure.lateStores }, { on := 5, ground := Go.Ground.textOnly Go.Departure.lateStores }, { on := 6, ground := Go.Ground.textOnly Go.Departure.lateStores }, { on := 7, ground := Go.Ground.textOnly Go.Departure.lateStoresUnsure }, { on := 8, ground := Go.Ground.textOnly Go.Departure.lateStoresUnsure }, { on := 9, ground := Go.Ground.textOnly Go.Departure.lateStores }, { on := 10, ground := Go.Ground.textOnly Go.Departure.lateStores }, { on := 11, ground := Go.Ground.textOnly Go.Departure.lateStores }, { on := 12, ground := Go.Ground.phase }, { on := 13, ground := Go.Ground.phase }], guard := none }) (v := ?v12_14) rfl (by kernel_rfl) (by kernel_rfl) (by kernel_rfl) (fun _ _ _ h => h) (Or.inl ⟨by rfl, ?y12_14⟩) (by assumption) ?r12_14
        case y12_14 => (intro w hSw; (try dsimp only at hSw); go_simp; try (with_reducible rfl))
        try simp only [Act.put, List.setIfInBounds_toArray, List.set_cons_zero, List.set_cons_succ]
        refine wpAnyH_take (i := 15) (oi := { dst := some 5, op := Go.Op.assign (Go.Operand.tmp 43), type := 3, pos := "l7_lay.go:261", after := #[{ on := 3, ground := Go.Ground.data }, { on := 14, ground := Go.Ground.chain }, { on := 0, ground := Go.Ground.phase }, { on := 1, ground := Go.Ground.phase }, { on := 2, ground := Go.Ground.phase }, { on := 3, ground := Go.Ground.phase }, { on := 4, ground := Go.Ground.textOnly Go.Departure.lateStores }, { on := 5, ground := Go.Ground.textOnly Go.Departure.lateStores }, { on := 6, ground := Go.Ground.textOnly Go.Departure.lateStores }, { on := 7, ground := Go.Ground.textOnly Go.Departure.lateStoresUnsure }, { on := 8, ground := Go.Ground.textOnly Go.Departure.lateStoresUnsure }, { on := 9, ground := Go.Ground.textOnly Go.Departure.lateStores }, { on := 10, ground := Go.Ground.textOnly Go.Departure.lateStores }, { on := 11, ground := Go.Ground.textOnly Go.Departure.lateStores }, { on := 12, ground := Go.Ground.phase }, { on := 13, ground := Go.Ground.phase }, { on := 14, ground := Go.Ground.phase }], guard := none }) (v := ?v13_15) rfl (by kernel_rfl) (by kernel_rfl) (by kernel_rfl) (fun _ _ _ h => h) (Or.inl ⟨by rfl, ?y13_15⟩) (by assumption) ?r13_15
        case y13_15 => (intro w hSw; (try dsimp only at hSw); go_simp; try (with_reducible rfl))
        try simp only [Act.put, List.setIfInBounds_toArray, List.set_cons_zero, List.set_cons_succ]
        refine wpAnyH_take (i := 16) (oi := { dst := some 6, op := Go.Op.assign (Go.Operand.tmp 51), type := 9, pos := "l7_lay.go:261", after := #[{ on := 11, ground := Go.Ground.data }, { on := 15, ground := Go.Ground.chain }, { on := 0, ground := Go.Ground.phase }, { on := 1, ground := Go.Ground.phase }, { on := 2, ground := Go.Ground.phase }, { on := 3, ground := Go.Ground.phase }, { on := 4, ground := Go.Ground.phase }, { on := 5, ground := Go.Ground.phase }, { on := 6, ground := Go.Ground.phase }, { on := 7, ground := Go.Ground.phase }, { on := 8, ground := Go.Ground.phase }, { on := 9, ground := Go.Ground.phase }, { on := 10, ground := Go.Ground.phase }, { on := 11, ground := Go.Ground.phase }, { on := 12, ground := Go.Ground.phase }, { on := 13, ground := Go.Ground.phase }, { on := 14, ground := Go.Ground.phase }, { on := 15, ground := Go.Ground.phase }], guard := none }) (v := ?v14_16) rfl (by kernel_rfl) (by kernel_rfl) (by kernel_rfl) (fun _ _ _ h => h) (Or.inl ⟨by rfl, ?y14_16⟩) (by assumption) ?r14_16
        case y14_16 => (intro w hSw; (try dsimp only at hSw); go_simp; try (with_reducible rfl))
        try simp only [Act.put, List.setIfInBounds_toArray, List.set_cons_zero, List.set_cons_succ]
        refine wpAnyH_done (by kernel_rfl) ?_ _
        go_wp2_with fail
        have hFb := box2 hz0
        exact bodyPost_ret (v := .tuple #[.slice (some ⟨fb, fo, none⟩) fs.length cap, .agg #[.slice na zs.length nc, .slice sa st.length sc], .int .i64 rr, .int .i64 xx, .string s]) (by simp [results, Try.results38, go_sem, hFb]) rfl ⟨_, cap, fs, na, sa, nc, sc, zs, st, rr, xx, s, rfl, hr0, hr1, hx0, hx1, gs, ⟨c1, c2, c3, HN.out, d1, d2, d3, d4, HTM.out, hLE.fr, hLE.nr, hLE.tr, hLE.bw⟩⟩
      refine AllReadyH.cons (o := { dst := none, op := Go.Op.store 34 (Go.Operand.tmp 3) (Go.Operand.tmp 41), type := 0, pos := "l7_lay.go:261", after := #[{ on := 1, ground := Go.Ground.data }, { on := 12, ground := Go.Ground.chain }, { on := 0, ground := Go.Ground.phase }, { on := 1, ground := Go.Ground.phase }, { on := 2, ground := Go.Ground.textOnly Go.Departure.lateStores }, { on := 3, ground := Go.Ground.textOnly Go.Departure.lateStores }, { on := 4, ground := Go.Ground.textOnly Go.Departure.lateStores }, { on := 5, ground := Go.Ground.textOnly Go.Departure.lateStores }, { on := 6, ground := Go.Ground.textOnly Go.Departure.lateStores }, { on := 7, ground := Go.Ground.textOnly Go.Departure.lateStoresUnsure }, { on := 8, ground := Go.Ground.textOnly Go.Departure.lateStoresUnsure }, { on := 9, ground := Go.Ground.textOnly Go.Departure.lateStores }, { on := 10, ground := Go.Ground.textOnly Go.Departure.lateStores }, { on := 11, ground := Go.Ground.textOnly Go.Departure.lateStores }, { on := 12, ground := Go.Ground.phase }], guard := none }) rfl (fun K hK => ?_) AllReadyH.nil
      have hrN := box2 hz0
      go_simp
      have hLE := hLM.done.put2 (H := w.heap.size) (v0 := .slice na zs.length nc) (v1 := .slice sa st.length sc) (by omega) (Nat.le_refl _) hz0 rfl rfl rfl
      replace g0 : ((wp.setCell ⟨w.heap.size, 0, none⟩ (.slice na zs.length nc)).setCell ⟨w.heap.size, 1, none⟩ (.slice sa st.length sc)).cell? _ = _ := (World.cell?_setCell_far _ _ _ _ (str_far (nostr_of hz0 rfl rfl) g0)).trans ((World.cell?_setCell_far _ _ _ _ (str_far (nostr_of hz0 rfl rfl) g0)).trans g0)
      replace hz0 : ((wp.setCell ⟨w.heap.size, 0, none⟩ (.slice na zs.length nc)).setCell ⟨w.heap.size, 1, none⟩ (.slice sa st.length sc)).heap[w.heap.size]? = some (.cells #[.slice na zs.length nc, .slice sa st.length sc] 34) := block_setCell (block_setCell hz0 _) _
      replace hbx : ((wp.setCell ⟨w.heap.size, 0, none⟩ (.slice na zs.length nc)).setCell ⟨w.heap.size, 1, none⟩ (.slice sa st.length sc)).heap[w2.heap.size]? = some (.cells #[.slice na zs.length nc, .slice sa st.length sc] 34) := set_other (set_other hbx (by omega)) (by omega)
      replace hHeld := (box2 hbx).1
      clear hrN hLM
      refine hK.out _ _ hHeld (fun _ => ?_)
      clear hK K
      try simp only [Act.put, List.setIfInBounds_toArray, List.set_cons_zero, List.set_cons_succ]
      generalize ((wp.setCell ⟨w.heap.size, 0, none⟩ (.slice na zs.length nc)).setCell ⟨w.heap.size, 1, none⟩ (.slice sa st.length sc)) = wz at *
      refine wpAnyH_take (i := 14) (oi := { dst := some 4, op := Go.Op.assign (Go.Operand.tmp 42), type := 3, pos := "l7_lay.go:261", after := #[{ on := 2, ground := Go.Ground.data }, { on := 13, ground := Go.Ground.chain }, { on := 0, ground := Go.Ground.phase }, { on := 1, ground := Go.Ground.phase }, { on := 2, ground := Go.Ground.phase }, { on := 3, ground := Go.Ground.textOnly Go.Departure.lateStores }, { on := 4, ground := Go.Ground.textOnly Go.Departure.lateStores }, { on := 5, ground := Go.Ground.textOnly Go.Departure.lateStores }, { on := 6, ground := Go.Ground.textOnly Go.Departure.lateStores }, { on := 7, ground := Go.Ground.textOnly Go.Departure.lateStoresUnsure }, { on := 8, ground := Go.Ground.textOnly Go.Departure.lateStoresUnsure }, { on := 9, ground := Go.Ground.textOnly Go.Departure.lateStores }, { on := 10, ground := Go.Ground.textOnly Go.Departure.lateStores }, { on := 11, ground := Go.Ground.textOnly Go.Departure.lateStores }, { on := 12, ground := Go.Ground.phase }, { on := 13, ground := Go.Ground.phase }], guard := none }) (v := ?v15_14) rfl (by kernel_rfl) (by kernel_rfl) (by kernel_rfl) (fun _ _ _ h => h) (Or.inl ⟨by rfl, ?y15_14⟩) (by assumption) ?r15_14
      case y15_14 => (intro w hSw; (try dsimp only at hSw); go_simp; try (with_reducible rfl))
      try simp only [Act.put, List.setIfInBounds_toArray, List.set_cons_zero, List.set_cons_succ]
      refine wpAnyH_take (i := 15) (oi := { dst := some 5, op := Go.Op.assign (Go.Operand.tmp 43), type := 3, pos := "l7_lay.go:261", after := #[{ on := 3, ground := Go.Ground.data }, { on := 14, ground := Go.Ground.chain }, { on := 0, ground := Go.Ground.phase }, { on := 1, ground := Go.Ground.phase }, { on := 2, ground := Go.Ground.phase }, { on := 3, ground := Go.Ground.phase }, { on := 4, ground := Go.Ground.textOnly Go.Departure.lateStores }, { on := 5, ground := Go.Ground.textOnly Go.Departure.lateStores }, { on := 6, ground := Go.Ground.textOnly Go.Departure.lateStores }, { on := 7, ground := Go.Ground.textOnly Go.Departure.lateStoresUnsure }, { on := 8, ground := Go.Ground.textOnly Go.Departure.lateStoresUnsure }, { on := 9, ground := Go.Ground.textOnly Go.Departure.lateStores }, { on := 10, ground := Go.Ground.textOnly Go.Departure.lateStores }, { on := 11, ground := Go.Ground.textOnly Go.Departure.lateStores }, { on := 12, ground := Go.Ground.phase }, { on := 13, ground := Go.Ground.phase }, { on := 14, ground := Go.Ground.phase }], guard := none }) (v := ?v16_15) rfl (by kernel_rfl) (by kernel_rfl) (by kernel_rfl) (fun _ _ _ h => h) (Or.inl ⟨by rfl, ?y16_15⟩) (by assumption) ?r16_15
      case y16_15 => (intro w hSw; (try dsimp only at hSw); go_simp; try (with_reducible rfl))
      try simp only [Act.put, List.setIfInBounds_toArray, List.set_cons_zero, List.set_cons_succ]
      refine wpAnyH_ready (rs := [11]) (by kernel_rfl) (by simp) ?_
      refine AllReadyH.cons (o := { dst := some 51, op := Go.Op.load 9 (Go.Operand.tmp 50), type := 9, pos := "l7_lay.go:261", after := #[{ on := 10, ground := Go.Ground.data }, { on := 15, ground := Go.Ground.gcOnly Go.Departure.lateStores }], guard := none }) rfl (fun K hK => ?_) AllReadyH.nil
      have g1 := g0
      go_simp
      clear g1
      refine hK.out _ _ hHeld (fun _ => ?_)
      clear hK K
      try simp only [Act.put, List.setIfInBounds_toArray, List.set_cons_zero, List.set_cons_succ]
      refine wpAnyH_take (i := 16) (oi := { dst := some 6, op := Go.Op.assign (Go.Operand.tmp 51), type := 9, pos := "l7_lay.go:261", after := #[{ on := 11, ground := Go.Ground.data }, { on := 15, ground := Go.Ground.chain }, { on := 0, ground := Go.Ground.phase }, { on := 1, ground := Go.Ground.phase }, { on := 2, ground := Go.Ground.phase }, { on := 3, ground := Go.Ground.phase }, { on := 4, ground := Go.Ground.phase }, { on := 5, ground := Go.Ground.phase }, { on := 6, ground := Go.Ground.phase }, { on := 7, ground := Go.Ground.phase }, { on := 8, ground := Go.Ground.phase }, { on := 9, ground := Go.Ground.phase }, { on := 10, ground := Go.Ground.phase }, { on := 11, ground := Go.Ground.phase }, { on := 12, ground := Go.Ground.phase }, { on := 13, ground := Go.Ground.phase }, { on := 14, ground := Go.Ground.phase }, { on := 15, ground := Go.Ground.phase }], guard := none }) (v := ?v17_16) rfl (by kernel_rfl) (by kernel_rfl) (by kernel_rfl) (fun _ _ _ h => h) (Or.inl ⟨by rfl, ?y17_16⟩) (by assumption) ?r17_16
      case y17_16 => (intro w hSw; (try dsimp only at hSw); go_simp; try (with_reducible rfl))
      try simp only [Act.put, List.setIfInBounds_toArray, List.set_cons_zero, List.set_cons_succ]
      refine wpAnyH_done (by kernel_rfl) ?_ _
      go_wp2_with fail
      have hFb := box2 hz0
      exact bodyPost_ret (v := .tuple #[.slice (some ⟨fb, fo, none⟩) fs.length cap, .agg #[.slice na zs.length nc, .slice sa st.length sc], .int .i64 rr, .int .i64 xx, .string s]) (by simp [results, Try.results38, go_sem, hFb]) rfl ⟨_, cap, fs, na, sa, nc, sc, zs, st, rr, xx, s, rfl, hr0, hr1, hx0, hx1, gs, ⟨c1, c2, c3, HN.out, d1, d2, d3, d4, HTM.out, hLE.fr, hLE.nr, hLE.tr, hLE.bw⟩⟩
    · go_upto_region 7 with fail
      have hLM := (unhide HLM).drew
      have hbx : w6.drew.heap[w2.heap.size]? = some (.cells #[.slice na zs.length nc, .slice sa st.length sc] 34) := unhide HBX
      have hz0 : w6.drew.heap[w.heap.size]? = some (.cells #[.slice none 0 0, .slice none 0 0] 34) := unhide HZ
      have HST : Hid (Stable (fun w' => w'.cell? ⟨w2.heap.size, 0, none⟩ = some (.slice na zs.length nc) ∧ w'.cell? ⟨w2.heap.size, 1, none⟩ = some (.slice sa st.length sc))) := (Stable.cell _ _).and (Stable.cell _ _)
      have HQ : Hid ((fun w' => w'.cell? ⟨w2.heap.size, 0, none⟩ = some (.slice na zs.length nc) ∧ w'.cell? ⟨w2.heap.size, 1, none⟩ = some (.slice sa st.length sc)) w6) := (box2 (unhide HBX)).1
      clear HLM HBX HZ
      refine wp_region_held_drew (S := (fun w' => w'.cell? ⟨w2.heap.size, 0, none⟩ = some (.slice na zs.length nc) ∧ w'.cell? ⟨w2.heap.size, 1, none⟩ = some (.slice sa st.length sc))) (by kernel_rfl) ((unhide HST).2 _ (unhide HQ)) (fun hHeld => ?_)
      generalize w6.drew = wa at *
      refine wpAnyH_take (i := 0) (oi := { dst := some 52, op := Go.Op.move (Go.Operand.tmp 8), type := 32, pos := "l7_lay.go:263", after := #[], guard := none }) (v := ?v18_0) rfl (by kernel_rfl) (by kernel_rfl) (by kernel_rfl) (fun _ _ _ h => h) (Or.inl ⟨by rfl, ?y18_0⟩) (by assumption) ?r18_0
      case y18_0 => (intro w hSw; (try dsimp only at hSw); go_simp; try (with_reducible rfl))
      try simp only [Act.put, List.setIfInBounds_toArray, List.set_cons_zero, List.set_cons_succ]
      refine wpAnyH_take (i := 1) (oi := { dst := some 53, op := Go.Op.load 34 (Go.Operand.tmp 9), type := 34, pos := "l7_lay.go:263", after := #[{ on := 6, ground := Go.Ground.gcOnly Go.Departure.lateStores }], guard := none }) (v := ?v19_1) rfl (by kernel_rfl) (by kernel_rfl) (by kernel_rfl) (fun _ _ _ h => h) (Or.inl ⟨by rfl, ?y19_1⟩) (by assumption) ?r19_1
      case y19_1 => (intro w hSw; (try dsimp only at hSw); go_simp; try (with_reducible rfl))
      try simp only [Act.put, List.setIfInBounds_toArray, List.set_cons_zero, List.set_cons_succ]
      refine wpAnyH_take (i := 2) (oi := { dst := some 54, op := Go.Op.move (Go.Operand.tmp 10), type := 3, pos := "l7_lay.go:263", after := #[{ on := 7, ground := Go.Ground.gcOnly Go.Departure.lateStores }], guard := none }) (v := ?v20_2) rfl (by kernel_rfl) (by kernel_rfl) (by kernel_rfl) (fun _ _ _ h => h) (Or.inl ⟨by rfl, ?y20_2⟩) (by assumption) ?r20_2
      case y20_2 => (intro w hSw; (try dsimp only at hSw); go_simp; try (with_reducible rfl))
      try simp only [Act.put, List.setIfInBounds_toArray, List.set_cons_zero, List.set_cons_succ]
      refine wpAnyH_take (i := 3) (oi := { dst := some 55, op := Go.Op.move (Go.Operand.tmp 12), type := 3, pos := "l7_lay.go:263", after := #[{ on := 8, ground := Go.Ground.gcOnly Go.Departure.lateStores }], guard := none }) (v := ?v21_3) rfl (by kernel_rfl) (by kernel_rfl) (by kernel_rfl) (fun _ _ _ h => h) (Or.inl ⟨by rfl, ?y21_3⟩) (by assumption) ?r21_3
      case y21_3 => (intro w hSw; (try dsimp only at hSw); go_simp; try (with_reducible rfl))
      try simp only [Act.put, List.setIfInBounds_toArray, List.set_cons_zero, List.set_cons_succ]
      refine wpAnyH_take (i := 4) (oi := { dst := some 56, op := Go.Op.move (Go.Operand.tmp 7), type := 107, pos := "l7_lay.go:263", after := #[], guard := none }) (v := ?v22_4) rfl (by kernel_rfl) (by kernel_rfl) (by kernel_rfl) (fun _ _ _ h => h) (Or.inl ⟨by rfl, ?y22_4⟩) (by assumption) ?r22_4
      case y22_4 => (intro w hSw; (try dsimp only at hSw); go_simp; try (with_reducible rfl))
      try simp only [Act.put, List.setIfInBounds_toArray, List.set_cons_zero, List.set_cons_succ]
      refine wpAnyH_ready (rs := [5]) (by kernel_rfl) (by simp) ?_
      refine AllReadyH.cons (o := { dst := some 57, op := Go.Op.call { callee := Go.Callee.value (Go.Operand.func 80), args := #[Go.Operand.tmp 56], argTypes := #[107] }, type := 9, pos := "l7_lay.go:263", after := #[{ on := 4, ground := Go.Ground.data }], guard := none }) rfl (fun K hK => ?_) AllReadyH.nil
      go_simp
      go_at_call 80
      refine (name_in _ (w.heap.size + 1) _ hLM.rd (by omega)).mono ?_
      rintro e wp ⟨s, hsn, rfl, hr, ht⟩
      have gs := names_max hsn
      replace hLM := hLM.turns ht hr
      replace hbx := box_turns hbx ht hLne
      replace hz0 := box_turns hz0 ht (by omega)
      replace hHeld := (box2 hbx).1
      clear hr ht hsn
      go_wp2_with fail
      refine hK.out _ _ hHeld (fun _ => ?_)
      clear hK K
      try simp only [Act.put, List.setIfInBounds_toArray, List.set_cons_zero, List.set_cons_succ]
      refine wpAnyH_take (i := 6) (oi := { dst := some 2, op := Go.Op.assign (Go.Operand.tmp 52), type := 32, pos := "l7_lay.go:263", after := #[{ on := 0, ground := Go.Ground.data }, { on := 5, ground := Go.Ground.chain }, { on := 0, ground := Go.Ground.phase }, { on := 1, ground := Go.Ground.textOnly Go.Departure.lateStores }, { on := 2, ground := Go.Ground.textOnly Go.Departure.lateStores }, { on := 3, ground := Go.Ground.textOnly Go.Departure.lateStores }, { on := 4, ground := Go.Ground.textOnly Go.Departure.lateStores }, { on := 5, ground := Go.Ground.textOnly Go.Departure.lateStoresUnsure }], guard := none }) (v := ?v23_6) rfl (by kernel_rfl) (by kernel_rfl) (by kernel_rfl) (fun _ _ _ h => h) (Or.inl ⟨by rfl, ?y23_6⟩) (by assumption) ?r23_6
      case y23_6 => (intro w hSw; (try dsimp only at hSw); go_simp; try (with_reducible rfl))
      try simp only [Act.put, List.setIfInBounds_toArray, List.set_cons_zero, List.set_cons_succ]
      refine wpAnyH_ready (rs := [7]) (by kernel_rfl) (by simp) ?_
      refine AllReadyH.cons (o := { dst := none, op := Go.Op.store 34 (Go.Operand.tmp 3) (Go.Operand.tmp 53), type := 0, pos := "l7_lay.go:263", after := #[{ on := 1, ground := Go.Ground.data }, { on := 6, ground := Go.Ground.chain }, { on := 0, ground := Go.Ground.phase }, { on := 1, ground := Go.Ground.phase }, { on := 2, ground := Go.Ground.textOnly Go.Departure.lateStores }, { on := 3, ground := Go.Ground.textOnly Go.Departure.lateStores }, { on := 4, ground := Go.Ground.textOnly Go.Departure.lateStores }, { on := 5, ground := Go.Ground.textOnly Go.Departure.lateStoresUnsure }, { on := 6, ground := Go.Ground.phase }], guard := none }) rfl (fun K hK => ?_) AllReadyH.nil
      have hrN := box2 hz0
      go_simp
      have hLE := hLM.done.put2 (H := w.heap.size) (v0 := .slice na zs.length nc) (v1 := .slice sa st.length sc) (by omega) (Nat.le_refl _) hz0 rfl rfl rfl
      replace hz0 : ((wp.setCell ⟨w.heap.size, 0, none⟩ (.slice na zs.length nc)).setCell ⟨w.heap.size, 1, none⟩ (.slice sa st.length sc)).heap[w.heap.size]? = some (.cells #[.slice na zs.length nc, .slice sa st.length sc] 34) := block_setCell (block_setCell hz0 _) _
      replace hbx : ((wp.setCell ⟨w.heap.size, 0, none⟩ (.slice na zs.length nc)).setCell ⟨w.heap.size, 1, none⟩ (.slice sa st.length sc)).heap[w2.heap.size]? = some (.cells #[.slice na zs.length nc, .slice sa st.length sc] 34) := set_other (set_other hbx (by omega)) (by omega)
      replace hHeld := (box2 hbx).1
      clear hrN hLM
      refine hK.out _ _ hHeld (fun _ => ?_)
      clear hK K
      try simp only [Act.put, List.setIfInBounds_toArray, List.set_cons_zero, List.set_cons_succ]
      generalize ((wp.setCell ⟨w.heap.size, 0, none⟩ (.slice na zs.length nc)).setCell ⟨w.heap.size, 1, none⟩ (.slice sa st.length sc)) = wz at *
      refine wpAnyH_take (i := 8) (oi := { dst := some 4, op := Go.Op.assign (Go.Operand.tmp 54), type := 3, pos := "l7_lay.go:263", after := #[{ on := 2, ground := Go.Ground.data }, { on := 7, ground := Go.Ground.chain }, { on := 0, ground := Go.Ground.phase }, { on := 1, ground := Go.Ground.phase }, { on := 2, ground := Go.Ground.phase }, { on := 3, ground := Go.Ground.textOnly Go.Departure.lateStores }, { on := 4, ground := Go.Ground.textOnly Go.Departure.lateStores }, { on := 5, ground := Go.Ground.textOnly Go.Departure.lateStoresUnsure }, { on := 6, ground := Go.Ground.phase }, { on := 7, ground := Go.Ground.phase }], guard := none }) (v := ?v24_8) rfl (by kernel_rfl) (by kernel_rfl) (by kernel_rfl) (fun _ _ _ h => h) (Or.inl ⟨by rfl, ?y24_8⟩) (by assumption) ?r24_8
      case y24_8 => (intro w hSw; (try dsimp only at hSw); go_simp; try (with_reducible rfl))
      try simp only [Act.put, List.setIfInBounds_toArray, List.set_cons_zero, List.set_cons_succ]
      refine wpAnyH_take (i := 9) (oi := { dst := some 5, op := Go.Op.assign (Go.Operand.tmp 55), type := 3, pos := "l7_lay.go:263", after := #[{ on := 3, ground := Go.Ground.data }, { on := 8, ground := Go.Ground.chain }, { on := 0, ground := Go.Ground.phase }, { on := 1, ground := Go.Ground.phase }, { on := 2, ground := Go.Ground.phase }, { on := 3, ground := Go.Ground.phase }, { on := 4, ground := Go.Ground.textOnly Go.Departure.lateStores }, { on := 5, ground := Go.Ground.textOnly Go.Departure.lateStoresUnsure }, { on := 6, ground := Go.Ground.phase }, { on := 7, ground := Go.Ground.phase }, { on := 8, ground := Go.Ground.phase }], guard := none }) (v := ?v25_9) rfl (by kernel_rfl) (by kernel_rfl) (by kernel_rfl) (fun _ _ _ h => h) (Or.inl ⟨by rfl, ?y25_9⟩) (by assumption) ?r25_9
      case y25_9 => (intro w hSw; (try dsimp only at hSw); go_simp; try (with_reducible rfl))
      try simp only [Act.put, List.setIfInBounds_toArray, List.set_cons_zero, List.set_cons_succ]
      refine wpAnyH_take (i := 10) (oi := { dst := some 6, op := Go.Op.assign (Go.Operand.tmp 57), type := 9, pos := "l7_lay.go:263", after := #[{ on := 5, ground := Go.Ground.data }, { on := 9, ground := Go.Ground.chain }, { on := 0, ground := Go.Ground.phase }, { on := 1, ground := Go.Ground.phase }, { on := 2, ground := Go.Ground.phase }, { on := 3, ground := Go.Ground.phase }, { on := 4, ground := Go.Ground.phase }, { on := 5, ground := Go.Ground.phase }, { on := 6, ground := Go.Ground.phase }, { on := 7, ground := Go.Ground.phase }, { on := 8, ground := Go.Ground.phase }, { on := 9, ground := Go.Ground.phase }], guard := none }) (v := ?v26_10) rfl (by kernel_rfl) (by kernel_rfl) (by kernel_rfl) (fun _ _ _ h => h) (Or.inl ⟨by rfl, ?y26_10⟩) (by assumption) ?r26_10
      case y26_10 => (intro w hSw; (try dsimp only at hSw); go_simp; try (with_reducible rfl))
      try simp only [Act.put, List.setIfInBounds_toArray, List.set_cons_zero, List.set_cons_succ]
      refine wpAnyH_done (by kernel_rfl) ?_ _
      go_wp2_with fail
      have hFb := box2 hz0
      exact bodyPost_ret (v := .tuple #[.slice a fs.length cap, .agg #[.slice na zs.length nc, .slice sa st.length sc], .int .i64 rr, .int .i64 xx, .string s]) (by simp [results, Try.results38, go_sem, hFb]) rfl ⟨_, cap, fs, na, sa, nc, sc, zs, st, rr, xx, s, rfl, hr0, hr1, hx0, hx1, gs, ⟨c1, c2, c3, HN.out, d1, d2, d3, d4, HTM.out, hLE.fr, hLE.nr, hLE.tr, hLE.bw⟩⟩
  · go_upto_region 7 with fail
    have hLM := (unhide HLM).drew
    have hbx : w5.drew.heap[w2.heap.size]? = some (.cells #[.slice na zs.length nc, .slice sa st.length sc] 34) := unhide HBX
    have hz0 : w5.drew.heap[w.heap.size]? = some (.cells #[.slice none 0 0, .slice none 0 0] 34) := unhide HZ
    have HST : Hid (Stable (fun w' => w'.cell? ⟨w2.heap.size, 0, none⟩ = some (.slice na zs.length nc) ∧ w'.cell? ⟨w2.heap.size, 1, none⟩ = some (.slice sa st.length sc))) := (Stable.cell _ _).and (Stable.cell _ _)
    have HQ : Hid ((fun w' => w'.cell? ⟨w2.heap.size, 0, none⟩ = some (.slice na zs.length nc) ∧ w'.cell? ⟨w2.heap.size, 1, none⟩ = some (.slice sa st.length sc)) w5) := (box2 (unhide HBX)).1
    clear HLM HBX HZ
    refine wp_region_held_drew (S := (fun w' => w'.cell? ⟨w2.heap.size, 0, none⟩ = some (.slice na zs.length nc) ∧ w'.cell? ⟨w2.heap.size, 1, none⟩ = some (.slice sa st.length sc))) (by kernel_rfl) ((unhide HST).2 _ (unhide HQ)) (fun hHeld => ?_)
    generalize w5.drew = wa at *
    refine wpAnyH_take (i := 0) (oi := { dst := some 52, op := Go.Op.move (Go.Operand.tmp 8), type := 32, pos := "l7_lay.go:263", after := #[], guard := none }) (v := ?v27_0) rfl (by kernel_rfl) (by kernel_rfl) (by kernel_rfl) (fun _ _ _ h => h) (Or.inl ⟨by rfl, ?y27_0⟩) (by assumption) ?r27_0
    case y27_0 => (intro w hSw; (try dsimp only at hSw); go_simp; try (with_reducible rfl))
    try simp only [Act.put, List.setIfInBounds_toArray, List.set_cons_zero, List.set_cons_succ]
    refine wpAnyH_take (i := 1) (oi := { dst := some 53, op := Go.Op.load 34 (Go.Operand.tmp 9), type := 34, pos := "l7_lay.go:263", after := #[{ on := 6, ground := Go.Ground.gcOnly Go.Departure.lateStores }], guard := none }) (v := ?v28_1) rfl (by kernel_rfl) (by kernel_rfl) (by kernel_rfl) (fun _ _ _ h => h) (Or.inl ⟨by rfl, ?y28_1⟩) (by assumption) ?r28_1
    case y28_1 => (intro w hSw; (try dsimp only at hSw); go_simp; try (with_reducible rfl))
    try simp only [Act.put, List.setIfInBounds_toArray, List.set_cons_zero, List.set_cons_succ]
    refine wpAnyH_take (i := 2) (oi := { dst := some 54, op := Go.Op.move (Go.Operand.tmp 10), type := 3, pos := "l7_lay.go:263", after := #[{ on := 7, ground := Go.Ground.gcOnly Go.Departure.lateStores }], guard := none }) (v := ?v29_2) rfl (by kernel_rfl) (by kernel_rfl) (by kernel_rfl) (fun _ _ _ h => h) (Or.inl ⟨by rfl, ?y29_2⟩) (by assumption) ?r29_2
    case y29_2 => (intro w hSw; (try dsimp only at hSw); go_simp; try (with_reducible rfl))
    try simp only [Act.put, List.setIfInBounds_toArray, List.set_cons_zero, List.set_cons_succ]
    refine wpAnyH_take (i := 3) (oi := { dst := some 55, op := Go.Op.move (Go.Operand.tmp 12), type := 3, pos := "l7_lay.go:263", after := #[{ on := 8, ground := Go.Ground.gcOnly Go.Departure.lateStores }], guard := none }) (v := ?v30_3) rfl (by kernel_rfl) (by kernel_rfl) (by kernel_rfl) (fun _ _ _ h => h) (Or.inl ⟨by rfl, ?y30_3⟩) (by assumption) ?r30_3
    case y30_3 => (intro w hSw; (try dsimp only at hSw); go_simp; try (with_reducible rfl))
    try simp only [Act.put, List.setIfInBounds_toArray, List.set_cons_zero, List.set_cons_succ]
    refine wpAnyH_take (i := 4) (oi := { dst := some 56, op := Go.Op.move (Go.Operand.tmp 7), type := 107, pos := "l7_lay.go:263", after := #[], guard := none }) (v := ?v31_4) rfl (by kernel_rfl) (by kernel_rfl) (by kernel_rfl) (fun _ _ _ h => h) (Or.inl ⟨by rfl, ?y31_4⟩) (by assumption) ?r31_4
    case y31_4 => (intro w hSw; (try dsimp only at hSw); go_simp; try (with_reducible rfl))
    try simp only [Act.put, List.setIfInBounds_toArray, List.set_cons_zero, List.set_cons_succ]
    refine wpAnyH_ready (rs := [5]) (by kernel_rfl) (by simp) ?_
    refine AllReadyH.cons (o := { dst := some 57, op := Go.Op.call { callee := Go.Callee.value (Go.Operand.func 80), args := #[Go.Operand.tmp 56], argTypes := #[107] }, type := 9, pos := "l7_lay.go:263", after := #[{ on := 4, ground := Go.Ground.data }], guard := none }) rfl (fun K hK => ?_) AllReadyH.nil
    go_simp
    go_at_call 80
    refine (name_in _ (w.heap.size + 1) _ hLM.rd (by omega)).mono ?_
    rintro e wp ⟨s, hsn, rfl, hr, ht⟩
    have gs := names_max hsn
    replace hLM := hLM.turns ht hr
    replace hbx := box_turns hbx ht hLne
    replace hz0 := box_turns hz0 ht (by omega)
    replace hHeld := (box2 hbx).1
    clear hr ht hsn
    go_wp2_with fail
    refine hK.out _ _ hHeld (fun _ => ?_)
    clear hK K
    try simp only [Act.put, List.setIfInBounds_toArray, List.set_cons_zero, List.set_cons_succ]
    refine wpAnyH_take (i := 6) (oi := { dst := some 2, op := Go.Op.assign (Go.Operand.tmp 52), type := 32, pos := "l7_lay.go:263", after := #[{ on := 0, ground := Go.Ground.data }, { on := 5, ground := Go.Ground.chain }, { on := 0, ground := Go.Ground.phase }, { on := 1, ground := Go.Ground.textOnly Go.Departure.lateStores }, { on := 2, ground := Go.Ground.textOnly Go.Departure.lateStores }, { on := 3, ground := Go.Ground.textOnly Go.Departure.lateStores }, { on := 4, ground := Go.Ground.textOnly Go.Departure.lateStores }, { on := 5, ground := Go.Ground.textOnly Go.Departure.lateStoresUnsure }], guard := none }) (v := ?v32_6) rfl (by kernel_rfl) (by kernel_rfl) (by kernel_rfl) (fun _ _ _ h => h) (Or.inl ⟨by rfl, ?y32_6⟩) (by assumption) ?r32_6
    case y32_6 => (intro w hSw; (try dsimp only at hSw); go_simp; try (with_reducible rfl))
    try simp only [Act.put, List.setIfInBounds_toArray, List.set_cons_zero, List.set_cons_succ]
    refine wpAnyH_ready (rs := [7]) (by kernel_rfl) (by simp) ?_
    refine AllReadyH.cons (o := { dst := none, op := Go.Op.store 34 (Go.Operand.tmp 3) (Go.Operand.tmp 53), type := 0, pos := "l7_lay.go:263", after := #[{ on := 1, ground := Go.Ground.data }, { on := 6, ground := Go.Ground.chain }, { on := 0, ground := Go.Ground.phase }, { on := 1, ground := Go.Ground.phase }, { on := 2, ground := Go.Ground.textOnly Go.Departure.lateStores }, { on := 3, ground := Go.Ground.textOnly Go.Departure.lateStores }, { on := 4, ground := Go.Ground.textOnly Go.Departure.lateStores }, { on := 5, ground := Go.Ground.textOnly Go.Departure.lateStoresUnsure }, { on := 6, ground := Go.Ground.phase }], guard := none }) rfl (fun K hK => ?_) AllReadyH.nil
    have hrN := box2 hz0
    go_simp
    have hLE := hLM.done.put2 (H := w.heap.size) (v0 := .slice na zs.length nc) (v1 := .slice sa st.length sc) (by omega) (Nat.le_refl _) hz0 rfl rfl rfl
    replace hz0 : ((wp.setCell ⟨w.heap.size, 0, none⟩ (.slice na zs.length nc)).setCell ⟨w.heap.size, 1, none⟩ (.slice sa st.length sc)).heap[w.heap.size]? = some (.cells #[.slice na zs.length nc, .slice sa st.length sc] 34) := block_setCell (block_setCell hz0 _) _
    replace hbx : ((wp.setCell ⟨w.heap.size, 0, none⟩ (.slice na zs.length nc)).setCell ⟨w.heap.size, 1, none⟩ (.slice sa st.length sc)).heap[w2.heap.size]? = some (.cells #[.slice na zs.length nc, .slice sa st.length sc] 34) := set_other (set_other hbx (by omega)) (by omega)
    replace hHeld := (box2 hbx).1
    clear hrN hLM
    refine hK.out _ _ hHeld (fun _ => ?_)
    clear hK K
    try simp only [Act.put, List.setIfInBounds_toArray, List.set_cons_zero, List.set_cons_succ]
    generalize ((wp.setCell ⟨w.heap.size, 0, none⟩ (.slice na zs.length nc)).setCell ⟨w.heap.size, 1, none⟩ (.slice sa st.length sc)) = wz at *
    refine wpAnyH_take (i := 8) (oi := { dst := some 4, op := Go.Op.assign (Go.Operand.tmp 54), type := 3, pos := "l7_lay.go:263", after := #[{ on := 2, ground := Go.Ground.data }, { on := 7, ground := Go.Ground.chain }, { on := 0, ground := Go.Ground.phase }, { on := 1, ground := Go.Ground.phase }, { on := 2, ground := Go.Ground.phase }, { on := 3, ground := Go.Ground.textOnly Go.Departure.lateStores }, { on := 4, ground := Go.Ground.textOnly Go.Departure.lateStores }, { on := 5, ground := Go.Ground.textOnly Go.Departure.lateStoresUnsure }, { on := 6, ground := Go.Ground.phase }, { on := 7, ground := Go.Ground.phase }], guard := none }) (v := ?v33_8) rfl (by kernel_rfl) (by kernel_rfl) (by kernel_rfl) (fun _ _ _ h => h) (Or.inl ⟨by rfl, ?y33_8⟩) (by assumption) ?r33_8
    case y33_8 => (intro w hSw; (try dsimp only at hSw); go_simp; try (with_reducible rfl))
    try simp only [Act.put, List.setIfInBounds_toArray, List.set_cons_zero, List.set_cons_succ]
    refine wpAnyH_take (i := 9) (oi := { dst := some 5, op := Go.Op.assign (Go.Operand.tmp 55), type := 3, pos := "l7_lay.go:263", after := #[{ on := 3, ground := Go.Ground.data }, { on := 8, ground := Go.Ground.chain }, { on := 0, ground := Go.Ground.phase }, { on := 1, ground := Go.Ground.phase }, { on := 2, ground := Go.Ground.phase }, { on := 3, ground := Go.Ground.phase }, { on := 4, ground := Go.Ground.textOnly Go.Departure.lateStores }, { on := 5, ground := Go.Ground.textOnly Go.Departure.lateStoresUnsure }, { on := 6, ground := Go.Ground.phase }, { on := 7, ground := Go.Ground.phase }, { on := 8, ground := Go.Ground.phase }], guard := none }) (v := ?v34_9) rfl (by kernel_rfl) (by kernel_rfl) (by kernel_rfl) (fun _ _ _ h => h) (Or.inl ⟨by rfl, ?y34_9⟩) (by assumption) ?r34_9
    case y34_9 => (intro w hSw; (try dsimp only at hSw); go_simp; try (with_reducible rfl))
    try simp only [Act.put, List.setIfInBounds_toArray, List.set_cons_zero, List.set_cons_succ]
    refine wpAnyH_take (i := 10) (oi := { dst := some 6, op := Go.Op.assign (Go.Operand.tmp 57), type := 9, pos := "l7_lay.go:263", after := #[{ on := 5, ground := Go.Ground.data }, { on := 9, ground := Go.Ground.chain }, { on := 0, ground := Go.Ground.phase }, { on := 1, ground := Go.Ground.phase }, { on := 2, ground := Go.Ground.phase }, { on := 3, ground := Go.Ground.phase }, { on := 4, ground := Go.Ground.phase }, { on := 5, ground := Go.Ground.phase }, { on := 6, ground := Go.Ground.phase }, { on := 7, ground := Go.Ground.phase }, { on := 8, ground := Go.Ground.phase }, { on := 9, ground := Go.Ground.phase }], guard := none }) (v := ?v35_10) rfl (by kernel_rfl) (by kernel_rfl) (by kernel_rfl) (fun _ _ _ h => h) (Or.inl ⟨by rfl, ?y35_10⟩) (by assumption) ?r35_10
    case y35_10 => (intro w hSw; (try dsimp only at hSw); go_simp; try (with_reducible rfl))
    try simp only [Act.put, List.setIfInBounds_toArray, List.set_cons_zero, List.set_cons_succ]
    refine wpAnyH_done (by kernel_rfl) ?_ _
    go_wp2_with fail
    have hFb := box2 hz0
    exact bodyPost_ret (v := .tuple #[.slice a fs.length cap, .agg #[.slice na zs.length nc, .slice sa st.length sc], .int .i64 rr, .int .i64 xx, .string s]) (by simp [results, Try.results38, go_sem, hFb]) rfl ⟨_, cap, fs, na, sa, nc, sc, zs, st, rr, xx, s, rfl, hr0, hr1, hx0, hx1, gs, ⟨c1, c2, c3, HN.out, d1, d2, d3, d4, HTM.out, hLE.fr, hLE.nr, hLE.tr, hLE.bw⟩⟩
end Go.Proofs.Ytjbhbkkkjdpamaa.DrawV
