/- The contracts of the draws that hold a drawn laying. -/
import Derived.Test.YthbbmookhcalkaaGreatDoorDrawM
import Derived.Test.YthbbmookhcalkaaGreatDoorPk8ae93fbb
namespace Go.Proofs.YthbbmookhcalkaaGreatDoor.DrawT
open Go.ChangeShapes Go.WideShapes Go.ChangeAt Go.RowKit Go.Joins Go.Deep
open Go.Proofs.YthbbmookhcalkaaGreatDoor.Base Go.Proofs.YthbbmookhcalkaaGreatDoor.InsA Go.Proofs.YthbbmookhcalkaaGreatDoor.Funs Go.Proofs.YthbbmookhcalkaaGreatDoor.Open Go.Proofs.YthbbmookhcalkaaGreatDoor.FunS Go.Proofs.YthbbmookhcalkaaGreatDoor.Keep Go.Proofs.YthbbmookhcalkaaGreatDoor.UnitS Go.Proofs.YthbbmookhcalkaaGreatDoor.Refs Go.Proofs.YthbbmookhcalkaaGreatDoor.LayN Go.Proofs.YthbbmookhcalkaaGreatDoor.LayA Go.Proofs.YthbbmookhcalkaaGreatDoor.KeepD Go.Proofs.YthbbmookhcalkaaGreatDoor.LayD Go.Proofs.YthbbmookhcalkaaGreatDoor.LayS Go.Proofs.YthbbmookhcalkaaGreatDoor.LayT Go.Proofs.YthbbmookhcalkaaGreatDoor.LayV Go.Proofs.YthbbmookhcalkaaGreatDoor.LayW Go.Proofs.YthbbmookhcalkaaGreatDoor.LayX Go.Proofs.YthbbmookhcalkaaGreatDoor.LayY Go.Proofs.YthbbmookhcalkaaGreatDoor.Rd Go.Proofs.YthbbmookhcalkaaGreatDoor.DrawIns Go.Proofs.YthbbmookhcalkaaGreatDoor.DrawP Go.Proofs.YthbbmookhcalkaaGreatDoor.DrawO Go.Proofs.YthbbmookhcalkaaGreatDoor.DrawM
set_option linter.unusedVariables false
set_option maxRecDepth 100000

/-- A drawn program and a drawn laying, while more is drawn. -/
structure LM (w W : World) (R p : Nat) (a : Option Addr) (fs : List FunD) (na sa : Option Addr) (zs : List Int) (st : List (List ByteArray)) : Prop where
  rd : RdAt W R p
  bw : Below w.heap.size w W
  hR : w.heap.size ≤ R
  fr : FunRow W a fs
  nr : NumRow W na zs
  tr : TextsRow W sa st
  fn : ∀ S o, na = some ⟨S, o, none⟩ → R < S
  ft : ∀ S o, sa = some ⟨S, o, none⟩ → R < S
/-- .. where no more is drawn. -/
structure LE (w W : World) (R : Nat) (a : Option Addr) (fs : List FunD) (na sa : Option Addr) (zs : List Int) (st : List (List ByteArray)) : Prop where
  bw : Below w.heap.size w W
  fr : FunRow W a fs
  nr : NumRow W na zs
  tr : TextsRow W sa st
  fn : ∀ S o, na = some ⟨S, o, none⟩ → R < S
  ft : ∀ S o, sa = some ⟨S, o, none⟩ → R < S
section
variable {w W W' : World} {R p p' : Nat} {a : Option Addr} {fs : List FunD} {na sa : Option Addr} {zs : List Int} {st : List (List ByteArray)}
theorem num_turns (h : NumRow W na zs) (hf : ∀ S o, na = some ⟨S, o, none⟩ → R < S) (ht : Turns R W W') : NumRow W' na zs := by
  rcases h with h | ⟨b, off, ha, h⟩
  · exact .inl h
  · have := hf b off ha
    exact .inr ⟨b, off, ha, fun i hi => ht.cell (by omega) (h i hi)⟩
theorem text_turns {a : Option Addr} {ss : List ByteArray} (h : TextRow W a ss) (hr : RdAt W R p) (ht : Turns R W W') : TextRow W' a ss := by
  rcases h with h | ⟨b, off, ha, h⟩
  · exact .inl h
  · exact .inr ⟨b, off, ha, fun i hi => ⟨ht.cell (rd_str hr (h i hi).1) (h i hi).1, (h i hi).2⟩⟩
theorem texts_turns (h : TextsRow W sa st) (hf : ∀ S o, sa = some ⟨S, o, none⟩ → R < S) (hr : RdAt W R p) (ht : Turns R W W') : TextsRow W' sa st := by
  rcases h with h | ⟨b, off, ha, h⟩
  · exact .inl h
  · have := hf b off ha
    refine .inr ⟨b, off, ha, fun i hi => ?_⟩
    obtain ⟨ai, ci, h0, h1, h2, h3⟩ := h i hi
    exact ⟨ai, ci, ht.cell (by omega) h0, h1, h2, text_turns h3 hr ht⟩
theorem LM.turns (h : LM w W R p a fs na sa zs st) (ht : Turns R W W') (hr : RdAt W' R p') : LM w W' R p' a fs na sa zs st := by
  have h1 := h.hR
  exact ⟨hr, h.bw.trans (ht.below h1 h.bw.size), h1, funRow_turns h.fr h.rd ht, num_turns h.nr h.fn ht, texts_turns h.tr h.ft h.rd ht, h.fn, h.ft⟩
theorem LM.below (h : LM w W R p a fs na sa zs st) (hb : Below W.heap.size W W') : LM w W' R p a fs na sa zs st := h.turns (Turns.of_below hb) (rd_below h.rd hb)
theorem LM.drew (h : LM w W R p a fs na sa zs st) : LM w W.drew R p a fs na sa zs st := ⟨h.rd, h.bw.drew, h.hR, h.fr, h.nr, h.tr, h.fn, h.ft⟩
theorem LM.done (h : LM w W R p a fs na sa zs st) : LE w W R a fs na sa zs st := ⟨h.bw, h.fr, h.nr, h.tr, h.fn, h.ft⟩
/-- No text lies in a block. -/
def NoStr (W : World) (H : Nat) : Prop := ∀ m s, W.cell? ⟨H, m, none⟩ ≠ some (.string s)
def noS : Value → Bool
  | .string _ => false
  | _ => true
theorem nostr_of {H : Nat} {x y : Value} {t : TypeId} (h : W.heap[H]? = some (.cells #[x, y] t)) (hx : noS x = true) (hy : noS y = true) : NoStr W H := fun m s e => by
  rw [cell_of_block h] at e
  match m, e with
  | 0, e => simp at e; rw [e] at hx; cases hx
  | 1, e => simp at e; rw [e] at hy; cases hy
  | n + 2, e => simp at e
theorem far_cell {H b o m : Nat} {v x : Value} (hn : NoStr W H) {s : ByteArray} (hc : W.cell? ⟨b, m, none⟩ = some (.string s)) : H ≠ b := fun e => by
  subst e
  exact hn _ _ hc
theorem LE.put {H o : Nat} {v : Value} (h : LE w W R a fs na sa zs st) (hH : H < R) (hw : w.heap.size ≤ H) (hn : NoStr W H) : LE w (W.setCell ⟨H, o, none⟩ v) R a fs na sa zs st := by
  refine ⟨h.bw.setCell hw _, ?_, ?_, ?_, h.fn, h.ft⟩
  · rcases h.fr with h1 | ⟨b, off, ha, h1⟩
    · exact .inl h1
    · refine .inr ⟨b, off, ha, fun i hi => ?_⟩
      obtain ⟨ai, ci, k0, k1, k2, k3, k4, k5, k6⟩ := h1 i hi
      have hne : H ≠ b := fun e => by subst e; exact hn _ _ k0
      refine ⟨ai, ci, (World.cell?_setCell_far _ _ _ _ hne).trans k0, (World.cell?_setCell_far _ _ _ _ hne).trans k1, (World.cell?_setCell_far _ _ _ _ hne).trans k2, k3, k4, k5, ?_⟩
      rcases k6 with k6 | ⟨b', off', ha', k6⟩
      · exact .inl k6
      · refine .inr ⟨b', off', ha', fun j hj => ?_⟩
        obtain ⟨g0, g1, g2, g3⟩ := k6 j hj
        have hne' : H ≠ b' := fun e => by subst e; exact hn _ _ g2
        exact ⟨(World.cell?_setCell_far _ _ _ _ hne').trans g0, (World.cell?_setCell_far _ _ _ _ hne').trans g1, (World.cell?_setCell_far _ _ _ _ hne').trans g2, g3⟩
  · rcases h.nr with h1 | ⟨b, off, ha, h1⟩
    · exact .inl h1
    · have hne : H ≠ b := by have := h.fn b off ha; omega
      exact .inr ⟨b, off, ha, fun i hi => (World.cell?_setCell_far _ _ _ _ hne).trans (h1 i hi)⟩
  · rcases h.tr with h1 | ⟨b, off, ha, h1⟩
    · exact .inl h1
    · have hne : H ≠ b := by have := h.ft b off ha; omega
      refine .inr ⟨b, off, ha, fun i hi => ?_⟩
      obtain ⟨ai, ci, k0, k1, k2, k3⟩ := h1 i hi
      refine ⟨ai, ci, (World.cell?_setCell_far _ _ _ _ hne).trans k0, k1, k2, ?_⟩
      rcases k3 with k3 | ⟨b', off', ha', k3⟩
      · exact .inl k3
      · refine .inr ⟨b', off', ha', fun j hj => ?_⟩
        have hne' : H ≠ b' := fun e => by subst e; exact hn _ _ (k3 j hj).1
        exact ⟨(World.cell?_setCell_far _ _ _ _ hne').trans (k3 j hj).1, (k3 j hj).2⟩
theorem LE.put2 {H : Nat} {v0 v1 x y : Value} {t : TypeId} (h : LE w W R a fs na sa zs st) (hH : H < R) (hw : w.heap.size ≤ H) (hb : W.heap[H]? = some (.cells #[x, y] t)) (hx : noS x = true) (hy : noS y = true) (h0 : noS v0 = true) : LE w ((W.setCell ⟨H, 0, none⟩ v0).setCell ⟨H, 1, none⟩ v1) R a fs na sa zs st :=
  (h.put hH hw (nostr_of hb hx hy)).put hH hw (nostr_of (x := v0) (y := y) (t := t) (by rw [block_setCell hb]; rfl) h0 hy)
end
/-- What a draw hands on of a program and a laying. -/
structure LayMet (w w' : World) (a : Option Addr) (cap : Nat) (fs : List FunD) (na sa : Option Addr) (nc sc : Nat) (zs : List Int) (st : List (List ByteArray)) : Prop where
  h1 : fs.length ≤ cap
  h2 : cap ≤ maxLen
  h3 : fs.length ≤ 42
  nm : ∀ f ∈ fs, okN f.nm
  n1 : zs.length ≤ nc
  n2 : nc ≤ maxLen
  s1 : st.length ≤ sc
  s2 : sc ≤ maxLen
  tm : Tame zs st
  fr : FunRow w' a fs
  nr : NumRow w' na zs
  tr : TextsRow w' sa st
  bw : Below w.heap.size w w'
def StoneDrawn (w : World) (e : Ending) (w' : World) : Prop := ∃ a cap fs na sa nc sc zs st, ∃ ff nn : Int, e = .returned (.tuple #[.slice a fs.length cap, .agg #[.slice na zs.length nc, .slice sa st.length sc], .int .i64 ff, .int .i64 nn]) ∧ -10 ≤ ff ∧ ff ≤ 10 ∧ -10 ≤ nn ∧ nn ≤ 10 ∧ LayMet w w' a cap fs na sa nc sc zs st
def SpotDrawn (w : World) (e : Ending) (w' : World) : Prop := ∃ a cap fs na sa nc sc zs st, ∃ ff nn : Int, e = .returned (.tuple #[.slice a fs.length cap, .agg #[.slice na zs.length nc, .slice sa st.length sc], .agg #[.int .i64 ff, .int .i64 nn]]) ∧ -10 ≤ ff ∧ ff ≤ 10 ∧ -10 ≤ nn ∧ nn ≤ 10 ∧ LayMet w w' a cap fs na sa nc sc zs st
def AtDrawn (w : World) (e : Ending) (w' : World) : Prop := ∃ a cap fs na sa nc sc zs st, ∃ at_ : Int, e = .returned (.tuple #[.slice a fs.length cap, .agg #[.slice na zs.length nc, .slice sa st.length sc], .int .i64 at_]) ∧ -10 ≤ at_ ∧ at_ ≤ 100000000 ∧ LayMet w w' a cap fs na sa nc sc zs st
def OkDrawn (w : World) (e : Ending) (w' : World) : Prop := ∃ a cap fs na sa nc sc zs st, ∃ rr : Int, e = .returned (.tuple #[.slice a fs.length cap, .int .i64 rr, .agg #[.slice na zs.length nc, .slice sa st.length sc]]) ∧ 0 ≤ rr ∧ rr ≤ 101 ∧ LayMet w w' a cap fs na sa nc sc zs st
theorem size_small {fs : List FunD} {zs : List Int} {st : List (List ByteArray)} (h : Tame zs st) : ∃ zz : Nat, sizeI fs zs st = (zz : Int) ∧ zz ≤ 42000000 := by
  cases hf : formB fs zs st
  · exact ⟨0, by rw [size_no hf]; rfl, by omega⟩
  · exact ⟨_, size_yes hf, (lying_of hf h.few).small fs.length (Nat.le_refl _)⟩
theorem quo8 (v : Nat) (h : (v : Int) < 9) : 0 ≤ (v : Int).tdiv 8 ∧ (v : Int).tdiv 8 ≤ 1 := by
  rw [Int.tdiv_eq_ediv_of_nonneg (by omega)]
  omega
theorem wrap_small {x : Int} (h0 : -1000000000 ≤ x) (h1 : x ≤ 1000000000) : IntKind.i64.wrap x = x := by rw [IntKind.wrap_i64]; omega
end Go.Proofs.YthbbmookhcalkaaGreatDoor.DrawT
/- The contracts of the draws of a program and how it is laid. -/
namespace Go.Proofs.YthbbmookhcalkaaGreatDoor.DrawW
open Go.ChangeShapes Go.WideShapes Go.ChangeAt Go.RowKit Go.Joins Go.Deep
open Go.Proofs.YthbbmookhcalkaaGreatDoor.Base Go.Proofs.YthbbmookhcalkaaGreatDoor.InsA Go.Proofs.YthbbmookhcalkaaGreatDoor.Funs Go.Proofs.YthbbmookhcalkaaGreatDoor.Open Go.Proofs.YthbbmookhcalkaaGreatDoor.FunS Go.Proofs.YthbbmookhcalkaaGreatDoor.Keep Go.Proofs.YthbbmookhcalkaaGreatDoor.UnitS Go.Proofs.YthbbmookhcalkaaGreatDoor.Refs Go.Proofs.YthbbmookhcalkaaGreatDoor.LayN Go.Proofs.YthbbmookhcalkaaGreatDoor.LayA Go.Proofs.YthbbmookhcalkaaGreatDoor.KeepD Go.Proofs.YthbbmookhcalkaaGreatDoor.LayD Go.Proofs.YthbbmookhcalkaaGreatDoor.LayS Go.Proofs.YthbbmookhcalkaaGreatDoor.LayT Go.Proofs.YthbbmookhcalkaaGreatDoor.LayV Go.Proofs.YthbbmookhcalkaaGreatDoor.LayW Go.Proofs.YthbbmookhcalkaaGreatDoor.LayX Go.Proofs.YthbbmookhcalkaaGreatDoor.LayY Go.Proofs.YthbbmookhcalkaaGreatDoor.Rd Go.Proofs.YthbbmookhcalkaaGreatDoor.DrawIns Go.Proofs.YthbbmookhcalkaaGreatDoor.DrawP Go.Proofs.YthbbmookhcalkaaGreatDoor.DrawO Go.Proofs.YthbbmookhcalkaaGreatDoor.DrawM Go.Proofs.YthbbmookhcalkaaGreatDoor.DrawT
set_option linter.unusedVariables false
set_option maxRecDepth 100000

def SizeDrawn (w : World) (e : Ending) (w' : World) : Prop := ∃ a cap fs na sa nc sc zs st, e = .returned (.tuple #[.slice a fs.length cap, .agg #[.slice na zs.length nc, .slice sa st.length sc]]) ∧ LayMet w w' a cap fs na sa nc sc zs st ∧ (∀ S o, na = some ⟨S, o, none⟩ → w.heap.size < S) ∧ ∀ S o, sa = some ⟨S, o, none⟩ → w.heap.size < S
set_option maxHeartbeats 8000000 in
theorem drawLaySize_any (w : World) (a0 : Option Addr) (len0 cap0 : Nat) (hl0 : len0 ≤ cap0) (hm0 : cap0 ≤ maxLen) (hb0 : len0 = 0 ∨ ∃ b off, a0 = some ⟨b, off, none⟩ ∧ b < w.heap.size ∧ ∀ i, i < len0 → ∃ c : Nat, c < 256 ∧ w.cell? ⟨b, off + i, none⟩ = some (.int .u8 c)) :
    Calls Tryz.prog 54 #[.slice a0 len0 cap0] w (SizeDrawn w) := by
  have Hb := hide hb0
  clear hb0
  have hs0 : True := trivial
  go_enter Tryz.func54, Tryz.ntmps54
  go_wp2_with fail
  refine (open_any (w.alloc (.cells #[.slice none 0 0, .slice none 0 0] 47)) _ _ _ hl0 hm0 (bytes_alloc (unhide Hb) _)).mono ?_
  rintro e w1 ⟨rfl, hr, hb1, hz⟩
  have hB1 : Below w.heap.size w w1 := bl_trans (below_alloc1 _ _) hb1
  have hz0 : w1.heap[w.heap.size]? = some (.cells #[.slice none 0 0, .slice none 0 0] 47) := box_below (new_block w _) hb1
  simp only [World.size_alloc] at hr hz ⊢
  clear hb1 Hb
  have HR := hide hr
  clear hr
  go_wp2_with fail
  refine (drawn_any _ (w.heap.size + 1) 0 (unhide HR) (by omega)).mono ?_
  rintro e w2 ⟨a, cap, fs, na, sa, nc, sc, zs, st, rr, p, rfl, hr0, hr1, c1, c2, c3, HN, d1, d2, d3, d4, HTM, hF, hN, hT, hfar, hp, hrd, htu⟩
  have hB2 : Below w.heap.size w w2 := hB1.trans (htu.below (by omega) (by omega))
  replace hz0 := box_turns hz0 htu (by omega)
  have hLM : LM w w2 (w.heap.size + 1) p a fs na sa zs st := ⟨hrd, hB2, by omega, hF, hN, hT, hfar.out.1, hfar.out.2⟩
  have hLN : w2.heap.size ≠ (w.heap.size + 1) := Nat.ne_of_gt (rd_lt hrd)
  have hLR : (w.heap.size + 1) < w2.heap.size := rd_lt hrd
  clear hrd hB2 hF hN hT hfar htu hB1 hz HR
  go_upto_region 2 with fail
  replace hLM := (hLM.below (below_alloc1 w2 (.cells #[.slice na zs.length nc, .slice sa st.length sc] 47))).drew
  have hbx : (w2.alloc (.cells #[.slice na zs.length nc, .slice sa st.length sc] 47)).drew.heap[w2.heap.size]? = some (.cells #[.slice na zs.length nc, .slice sa st.length sc] 47) := new_block w2 (.cells #[.slice na zs.length nc, .slice sa st.length sc] 47)
  skip
  replace hz0 : (w2.alloc (.cells #[.slice na zs.length nc, .slice sa st.length sc] 47)).drew.heap[w.heap.size]? = some (.cells #[.slice none 0 0, .slice none 0 0] 47) := (show (w2.alloc (.cells #[.slice na zs.length nc, .slice sa st.length sc] 47)).heap[w.heap.size]? = some (.cells #[.slice none 0 0, .slice none 0 0] 47) from box_below hz0 (below_alloc1 w2 (.cells #[.slice na zs.length nc, .slice sa st.length sc] 47)))
  have hLne : w2.heap.size ≠ (w.heap.size + 1) := hLN
  have HST : Hid (Stable (fun w' => w'.cell? ⟨w2.heap.size, 0, none⟩ = some (.slice na zs.length nc) ∧ w'.cell? ⟨w2.heap.size, 1, none⟩ = some (.slice sa st.length sc))) := (Stable.cell _ _).and (Stable.cell _ _)
  have HQ : Hid ((w2.alloc (.cells #[.slice na zs.length nc, .slice sa st.length sc] 47)).cell? ⟨w2.heap.size, 0, none⟩ = some (.slice na zs.length nc) ∧ (w2.alloc (.cells #[.slice na zs.length nc, .slice sa st.length sc] 47)).cell? ⟨w2.heap.size, 1, none⟩ = some (.slice sa st.length sc)) := (box2 (new_block w2 (.cells #[.slice na zs.length nc, .slice sa st.length sc] 47))).1
  refine wp_region_held_drew (S := (fun w' => w'.cell? ⟨w2.heap.size, 0, none⟩ = some (.slice na zs.length nc) ∧ w'.cell? ⟨w2.heap.size, 1, none⟩ = some (.slice sa st.length sc))) (by kernel_rfl) ((unhide HST).2 _ (unhide HQ)) (fun hHeld => ?_)
  generalize (w2.alloc (.cells #[.slice na zs.length nc, .slice sa st.length sc] 47)).drew = wa at *
  refine wpAnyH_take (i := 0) (oi := { dst := some 14, op := Go.Op.move (Go.Operand.tmp 4), type := 23, pos := "l7_lay.go:244", after := #[], guard := none }) (v := ?v1_0) rfl (by kernel_rfl) (by kernel_rfl) (by kernel_rfl) (fun _ _ _ h => h) (Or.inl ⟨by rfl, ?y1_0⟩) (by assumption) ?r1_0
  case y1_0 => (intro w hSw; (try dsimp only at hSw); go_simp; try (with_reducible rfl))
  try simp only [Act.put, List.setIfInBounds_toArray, List.set_cons_zero, List.set_cons_succ]
  refine wpAnyH_take (i := 1) (oi := { dst := some 15, op := Go.Op.load 47 (Go.Operand.tmp 5), type := 47, pos := "l7_lay.go:244", after := #[{ on := 2, ground := Go.Ground.gcOnly Go.Departure.lateStores }], guard := none }) (v := ?v2_1) rfl (by kernel_rfl) (by kernel_rfl) (by kernel_rfl) (fun _ _ _ h => h) (Or.inl ⟨by rfl, ?y2_1⟩) (by assumption) ?r2_1
  case y2_1 => (intro w hSw; (try dsimp only at hSw); go_simp; try (with_reducible rfl))
  try simp only [Act.put, List.setIfInBounds_toArray, List.set_cons_zero, List.set_cons_succ]
  refine wpAnyH_take (i := 2) (oi := { dst := some 2, op := Go.Op.assign (Go.Operand.tmp 14), type := 23, pos := "l7_lay.go:244", after := #[{ on := 0, ground := Go.Ground.data }, { on := 0, ground := Go.Ground.phase }, { on := 1, ground := Go.Ground.textOnly Go.Departure.lateStores }], guard := none }) (v := ?v3_2) rfl (by kernel_rfl) (by kernel_rfl) (by kernel_rfl) (fun _ _ _ h => h) (Or.inl ⟨by rfl, ?y3_2⟩) (by assumption) ?r3_2
  case y3_2 => (intro w hSw; (try dsimp only at hSw); go_simp; try (with_reducible rfl))
  try simp only [Act.put, List.setIfInBounds_toArray, List.set_cons_zero, List.set_cons_succ]
  refine wpAnyH_ready (rs := [3]) (by kernel_rfl) (by simp) ?_
  refine AllReadyH.cons (o := { dst := none, op := Go.Op.store 47 (Go.Operand.tmp 3) (Go.Operand.tmp 15), type := 0, pos := "l7_lay.go:244", after := #[{ on := 1, ground := Go.Ground.data }, { on := 2, ground := Go.Ground.chain }, { on := 0, ground := Go.Ground.phase }, { on := 1, ground := Go.Ground.phase }, { on := 2, ground := Go.Ground.phase }], guard := none }) rfl (fun K hK => ?_) AllReadyH.nil
  have hrN := box2 hz0
  go_simp
  have hLE := hLM.done.put2 (H := w.heap.size) (v0 := .slice na zs.length nc) (v1 := .slice sa st.length sc) (by omega) (Nat.le_refl _) hz0 rfl rfl rfl
  replace hz0 : ((wa.setCell ⟨w.heap.size, 0, none⟩ (.slice na zs.length nc)).setCell ⟨w.heap.size, 1, none⟩ (.slice sa st.length sc)).heap[w.heap.size]? = some (.cells #[.slice na zs.length nc, .slice sa st.length sc] 47) := block_setCell (block_setCell hz0 _) _
  replace hbx : ((wa.setCell ⟨w.heap.size, 0, none⟩ (.slice na zs.length nc)).setCell ⟨w.heap.size, 1, none⟩ (.slice sa st.length sc)).heap[w2.heap.size]? = some (.cells #[.slice na zs.length nc, .slice sa st.length sc] 47) := set_other (set_other hbx (by omega)) (by omega)
  replace hHeld := (box2 hbx).1
  clear hrN hLM
  refine hK.out _ _ hHeld (fun _ => ?_)
  clear hK K
  try simp only [Act.put, List.setIfInBounds_toArray, List.set_cons_zero, List.set_cons_succ]
  generalize ((wa.setCell ⟨w.heap.size, 0, none⟩ (.slice na zs.length nc)).setCell ⟨w.heap.size, 1, none⟩ (.slice sa st.length sc)) = wz at *
  refine wpAnyH_done (by kernel_rfl) ?_ _
  go_wp2_with fail
  have hFb := box2 hz0
  exact bodyPost_ret (v := .tuple #[.slice a fs.length cap, .agg #[.slice na zs.length nc, .slice sa st.length sc]]) (by simp [results, Tryz.results54, go_sem, hFb]) rfl ⟨a, cap, fs, na, sa, nc, sc, zs, st, rfl, ⟨c1, c2, c3, HN.out, d1, d2, d3, d4, HTM.out, hLE.fr, hLE.nr, hLE.tr, hLE.bw⟩, (fun S o e => by have := hLE.fn S o e; omega), (fun S o e => by have := hLE.ft S o e; omega)⟩
set_option maxHeartbeats 8000000 in
theorem drawMapList_any (w : World) (a0 : Option Addr) (len0 cap0 : Nat) (hl0 : len0 ≤ cap0) (hm0 : cap0 ≤ maxLen) (hb0 : len0 = 0 ∨ ∃ b off, a0 = some ⟨b, off, none⟩ ∧ b < w.heap.size ∧ ∀ i, i < len0 → ∃ c : Nat, c < 256 ∧ w.cell? ⟨b, off + i, none⟩ = some (.int .u8 c)) :
    Calls Tryz.prog 21 #[.slice a0 len0 cap0] w (SizeDrawn w) := by
  have hbA := below_alloc1 w (.cells #[.slice none 0 0, .slice none 0 0] 47)
  have HB1 : Hid (len0 = 0 ∨ ∃ b off, a0 = some ⟨b, off, none⟩ ∧ b < (w.alloc (.cells #[.slice none 0 0, .slice none 0 0] 47)).heap.size ∧ ∀ i, i < len0 → ∃ c : Nat, c < 256 ∧ (w.alloc (.cells #[.slice none 0 0, .slice none 0 0] 47)).cell? ⟨b, off + i, none⟩ = some (.int .u8 c)) := by
    rcases hb0 with h | ⟨b, off, e, hb, hc⟩
    · exact .inl h
    · refine .inr ⟨b, off, e, by rw [World.size_alloc]; omega, fun i hi => ?_⟩
      obtain ⟨c, h1, h2⟩ := hc i hi
      exact ⟨c, h1, (hbA.cell (p := ⟨b, off + i, none⟩) (World.block_lt_of_cell? w _ h2)).trans h2⟩
  have hz := new_block w (.cells #[.slice none 0 0, .slice none 0 0] 47)
  clear hb0
  go_enter Tryz.func21, Tryz.ntmps21
  go_wp2_with fail
  refine (drawLaySize_any _ _ _ _ hl0 hm0 (unhide HB1)).mono ?_
  rintro e w1 ⟨a, cap, fs, na, sa, nc, sc, zs, st, rfl, hM, hfn, hft⟩
  have hz1 := box_below hz hM.bw
  rw [World.size_alloc] at hfn hft
  have hLE : LE w w1 (w.heap.size + 1) a fs na sa zs st := ⟨bl_trans hbA hM.bw, hM.fr, hM.nr, hM.tr, hfn, hft⟩
  have HLE := hide (hLE.put2 (H := w.heap.size) (v0 := .slice na zs.length nc) (v1 := .slice sa st.length sc) (by omega) (Nat.le_refl _) hz1 rfl rfl rfl)
  have HF : Hid (((w1.setCell ⟨w.heap.size, 0, none⟩ (.slice na zs.length nc)).setCell ⟨w.heap.size, 1, none⟩ (.slice sa st.length sc)).heap[w.heap.size]? = some (.cells #[.slice na zs.length nc, .slice sa st.length sc] 47)) := block_setCell (block_setCell hz1 _) _
  have hrN := box2 hz1
  have HM := hide hM
  have HFN := hide hfn
  have HFT := hide hft
  clear hz hz1 hLE hM hfn hft hbA
  go_wp2_with fail
  clear hrN
  generalize (w1.setCell ⟨w.heap.size, 0, none⟩ (.slice na zs.length nc)).setCell ⟨w.heap.size, 1, none⟩ (.slice sa st.length sc) = wz at *
  have hFb := box2 (unhide HF)
  have hM := unhide HM
  exact bodyPost_ret (v := .tuple #[.slice a fs.length cap, .agg #[.slice na zs.length nc, .slice sa st.length sc]]) (by simp [results, Tryz.results21, go_sem, hFb]) rfl ⟨a, cap, fs, na, sa, nc, sc, zs, st, rfl, ⟨hM.h1, hM.h2, hM.h3, hM.nm, hM.n1, hM.n2, hM.s1, hM.s2, hM.tm, (unhide HLE).fr, (unhide HLE).nr, (unhide HLE).tr, (unhide HLE).bw⟩, (fun S o e => by have := unhide HFN S o e; omega), (fun S o e => by have := unhide HFT S o e; omega)⟩
end Go.Proofs.YthbbmookhcalkaaGreatDoor.DrawW
