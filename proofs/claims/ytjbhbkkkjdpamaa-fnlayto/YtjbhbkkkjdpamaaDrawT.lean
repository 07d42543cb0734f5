/- The contracts of the draws that hold a drawn laying. -/
import Derived.Test.YtjbhbkkkjdpamaaDrawM
import Derived.Test.YtjbhbkkkjdpamaaPkd8868971
namespace Go.Proofs.Ytjbhbkkkjdpamaa.DrawT
open Go.ChangeShapes Go.WideShapes Go.ChangeAt Go.RowKit Go.Joins Go.Deep
open Go.Proofs.Ytjbhbkkkjdpamaa.Base Go.Proofs.Ytjbhbkkkjdpamaa.InsA Go.Proofs.Ytjbhbkkkjdpamaa.Funs Go.Proofs.Ytjbhbkkkjdpamaa.Open Go.Proofs.Ytjbhbkkkjdpamaa.FunS Go.Proofs.Ytjbhbkkkjdpamaa.Keep Go.Proofs.Ytjbhbkkkjdpamaa.UnitS Go.Proofs.Ytjbhbkkkjdpamaa.Refs Go.Proofs.Ytjbhbkkkjdpamaa.LayN Go.Proofs.Ytjbhbkkkjdpamaa.LayA Go.Proofs.Ytjbhbkkkjdpamaa.KeepD Go.Proofs.Ytjbhbkkkjdpamaa.LayD Go.Proofs.Ytjbhbkkkjdpamaa.LayS Go.Proofs.Ytjbhbkkkjdpamaa.LayT Go.Proofs.Ytjbhbkkkjdpamaa.LayV Go.Proofs.Ytjbhbkkkjdpamaa.LayW Go.Proofs.Ytjbhbkkkjdpamaa.LayX Go.Proofs.Ytjbhbkkkjdpamaa.LayY Go.Proofs.Ytjbhbkkkjdpamaa.Rd Go.Proofs.Ytjbhbkkkjdpamaa.DrawIns Go.Proofs.Ytjbhbkkkjdpamaa.DrawP Go.Proofs.Ytjbhbkkkjdpamaa.DrawO Go.Proofs.Ytjbhbkkkjdpamaa.DrawM
set_option linter.unusedVariables false
set_option maxRecDepth 100000

/-- A drawn program and a drawn laying, while more is drawn. -/
structure LM (w W : World) (R p : Nat) (a : Option Addr) (fs : List FunD) (na sa : Option Addr) (zs : List Int) (st : List (List ByteArray)) : Prop where
  rd : RdAt W R p
  bw : Below w.heap.size w W
  hR : w.heap.size ≤ R
  fr : FunRow W a fs
  nr : NumRow W na zs
  tr : TextsRow W sa st
  fn : ∀ S o, na = some ⟨S, o, none⟩ → R < S
  ft : ∀ S o, sa = some ⟨S, o, none⟩ → R < S
/-- .. where no more is drawn. -/
structure LE (w W : World) (R : Nat) (a : Option Addr) (fs : List FunD) (na sa : Option Addr) (zs : List Int) (st : List (List ByteArray)) : Prop where
  bw : Below w.heap.size w W
  fr : FunRow W a fs
  nr : NumRow W na zs
  tr : TextsRow W sa st
  fn : ∀ S o, na = some ⟨S, o, none⟩ → R < S
  ft : ∀ S o, sa = some ⟨S, o, none⟩ → R < S
section
variable {w W W' : World} {R p p' : Nat} {a : Option Addr} {fs : List FunD} {na sa : Option Addr} {zs : List Int} {st : List (List ByteArray)}
theorem num_turns (h : NumRow W na zs) (hf : ∀ S o, na = some ⟨S, o, none⟩ → R < S) (ht : Turns R W W') : NumRow W' na zs := by
  rcases h with h | ⟨b, off, ha, h⟩
  · exact .inl h
  · have := hf b off ha
    exact .inr ⟨b, off, ha, fun i hi => ht.cell (by omega) (h i hi)⟩
theorem text_turns {a : Option Addr} {ss : List ByteArray} (h : TextRow W a ss) (hr : RdAt W R p) (ht : Turns R W W') : TextRow W' a ss := by
  rcases h with h | ⟨b, off, ha, h⟩
  · exact .inl h
  · exact .inr ⟨b, off, ha, fun i hi => ⟨ht.cell (rd_str hr (h i hi).1) (h i hi).1, (h i hi).2⟩⟩
theorem texts_turns (h : TextsRow W sa st) (hf : ∀ S o, sa = some ⟨S, o, none⟩ → R < S) (hr : RdAt W R p) (ht : Turns R W W') : TextsRow W' sa st := by
  rcases h with h | ⟨b, off, ha, h⟩
  · exact .inl h
  · have := hf b off ha
    refine .inr ⟨b, off, ha, fun i hi => ?_⟩
    obtain ⟨ai, ci, h0, h1, h2, h3⟩ := h i hi
    exact ⟨ai, ci, ht.cell (by omega) h0, h1, h2, text_turns h3 hr ht⟩
theorem LM.turns (h : LM w W R p a fs na sa zs st) (ht : Turns R W W') (hr : RdAt W' R p') : LM w W' R p' a fs na sa zs st := by
  have h1 := h.hR
  exact ⟨hr, h.bw.trans (ht.below h1 h.bw.size), h1, funRow_turns h.fr h.rd ht, num_turns h.nr h.fn ht, texts_turns h.tr h.ft h.rd ht, h.fn, h.ft⟩
theorem LM.below (h : LM w W R p a fs na sa zs st) (hb : Below W.heap.size W W') : LM w W' R p a fs na sa zs st := h.turns (Turns.of_below hb) (rd_below h.rd hb)
theorem LM.drew (h : LM w W R p a fs na sa zs st) : LM w W.drew R p a fs na sa zs st := ⟨h.rd, h.bw.drew, h.hR, h.fr, h.nr, h.tr, h.fn, h.ft⟩
theorem LM.done (h : LM w W R p a fs na sa zs st) : LE w W R a fs na sa zs st := ⟨h.bw, h.fr, h.nr, h.tr, h.fn, h.ft⟩
/-- No text lies in a block. -/
def NoStr (W : World) (H : Nat) : Prop := ∀ m s, W.cell? ⟨H, m, none⟩ ≠ some (.string s)
def noS : Value → Bool
  | .string _ => false
  | _ => true
theorem nostr_of {H : Nat} {x y : Value} {t : TypeId} (h : W.heap[H]? = some (.cells #[x, y] t)) (hx : noS x = true) (hy : noS y = true) : NoStr W H := fun m s e => by
  rw [cell_of_block h] at e
  match m, e with
  | 0, e => simp at e; rw [e] at hx; cases hx
  | 1, e => simp at e; rw [e] at hy; cases hy
  | n + 2, e => simp at e
theorem far_cell {H b o m : Nat} {v x : Value} (hn : NoStr W H) {s : ByteArray} (hc : W.cell? ⟨b, m, none⟩ = some (.string s)) : H ≠ b := fun e => by
  subst e
  exact hn _ _ hc
theorem LE.put {H o : Nat} {v : Value} (h : LE w W R a fs na sa zs st) (hH : H < R) (hw : w.heap.size ≤ H) (hn : NoStr W H) : LE w (W.setCell ⟨H, o, none⟩ v) R a fs na sa zs st := by
  refine ⟨h.bw.setCell hw _, ?_, ?_, ?_, h.fn, h.ft⟩
  · rcases h.fr with h1 | ⟨b, off, ha, h1⟩
    · exact .inl h1
    · refine .inr ⟨b, off, ha, fun i hi => ?_⟩
      obtain ⟨ai, ci, k0, k1, k2, k3, k4, k5, k6⟩ := h1 i hi
      have hne : H ≠ b := fun e => by subst e; exact hn _ _ k0
      refine ⟨ai, ci, (World.cell?_setCell_far _ _ _ _ hne).trans k0, (World.cell?_setCell_far _ _ _ _ hne).trans k1, (World.cell?_setCell_far _ _ _ _ hne).trans k2, k3, k4, k5, ?_⟩
      rcases k6 with k6 | ⟨b', off', ha', k6⟩
      · exact .inl k6
      · refine .inr ⟨b', off', ha', fun j hj => ?_⟩
        obtain ⟨g0, g1, g2, g3⟩ := k6 j hj
        have hne' : H ≠ b' := fun e => by subst e; exact hn _ _ g2
        exact ⟨(World.cell?_setCell_far _ _ _ _ hne').trans g0, (World.cell?_setCell_far _ _ _ _ hne').trans g1, (World.cell?_setCell_far _ _ _ _ hne').trans g2, g3⟩
  · rcases h.nr with h1 | ⟨b, off, ha, h1⟩
    · exact .inl h1
    · have hne : H ≠ b := by have := h.fn b off ha; omega
      exact .inr ⟨b, off, ha, fun i hi => (World.cell?_setCell_far _ _ _ _ hne).trans (h1 i hi)⟩
  · rcases h.tr with h1 | ⟨b, off, ha, h1⟩
    · exact .inl h1
    · have hne : H ≠ b := by have := h.ft b off ha; omega
      refine .inr ⟨b, off, ha, fun i hi => ?_⟩
      obtain ⟨ai, ci, k0, k1, k2, k3⟩ := h1 i hi
      refine ⟨ai, ci, (World.cell?_setCell_far _ _ _ _ hne).trans k0, k1, k2, ?_⟩
      rcases k3 with k3 | ⟨b', off', ha', k3⟩
      · exact .inl k3
      · refine .inr ⟨b', off', ha', fun j hj => ?_⟩
        have hne' : H ≠ b' := fun e => by subst e; exact hn _ _ (k3 j hj).1
        exact ⟨(World.cell?_setCell_far _ _ _ _ hne').trans (k3 j hj).1, (k3 j hj).2⟩
theorem LE.put2 {H : Nat} {v0 v1 x y : Value} {t : TypeId} (h : LE w W R a fs na sa zs st) (hH : H < R) (hw : w.heap.size ≤ H) (hb : W.heap[H]? = some (.cells #[x, y] t)) (hx : noS x = true) (hy : noS y = true) (h0 : noS v0 = true) : LE w ((W.setCell ⟨H, 0, none⟩ v0).setCell ⟨H, 1, none⟩ v1) R a fs na sa zs st :=
  (h.put hH hw (nostr_of hb hx hy)).put hH hw (nostr_of (x := v0) (y := y) (t := t) (by rw [block_setCell hb]; rfl) h0 hy)
end
/-- What a draw hands on of a program and a laying. -/
structure LayMet (w w' : World) (a : Option Addr) (cap : Nat) (fs : List FunD) (na sa : Option Addr) (nc sc : Nat) (zs : List Int) (st : List (List ByteArray)) : Prop where
  h1 : fs.length ≤ cap
  h2 : cap ≤ maxLen
  h3 : fs.length ≤ 42
  nm : ∀ f ∈ fs, okN f.nm
  n1 : zs.length ≤ nc
  n2 : nc ≤ maxLen
  s1 : st.length ≤ sc
  s2 : sc ≤ maxLen
  tm : Tame zs st
  fr : FunRow w' a fs
  nr : NumRow w' na zs
  tr : TextsRow w' sa st
  bw : Below w.heap.size w w'
def StoneDrawn (w : World) (e : Ending) (w' : World) : Prop := ∃ a cap fs na sa nc sc zs st, ∃ ff nn : Int, e = .returned (.tuple #[.slice a fs.length cap, .agg #[.slice na zs.length nc, .slice sa st.length sc], .int .i64 ff, .int .i64 nn]) ∧ -10 ≤ ff ∧ ff ≤ 10 ∧ -10 ≤ nn ∧ nn ≤ 10 ∧ LayMet w w' a cap fs na sa nc sc zs st
def SpotDrawn (w : World) (e : Ending) (w' : World) : Prop := ∃ a cap fs na sa nc sc zs st, ∃ ff nn : Int, e = .returned (.tuple #[.slice a fs.length cap, .agg #[.slice na zs.length nc, .slice sa st.length sc], .agg #[.int .i64 ff, .int .i64 nn]]) ∧ -10 ≤ ff ∧ ff ≤ 10 ∧ -10 ≤ nn ∧ nn ≤ 10 ∧ LayMet w w' a cap fs na sa nc sc zs st
def AtDrawn (w : World) (e : Ending) (w' : World) : Prop := ∃ a cap fs na sa nc sc zs st, ∃ at_ : Int, e = .returned (.tuple #[.slice a fs.length cap, .agg #[.slice na zs.length nc, .slice sa st.length sc], .int .i64 at_]) ∧ -10 ≤ at_ ∧ at_ ≤ 100000000 ∧ LayMet w w' a cap fs na sa nc sc zs st
def OkDrawn (w : World) (e : Ending) (w' : World) : Prop := ∃ a cap fs na sa nc sc zs st, ∃ rr : Int, e = .returned (.tuple #[.slice a fs.length cap, .int .i64 rr, .agg #[.slice na zs.length nc, .slice sa st.length sc]]) ∧ 0 ≤ rr ∧ rr ≤ 101 ∧ LayMet w w' a cap fs na sa nc sc zs st
theorem size_small {fs : List FunD} {zs : List Int} {st : List (List ByteArray)} (h : Tame zs st) : ∃ zz : Nat, sizeI fs zs st = (zz : Int) ∧ zz ≤ 42000000 := by
  cases hf : formB fs zs st
  · exact ⟨0, by rw [size_no hf]; rfl, by omega⟩
  · exact ⟨_, size_yes hf, (lying_of hf h.few).small fs.length (Nat.le_refl _)⟩
theorem quo8 (v : Nat) (h : (v : Int) < 9) : 0 ≤ (v : Int).tdiv 8 ∧ (v : Int).tdiv 8 ≤ 1 := by
  rw [Int.tdiv_eq_ediv_of_nonneg (by omega)]
  omega
theorem wrap_small {x : Int} (h0 : -1000000000 ≤ x) (h1 : x ≤ 1000000000) : IntKind.i64.wrap x = x := by rw [IntKind.wrap_i64]; omega
set_option maxHeartbeats 8000000 in
theorem drawLayOk_any (w : World) (a0 : Option Addr) (len0 cap0 : Nat) (hl0 : len0 ≤ cap0) (hm0 : cap0 ≤ maxLen) (hb0 : len0 = 0 ∨ ∃ b off, a0 = some ⟨b, off, none⟩ ∧ b < w.heap.size ∧ ∀ i, i < len0 → ∃ c : Nat, c < 256 ∧ w.cell? ⟨b, off + i, none⟩ = some (.int .u8 c)) :
    Calls Try.prog 45 #[.slice a0 len0 cap0] w (OkDrawn w) := by
  have Hb := hide hb0
  clear hb0
  have hs0 : True := trivial
  go_enter Try.func45, Try.ntmps45
  go_wp2_with fail
  refine (open_any (w.alloc (.cells #[.slice none 0 0, .slice none 0 0] 34)) _ _ _ hl0 hm0 (bytes_alloc (unhide Hb) _)).mono ?_
  rintro e w1 ⟨rfl, hr, hb1, hz⟩
  have hB1 : Below w.heap.size w w1 := bl_trans (below_alloc1 _ _) hb1
  have hz0 : w1.heap[w.heap.size]? = some (.cells #[.slice none 0 0, .slice none 0 0] 34) := box_below (new_block w _) hb1
  simp only [World.size_alloc] at hr hz ⊢
  clear hb1 Hb
  have HR := hide hr
  clear hr
  go_wp2_with fail
  refine (drawn_any _ (w.heap.size + 1) 0 (unhide HR) (by omega)).mono ?_
  rintro e w2 ⟨a, cap, fs, na, sa, nc, sc, zs, st, rr, p, rfl, hr0, hr1, c1, c2, c3, HN, d1, d2, d3, d4, HTM, hF, hN, hT, hfar, hp, hrd, htu⟩
  have hB2 : Below w.heap.size w w2 := hB1.trans (htu.below (by omega) (by omega))
  replace hz0 := box_turns hz0 htu (by omega)
  have hLM : LM w w2 (w.heap.size + 1) p a fs na sa zs st := ⟨hrd, hB2, by omega, hF, hN, hT, hfar.out.1, hfar.out.2⟩
  have hLN : w2.heap.size ≠ (w.heap.size + 1) := Nat.ne_of_gt (rd_lt hrd)
  have hLR : (w.heap.size + 1) < w2.heap.size := rd_lt hrd
  clear hrd hB2 hF hN hT hfar htu hB1 hz HR
  go_upto_region 2 with fail
  replace hLM := (hLM.below (below_alloc1 w2 (.cells #[.slice na zs.length nc, .slice sa st.length sc] 34))).drew
  have hbx : (w2.alloc (.cells #[.slice na zs.length nc, .slice sa st.length sc] 34)).drew.heap[w2.heap.size]? = some (.cells #[.slice na zs.length nc, .slice sa st.length sc] 34) := new_block w2 (.cells #[.slice na zs.length nc, .slice sa st.length sc] 34)
  skip
  replace hz0 : (w2.alloc (.cells #[.slice na zs.length nc, .slice sa st.length sc] 34)).drew.heap[w.heap.size]? = some (.cells #[.slice none 0 0, .slice none 0 0] 34) := (show (w2.alloc (.cells #[.slice na zs.length nc, .slice sa st.length sc] 34)).heap[w.heap.size]? = some (.cells #[.slice none 0 0, .slice none 0 0] 34) from box_below hz0 (below_alloc1 w2 (.cells #[.slice na zs.length nc, .slice sa st.length sc] 34)))
  have hLne : w2.heap.size ≠ (w.heap.size + 1) := hLN
  have HST : Hid (Stable (fun w' => w'.cell? ⟨w2.heap.size, 0, none⟩ = some (.slice na zs.length nc) ∧ w'.cell? ⟨w2.heap.size, 1, none⟩ = some (.slice sa st.length sc))) := (Stable.cell _ _).and (Stable.cell _ _)
  have HQ : Hid ((w2.alloc (.cells #[.slice na zs.length nc, .slice sa st.length sc] 34)).cell? ⟨w2.heap.size, 0, none⟩ = some (.slice na zs.length nc) ∧ (w2.alloc (.cells #[.slice na zs.length nc, .slice sa st.length sc] 34)).cell? ⟨w2.heap.size, 1, none⟩ = some (.slice sa st.length sc)) := (box2 (new_block w2 (.cells #[.slice na zs.length nc, .slice sa st.length sc] 34))).1
  refine wp_region_held_drew (S := (fun w' => w'.cell? ⟨w2.heap.size, 0, none⟩ = some (.slice na zs.length nc) ∧ w'.cell? ⟨w2.heap.size, 1, none⟩ = some (.slice sa st.length sc))) (by kernel_rfl) ((unhide HST).2 _ (unhide HQ)) (fun hHeld => ?_)
  generalize (w2.alloc (.cells #[.slice na zs.length nc, .slice sa st.length sc] 34)).drew = wa at *
  refine wpAnyH_take (i := 0) (oi := { dst := some 15, op := Go.Op.move (Go.Operand.tmp 5), type := 32, pos := "l7_lay.go:228", after := #[], guard := none }) (v := ?v1_0) rfl (by kernel_rfl) (by kernel_rfl) (by kernel_rfl) (fun _ _ _ h => h) (Or.inl ⟨by rfl, ?y1_0⟩) (by assumption) ?r1_0
  case y1_0 => (intro w hSw; (try dsimp only at hSw); go_simp; try (with_reducible rfl))
  try simp only [Act.put, List.setIfInBounds_toArray, List.set_cons_zero, List.set_cons_succ]
  refine wpAnyH_take (i := 1) (oi := { dst := some 16, op := Go.Op.move (Go.Operand.tmp 7), type := 3, pos := "l7_lay.go:228", after := #[{ on := 3, ground := Go.Ground.gcOnly Go.Departure.lateStores }], guard := none }) (v := ?v2_1) rfl (by kernel_rfl) (by kernel_rfl) (by kernel_rfl) (fun _ _ _ h => h) (Or.inl ⟨by rfl, ?y2_1⟩) (by assumption) ?r2_1
  case y2_1 => (intro w hSw; (try dsimp only at hSw); go_simp; try (with_reducible rfl))
  try simp only [Act.put, List.setIfInBounds_toArray, List.set_cons_zero, List.set_cons_succ]
  refine wpAnyH_take (i := 2) (oi := { dst := some 17, op := Go.Op.load 34 (Go.Operand.tmp 6), type := 34, pos := "l7_lay.go:228", after := #[{ on := 4, ground := Go.Ground.gcOnly Go.Departure.lateStores }], guard := none }) (v := ?v3_2) rfl (by kernel_rfl) (by kernel_rfl) (by kernel_rfl) (fun _ _ _ h => h) (Or.inl ⟨by rfl, ?y3_2⟩) (by assumption) ?r3_2
  case y3_2 => (intro w hSw; (try dsimp only at hSw); go_simp; try (with_reducible rfl))
  try simp only [Act.put, List.setIfInBounds_toArray, List.set_cons_zero, List.set_cons_succ]
  refine wpAnyH_take (i := 3) (oi := { dst := some 2, op := Go.Op.assign (Go.Operand.tmp 15), type := 32, pos := "l7_lay.go:228", after := #[{ on := 0, ground := Go.Ground.data }, { on := 0, ground := Go.Ground.phase }, { on := 1, ground := Go.Ground.textOnly Go.Departure.lateStores }, { on := 2, ground := Go.Ground.textOnly Go.Departure.lateStores }], guard := none }) (v := ?v4_3) rfl (by kernel_rfl) (by kernel_rfl) (by kernel_rfl) (fun _ _ _ h => h) (Or.inl ⟨by rfl, ?y4_3⟩) (by assumption) ?r4_3
  case y4_3 => (intro w hSw; (try dsimp only at hSw); go_simp; try (with_reducible rfl))
  try simp only [Act.put, List.setIfInBounds_toArray, List.set_cons_zero, List.set_cons_succ]
  refine wpAnyH_take (i := 4) (oi := { dst := some 3, op := Go.Op.assign (Go.Operand.tmp 16), type := 3, pos := "l7_lay.go:228", after := #[{ on := 1, ground := Go.Ground.data }, { on := 3, ground := Go.Ground.chain }, { on := 0, ground := Go.Ground.phase }, { on := 1, ground := Go.Ground.phase }, { on := 2, ground := Go.Ground.textOnly Go.Departure.lateStores }, { on := 3, ground := Go.Ground.phase }], guard := none }) (v := ?v5_4) rfl (by kernel_rfl) (by kernel_rfl) (by kernel_rfl) (fun _ _ _ h => h) (Or.inl ⟨by rfl, ?y5_4⟩) (by assumption) ?r5_4
  case y5_4 => (intro w hSw; (try dsimp only at hSw); go_simp; try (with_reducible rfl))
  try simp only [Act.put, List.setIfInBounds_toArray, List.set_cons_zero, List.set_cons_succ]
  refine wpAnyH_ready (rs := [5]) (by kernel_rfl) (by simp) ?_
  refine AllReadyH.cons (o := { dst := none, op := Go.Op.store 34 (Go.Operand.tmp 4) (Go.Operand.tmp 17), type := 0, pos := "l7_lay.go:228", after := #[{ on := 2, ground := Go.Ground.data }, { on := 4, ground := Go.Ground.chain }, { on := 0, ground := Go.Ground.phase }, { on := 1, ground := Go.Ground.phase }, { on := 2, ground := Go.Ground.phase }, { on := 3, ground := Go.Ground.phase }, { on := 4, ground := Go.Ground.phase }], guard := none }) rfl (fun K hK => ?_) AllReadyH.nil
  have hrN := box2 hz0
  go_simp
  have hLE := hLM.done.put2 (H := w.heap.size) (v0 := .slice na zs.length nc) (v1 := .slice sa st.length sc) (by omega) (Nat.le_refl _) hz0 rfl rfl rfl
  replace hz0 : ((wa.setCell ⟨w.heap.size, 0, none⟩ (.slice na zs.length nc)).setCell ⟨w.heap.size, 1, none⟩ (.slice sa st.length sc)).heap[w.heap.size]? = some (.cells #[.slice na zs.length nc, .slice sa st.length sc] 34) := block_setCell (block_setCell hz0 _) _
  replace hbx : ((wa.setCell ⟨w.heap.size, 0, none⟩ (.slice na zs.length nc)).setCell ⟨w.heap.size, 1, none⟩ (.slice sa st.length sc)).heap[w2.heap.size]? = some (.cells #[.slice na zs.length nc, .slice sa st.length sc] 34) := set_other (set_other hbx (by omega)) (by omega)
  replace hHeld := (box2 hbx).1
  clear hrN hLM
  refine hK.out _ _ hHeld (fun _ => ?_)
  clear hK K
  try simp only [Act.put, List.setIfInBounds_toArray, List.set_cons_zero, List.set_cons_succ]
  generalize ((wa.setCell ⟨w.heap.size, 0, none⟩ (.slice na zs.length nc)).setCell ⟨w.heap.size, 1, none⟩ (.slice sa st.length sc)) = wz at *
  refine wpAnyH_done (by kernel_rfl) ?_ _
  go_wp2_with fail
  have hFb := box2 hz0
  exact bodyPost_ret (v := .tuple #[.slice a fs.length cap, .int .i64 rr, .agg #[.slice na zs.length nc, .slice sa st.length sc]]) (by simp [results, Try.results45, go_sem, hFb]) rfl ⟨a, cap, fs, na, sa, nc, sc, zs, st, rr, rfl, hr0, hr1, ⟨c1, c2, c3, HN.out, d1, d2, d3, d4, HTM.out, hLE.fr, hLE.nr, hLE.tr, hLE.bw⟩⟩
set_option maxHeartbeats 8000000 in
theorem drawLayStone_any (w : World) (a0 : Option Addr) (len0 cap0 : Nat) (hl0 : len0 ≤ cap0) (hm0 : cap0 ≤ maxLen) (hb0 : len0 = 0 ∨ ∃ b off, a0 = some ⟨b, off, none⟩ ∧ b < w.heap.size ∧ ∀ i, i < len0 → ∃ c : Nat, c < 256 ∧ w.cell? ⟨b, off + i, none⟩ = some (.int .u8 c)) :
    Calls Try.prog 42 #[.slice a0 len0 cap0] w (StoneDrawn w) := by
  have Hb := hide hb0
  clear hb0
  have hs0 : True := trivial
  go_enter Try.func42, Try.ntmps42
  go_wp2_with fail
  refine (open_any (w.alloc (.cells #[.slice none 0 0, .slice none 0 0] 34)) _ _ _ hl0 hm0 (bytes_alloc (unhide Hb) _)).mono ?_
  rintro e w1 ⟨rfl, hr, hb1, hz⟩
  have hB1 : Below w.heap.size w w1 := bl_trans (below_alloc1 _ _) hb1
  have hz0 : w1.heap[w.heap.size]? = some (.cells #[.slice none 0 0, .slice none 0 0] 34) := box_below (new_block w _) hb1
  simp only [World.size_alloc] at hr hz ⊢
  clear hb1 Hb
  have HR := hide hr
  clear hr
  go_wp2_with fail
  refine (drawn_any _ (w.heap.size + 1) 0 (unhide HR) (by omega)).mono ?_
  rintro e w2 ⟨a, cap, fs, na, sa, nc, sc, zs, st, rr, p, rfl, hr0, hr1, c1, c2, c3, HN, d1, d2, d3, d4, HTM, hF, hN, hT, hfar, hp, hrd, htu⟩
  have hB2 : Below w.heap.size w w2 := hB1.trans (htu.below (by omega) (by omega))
  replace hz0 := box_turns hz0 htu (by omega)
  have hLM : LM w w2 (w.heap.size + 1) p a fs na sa zs st := ⟨hrd, hB2, by omega, hF, hN, hT, hfar.out.1, hfar.out.2⟩
  have hLN : w2.heap.size ≠ (w.heap.size + 1) := Nat.ne_of_gt (rd_lt hrd)
  have hLR : (w.heap.size + 1) < w2.heap.size := rd_lt hrd
  clear hrd hB2 hF hN hT hfar htu hB1 hz HR
  go_upto_region 3 with fail
  replace hLM := (hLM.below (below_alloc1 w2 (.cells #[.slice na zs.length nc, .slice sa st.length sc] 34))).drew
  have hbx : (w2.alloc (.cells #[.slice na zs.length nc, .slice sa st.length sc] 34)).drew.heap[w2.heap.size]? = some (.cells #[.slice na zs.length nc, .slice sa st.length sc] 34) := new_block w2 (.cells #[.slice na zs.length nc, .slice sa st.length sc] 34)
  skip
  replace hz0 : (w2.alloc (.cells #[.slice na zs.length nc, .slice sa st.length sc] 34)).drew.heap[w.heap.size]? = some (.cells #[.slice none 0 0, .slice none 0 0] 34) := (show (w2.alloc (.cells #[.slice na zs.length nc, .slice sa st.length sc] 34)).heap[w.heap.size]? = some (.cells #[.slice none 0 0, .slice none 0 0] 34) from box_below hz0 (below_alloc1 w2 (.cells #[.slice na zs.length nc, .slice sa st.length sc] 34)))
  have hLne : w2.heap.size ≠ (w.heap.size + 1) := hLN
  have HST : Hid (Stable (fun w' => w'.cell? ⟨w2.heap.size, 0, none⟩ = some (.slice na zs.length nc) ∧ w'.cell? ⟨w2.heap.size, 1, none⟩ = some (.slice sa st.length sc))) := (Stable.cell _ _).and (Stable.cell _ _)
  have HQ : Hid ((w2.alloc (.cells #[.slice na zs.length nc, .slice sa st.length sc] 34)).cell? ⟨w2.heap.size, 0, none⟩ = some (.slice na zs.length nc) ∧ (w2.alloc (.cells #[.slice na zs.length nc, .slice sa st.length sc] 34)).cell? ⟨w2.heap.size, 1, none⟩ = some (.slice sa st.length sc)) := (box2 (new_block w2 (.cells #[.slice na zs.length nc, .slice sa st.length sc] 34))).1
  refine wp_region_held_drew (S := (fun w' => w'.cell? ⟨w2.heap.size, 0, none⟩ = some (.slice na zs.length nc) ∧ w'.cell? ⟨w2.heap.size, 1, none⟩ = some (.slice sa st.length sc))) (by kernel_rfl) ((unhide HST).2 _ (unhide HQ)) (fun hHeld => ?_)
  generalize (w2.alloc (.cells #[.slice na zs.length nc, .slice sa st.length sc] 34)).drew = wa at *
  refine wpAnyH_take (i := 0) (oi := { dst := some 18, op := Go.Op.move (Go.Operand.tmp 7), type := 32, pos := "l7_lay.go:251", after := #[], guard := none }) (v := ?v6_0) rfl (by kernel_rfl) (by kernel_rfl) (by kernel_rfl) (fun _ _ _ h => h) (Or.inl ⟨by rfl, ?y6_0⟩) (by assumption) ?r6_0
  case y6_0 => (intro w hSw; (try dsimp only at hSw); go_simp; try (with_reducible rfl))
  try simp only [Act.put, List.setIfInBounds_toArray, List.set_cons_zero, List.set_cons_succ]
  refine wpAnyH_take (i := 1) (oi := { dst := some 19, op := Go.Op.load 34 (Go.Operand.tmp 8), type := 34, pos := "l7_lay.go:251", after := #[{ on := 11, ground := Go.Ground.gcOnly Go.Departure.lateStores }], guard := none }) (v := ?v7_1) rfl (by kernel_rfl) (by kernel_rfl) (by kernel_rfl) (fun _ _ _ h => h) (Or.inl ⟨by rfl, ?y7_1⟩) (by assumption) ?r7_1
  case y7_1 => (intro w hSw; (try dsimp only at hSw); go_simp; try (with_reducible rfl))
  try simp only [Act.put, List.setIfInBounds_toArray, List.set_cons_zero, List.set_cons_succ]
  refine wpAnyH_take (i := 2) (oi := { dst := some 20, op := Go.Op.move (Go.Operand.tmp 6), type := 107, pos := "l7_lay.go:251", after := #[], guard := none }) (v := ?v8_2) rfl (by kernel_rfl) (by kernel_rfl) (by kernel_rfl) (fun _ _ _ h => h) (Or.inl ⟨by rfl, ?y8_2⟩) (by assumption) ?r8_2
  case y8_2 => (intro w hSw; (try dsimp only at hSw); go_simp; try (with_reducible rfl))
  try simp only [Act.put, List.setIfInBounds_toArray, List.set_cons_zero, List.set_cons_succ]
  refine wpAnyH_take (i := 5) (oi := { dst := some 23, op := Go.Op.move (Go.Operand.tmp 6), type := 107, pos := "l7_lay.go:251", after := #[], guard := none }) (v := ?v9_5) rfl (by kernel_rfl) (by kernel_rfl) (by kernel_rfl) (fun _ _ _ h => h) (Or.inl ⟨by rfl, ?y9_5⟩) (by assumption) ?r9_5
  case y9_5 => (intro w hSw; (try dsimp only at hSw); go_simp; try (with_reducible rfl))
  try simp only [Act.put, List.setIfInBounds_toArray, List.set_cons_zero, List.set_cons_succ]
  refine wpAnyH_take (i := 7) (oi := { dst := some 25, op := Go.Op.move (Go.Operand.tmp 6), type := 107, pos := "l7_lay.go:251", after := #[], guard := none }) (v := ?v10_7) rfl (by kernel_rfl) (by kernel_rfl) (by kernel_rfl) (fun _ _ _ h => h) (Or.inl ⟨by rfl, ?y10_7⟩) (by assumption) ?r10_7
  case y10_7 => (intro w hSw; (try dsimp only at hSw); go_simp; try (with_reducible rfl))
  try simp only [Act.put, List.setIfInBounds_toArray, List.set_cons_zero, List.set_cons_succ]
  refine wpAnyH_ready (rs := [3]) (by kernel_rfl) (by simp) ?_
  refine AllReadyH.cons (o := { dst := some 21, op := Go.Op.call { callee := Go.Callee.value (Go.Operand.func 68), args := #[Go.Operand.tmp 20, Go.Operand.const (Go.Value.int Go.IntKind.i64 5)], argTypes := #[107, 3] }, type := 3, pos := "l7_lay.go:251", after := #[{ on := 2, ground := Go.Ground.data }], guard := none }) rfl (fun K hK => ?_) AllReadyH.nil
  go_simp
  go_at_call 68
  refine (pick_any _ (w.heap.size + 1) _ 5 hLM.rd (by omega) (by first | omega | (rw [IntKind.wrap_i64]; omega))).mono ?_
  rintro e w_v1 ⟨v1, hv1, rfl, hr, ht⟩
  replace hLM := hLM.turns ht hr
  replace hbx := box_turns hbx ht hLne
  replace hz0 := box_turns hz0 ht (by omega)
  replace hHeld := (box2 hbx).1
  clear hr ht
  go_wp2_with fail
  refine hK.out _ _ hHeld (fun _ => ?_)
  clear hK K
  try simp only [Act.put, List.setIfInBounds_toArray, List.set_cons_zero, List.set_cons_succ]
  refine wpAnyH_take (i := 4) (oi := { dst := some 22, op := Go.Op.binOp Go.BinOp.sub 3 (Go.Operand.tmp 21) (Go.Operand.const (Go.Value.int Go.IntKind.i64 1)) 3, type := 3, pos := "l7_lay.go:251", after := #[{ on := 3, ground := Go.Ground.data }, { on := 12, ground := Go.Ground.gcOnly Go.Departure.lateStores }], guard := none }) (v := ?v11_4) rfl (by kernel_rfl) (by kernel_rfl) (by kernel_rfl) (fun _ _ _ h => h) (Or.inl ⟨by rfl, ?y11_4⟩) (by assumption) ?r11_4
  case y11_4 => (intro w hSw; (try dsimp only at hSw); go_simp; try (with_reducible rfl))
  try simp only [Act.put, List.setIfInBounds_toArray, List.set_cons_zero, List.set_cons_succ]
  refine wpAnyH_ready (rs := [6]) (by kernel_rfl) (by simp) ?_
  refine AllReadyH.cons (o := { dst := some 24, op := Go.Op.call { callee := Go.Callee.value (Go.Operand.func 68), args := #[Go.Operand.tmp 23, Go.Operand.const (Go.Value.int Go.IntKind.i64 3)], argTypes := #[107, 3] }, type := 3, pos := "l7_lay.go:251", after := #[{ on := 5, ground := Go.Ground.data }, { on := 3, ground := Go.Ground.chain }], guard := none }) rfl (fun K hK => ?_) AllReadyH.nil
  go_simp
  go_at_call 68
  refine (pick_any _ (w.heap.size + 1) _ 3 hLM.rd (by omega) (by first | omega | (rw [IntKind.wrap_i64]; omega))).mono ?_
  rintro e w_v2 ⟨v2, hv2, rfl, hr, ht⟩
  replace hLM := hLM.turns ht hr
  replace hbx := box_turns hbx ht hLne
  replace hz0 := box_turns hz0 ht (by omega)
  replace hHeld := (box2 hbx).1
  clear hr ht
  go_wp2_with fail
  refine hK.out _ _ hHeld (fun _ => ?_)
  clear hK K
  try simp only [Act.put, List.setIfInBounds_toArray, List.set_cons_zero, List.set_cons_succ]
  refine wpAnyH_ready (rs := [8]) (by kernel_rfl) (by simp) ?_
  refine AllReadyH.cons (o := { dst := some 26, op := Go.Op.call { callee := Go.Callee.value (Go.Operand.func 68), args := #[Go.Operand.tmp 25, Go.Operand.const (Go.Value.int Go.IntKind.i64 9)], argTypes := #[107, 3] }, type := 3, pos := "l7_lay.go:251", after := #[{ on := 7, ground := Go.Ground.data }, { on := 6, ground := Go.Ground.chain }], guard := none }) rfl (fun K hK => ?_) AllReadyH.nil
  go_simp
  go_at_call 68
  refine (pick_any _ (w.heap.size + 1) _ 9 hLM.rd (by omega) (by first | omega | (rw [IntKind.wrap_i64]; omega))).mono ?_
  rintro e w_v3 ⟨v3, hv3, rfl, hr, ht⟩
  replace hLM := hLM.turns ht hr
  replace hbx := box_turns hbx ht hLne
  replace hz0 := box_turns hz0 ht (by omega)
  replace hHeld := (box2 hbx).1
  clear hr ht
  have hqv3 := quo8 v3 hv3
  go_wp2_with fail
  refine hK.out _ _ hHeld (fun _ => ?_)
  clear hK K
  try simp only [Act.put, List.setIfInBounds_toArray, List.set_cons_zero, List.set_cons_succ]
  refine wpAnyH_take (i := 9) (oi := { dst := some 27, op := Go.Op.binOp Go.BinOp.quo 3 (Go.Operand.tmp 26) (Go.Operand.const (Go.Value.int Go.IntKind.i64 8)) 3, type := 3, pos := "l7_lay.go:251", after := #[{ on := 8, ground := Go.Ground.data }, { on := 13, ground := Go.Ground.gcOnly Go.Departure.lateStores }], guard := none }) (v := ?v12_9) rfl (by kernel_rfl) (by kernel_rfl) (by kernel_rfl) (fun _ _ _ h => h) (Or.inl ⟨by rfl, ?y12_9⟩) (by assumption) ?r12_9
  case y12_9 => (intro w hSw; (try dsimp only at hSw); go_simp; try (with_reducible rfl))
  try simp only [Act.put, List.setIfInBounds_toArray, List.set_cons_zero, List.set_cons_succ]
  refine wpAnyH_take (i := 10) (oi := { dst := some 28, op := Go.Op.binOp Go.BinOp.sub 3 (Go.Operand.tmp 24) (Go.Operand.tmp 27) 3, type := 3, pos := "l7_lay.go:251", after := #[{ on := 6, ground := Go.Ground.data }, { on := 9, ground := Go.Ground.data }, { on := 13, ground := Go.Ground.gcOnly Go.Departure.lateStores }], guard := none }) (v := ?v13_10) rfl (by kernel_rfl) (by kernel_rfl) (by kernel_rfl) (fun _ _ _ h => h) (Or.inl ⟨by rfl, ?y13_10⟩) (by assumption) ?r13_10
  case y13_10 => (intro w hSw; (try dsimp only at hSw); go_simp; try (with_reducible rfl))
  try simp only [Act.put, List.setIfInBounds_toArray, List.set_cons_zero, List.set_cons_succ]
  refine wpAnyH_take (i := 11) (oi := { dst := some 2, op := Go.Op.assign (Go.Operand.tmp 18), type := 32, pos := "l7_lay.go:251", after := #[{ on := 0, ground := Go.Ground.data }, { on := 8, ground := Go.Ground.chain }, { on := 0, ground := Go.Ground.phase }, { on := 1, ground := Go.Ground.textOnly Go.Departure.lateStores }, { on := 2, ground := Go.Ground.textOnly Go.Departure.lateStores }, { on := 3, ground := Go.Ground.textOnly Go.Departure.lateStoresUnsure }, { on := 4, ground := Go.Ground.textOnly Go.Departure.lateStores }, { on := 5, ground := Go.Ground.textOnly Go.Departure.lateStores }, { on := 6, ground := Go.Ground.textOnly Go.Departure.lateStoresUnsure }, { on := 7, ground := Go.Ground.textOnly Go.Departure.lateStores }, { on := 8, ground := Go.Ground.textOnly Go.Departure.lateStoresUnsure }, { on := 9, ground := Go.Ground.textOnly Go.Departure.lateStores }, { on := 10, ground := Go.Ground.textOnly Go.Departure.lateStores }], guard := none }) (v := ?v14_11) rfl (by kernel_rfl) (by kernel_rfl) (by kernel_rfl) (fun _ _ _ h => h) (Or.inl ⟨by rfl, ?y14_11⟩) (by assumption) ?r14_11
  case y14_11 => (intro w hSw; (try dsimp only at hSw); go_simp; try (with_reducible rfl))
  try simp only [Act.put, List.setIfInBounds_toArray, List.set_cons_zero, List.set_cons_succ]
  refine wpAnyH_ready (rs := [12]) (by kernel_rfl) (by simp) ?_
  refine AllReadyH.cons (o := { dst := none, op := Go.Op.store 34 (Go.Operand.tmp 3) (Go.Operand.tmp 19), type := 0, pos := "l7_lay.go:251", after := #[{ on := 1, ground := Go.Ground.data }, { on := 11, ground := Go.Ground.chain }, { on := 0, ground := Go.Ground.phase }, { on := 1, ground := Go.Ground.phase }, { on := 2, ground := Go.Ground.textOnly Go.Departure.lateStores }, { on := 3, ground := Go.Ground.textOnly Go.Departure.lateStoresUnsure }, { on := 4, ground := Go.Ground.textOnly Go.Departure.lateStores }, { on := 5, ground := Go.Ground.textOnly Go.Departure.lateStores }, { on := 6, ground := Go.Ground.textOnly Go.Departure.lateStoresUnsure }, { on := 7, ground := Go.Ground.textOnly Go.Departure.lateStores }, { on := 8, ground := Go.Ground.textOnly Go.Departure.lateStoresUnsure }, { on := 9, ground := Go.Ground.textOnly Go.Departure.lateStores }, { on := 10, ground := Go.Ground.textOnly Go.Departure.lateStores }, { on := 11, ground := Go.Ground.phase }], guard := none }) rfl (fun K hK => ?_) AllReadyH.nil
  have hrN := box2 hz0
  go_simp
  have hLE := hLM.done.put2 (H := w.heap.size) (v0 := .slice na zs.length nc) (v1 := .slice sa st.length sc) (by omega) (Nat.le_refl _) hz0 rfl rfl rfl
  replace hz0 : ((w_v3.setCell ⟨w.heap.size, 0, none⟩ (.slice na zs.length nc)).setCell ⟨w.heap.size, 1, none⟩ (.slice sa st.length sc)).heap[w.heap.size]? = some (.cells #[.slice na zs.length nc, .slice sa st.length sc] 34) := block_setCell (block_setCell hz0 _) _
  replace hbx : ((w_v3.setCell ⟨w.heap.size, 0, none⟩ (.slice na zs.length nc)).setCell ⟨w.heap.size, 1, none⟩ (.slice sa st.length sc)).heap[w2.heap.size]? = some (.cells #[.slice na zs.length nc, .slice sa st.length sc] 34) := set_other (set_other hbx (by omega)) (by omega)
  replace hHeld := (box2 hbx).1
  clear hrN hLM
  refine hK.out _ _ hHeld (fun _ => ?_)
  clear hK K
  try simp only [Act.put, List.setIfInBounds_toArray, List.set_cons_zero, List.set_cons_succ]
  generalize ((w_v3.setCell ⟨w.heap.size, 0, none⟩ (.slice na zs.length nc)).setCell ⟨w.heap.size, 1, none⟩ (.slice sa st.length sc)) = wz at *
  refine wpAnyH_take (i := 13) (oi := { dst := some 4, op := Go.Op.assign (Go.Operand.tmp 22), type := 3, pos := "l7_lay.go:251", after := #[{ on := 4, ground := Go.Ground.data }, { on := 12, ground := Go.Ground.chain }, { on := 0, ground := Go.Ground.phase }, { on := 1, ground := Go.Ground.phase }, { on := 2, ground := Go.Ground.phase }, { on := 3, ground := Go.Ground.phase }, { on := 4, ground := Go.Ground.phase }, { on := 5, ground := Go.Ground.textOnly Go.Departure.lateStores }, { on := 6, ground := Go.Ground.textOnly Go.Departure.lateStoresUnsure }, { on := 7, ground := Go.Ground.textOnly Go.Departure.lateStores }, { on := 8, ground := Go.Ground.textOnly Go.Departure.lateStoresUnsure }, { on := 9, ground := Go.Ground.textOnly Go.Departure.lateStores }, { on := 10, ground := Go.Ground.textOnly Go.Departure.lateStores }, { on := 11, ground := Go.Ground.phase }, { on := 12, ground := Go.Ground.phase }], guard := none }) (v := ?v15_13) rfl (by kernel_rfl) (by kernel_rfl) (by kernel_rfl) (fun _ _ _ h => h) (Or.inl ⟨by rfl, ?y15_13⟩) (by assumption) ?r15_13
  case y15_13 => (intro w hSw; (try dsimp only at hSw); go_simp; try (with_reducible rfl))
  try simp only [Act.put, List.setIfInBounds_toArray, List.set_cons_zero, List.set_cons_succ]
  refine wpAnyH_take (i := 14) (oi := { dst := some 5, op := Go.Op.assign (Go.Operand.tmp 28), type := 3, pos := "l7_lay.go:251", after := #[{ on := 10, ground := Go.Ground.data }, { on := 13, ground := Go.Ground.chain }, { on := 0, ground := Go.Ground.phase }, { on := 1, ground := Go.Ground.phase }, { on := 2, ground := Go.Ground.phase }, { on := 3, ground := Go.Ground.phase }, { on := 4, ground := Go.Ground.phase }, { on := 5, ground := Go.Ground.phase }, { on := 6, ground := Go.Ground.phase }, { on := 7, ground := Go.Ground.phase }, { on := 8, ground := Go.Ground.phase }, { on := 9, ground := Go.Ground.phase }, { on := 10, ground := Go.Ground.phase }, { on := 11, ground := Go.Ground.phase }, { on := 12, ground := Go.Ground.phase }, { on := 13, ground := Go.Ground.phase }], guard := none }) (v := ?v16_14) rfl (by kernel_rfl) (by kernel_rfl) (by kernel_rfl) (fun _ _ _ h => h) (Or.inl ⟨by rfl, ?y16_14⟩) (by assumption) ?r16_14
  case y16_14 => (intro w hSw; (try dsimp only at hSw); go_simp; try (with_reducible rfl))
  try simp only [Act.put, List.setIfInBounds_toArray, List.set_cons_zero, List.set_cons_succ]
  refine wpAnyH_done (by kernel_rfl) ?_ _
  go_wp2_with fail
  have eA : IntKind.i64.wrap ((v1 : Int) - 1) = (v1 : Int) - 1 := wrap_small (by omega) (by omega)
  generalize IntKind.i64.wrap ((v1 : Int) - 1) = eAx at *
  have eB_a : IntKind.i64.wrap ((v3 : Int) / 8) = (v3 : Int) / 8 := wrap_small (by omega) (by omega)
  have eB : IntKind.i64.wrap ((v2 : Int) - IntKind.i64.wrap ((v3 : Int) / 8)) = (v2 : Int) - (v3 : Int) / 8 := by rw [eB_a]; exact wrap_small (by omega) (by omega)
  generalize IntKind.i64.wrap ((v2 : Int) - IntKind.i64.wrap ((v3 : Int) / 8)) = eBx at *
  have hFb := box2 hz0
  exact bodyPost_ret (v := .tuple #[.slice a fs.length cap, .agg #[.slice na zs.length nc, .slice sa st.length sc], .int .i64 eAx, .int .i64 eBx]) (by simp [results, Try.results42, go_sem, hFb]) rfl ⟨a, cap, fs, na, sa, nc, sc, zs, st, _, _, rfl, (by omega), (by omega), (by omega), (by omega), ⟨c1, c2, c3, HN.out, d1, d2, d3, d4, HTM.out, hLE.fr, hLE.nr, hLE.tr, hLE.bw⟩⟩
set_option maxHeartbeats 8000000 in
theorem drawMapSpot_any (w : World) (a0 : Option Addr) (len0 cap0 : Nat) (hl0 : len0 ≤ cap0) (hm0 : cap0 ≤ maxLen) (hb0 : len0 = 0 ∨ ∃ b off, a0 = some ⟨b, off, none⟩ ∧ b < w.heap.size ∧ ∀ i, i < len0 → ∃ c : Nat, c < 256 ∧ w.cell? ⟨b, off + i, none⟩ = some (.int .u8 c)) :
    Calls Try.prog 26 #[.slice a0 len0 cap0] w (AtDrawn w) := by
  have Hb := hide hb0
  clear hb0
  have hs0 : True := trivial
  go_enter Try.func26, Try.ntmps26
  go_wp2_with fail
  refine (open_any (w.alloc (.cells #[.slice none 0 0, .slice none 0 0] 34)) _ _ _ hl0 hm0 (bytes_alloc (unhide Hb) _)).mono ?_
  rintro e w1 ⟨rfl, hr, hb1, hz⟩
  have hB1 : Below w.heap.size w w1 := bl_trans (below_alloc1 _ _) hb1
  have hz0 : w1.heap[w.heap.size]? = some (.cells #[.slice none 0 0, .slice none 0 0] 34) := box_below (new_block w _) hb1
  simp only [World.size_alloc] at hr hz ⊢
  clear hb1 Hb
  have HR := hide hr
  clear hr
  go_wp2_with fail
  refine (drawn_any _ (w.heap.size + 1) 0 (unhide HR) (by omega)).mono ?_
  rintro e w2 ⟨a, cap, fs, na, sa, nc, sc, zs, st, rr, p, rfl, hr0, hr1, c1, c2, c3, HN, d1, d2, d3, d4, HTM, hF, hN, hT, hfar, hp, hrd, htu⟩
  have hB2 : Below w.heap.size w w2 := hB1.trans (htu.below (by omega) (by omega))
  replace hz0 := box_turns hz0 htu (by omega)
  have hLM : LM w w2 (w.heap.size + 1) p a fs na sa zs st := ⟨hrd, hB2, by omega, hF, hN, hT, hfar.out.1, hfar.out.2⟩
  have hLN : w2.heap.size ≠ (w.heap.size + 1) := Nat.ne_of_gt (rd_lt hrd)
  have hLR : (w.heap.size + 1) < w2.heap.size := rd_lt hrd
  clear hrd hB2 hF hN hT hfar htu hB1 hz HR
  go_upto_region 3 with fail
  replace hLM := (hLM.below (below_alloc1 w2 (.cells #[.slice na zs.length nc, .slice sa st.length sc] 34))).drew
  have hbx : (w2.alloc (.cells #[.slice na zs.length nc, .slice sa st.length sc] 34)).drew.heap[w2.heap.size]? = some (.cells #[.slice na zs.length nc, .slice sa st.length sc] 34) := new_block w2 (.cells #[.slice na zs.length nc, .slice sa st.length sc] 34)
  skip
  replace hz0 : (w2.alloc (.cells #[.slice na zs.length nc, .slice sa st.length sc] 34)).drew.heap[w.heap.size]? = some (.cells #[.slice none 0 0, .slice none 0 0] 34) := (show (w2.alloc (.cells #[.slice na zs.length nc, .slice sa st.length sc] 34)).heap[w.heap.size]? = some (.cells #[.slice none 0 0, .slice none 0 0] 34) from box_below hz0 (below_alloc1 w2 (.cells #[.slice na zs.length nc, .slice sa st.length sc] 34)))
  have hLne : w2.heap.size ≠ (w.heap.size + 1) := hLN
  have HST : Hid (Stable (fun w' => w'.cell? ⟨w2.heap.size, 0, none⟩ = some (.slice na zs.length nc) ∧ w'.cell? ⟨w2.heap.size, 1, none⟩ = some (.slice sa st.length sc))) := (Stable.cell _ _).and (Stable.cell _ _)
  have HQ : Hid ((w2.alloc (.cells #[.slice na zs.length nc, .slice sa st.length sc] 34)).cell? ⟨w2.heap.size, 0, none⟩ = some (.slice na zs.length nc) ∧ (w2.alloc (.cells #[.slice na zs.length nc, .slice sa st.length sc] 34)).cell? ⟨w2.heap.size, 1, none⟩ = some (.slice sa st.length sc)) := (box2 (new_block w2 (.cells #[.slice na zs.length nc, .slice sa st.length sc] 34))).1
  refine wp_region_held_drew (S := (fun w' => w'.cell? ⟨w2.heap.size, 0, none⟩ = some (.slice na zs.length nc) ∧ w'.cell? ⟨w2.heap.size, 1, none⟩ = some (.slice sa st.length sc))) (by kernel_rfl) ((unhide HST).2 _ (unhide HQ)) (fun hHeld => ?_)
  generalize (w2.alloc (.cells #[.slice na zs.length nc, .slice sa st.length sc] 34)).drew = wa at *
  refine wpAnyH_take (i := 0) (oi := { dst := some 17, op := Go.Op.move (Go.Operand.tmp 6), type := 32, pos := "l9_map.go:62", after := #[], guard := none }) (v := ?v17_0) rfl (by kernel_rfl) (by kernel_rfl) (by kernel_rfl) (fun _ _ _ h => h) (Or.inl ⟨by rfl, ?y17_0⟩) (by assumption) ?r17_0
  case y17_0 => (intro w hSw; (try dsimp only at hSw); go_simp; try (with_reducible rfl))
  try simp only [Act.put, List.setIfInBounds_toArray, List.set_cons_zero, List.set_cons_succ]
  refine wpAnyH_take (i := 1) (oi := { dst := some 18, op := Go.Op.load 34 (Go.Operand.tmp 7), type := 34, pos := "l9_map.go:62", after := #[{ on := 12, ground := Go.Ground.gcOnly Go.Departure.lateStores }], guard := none }) (v := ?v18_1) rfl (by kernel_rfl) (by kernel_rfl) (by kernel_rfl) (fun _ _ _ h => h) (Or.inl ⟨by rfl, ?y18_1⟩) (by assumption) ?r18_1
  case y18_1 => (intro w hSw; (try dsimp only at hSw); go_simp; try (with_reducible rfl))
  try simp only [Act.put, List.setIfInBounds_toArray, List.set_cons_zero, List.set_cons_succ]
  refine wpAnyH_take (i := 2) (oi := { dst := some 19, op := Go.Op.move (Go.Operand.tmp 5), type := 107, pos := "l9_map.go:62", after := #[], guard := none }) (v := ?v19_2) rfl (by kernel_rfl) (by kernel_rfl) (by kernel_rfl) (fun _ _ _ h => h) (Or.inl ⟨by rfl, ?y19_2⟩) (by assumption) ?r19_2
  case y19_2 => (intro w hSw; (try dsimp only at hSw); go_simp; try (with_reducible rfl))
  try simp only [Act.put, List.setIfInBounds_toArray, List.set_cons_zero, List.set_cons_succ]
  refine wpAnyH_take (i := 3) (oi := { dst := some 20, op := Go.Op.move (Go.Operand.tmp 6), type := 32, pos := "l9_map.go:62", after := #[], guard := none }) (v := ?v20_3) rfl (by kernel_rfl) (by kernel_rfl) (by kernel_rfl) (fun _ _ _ h => h) (Or.inl ⟨by rfl, ?y20_3⟩) (by assumption) ?r20_3
  case y20_3 => (intro w hSw; (try dsimp only at hSw); go_simp; try (with_reducible rfl))
  try simp only [Act.put, List.setIfInBounds_toArray, List.set_cons_zero, List.set_cons_succ]
  refine wpAnyH_take (i := 4) (oi := { dst := some 21, op := Go.Op.load 34 (Go.Operand.tmp 7), type := 34, pos := "l9_map.go:62", after := #[], guard := none }) (v := ?v21_4) rfl (by kernel_rfl) (by kernel_rfl) (by kernel_rfl) (fun _ _ _ h => h) (Or.inl ⟨by rfl, ?y21_4⟩) (by assumption) ?r21_4
  case y21_4 => (intro w hSw; (try dsimp only at hSw); go_simp; try (with_reducible rfl))
  try simp only [Act.put, List.setIfInBounds_toArray, List.set_cons_zero, List.set_cons_succ]
  refine wpAnyH_take (i := 8) (oi := { dst := some 25, op := Go.Op.move (Go.Operand.tmp 5), type := 107, pos := "l9_map.go:62", after := #[], guard := none }) (v := ?v22_8) rfl (by kernel_rfl) (by kernel_rfl) (by kernel_rfl) (fun _ _ _ h => h) (Or.inl ⟨by rfl, ?y22_8⟩) (by assumption) ?r22_8
  case y22_8 => (intro w hSw; (try dsimp only at hSw); go_simp; try (with_reducible rfl))
  try simp only [Act.put, List.setIfInBounds_toArray, List.set_cons_zero, List.set_cons_succ]
  refine wpAnyH_ready (rs := [5]) (by kernel_rfl) (by simp) ?_
  refine AllReadyH.cons (o := { dst := some 22, op := Go.Op.call { callee := Go.Callee.value (Go.Operand.func 44), args := #[Go.Operand.tmp 20, Go.Operand.tmp 21], argTypes := #[32, 34] }, type := 3, pos := "l9_map.go:62", after := #[{ on := 3, ground := Go.Ground.data }, { on := 4, ground := Go.Ground.data }], guard := none }) rfl (fun K hK => ?_) AllReadyH.nil
  go_simp
  go_at_call 44
  refine (specLaySize_any a cap fs na sa nc sc zs st _ c1 c2 d1 d2 d3 d4 HTM.out.few hLM.fr hLM.nr hLM.tr).mono ?_
  rintro e w_z ⟨rfl, hbk⟩
  replace hLM := hLM.below hbk
  replace hbx := box_below hbx hbk
  replace hz0 := box_below hz0 hbk
  replace hHeld := (box2 hbx).1
  clear hbk
  obtain ⟨zz, hzz, hzz1⟩ := size_small (fs := fs) HTM.out
  rw [hzz]
  clear hzz
  go_wp2_with fail
  refine hK.out _ _ hHeld (fun _ => ?_)
  clear hK K
  try simp only [Act.put, List.setIfInBounds_toArray, List.set_cons_zero, List.set_cons_succ]
  refine wpAnyH_take (i := 6) (oi := { dst := some 23, op := Go.Op.binOp Go.BinOp.add 3 (Go.Operand.tmp 22) (Go.Operand.const (Go.Value.int Go.IntKind.i64 2)) 3, type := 3, pos := "l9_map.go:62", after := #[{ on := 5, ground := Go.Ground.data }], guard := none }) (v := ?v23_6) rfl (by kernel_rfl) (by kernel_rfl) (by kernel_rfl) (fun _ _ _ h => h) (Or.inl ⟨by rfl, ?y23_6⟩) (by assumption) ?r23_6
  case y23_6 => (intro w hSw; (try dsimp only at hSw); go_simp; try (with_reducible rfl))
  try simp only [Act.put, List.setIfInBounds_toArray, List.set_cons_zero, List.set_cons_succ]
  refine wpAnyH_ready (rs := [7]) (by kernel_rfl) (by simp) ?_
  refine AllReadyH.cons (o := { dst := some 24, op := Go.Op.call { callee := Go.Callee.value (Go.Operand.func 68), args := #[Go.Operand.tmp 19, Go.Operand.tmp 23], argTypes := #[107, 3] }, type := 3, pos := "l9_map.go:62", after := #[{ on := 2, ground := Go.Ground.data }, { on := 6, ground := Go.Ground.data }, { on := 5, ground := Go.Ground.chain }], guard := none }) rfl (fun K hK => ?_) AllReadyH.nil
  go_simp
  go_at_call 68
  refine (pick_any _ (w.heap.size + 1) _ _ hLM.rd (by omega) (by first | omega | (rw [IntKind.wrap_i64]; omega))).mono ?_
  rintro e w_v1 ⟨v1, hv1, rfl, hr, ht⟩
  rw [IntKind.wrap_i64] at hv1
  replace hLM := hLM.turns ht hr
  replace hbx := box_turns hbx ht hLne
  replace hz0 := box_turns hz0 ht (by omega)
  replace hHeld := (box2 hbx).1
  clear hr ht
  go_wp2_with fail
  refine hK.out _ _ hHeld (fun _ => ?_)
  clear hK K
  try simp only [Act.put, List.setIfInBounds_toArray, List.set_cons_zero, List.set_cons_succ]
  refine wpAnyH_ready (rs := [9]) (by kernel_rfl) (by simp) ?_
  refine AllReadyH.cons (o := { dst := some 26, op := Go.Op.call { callee := Go.Callee.value (Go.Operand.func 68), args := #[Go.Operand.tmp 25, Go.Operand.const (Go.Value.int Go.IntKind.i64 9)], argTypes := #[107, 3] }, type := 3, pos := "l9_map.go:62", after := #[{ on := 8, ground := Go.Ground.data }, { on := 7, ground := Go.Ground.chain }], guard := none }) rfl (fun K hK => ?_) AllReadyH.nil
  go_simp
  go_at_call 68
  refine (pick_any _ (w.heap.size + 1) _ 9 hLM.rd (by omega) (by first | omega | (rw [IntKind.wrap_i64]; omega))).mono ?_
  rintro e w_v2 ⟨v2, hv2, rfl, hr, ht⟩
  replace hLM := hLM.turns ht hr
  replace hbx := box_turns hbx ht hLne
  replace hz0 := box_turns hz0 ht (by omega)
  replace hHeld := (box2 hbx).1
  clear hr ht
  have hqv2 := quo8 v2 hv2
  go_wp2_with fail
  refine hK.out _ _ hHeld (fun _ => ?_)
  clear hK K
  try simp only [Act.put, List.setIfInBounds_toArray, List.set_cons_zero, List.set_cons_succ]
  refine wpAnyH_take (i := 10) (oi := { dst := some 27, op := Go.Op.binOp Go.BinOp.quo 3 (Go.Operand.tmp 26) (Go.Operand.const (Go.Value.int Go.IntKind.i64 8)) 3, type := 3, pos := "l9_map.go:62", after := #[{ on := 9, ground := Go.Ground.data }, { on := 13, ground := Go.Ground.gcOnly Go.Departure.lateStores }], guard := none }) (v := ?v24_10) rfl (by kernel_rfl) (by kernel_rfl) (by kernel_rfl) (fun _ _ _ h => h) (Or.inl ⟨by rfl, ?y24_10⟩) (by assumption) ?r24_10
  case y24_10 => (intro w hSw; (try dsimp only at hSw); go_simp; try (with_reducible rfl))
  try simp only [Act.put, List.setIfInBounds_toArray, List.set_cons_zero, List.set_cons_succ]
  refine wpAnyH_take (i := 11) (oi := { dst := some 28, op := Go.Op.binOp Go.BinOp.sub 3 (Go.Operand.tmp 24) (Go.Operand.tmp 27) 3, type := 3, pos := "l9_map.go:62", after := #[{ on := 7, ground := Go.Ground.data }, { on := 10, ground := Go.Ground.data }, { on := 13, ground := Go.Ground.gcOnly Go.Departure.lateStores }], guard := none }) (v := ?v25_11) rfl (by kernel_rfl) (by kernel_rfl) (by kernel_rfl) (fun _ _ _ h => h) (Or.inl ⟨by rfl, ?y25_11⟩) (by assumption) ?r25_11
  case y25_11 => (intro w hSw; (try dsimp only at hSw); go_simp; try (with_reducible rfl))
  try simp only [Act.put, List.setIfInBounds_toArray, List.set_cons_zero, List.set_cons_succ]
  refine wpAnyH_take (i := 12) (oi := { dst := some 2, op := Go.Op.assign (Go.Operand.tmp 17), type := 32, pos := "l9_map.go:62", after := #[{ on := 0, ground := Go.Ground.data }, { on := 9, ground := Go.Ground.chain }, { on := 0, ground := Go.Ground.phase }, { on := 1, ground := Go.Ground.textOnly Go.Departure.lateStores }, { on := 2, ground := Go.Ground.textOnly Go.Departure.lateStores }, { on := 3, ground := Go.Ground.textOnly Go.Departure.lateStores }, { on := 4, ground := Go.Ground.textOnly Go.Departure.lateStores }, { on := 5, ground := Go.Ground.textOnly Go.Departure.lateStoresUnsure }, { on := 6, ground := Go.Ground.textOnly Go.Departure.lateStores }, { on := 7, ground := Go.Ground.textOnly Go.Departure.lateStoresUnsure }, { on := 8, ground := Go.Ground.textOnly Go.Departure.lateStores }, { on := 9, ground := Go.Ground.textOnly Go.Departure.lateStoresUnsure }, { on := 10, ground := Go.Ground.textOnly Go.Departure.lateStores }, { on := 11, ground := Go.Ground.textOnly Go.Departure.lateStores }], guard := none }) (v := ?v26_12) rfl (by kernel_rfl) (by kernel_rfl) (by kernel_rfl) (fun _ _ _ h => h) (Or.inl ⟨by rfl, ?y26_12⟩) (by assumption) ?r26_12
  case y26_12 => (intro w hSw; (try dsimp only at hSw); go_simp; try (with_reducible rfl))
  try simp only [Act.put, List.setIfInBounds_toArray, List.set_cons_zero, List.set_cons_succ]
  refine wpAnyH_ready (rs := [13]) (by kernel_rfl) (by simp) ?_
  refine AllReadyH.cons (o := { dst := none, op := Go.Op.store 34 (Go.Operand.tmp 3) (Go.Operand.tmp 18), type := 0, pos := "l9_map.go:62", after := #[{ on := 1, ground := Go.Ground.data }, { on := 12, ground := Go.Ground.chain }, { on := 0, ground := Go.Ground.phase }, { on := 1, ground := Go.Ground.phase }, { on := 2, ground := Go.Ground.textOnly Go.Departure.lateStores }, { on := 3, ground := Go.Ground.textOnly Go.Departure.lateStores }, { on := 4, ground := Go.Ground.textOnly Go.Departure.lateStores }, { on := 5, ground := Go.Ground.textOnly Go.Departure.lateStoresUnsure }, { on := 6, ground := Go.Ground.textOnly Go.Departure.lateStores }, { on := 7, ground := Go.Ground.textOnly Go.Departure.lateStoresUnsure }, { on := 8, ground := Go.Ground.textOnly Go.Departure.lateStores }, { on := 9, ground := Go.Ground.textOnly Go.Departure.lateStoresUnsure }, { on := 10, ground := Go.Ground.textOnly Go.Departure.lateStores }, { on := 11, ground := Go.Ground.textOnly Go.Departure.lateStores }, { on := 12, ground := Go.Ground.phase }], guard := none }) rfl (fun K hK => ?_) AllReadyH.nil
  have hrN := box2 hz0
  go_simp
  have hLE := hLM.done.put2 (H := w.heap.size) (v0 := .slice na zs.length nc) (v1 := .slice sa st.length sc) (by omega) (Nat.le_refl _) hz0 rfl rfl rfl
  replace hz0 : ((w_v2.setCell ⟨w.heap.size, 0, none⟩ (.slice na zs.length nc)).setCell ⟨w.heap.size, 1, none⟩ (.slice sa st.length sc)).heap[w.heap.size]? = some (.cells #[.slice na zs.length nc, .slice sa st.length sc] 34) := block_setCell (block_setCell hz0 _) _
  replace hbx : ((w_v2.setCell ⟨w.heap.size, 0, none⟩ (.slice na zs.length nc)).setCell ⟨w.heap.size, 1, none⟩ (.slice sa st.length sc)).heap[w2.heap.size]? = some (.cells #[.slice na zs.length nc, .slice sa st.length sc] 34) := set_other (set_other hbx (by omega)) (by omega)
  replace hHeld := (box2 hbx).1
  clear hrN hLM
  refine hK.out _ _ hHeld (fun _ => ?_)
  clear hK K
  try simp only [Act.put, List.setIfInBounds_toArray, List.set_cons_zero, List.set_cons_succ]
  generalize ((w_v2.setCell ⟨w.heap.size, 0, none⟩ (.slice na zs.length nc)).setCell ⟨w.heap.size, 1, none⟩ (.slice sa st.length sc)) = wz at *
  refine wpAnyH_take (i := 14) (oi := { dst := some 4, op := Go.Op.assign (Go.Operand.tmp 28), type := 3, pos := "l9_map.go:62", after := #[{ on := 11, ground := Go.Ground.data }, { on := 13, ground := Go.Ground.chain }, { on := 0, ground := Go.Ground.phase }, { on := 1, ground := Go.Ground.phase }, { on := 2, ground := Go.Ground.phase }, { on := 3, ground := Go.Ground.phase }, { on := 4, ground := Go.Ground.phase }, { on := 5, ground := Go.Ground.phase }, { on := 6, ground := Go.Ground.phase }, { on := 7, ground := Go.Ground.phase }, { on := 8, ground := Go.Ground.phase }, { on := 9, ground := Go.Ground.phase }, { on := 10, ground := Go.Ground.phase }, { on := 11, ground := Go.Ground.phase }, { on := 12, ground := Go.Ground.phase }, { on := 13, ground := Go.Ground.phase }], guard := none }) (v := ?v27_14) rfl (by kernel_rfl) (by kernel_rfl) (by kernel_rfl) (fun _ _ _ h => h) (Or.inl ⟨by rfl, ?y27_14⟩) (by assumption) ?r27_14
  case y27_14 => (intro w hSw; (try dsimp only at hSw); go_simp; try (with_reducible rfl))
  try simp only [Act.put, List.setIfInBounds_toArray, List.set_cons_zero, List.set_cons_succ]
  refine wpAnyH_done (by kernel_rfl) ?_ _
  go_wp2_with fail
  have eB_a : IntKind.i64.wrap ((v2 : Int) / 8) = (v2 : Int) / 8 := wrap_small (by omega) (by omega)
  have eB : IntKind.i64.wrap ((v1 : Int) - IntKind.i64.wrap ((v2 : Int) / 8)) = (v1 : Int) - (v2 : Int) / 8 := by rw [eB_a]; exact wrap_small (by omega) (by omega)
  generalize IntKind.i64.wrap ((v1 : Int) - IntKind.i64.wrap ((v2 : Int) / 8)) = eBx at *
  have hFb := box2 hz0
  exact bodyPost_ret (v := .tuple #[.slice a fs.length cap, .agg #[.slice na zs.length nc, .slice sa st.length sc], .int .i64 eBx]) (by simp [results, Try.results26, go_sem, hFb]) rfl ⟨a, cap, fs, na, sa, nc, sc, zs, st, _, rfl, (by omega), (by omega), ⟨c1, c2, c3, HN.out, d1, d2, d3, d4, HTM.out, hLE.fr, hLE.nr, hLE.tr, hLE.bw⟩⟩
set_option maxHeartbeats 8000000 in
theorem drawMapAt_any (w : World) (a0 : Option Addr) (len0 cap0 : Nat) (hl0 : len0 ≤ cap0) (hm0 : cap0 ≤ maxLen) (hb0 : len0 = 0 ∨ ∃ b off, a0 = some ⟨b, off, none⟩ ∧ b < w.heap.size ∧ ∀ i, i < len0 → ∃ c : Nat, c < 256 ∧ w.cell? ⟨b, off + i, none⟩ = some (.int .u8 c)) :
    Calls Try.prog 24 #[.slice a0 len0 cap0] w (SpotDrawn w) := by
  have Hb := hide hb0
  clear hb0
  have hs0 : True := trivial
  have hs1 : True := trivial
  go_enter Try.func24, Try.ntmps24
  go_wp2_with fail
  refine (open_any ((w.alloc (.cells #[.slice none 0 0, .slice none 0 0] 34)).alloc (.cells #[.int .i64 0, .int .i64 0] 36)) _ _ _ hl0 hm0 (bytes_alloc (bytes_alloc (unhide Hb) _) _)).mono ?_
  rintro e w1 ⟨rfl, hr, hb1, hz⟩
  have hB1 : Below w.heap.size w w1 := bl_trans (below_alloc2 _ _ _) hb1
  have hz0 : w1.heap[w.heap.size]? = some (.cells #[.slice none 0 0, .slice none 0 0] 34) := box_below (box_below (new_block w _) (below_alloc1 _ _)) hb1
  have hz1 : w1.heap[w.heap.size + 1]? = some (.cells #[.int .i64 0, .int .i64 0] 36) := box_below (by have h := new_block (w.alloc (.cells #[.slice none 0 0, .slice none 0 0] 34)) (.cells #[.int .i64 0, .int .i64 0] 36); rw [World.size_alloc] at h; exact h) hb1
  simp only [World.size_alloc] at hr hz ⊢
  clear hb1 Hb
  have HR := hide hr
  clear hr
  go_wp2_with fail
  refine (drawn_any _ (w.heap.size + 1 + 1) 0 (unhide HR) (by omega)).mono ?_
  rintro e w2 ⟨a, cap, fs, na, sa, nc, sc, zs, st, rr, p, rfl, hr0, hr1, c1, c2, c3, HN, d1, d2, d3, d4, HTM, hF, hN, hT, hfar, hp, hrd, htu⟩
  have hB2 : Below w.heap.size w w2 := hB1.trans (htu.below (by omega) (by omega))
  replace hz0 := box_turns hz0 htu (by omega)
  replace hz1 := box_turns hz1 htu (by omega)
  have hLM : LM w w2 (w.heap.size + 1 + 1) p a fs na sa zs st := ⟨hrd, hB2, by omega, hF, hN, hT, hfar.out.1, hfar.out.2⟩
  have hLN : w2.heap.size ≠ (w.heap.size + 1 + 1) := Nat.ne_of_gt (rd_lt hrd)
  have hLR : (w.heap.size + 1 + 1) < w2.heap.size := rd_lt hrd
  clear hrd hB2 hF hN hT hfar htu hB1 hz HR
  go_upto_region 3 with fail
  replace hLM := (hLM.below (below_alloc1 w2 (.cells #[.slice na zs.length nc, .slice sa st.length sc] 34))).drew
  have hbx : (w2.alloc (.cells #[.slice na zs.length nc, .slice sa st.length sc] 34)).drew.heap[w2.heap.size]? = some (.cells #[.slice na zs.length nc, .slice sa st.length sc] 34) := new_block w2 (.cells #[.slice na zs.length nc, .slice sa st.length sc] 34)
  skip
  replace hz0 : (w2.alloc (.cells #[.slice na zs.length nc, .slice sa st.length sc] 34)).drew.heap[w.heap.size]? = some (.cells #[.slice none 0 0, .slice none 0 0] 34) := (show (w2.alloc (.cells #[.slice na zs.length nc, .slice sa st.length sc] 34)).heap[w.heap.size]? = some (.cells #[.slice none 0 0, .slice none 0 0] 34) from box_below hz0 (below_alloc1 w2 (.cells #[.slice na zs.length nc, .slice sa st.length sc] 34)))
  replace hz1 : (w2.alloc (.cells #[.slice na zs.length nc, .slice sa st.length sc] 34)).drew.heap[w.heap.size + 1]? = some (.cells #[.int .i64 0, .int .i64 0] 36) := (show (w2.alloc (.cells #[.slice na zs.length nc, .slice sa st.length sc] 34)).heap[w.heap.size + 1]? = some (.cells #[.int .i64 0, .int .i64 0] 36) from box_below hz1 (below_alloc1 w2 (.cells #[.slice na zs.length nc, .slice sa st.length sc] 34)))
  have hLne : w2.heap.size ≠ (w.heap.size + 1 + 1) := hLN
  have HST : Hid (Stable (fun w' => w'.cell? ⟨w2.heap.size, 0, none⟩ = some (.slice na zs.length nc) ∧ w'.cell? ⟨w2.heap.size, 1, none⟩ = some (.slice sa st.length sc))) := (Stable.cell _ _).and (Stable.cell _ _)
  have HQ : Hid ((w2.alloc (.cells #[.slice na zs.length nc, .slice sa st.length sc] 34)).cell? ⟨w2.heap.size, 0, none⟩ = some (.slice na zs.length nc) ∧ (w2.alloc (.cells #[.slice na zs.length nc, .slice sa st.length sc] 34)).cell? ⟨w2.heap.size, 1, none⟩ = some (.slice sa st.length sc)) := (box2 (new_block w2 (.cells #[.slice na zs.length nc, .slice sa st.length sc] 34))).1
  refine wp_region_held_drew (S := (fun w' => w'.cell? ⟨w2.heap.size, 0, none⟩ = some (.slice na zs.length nc) ∧ w'.cell? ⟨w2.heap.size, 1, none⟩ = some (.slice sa st.length sc))) (by kernel_rfl) ((unhide HST).2 _ (unhide HQ)) (fun hHeld => ?_)
  generalize (w2.alloc (.cells #[.slice na zs.length nc, .slice sa st.length sc] 34)).drew = wa at *
  refine wpAnyH_take (i := 0) (oi := { dst := some 17, op := Go.Op.move (Go.Operand.tmp 6), type := 32, pos := "l9_map.go:55", after := #[], guard := none }) (v := ?v28_0) rfl (by kernel_rfl) (by kernel_rfl) (by kernel_rfl) (fun _ _ _ h => h) (Or.inl ⟨by rfl, ?y28_0⟩) (by assumption) ?r28_0
  case y28_0 => (intro w hSw; (try dsimp only at hSw); go_simp; try (with_reducible rfl))
  try simp only [Act.put, List.setIfInBounds_toArray, List.set_cons_zero, List.set_cons_succ]
  refine wpAnyH_take (i := 1) (oi := { dst := some 18, op := Go.Op.load 34 (Go.Operand.tmp 7), type := 34, pos := "l9_map.go:55", after := #[{ on := 15, ground := Go.Ground.gcOnly Go.Departure.lateStores }], guard := none }) (v := ?v29_1) rfl (by kernel_rfl) (by kernel_rfl) (by kernel_rfl) (fun _ _ _ h => h) (Or.inl ⟨by rfl, ?y29_1⟩) (by assumption) ?r29_1
  case y29_1 => (intro w hSw; (try dsimp only at hSw); go_simp; try (with_reducible rfl))
  try simp only [Act.put, List.setIfInBounds_toArray, List.set_cons_zero, List.set_cons_succ]
  refine wpAnyH_take (i := 2) (oi := { dst := some 19, op := Go.Op.move (Go.Operand.tmp 5), type := 107, pos := "l9_map.go:55", after := #[], guard := none }) (v := ?v30_2) rfl (by kernel_rfl) (by kernel_rfl) (by kernel_rfl) (fun _ _ _ h => h) (Or.inl ⟨by rfl, ?y30_2⟩) (by assumption) ?r30_2
  case y30_2 => (intro w hSw; (try dsimp only at hSw); go_simp; try (with_reducible rfl))
  try simp only [Act.put, List.setIfInBounds_toArray, List.set_cons_zero, List.set_cons_succ]
  refine wpAnyH_take (i := 4) (oi := { dst := some 21, op := Go.Op.move (Go.Operand.tmp 5), type := 107, pos := "l9_map.go:55", after := #[], guard := none }) (v := ?v31_4) rfl (by kernel_rfl) (by kernel_rfl) (by kernel_rfl) (fun _ _ _ h => h) (Or.inl ⟨by rfl, ?y31_4⟩) (by assumption) ?r31_4
  case y31_4 => (intro w hSw; (try dsimp only at hSw); go_simp; try (with_reducible rfl))
  try simp only [Act.put, List.setIfInBounds_toArray, List.set_cons_zero, List.set_cons_succ]
  refine wpAnyH_take (i := 8) (oi := { dst := some 25, op := Go.Op.move (Go.Operand.tmp 5), type := 107, pos := "l9_map.go:55", after := #[], guard := none }) (v := ?v32_8) rfl (by kernel_rfl) (by kernel_rfl) (by kernel_rfl) (fun _ _ _ h => h) (Or.inl ⟨by rfl, ?y32_8⟩) (by assumption) ?r32_8
  case y32_8 => (intro w hSw; (try dsimp only at hSw); go_simp; try (with_reducible rfl))
  try simp only [Act.put, List.setIfInBounds_toArray, List.set_cons_zero, List.set_cons_succ]
  refine wpAnyH_take (i := 10) (oi := { dst := some 27, op := Go.Op.move (Go.Operand.tmp 5), type := 107, pos := "l9_map.go:55", after := #[], guard := none }) (v := ?v33_10) rfl (by kernel_rfl) (by kernel_rfl) (by kernel_rfl) (fun _ _ _ h => h) (Or.inl ⟨by rfl, ?y33_10⟩) (by assumption) ?r33_10
  case y33_10 => (intro w hSw; (try dsimp only at hSw); go_simp; try (with_reducible rfl))
  try simp only [Act.put, List.setIfInBounds_toArray, List.set_cons_zero, List.set_cons_succ]
  refine wpAnyH_ready (rs := [3]) (by kernel_rfl) (by simp) ?_
  refine AllReadyH.cons (o := { dst := some 20, op := Go.Op.call { callee := Go.Callee.value (Go.Operand.func 68), args := #[Go.Operand.tmp 19, Go.Operand.const (Go.Value.int Go.IntKind.i64 5)], argTypes := #[107, 3] }, type := 3, pos := "l9_map.go:55", after := #[{ on := 2, ground := Go.Ground.data }], guard := none }) rfl (fun K hK => ?_) AllReadyH.nil
  go_simp
  go_at_call 68
  refine (pick_any _ (w.heap.size + 1 + 1) _ 5 hLM.rd (by omega) (by first | omega | (rw [IntKind.wrap_i64]; omega))).mono ?_
  rintro e w_v1 ⟨v1, hv1, rfl, hr, ht⟩
  replace hLM := hLM.turns ht hr
  replace hbx := box_turns hbx ht hLne
  replace hz0 := box_turns hz0 ht (by omega)
  replace hz1 := box_turns hz1 ht (by omega)
  replace hHeld := (box2 hbx).1
  clear hr ht
  go_wp2_with fail
  refine hK.out _ _ hHeld (fun _ => ?_)
  clear hK K
  try simp only [Act.put, List.setIfInBounds_toArray, List.set_cons_zero, List.set_cons_succ]
  refine wpAnyH_ready (rs := [5]) (by kernel_rfl) (by simp) ?_
  refine AllReadyH.cons (o := { dst := some 22, op := Go.Op.call { callee := Go.Callee.value (Go.Operand.func 68), args := #[Go.Operand.tmp 21, Go.Operand.const (Go.Value.int Go.IntKind.i64 9)], argTypes := #[107, 3] }, type := 3, pos := "l9_map.go:55", after := #[{ on := 4, ground := Go.Ground.data }, { on := 3, ground := Go.Ground.chain }], guard := none }) rfl (fun K hK => ?_) AllReadyH.nil
  go_simp
  go_at_call 68
  refine (pick_any _ (w.heap.size + 1 + 1) _ 9 hLM.rd (by omega) (by first | omega | (rw [IntKind.wrap_i64]; omega))).mono ?_
  rintro e w_v2 ⟨v2, hv2, rfl, hr, ht⟩
  replace hLM := hLM.turns ht hr
  replace hbx := box_turns hbx ht hLne
  replace hz0 := box_turns hz0 ht (by omega)
  replace hz1 := box_turns hz1 ht (by omega)
  replace hHeld := (box2 hbx).1
  clear hr ht
  have hqv2 := quo8 v2 hv2
  go_wp2_with fail
  refine hK.out _ _ hHeld (fun _ => ?_)
  clear hK K
  try simp only [Act.put, List.setIfInBounds_toArray, List.set_cons_zero, List.set_cons_succ]
  refine wpAnyH_take (i := 6) (oi := { dst := some 23, op := Go.Op.binOp Go.BinOp.quo 3 (Go.Operand.tmp 22) (Go.Operand.const (Go.Value.int Go.IntKind.i64 8)) 3, type := 3, pos := "l9_map.go:55", after := #[{ on := 5, ground := Go.Ground.data }, { on := 16, ground := Go.Ground.gcOnly Go.Departure.lateStores }], guard := none }) (v := ?v34_6) rfl (by kernel_rfl) (by kernel_rfl) (by kernel_rfl) (fun _ _ _ h => h) (Or.inl ⟨by rfl, ?y34_6⟩) (by assumption) ?r34_6
  case y34_6 => (intro w hSw; (try dsimp only at hSw); go_simp; try (with_reducible rfl))
  try simp only [Act.put, List.setIfInBounds_toArray, List.set_cons_zero, List.set_cons_succ]
  refine wpAnyH_take (i := 7) (oi := { dst := some 24, op := Go.Op.binOp Go.BinOp.sub 3 (Go.Operand.tmp 20) (Go.Operand.tmp 23) 3, type := 3, pos := "l9_map.go:55", after := #[{ on := 3, ground := Go.Ground.data }, { on := 6, ground := Go.Ground.data }, { on := 16, ground := Go.Ground.gcOnly Go.Departure.lateStores }], guard := none }) (v := ?v35_7) rfl (by kernel_rfl) (by kernel_rfl) (by kernel_rfl) (fun _ _ _ h => h) (Or.inl ⟨by rfl, ?y35_7⟩) (by assumption) ?r35_7
  case y35_7 => (intro w hSw; (try dsimp only at hSw); go_simp; try (with_reducible rfl))
  try simp only [Act.put, List.setIfInBounds_toArray, List.set_cons_zero, List.set_cons_succ]
  refine wpAnyH_ready (rs := [9]) (by kernel_rfl) (by simp) ?_
  refine AllReadyH.cons (o := { dst := some 26, op := Go.Op.call { callee := Go.Callee.value (Go.Operand.func 68), args := #[Go.Operand.tmp 25, Go.Operand.const (Go.Value.int Go.IntKind.i64 6)], argTypes := #[107, 3] }, type := 3, pos := "l9_map.go:55", after := #[{ on := 8, ground := Go.Ground.data }, { on := 5, ground := Go.Ground.chain }], guard := none }) rfl (fun K hK => ?_) AllReadyH.nil
  go_simp
  go_at_call 68
  refine (pick_any _ (w.heap.size + 1 + 1) _ 6 hLM.rd (by omega) (by first | omega | (rw [IntKind.wrap_i64]; omega))).mono ?_
  rintro e w_v3 ⟨v3, hv3, rfl, hr, ht⟩
  replace hLM := hLM.turns ht hr
  replace hbx := box_turns hbx ht hLne
  replace hz0 := box_turns hz0 ht (by omega)
  replace hz1 := box_turns hz1 ht (by omega)
  replace hHeld := (box2 hbx).1
  clear hr ht
  go_wp2_with fail
  refine hK.out _ _ hHeld (fun _ => ?_)
  clear hK K
  try simp only [Act.put, List.setIfInBounds_toArray, List.set_cons_zero, List.set_cons_succ]
  refine wpAnyH_ready (rs := [11]) (by kernel_rfl) (by simp) ?_
  refine AllReadyH.cons (o := { dst := some 28, op := Go.Op.call { callee := Go.Callee.value (Go.Operand.func 68), args := #[Go.Operand.tmp 27, Go.Operand.const (Go.Value.int Go.IntKind.i64 9)], argTypes := #[107, 3] }, type := 3, pos := "l9_map.go:55", after := #[{ on := 10, ground := Go.Ground.data }, { on := 9, ground := Go.Ground.chain }], guard := none }) rfl (fun K hK => ?_) AllReadyH.nil
  go_simp
  go_at_call 68
  refine (pick_any _ (w.heap.size + 1 + 1) _ 9 hLM.rd (by omega) (by first | omega | (rw [IntKind.wrap_i64]; omega))).mono ?_
  rintro e w_v4 ⟨v4, hv4, rfl, hr, ht⟩
  replace hLM := hLM.turns ht hr
  replace hbx := box_turns hbx ht hLne
  replace hz0 := box_turns hz0 ht (by omega)
  replace hz1 := box_turns hz1 ht (by omega)
  replace hHeld := (box2 hbx).1
  clear hr ht
  have hqv4 := quo8 v4 hv4
  go_wp2_with fail
  refine hK.out _ _ hHeld (fun _ => ?_)
  clear hK K
  try simp only [Act.put, List.setIfInBounds_toArray, List.set_cons_zero, List.set_cons_succ]
  refine wpAnyH_take (i := 12) (oi := { dst := some 29, op := Go.Op.binOp Go.BinOp.quo 3 (Go.Operand.tmp 28) (Go.Operand.const (Go.Value.int Go.IntKind.i64 8)) 3, type := 3, pos := "l9_map.go:55", after := #[{ on := 11, ground := Go.Ground.data }, { on := 16, ground := Go.Ground.gcOnly Go.Departure.lateStores }], guard := none }) (v := ?v36_12) rfl (by kernel_rfl) (by kernel_rfl) (by kernel_rfl) (fun _ _ _ h => h) (Or.inl ⟨by rfl, ?y36_12⟩) (by assumption) ?r36_12
  case y36_12 => (intro w hSw; (try dsimp only at hSw); go_simp; try (with_reducible rfl))
  try simp only [Act.put, List.setIfInBounds_toArray, List.set_cons_zero, List.set_cons_succ]
  refine wpAnyH_take (i := 13) (oi := { dst := some 30, op := Go.Op.binOp Go.BinOp.sub 3 (Go.Operand.tmp 26) (Go.Operand.tmp 29) 3, type := 3, pos := "l9_map.go:55", after := #[{ on := 9, ground := Go.Ground.data }, { on := 12, ground := Go.Ground.data }, { on := 16, ground := Go.Ground.gcOnly Go.Departure.lateStores }], guard := none }) (v := ?v37_13) rfl (by kernel_rfl) (by kernel_rfl) (by kernel_rfl) (fun _ _ _ h => h) (Or.inl ⟨by rfl, ?y37_13⟩) (by assumption) ?r37_13
  case y37_13 => (intro w hSw; (try dsimp only at hSw); go_simp; try (with_reducible rfl))
  try simp only [Act.put, List.setIfInBounds_toArray, List.set_cons_zero, List.set_cons_succ]
  refine wpAnyH_take (i := 14) (oi := { dst := some 31, op := Go.Op.build 36 #[(0, Go.Operand.tmp 24), (1, Go.Operand.tmp 30)], type := 36, pos := "l9_map.go:55", after := #[{ on := 7, ground := Go.Ground.data }, { on := 13, ground := Go.Ground.data }, { on := 16, ground := Go.Ground.gcOnly Go.Departure.lateStores }], guard := none }) (v := ?v38_14) rfl (by kernel_rfl) (by kernel_rfl) (by kernel_rfl) (fun _ _ _ h => h) (Or.inl ⟨by rfl, ?y38_14⟩) (by assumption) ?r38_14
  case y38_14 => (intro w hSw; (try dsimp only at hSw); go_simp; try (with_reducible rfl))
  try simp only [Act.put, List.setIfInBounds_toArray, List.set_cons_zero, List.set_cons_succ]
  refine wpAnyH_take (i := 15) (oi := { dst := some 2, op := Go.Op.assign (Go.Operand.tmp 17), type := 32, pos := "l9_map.go:55", after := #[{ on := 0, ground := Go.Ground.data }, { on := 11, ground := Go.Ground.chain }, { on := 0, ground := Go.Ground.phase }, { on := 1, ground := Go.Ground.textOnly Go.Departure.lateStores }, { on := 2, ground := Go.Ground.textOnly Go.Departure.lateStores }, { on := 3, ground := Go.Ground.textOnly Go.Departure.lateStoresUnsure }, { on := 4, ground := Go.Ground.textOnly Go.Departure.lateStores }, { on := 5, ground := Go.Ground.textOnly Go.Departure.lateStoresUnsure }, { on := 6, ground := Go.Ground.textOnly Go.Departure.lateStores }, { on := 7, ground := Go.Ground.textOnly Go.Departure.lateStores }, { on := 8, ground := Go.Ground.textOnly Go.Departure.lateStores }, { on := 9, ground := Go.Ground.textOnly Go.Departure.lateStoresUnsure }, { on := 10, ground := Go.Ground.textOnly Go.Departure.lateStores }, { on := 11, ground := Go.Ground.textOnly Go.Departure.lateStoresUnsure }, { on := 12, ground := Go.Ground.textOnly Go.Departure.lateStores }, { on := 13, ground := Go.Ground.textOnly Go.Departure.lateStores }, { on := 14, ground := Go.Ground.textOnly Go.Departure.lateStores }], guard := none }) (v := ?v39_15) rfl (by kernel_rfl) (by kernel_rfl) (by kernel_rfl) (fun _ _ _ h => h) (Or.inl ⟨by rfl, ?y39_15⟩) (by assumption) ?r39_15
  case y39_15 => (intro w hSw; (try dsimp only at hSw); go_simp; try (with_reducible rfl))
  try simp only [Act.put, List.setIfInBounds_toArray, List.set_cons_zero, List.set_cons_succ]
  refine wpAnyH_ready (rs := [16]) (by kernel_rfl) (by simp) ?_
  refine AllReadyH.cons (o := { dst := none, op := Go.Op.store 34 (Go.Operand.tmp 3) (Go.Operand.tmp 18), type := 0, pos := "l9_map.go:55", after := #[{ on := 1, ground := Go.Ground.data }, { on := 15, ground := Go.Ground.chain }, { on := 0, ground := Go.Ground.phase }, { on := 1, ground := Go.Ground.phase }, { on := 2, ground := Go.Ground.textOnly Go.Departure.lateStores }, { on := 3, ground := Go.Ground.textOnly Go.Departure.lateStoresUnsure }, { on := 4, ground := Go.Ground.textOnly Go.Departure.lateStores }, { on := 5, ground := Go.Ground.textOnly Go.Departure.lateStoresUnsure }, { on := 6, ground := Go.Ground.textOnly Go.Departure.lateStores }, { on := 7, ground := Go.Ground.textOnly Go.Departure.lateStores }, { on := 8, ground := Go.Ground.textOnly Go.Departure.lateStores }, { on := 9, ground := Go.Ground.textOnly Go.Departure.lateStoresUnsure }, { on := 10, ground := Go.Ground.textOnly Go.Departure.lateStores }, { on := 11, ground := Go.Ground.textOnly Go.Departure.lateStoresUnsure }, { on := 12, ground := Go.Ground.textOnly Go.Departure.lateStores }, { on := 13, ground := Go.Ground.textOnly Go.Departure.lateStores }, { on := 14, ground := Go.Ground.textOnly Go.Departure.lateStores }, { on := 15, ground := Go.Ground.phase }], guard := none }) rfl (fun K hK => ?_) AllReadyH.nil
  have hrN := box2 hz0
  go_simp
  have hLE := hLM.done.put2 (H := w.heap.size) (v0 := .slice na zs.length nc) (v1 := .slice sa st.length sc) (by omega) (Nat.le_refl _) hz0 rfl rfl rfl
  replace hz0 : ((w_v4.setCell ⟨w.heap.size, 0, none⟩ (.slice na zs.length nc)).setCell ⟨w.heap.size, 1, none⟩ (.slice sa st.length sc)).heap[w.heap.size]? = some (.cells #[.slice na zs.length nc, .slice sa st.length sc] 34) := block_setCell (block_setCell hz0 _) _
  replace hz1 : ((w_v4.setCell ⟨w.heap.size, 0, none⟩ (.slice na zs.length nc)).setCell ⟨w.heap.size, 1, none⟩ (.slice sa st.length sc)).heap[w.heap.size + 1]? = some (.cells #[.int .i64 0, .int .i64 0] 36) := set_other (set_other hz1 (by omega)) (by omega)
  replace hbx : ((w_v4.setCell ⟨w.heap.size, 0, none⟩ (.slice na zs.length nc)).setCell ⟨w.heap.size, 1, none⟩ (.slice sa st.length sc)).heap[w2.heap.size]? = some (.cells #[.slice na zs.length nc, .slice sa st.length sc] 34) := set_other (set_other hbx (by omega)) (by omega)
  replace hHeld := (box2 hbx).1
  clear hrN hLM
  refine hK.out _ _ hHeld (fun _ => ?_)
  clear hK K
  try simp only [Act.put, List.setIfInBounds_toArray, List.set_cons_zero, List.set_cons_succ]
  generalize ((w_v4.setCell ⟨w.heap.size, 0, none⟩ (.slice na zs.length nc)).setCell ⟨w.heap.size, 1, none⟩ (.slice sa st.length sc)) = wz at *
  refine wpAnyH_ready (rs := [17]) (by kernel_rfl) (by simp) ?_
  refine AllReadyH.cons (o := { dst := none, op := Go.Op.store 36 (Go.Operand.tmp 4) (Go.Operand.tmp 31), type := 0, pos := "l9_map.go:55", after := #[{ on := 14, ground := Go.Ground.data }, { on := 16, ground := Go.Ground.chain }, { on := 0, ground := Go.Ground.phase }, { on := 1, ground := Go.Ground.phase }, { on := 2, ground := Go.Ground.phase }, { on := 3, ground := Go.Ground.phase }, { on := 4, ground := Go.Ground.phase }, { on := 5, ground := Go.Ground.phase }, { on := 6, ground := Go.Ground.phase }, { on := 7, ground := Go.Ground.phase }, { on := 8, ground := Go.Ground.phase }, { on := 9, ground := Go.Ground.phase }, { on := 10, ground := Go.Ground.phase }, { on := 11, ground := Go.Ground.phase }, { on := 12, ground := Go.Ground.phase }, { on := 13, ground := Go.Ground.phase }, { on := 14, ground := Go.Ground.phase }, { on := 15, ground := Go.Ground.phase }, { on := 16, ground := Go.Ground.phase }], guard := none }) rfl (fun K hK => ?_) AllReadyH.nil
  have eA_a : IntKind.i64.wrap ((v2 : Int) / 8) = (v2 : Int) / 8 := wrap_small (by omega) (by omega)
  have eA : IntKind.i64.wrap ((v1 : Int) - IntKind.i64.wrap ((v2 : Int) / 8)) = (v1 : Int) - (v2 : Int) / 8 := by rw [eA_a]; exact wrap_small (by omega) (by omega)
  generalize IntKind.i64.wrap ((v1 : Int) - IntKind.i64.wrap ((v2 : Int) / 8)) = eAx at *
  have bA : -10 ≤ eAx ∧ eAx ≤ 10 := by omega
  clear eA eA_a
  have eB_a : IntKind.i64.wrap ((v4 : Int) / 8) = (v4 : Int) / 8 := wrap_small (by omega) (by omega)
  have eB : IntKind.i64.wrap ((v3 : Int) - IntKind.i64.wrap ((v4 : Int) / 8)) = (v3 : Int) - (v4 : Int) / 8 := by rw [eB_a]; exact wrap_small (by omega) (by omega)
  generalize IntKind.i64.wrap ((v3 : Int) - IntKind.i64.wrap ((v4 : Int) / 8)) = eBx at *
  have bB : -10 ≤ eBx ∧ eBx ≤ 10 := by omega
  clear eB eB_a
  have hrN := box2 hz1
  go_simp
  replace hLE := hLE.put2 (H := w.heap.size + 1) (v0 := .int .i64 eAx) (v1 := .int .i64 eBx) (by omega) (by omega) hz1 rfl rfl rfl
  replace hz1 : ((wz.setCell ⟨w.heap.size + 1, 0, none⟩ (.int .i64 eAx)).setCell ⟨w.heap.size + 1, 1, none⟩ (.int .i64 eBx)).heap[w.heap.size + 1]? = some (.cells #[.int .i64 eAx, .int .i64 eBx] 36) := block_setCell (block_setCell hz1 _) _
  replace hz0 : ((wz.setCell ⟨w.heap.size + 1, 0, none⟩ (.int .i64 eAx)).setCell ⟨w.heap.size + 1, 1, none⟩ (.int .i64 eBx)).heap[w.heap.size]? = some (.cells #[.slice na zs.length nc, .slice sa st.length sc] 34) := set_other (set_other hz0 (by omega)) (by omega)
  replace hbx : ((wz.setCell ⟨w.heap.size + 1, 0, none⟩ (.int .i64 eAx)).setCell ⟨w.heap.size + 1, 1, none⟩ (.int .i64 eBx)).heap[w2.heap.size]? = some (.cells #[.slice na zs.length nc, .slice sa st.length sc] 34) := set_other (set_other hbx (by omega)) (by omega)
  replace hHeld := (box2 hbx).1
  clear hrN
  refine hK.out _ _ hHeld (fun _ => ?_)
  clear hK K
  try simp only [Act.put, List.setIfInBounds_toArray, List.set_cons_zero, List.set_cons_succ]
  generalize ((wz.setCell ⟨w.heap.size + 1, 0, none⟩ (.int .i64 eAx)).setCell ⟨w.heap.size + 1, 1, none⟩ (.int .i64 eBx)) = wy at *
  refine wpAnyH_done (by kernel_rfl) ?_ _
  go_wp2_with fail
  have hFb := box2 hz0
  have hFc := box2 hz1
  exact bodyPost_ret (v := .tuple #[.slice a fs.length cap, .agg #[.slice na zs.length nc, .slice sa st.length sc], .agg #[.int .i64 eAx, .int .i64 eBx]]) (by simp [results, Try.results24, go_sem, hFb, hFc]) rfl ⟨a, cap, fs, na, sa, nc, sc, zs, st, _, _, rfl, (by omega), (by omega), (by omega), (by omega), ⟨c1, c2, c3, HN.out, d1, d2, d3, d4, HTM.out, hLE.fr, hLE.nr, hLE.tr, hLE.bw⟩⟩
end Go.Proofs.Ytjbhbkkkjdpamaa.DrawT
