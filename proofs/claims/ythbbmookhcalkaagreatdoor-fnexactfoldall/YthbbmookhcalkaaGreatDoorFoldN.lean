/- The contracts of both sides' FoldName: a function with each naming of a name being of another one. -/
import Derived.Test.YthbbmookhcalkaaGreatDoorFoldR
import Derived.Test.YthbbmookhcalkaaGreatDoorKeepC
import Derived.Test.YthbbmookhcalkaaGreatDoorMarkV
import Derived.Laws.OwnMore
import Derived.Deep.RegionHeld3
import Derived.Deep.Cut
namespace Go.Proofs.YthbbmookhcalkaaGreatDoor.FoldN
open Go.ChangeShapes Go.WideShapes Go.ChangeAt Go.RowKit Go.Joins Go.Deep
open Go.Proofs.YthbbmookhcalkaaGreatDoor.Base Go.Proofs.YthbbmookhcalkaaGreatDoor.InsA Go.Proofs.YthbbmookhcalkaaGreatDoor.Name Go.Proofs.YthbbmookhcalkaaGreatDoor.InsB Go.Proofs.YthbbmookhcalkaaGreatDoor.Funs Go.Proofs.YthbbmookhcalkaaGreatDoor.Open Go.Proofs.YthbbmookhcalkaaGreatDoor.FunS Go.Proofs.YthbbmookhcalkaaGreatDoor.Keep Go.Proofs.YthbbmookhcalkaaGreatDoor.Mark Go.Proofs.YthbbmookhcalkaaGreatDoor.Concat Go.Proofs.YthbbmookhcalkaaGreatDoor.KeepC Go.Proofs.YthbbmookhcalkaaGreatDoor.MarkV Go.Proofs.YthbbmookhcalkaaGreatDoor.FoldR
set_option linter.unusedVariables false
set_option maxRecDepth 100000

/-- What a function that is made anew leaves. -/
def Made (w : World) (g : FunD) (e : Ending) (w' : World) : Prop := ∃ v, e = .returned (.agg #[.string g.nm, .bool g.wk, v]) ∧ InsO w' w.heap.size v g.body ∧ Below w.heap.size w w'
theorem insO_base {w : World} {B C : Nat} {v : Value} {xs : List InsD} (h : InsO w B v xs) (hb : C ≤ B) : InsO w C v xs := row_base h hb
theorem insO_set {w : World} {B b i : Nat} {v u : Value} {xs : List InsD} (h : InsO w B v xs) (hb : b < B) : InsO (w.setCell ⟨b, i, none⟩ u) B v xs :=
  World.ownsRow.kept h ((But.refl b w).set i u) (by
    cases e : v.ownBlock with
    | none => exact .inl rfl
    | some g => exact .inr (fun e' => by have := (World.ownsRow.lt h g e).1; rw [Option.some.injEq] at e'; omega))
theorem set_oth {w : World} {B R o : Nat} {v : Value} {ob : Obj} (h : w.heap[R]? = some ob) (hB : B ≠ R) : (w.setCell ⟨B, o, none⟩ v).heap[R]? = some ob := (Below.heap_setCell w ⟨B, o, none⟩ v R (Ne.symm hB)).trans h
theorem insO_form {w : World} {B : Nat} {v : Value} {xs : List InsD} (h : InsO w B v xs) : ∃ a c, v = .slice a xs.length c := by
  obtain ⟨_, ⟨rfl, h0⟩ | ⟨g, cap, cur, rfl, _⟩⟩ := h
  · exact ⟨none, 0, by rw [h0]⟩
  · exact ⟨_, _, rfl⟩
/-- One more instruction behind those of a function that is being made. -/
theorem put_ins {w W : World} {BB B2 : Nat} {nm : ByteArray} {wk : Bool} {v : Value} {ys : List InsD} (hB : Below w.heap.size w W) (hw2 : w.heap.size ≤ B2) (h2 : B2 < BB) (hb2 : W.heap[B2]? = some (.cells #[.string nm, .bool wk, v] 28)) (hO : InsO W BB v ys) (hBB : BB ≤ W.heap.size) (hl : ys.length ≤ 1000) (x : InsD) (ty : TypeId) :
    ∃ g c w2, (Builtin.append_ #[26, 26] ty #[v, .slice (some ⟨W.heap.size, 0, none⟩) 1 1]).run Tryz.prog (W.alloc (.cells #[.int .i64 x.o, .int .i64 x.n, .string x.s] 105)) = .ok (.slice (some ⟨g, 0, none⟩) (ys.length + 1) c) w2 ∧
      (w2.cell? ⟨B2, 2, none⟩ = some v ∧ w2.frozen? ⟨B2, 2, none⟩ = false) ∧
      (w2.setCell ⟨B2, 2, none⟩ (.slice (some ⟨g, 0, none⟩) (ys.length + 1) c)).heap[B2]? = some (.cells #[.string nm, .bool wk, .slice (some ⟨g, 0, none⟩) (ys.length + 1) c] 28) ∧ InsO (w2.setCell ⟨B2, 2, none⟩ (.slice (some ⟨g, 0, none⟩) (ys.length + 1) c)) BB (.slice (some ⟨g, 0, none⟩) (ys.length + 1) c) (ys ++ [x]) ∧ Below w.heap.size w (w2.setCell ⟨B2, 2, none⟩ (.slice (some ⟨g, 0, none⟩) (ys.length + 1) c)) ∧
      (∀ j, j < BB → j ≠ B2 → (w2.setCell ⟨B2, 2, none⟩ (.slice (some ⟨g, 0, none⟩) (ys.length + 1) c)).heap[j]? = W.heap[j]?) ∧ W.heap.size ≤ (w2.setCell ⟨B2, 2, none⟩ (.slice (some ⟨g, 0, none⟩) (ys.length + 1) c)).heap.size := by
  obtain ⟨i, hi, hz0, hz1, hz2⟩ := info_ins
  have hcell : ∀ j u, (encX x)[j]? = some u → (W.alloc (.cells #[.int .i64 x.o, .int .i64 x.n, .string x.s] 105)).cell? ((⟨W.heap.size, 0, none⟩ : Addr).add j) = some u := by
    intro j u hj
    rw [add_plain, cell_of_block (new_block W _)]
    match j, hj with
    | 0, hj => simpa [encX] using hj
    | 1, hj => simpa [encX] using hj
    | 2, hj => simpa [encX] using hj
    | j + 3, hj => simp [encX] at hj
  obtain ⟨v', w2, hr, ho, hg, _, _⟩ := run_append_own_at (P := Tryz.prog) (W.alloc (.cells #[.int .i64 x.o, .int .i64 x.n, .string x.s] 105)) BB 26 ty 105 i _ 3 32 Tryz.underlying26 hi hz0 hz1 hz2 rfl (by decide) v ys.length (ys.flatMap encX) (row_below hO (below_alloc1 W _)) ⟨W.heap.size, 0, none⟩ 1 1 (encX x) rfl hcell (by intro u hu; simp only [encX, List.mem_cons, List.not_mem_nil, or_false] at hu; rcases hu with rfl | rfl | rfl <;> rfl) (by unfold maxLen; omega) (by omega) (by simp only [World.size_alloc]; omega)
  have hO' : InsO w2 BB v' (ys ++ [x]) := by
    unfold InsO
    rw [List.length_append, List.flatMap_append]
    simpa using ho
  have hv : ∀ g, v.ownBlock = some g → BB ≤ g := fun g e => (World.ownsRow.lt hO g e).1
  have hne2 : v.ownBlock ≠ some B2 := fun e => by have := hv _ e; omega
  have hk : ∀ j, j < BB → w2.heap[j]? = W.heap[j]? := fun j hj => by
    rw [hg.block j (by simp only [World.size_alloc]; omega) (fun e => by have := hv j e.symm; omega)]
    exact (below_alloc1 W _).block j (by omega)
  have hb2' : w2.heap[B2]? = some (.cells #[.string nm, .bool wk, v] 28) := (hk B2 h2).trans hb2
  have hB2 : Below w.heap.size w w2 := (bl_alloc hB _).grown hg (bl_alloc hB _).size (fun j hj => by have := hv j hj; omega)
  obtain ⟨g, c, e⟩ : ∃ g c, v' = .slice (some ⟨g, 0, none⟩) (ys.length + 1) c := by
    obtain ⟨_, ⟨_, h0⟩ | ⟨g, cap, cur, e, _⟩⟩ := ho
    · omega
    · exact ⟨g, cap, e⟩
  subst e
  refine ⟨g, c, w2, hr, ⟨by rw [cell_of_block hb2']; rfl, unfrozen_of_block hb2' 2⟩, block_setCell (i := 2) hb2' _, insO_set hO' h2, hB2.setCell hw2 _, fun j h1 h3 => ?_, by have := hg.size; simp only [World.size_alloc] at this; simp only [World.size_setCell]; omega⟩
  exact (Below.heap_setCell w2 ⟨B2, 2, none⟩ _ j (fun e => h3 e)).trans (hk j h1)
set_option maxHeartbeats 4000000 in
theorem specName1_any (nm : ByteArray) (wk : Bool) (a : Option Addr) (cap : Nat) (xs : List InsD) (s t : ByteArray) (w : World) (hcap : xs.length ≤ cap) (hcm : cap ≤ maxLen) (hl : xs.length ≤ 1000) (hR : InsRow w a xs) :
    Calls Tryz.prog 85 #[.agg #[.string nm, .bool wk, .slice a xs.length cap], .string s, .string t] w (Made w ⟨nm, wk, renB s t xs⟩) := by
  have HR := hide hR
  clear hR
  have hb0 := new_block w (.cells #[.string nm, .bool wk, .slice a xs.length cap] 28)
  have hb1 := new_block (w.alloc (.cells #[.string nm, .bool wk, .slice a xs.length cap] 28)) (.cells #[.string ⟨#[]⟩, .bool false, .slice none 0 0] 28)
  have hb2 := new_block ((w.alloc (.cells #[.string nm, .bool wk, .slice a xs.length cap] 28)).alloc (.cells #[.string ⟨#[]⟩, .bool false, .slice none 0 0] 28)) (.cells #[.string nm, .bool wk, .slice none 0 0] 28)
  simp only [World.size_alloc] at hb1 hb2
  have HB0 := hide (box_below (box_below hb0 (below_alloc1 _ (.cells #[.string ⟨#[]⟩, .bool false, .slice none 0 0] 28))) (below_alloc1 _ (.cells #[.string nm, .bool wk, .slice none 0 0] 28)))
  have HB1 := hide (box_below hb1 (below_alloc1 _ (.cells #[.string nm, .bool wk, .slice none 0 0] 28)))
  have HB2 := hide hb2
  clear hb0 hb1 hb2
  go_enter Tryz.func85, Tryz.ntmps85
  go_wp2_with fail
  go_loopw [8] (fun i w' => ∃ (k : Nat) (v : Value), k ≤ xs.length ∧ i = .int .i64 k ∧ Hid (w'.heap[w.heap.size]? = some (.cells #[.string nm, .bool wk, .slice a xs.length cap] 28)) ∧ Hid (w'.heap[w.heap.size + 1]? = some (.cells #[.string ⟨#[]⟩, .bool false, .slice none 0 0] 28)) ∧ Hid (w'.heap[w.heap.size + 1 + 1]? = some (.cells #[.string nm, .bool wk, v] 28)) ∧ Hid (InsO w' (w.heap.size + 3) v (renB s t (xs.take k))) ∧ Below w.heap.size w w' ∧ w.heap.size + 3 ≤ w'.heap.size) (fun i _ => xs.length - (intOf i).toNat)
  case atStart => exact ⟨0, .slice none 0 0, Nat.zero_le _, rfl, HB0, HB1, HB2, World.ownsRow_nil _ _ _ _, below_alloc3 _ _ _ _, by simp only [World.size_alloc]; omega⟩
  case round =>
    obtain ⟨k, v, hk, rfl, HX0, HX1, HX2, HO, hB, hsz⟩ := hrel
    clear HB0 HB1 HB2
    obtain ⟨⟨x0, x1, x2⟩, _⟩ := box3 (unhide HX0)
    obtain ⟨⟨z0, z1, z2⟩, _⟩ := box3 (unhide HX2)
    have hmx : (xs.length : Int) ≤ 9223372036854775807 := by omega
    by_cases hkl : k < xs.length
    · have hkl' : (k : Int) < (xs.length : Int) := by omega
      have hk0 : (0 : Int) ≤ (k : Int) := by omega
      obtain ⟨b, off, rfl⟩ := (unhide HR).get (by omega)
      obtain ⟨c0, c1, c2, hks⟩ := ((unhide HR).below hB).cells hkl
      have HT := hide (ren_take (s := s) (t := t) hkl)
      have hol : (renB s t (xs.take k)).length ≤ 1000 := by rw [renB_len, List.length_take]; omega
      generalize renB s t (xs.take k) = ys at *
      generalize xs[k] = x at *
      clear z0 z1 z2
      have hbx := below_alloc1 wr (.cells #[.int .i64 x.o, .int .i64 x.n, .string x.s] 105)
      have HNX := hide (new_block wr (.cells #[.int .i64 x.o, .int .i64 x.n, .string x.s] 105))
      have HX0' := hide (box_below (unhide HX0) hbx)
      have HX1' := hide (box_below (unhide HX1) hbx)
      have HX2' := hide (box_below (unhide HX2) hbx)
      have HO' := hide (insO_below (unhide HO) hbx)
      have hB' := bl_trans hB hbx
      have hsz' : w.heap.size + 3 ≤ wr.heap.size := hsz
      have HVL : Hid (∀ g, v.ownBlock = some g → g < wr.heap.size) := fun g e => (World.ownsRow.lt (unhide HO) g e).2
      clear HX0 HX1 HX2 HO hbx
      go_wp2_with fail
      refine (specRefs_any _ _ _ _).mono ?_
      rintro e w1 ⟨rfl, hb1⟩
      have HX0 := hide (box_below (unhide HX0') hb1)
      have HX1 := hide (box_below (unhide HX1') hb1)
      have HX2 := hide (box_below (unhide HX2') hb1)
      have HNX1 := hide (box_below (unhide HNX) hb1)
      have HO := hide (insO_below (unhide HO') hb1)
      have hB1 := bl_trans hB' hb1
      have hs1 : wr.heap.size < w1.heap.size := (Array.getElem?_eq_some_iff.1 (unhide HNX1)).1
      clear HX0' HX1' HX2' HO' HNX hb1 hB hB' x0 x1 x2 c0 c1 c2
      generalize hxb : wr.heap.size = xb at *
      clear hxb
      obtain ⟨⟨n0, n1, n2⟩, nf⟩ := box3 (unhide HNX1)
      obtain ⟨⟨z0, z1, z2⟩, _⟩ := box3 (unhide HX2)
      have hren : renI s t x = if refsB x.o && (x.s.toList == s.toList) then ⟨x.o, x.n, t⟩ else x := rfl
      cases hrf : refsB x.o
      · have hrx : renI s t x = x := by
          unfold renI
          rw [hrf, Bool.false_and, if_neg (by simp)]
        rw [hrx] at HT
        have HPI := hide (put_ins (w := w) (W := w1) (BB := w.heap.size + 3) (B2 := w.heap.size + 1 + 1) hB1 (by omega) (by omega) (unhide HX2) (unhide HO) (by omega) hol x)
        have HX0s := HX0
        have HX1s := HX1
        go_wp2_with (first
          | (at_builtin; obtain ⟨g, c, w2, hrun, ⟨e2, f2⟩, hb3, hO3, hB3, hoth, hs3⟩ := unhide HPI _; refine Lib.wpList_append_run _ rfl _ _ _ _ rfl _ _ rfl rfl _ _ hrun ?_; have HO3 := hide hO3; have HB3 := hide hB3; have HX3 := hide hb3; have HOT := hide hoth; clear hO3 hB3 hb3 hoth hrun)
          | go_in)
        exact ⟨⟨k + 1, .slice (some ⟨g, 0, none⟩) (ys.length + 1) c, by omega, by go_num, (unhide HOT w.heap.size (by omega) (by omega)).trans (unhide HX0s), (unhide HOT (w.heap.size + 1) (by omega) (by omega)).trans (unhide HX1s), HX3, (by show InsO _ _ _ (renB s t (xs.take (k + 1))); rw [unhide HT]; exact unhide HO3), unhide HB3, by simp only [World.size_setCell] at hs3 ⊢; omega⟩, by simp [intOf]; omega⟩
      · cases hq : (x.s.toList == s.toList)
        · have hrx : renI s t x = x := by
            unfold renI
            rw [hrf, hq, Bool.and_false, if_neg (by simp)]
          rw [hrx] at HT
          have HPI := hide (put_ins (w := w) (W := w1) (BB := w.heap.size + 3) (B2 := w.heap.size + 1 + 1) hB1 (by omega) (by omega) (unhide HX2) (unhide HO) (by omega) hol x)
          have HX0s := HX0
          have HX1s := HX1
          go_wp2_with (first
            | (at_builtin; obtain ⟨g, c, w2, hrun, ⟨e2, f2⟩, hb3, hO3, hB3, hoth, hs3⟩ := unhide HPI _; refine Lib.wpList_append_run _ rfl _ _ _ _ rfl _ _ rfl rfl _ _ hrun ?_; have HO3 := hide hO3; have HB3 := hide hB3; have HX3 := hide hb3; have HOT := hide hoth; clear hO3 hB3 hb3 hoth hrun)
            | go_in)
          exact ⟨⟨k + 1, .slice (some ⟨g, 0, none⟩) (ys.length + 1) c, by omega, by go_num, (unhide HOT w.heap.size (by omega) (by omega)).trans (unhide HX0s), (unhide HOT (w.heap.size + 1) (by omega) (by omega)).trans (unhide HX1s), HX3, (by show InsO _ _ _ (renB s t (xs.take (k + 1))); rw [unhide HT]; exact unhide HO3), unhide HB3, by simp only [World.size_setCell] at hs3 ⊢; omega⟩, by simp [intOf]; omega⟩
        · rw [hrf, hq, Bool.and_self, if_pos rfl] at hren
          rw [hren] at HT
          have HPI := hide (put_ins (w := w) (W := w1.setCell ⟨xb, 2, none⟩ (.string t)) (BB := w.heap.size + 3) (B2 := w.heap.size + 1 + 1) (hB1.setCell (p := ⟨xb, 2, none⟩) (by show w.heap.size ≤ xb; omega) _) (by omega) (by omega) (set_oth (unhide HX2) (by omega)) (World.ownsRow.kept (unhide HO) ((But.refl xb w1).set 2 (.string t)) (by
            cases e : v.ownBlock with
            | none => exact .inl rfl
            | some g => exact .inr (fun e' => by have := unhide HVL g e; rw [Option.some.injEq] at e'; omega))) (by simp; omega) hol ⟨x.o, x.n, t⟩)
          have HX0s := hide (set_oth (o := 2) (v := .string t) (unhide HX0) (show xb ≠ w.heap.size by omega))
          have HX1s := hide (set_oth (o := 2) (v := .string t) (unhide HX1) (show xb ≠ w.heap.size + 1 by omega))
          have HNs : Hid ((w1.setCell ⟨xb, 2, none⟩ (.string t)).heap[xb]? = some (.cells #[.int .i64 x.o, .int .i64 x.n, .string t] 105)) := block_setCell (i := 2) (unhide HNX1) (.string t)
          have HX2s := hide (set_oth (o := 2) (v := .string t) (unhide HX2) (show xb ≠ w.heap.size + 1 + 1 by omega))
          have HWS : Hid ((w1.setCell ⟨xb, 2, none⟩ (.string t)).heap.size = w1.heap.size) := by show _ = _; simp only [World.size_setCell]
          go_upto_region 8 with fail
          generalize w1.setCell ⟨xb, 2, none⟩ (.string t) = ws at *
          clear n0 n1 n2 nf z0 z1 z2
          obtain ⟨⟨n0, n1, n2⟩, nf⟩ := box3 (unhide HNs)
          obtain ⟨⟨z0, z1, z2⟩, _⟩ := box3 (unhide HX2s)
          go_wp2_with (first
            | (at_builtin; obtain ⟨g, c, w2, hrun, ⟨e2, f2⟩, hb3, hO3, hB3, hoth, hs3⟩ := unhide HPI _; refine Lib.wpList_append_run _ rfl _ _ _ _ rfl _ _ rfl rfl _ _ hrun ?_; have HO3 := hide hO3; have HB3 := hide hB3; have HX3 := hide hb3; have HOT := hide hoth; clear hO3 hB3 hb3 hoth hrun)
            | go_in)
          have hws := unhide HWS
          exact ⟨⟨k + 1, .slice (some ⟨g, 0, none⟩) (ys.length + 1) c, by omega, by go_num, (unhide HOT w.heap.size (by omega) (by omega)).trans (unhide HX0s), (unhide HOT (w.heap.size + 1) (by omega) (by omega)).trans (unhide HX1s), HX3, (by show InsO _ _ _ (renB s t (xs.take (k + 1))); rw [unhide HT]; exact unhide HO3), unhide HB3, by simp only [World.size_setCell] at hs3 ⊢; omega⟩, by simp [intOf]; omega⟩
    · have hke : k = xs.length := by omega
      subst hke
      rw [List.take_length] at HO
      have hkl' : ¬ (xs.length : Int) < (xs.length : Int) := by omega
      obtain ⟨va, vc, rfl⟩ := insO_form (unhide HO)
      obtain ⟨⟨y0, y1, y2⟩, yf⟩ := box3 (unhide HX1)
      go_wp2_with fail
      have hz1 := block_setCell (i := 2) (block_setCell (i := 1) (block_setCell (i := 0) (unhide HX1) (.string nm)) (.bool wk)) (.slice va (renB s t xs).length vc)
      have hOz := insO_set (i := 2) (u := .slice va (renB s t xs).length vc) (insO_set (i := 1) (u := .bool wk) (insO_set (i := 0) (u := .string nm) (unhide HO) (show w.heap.size + 1 < _ by omega)) (show w.heap.size + 1 < _ by omega)) (show w.heap.size + 1 < _ by omega)
      have hBz := ((hB.setCell (p := ⟨w.heap.size + 1, 0, none⟩) (by show _ ≤ w.heap.size + 1; omega) (.string nm)).setCell (p := ⟨w.heap.size + 1, 1, none⟩) (by show _ ≤ w.heap.size + 1; omega) (.bool wk)).setCell (p := ⟨w.heap.size + 1, 2, none⟩) (by show _ ≤ w.heap.size + 1; omega) (.slice va (renB s t xs).length vc)
      generalize ((wr.setCell ⟨w.heap.size + 1, 0, none⟩ (.string nm)).setCell ⟨w.heap.size + 1, 1, none⟩ (.bool wk)).setCell ⟨w.heap.size + 1, 2, none⟩ (.slice va (renB s t xs).length vc) = wz at *
      have hr := (box3 (v0 := .string nm) (v1 := .bool wk) (v2 := .slice va (renB s t xs).length vc) hz1).1
      exact bodyPost_ret (v := .agg #[.string nm, .bool wk, .slice va (renB s t xs).length vc]) (by simp [results, Tryz.results85, go_sem, hr]) rfl ⟨_, rfl, insO_base hOz (by omega), hBz⟩
theorem flat_set (t : ByteArray) : ∀ (xs : List InsD) (k : Nat) (h : k < xs.length), (xs.flatMap encX).set (k * 3 + 2) (.string t) = (xs.set k ⟨xs[k].o, xs[k].n, t⟩).flatMap encX
  | [], k, h => by simp at h
  | x :: r, 0, h => by simp [encX]
  | x :: r, k + 1, h => by
    have ih := flat_set t r k (by simpa using h)
    have hl : (encX x).length = 3 := rfl
    rw [List.flatMap_cons, List.set_append_right _ _ (by rw [hl]; omega), hl, show (k + 1) * 3 + 2 - 3 = k * 3 + 2 by omega, ih]
    simp
theorem insO_store {w : World} {B g c : Nat} {xs : List InsD} {n : Nat} (hn : n = xs.length) (h : InsO w B (.slice (some ⟨g, 0, none⟩) n c) xs) {k : Nat} (hk : k < xs.length) (t : ByteArray) :
    InsO (w.setCell ⟨g, k * 3 + 2, none⟩ (.string t)) B (.slice (some ⟨g, 0, none⟩) n c) (xs.set k ⟨xs[k].o, xs[k].n, t⟩) := by
  subst hn
  have := (World.ownsRow.stored h (k * 3 + 2) (.string t)).1
  rw [flat_set t xs k hk] at this
  unfold InsO
  rw [List.length_set]
  exact this
theorem insO_cells {w : World} {B g c : Nat} {xs : List InsD} {n : Nat} (hn : n = xs.length) (h : InsO w B (.slice (some ⟨g, 0, none⟩) n c) xs) {k : Nat} (hk : k < xs.length) :
    w.cell? ⟨g, k * 3, none⟩ = some (.int .i64 xs[k].o) ∧ w.cell? ⟨g, k * 3 + 1, none⟩ = some (.int .i64 xs[k].n) ∧ w.cell? ⟨g, k * 3 + 2, none⟩ = some (.string xs[k].s) ∧ w.frozen? ⟨g, k * 3 + 2, none⟩ = false := by
  subst hn
  obtain ⟨h0, h1, h2⟩ := flatX_at xs k hk
  have t := fun j hj => World.ownsRow.cellAt h j hj
  exact ⟨(t _ (by omega)).trans h0, (t _ (by omega)).trans h1, (t _ (by omega)).trans h2, World.ownsRow.frozenAt h _⟩
theorem insO_lt {w : World} {B g c n : Nat} {xs : List InsD} (h : InsO w B (.slice (some ⟨g, 0, none⟩) n c) xs) : B ≤ g ∧ g < w.heap.size := World.ownsRow.lt h g rfl
/-- 'f.Body = append(nothing, f.Body...)' on a function in a box of the call's own. -/
theorem copy_at {w W : World} {B0 : Nat} {nm : ByteArray} {wk : Bool} {a : Option Addr} {ci : Nat} {xs : List InsD} (hB : Below w.heap.size w W) (hw0 : w.heap.size ≤ B0) (hb0 : W.heap[B0]? = some (.cells #[.string nm, .bool wk, .slice a xs.length ci] 28)) (hr : InsRow W a xs) (h1 : 0 < xs.length) (hl : xs.length ≤ 1000) (ty : TypeId) :
    ∃ g c w2, (Builtin.append_ #[26, 26] ty #[.slice none 0 0, .slice a xs.length ci]).run Tryz.prog W = .ok (.slice (some ⟨g, 0, none⟩) xs.length c) w2 ∧
      (w2.cell? ⟨B0, 2, none⟩ = some (.slice a xs.length ci) ∧ w2.frozen? ⟨B0, 2, none⟩ = false) ∧
      (w2.setCell ⟨B0, 2, none⟩ (.slice (some ⟨g, 0, none⟩) xs.length c)).heap[B0]? = some (.cells #[.string nm, .bool wk, .slice (some ⟨g, 0, none⟩) xs.length c] 28) ∧
      InsO (w2.setCell ⟨B0, 2, none⟩ (.slice (some ⟨g, 0, none⟩) xs.length c)) W.heap.size (.slice (some ⟨g, 0, none⟩) xs.length c) xs ∧
      Below w.heap.size w (w2.setCell ⟨B0, 2, none⟩ (.slice (some ⟨g, 0, none⟩) xs.length c)) ∧
      (∀ j, j < W.heap.size → j ≠ B0 → (w2.setCell ⟨B0, 2, none⟩ (.slice (some ⟨g, 0, none⟩) xs.length c)).heap[j]? = W.heap[j]?) ∧
      (∀ P : World → Prop, Stable P → (∀ w' b i v, w.heap.size ≤ b → P w' → P (w'.setCell ⟨b, i, none⟩ v)) → P W → P (w2.setCell ⟨B0, 2, none⟩ (.slice (some ⟨g, 0, none⟩) xs.length c))) := by
  have hb0l : B0 < W.heap.size := (Array.getElem?_eq_some_iff.1 hb0).1
  obtain ⟨v', w2, hrun, hO, hg, hne⟩ := append_body (w := W) (B := W.heap.size) (v := .slice none 0 0) (ci := ci) ty (Nat.le_refl _) (World.ownsRow_nil _ _ _ _) hr h1 (by omega)
  obtain ⟨g, c, e⟩ : ∃ g c, v' = .slice (some ⟨g, 0, none⟩) xs.length c := by
    obtain ⟨_, ⟨rfl, h0⟩ | ⟨g, cap, cur, e, _⟩⟩ := hO
    · omega
    · exact ⟨g, cap, e⟩
  subst e
  have hk : ∀ j, j < W.heap.size → w2.heap[j]? = W.heap[j]? := fun j hj => hg.block j hj (fun e => by cases e)
  have hb2 := (hk B0 hb0l).trans hb0
  have hbl : Below W.heap.size W w2 := (Below.refl W.heap.size W).grown hg (Nat.le_refl _) (fun j hj => by cases hj)
  refine ⟨g, c, w2, hrun, ⟨by rw [cell_of_block hb2]; rfl, unfrozen_of_block hb2 2⟩, block_setCell (i := 2) hb2 _, insO_set hO hb0l, (bl_trans hB hbl).setCell hw0 _, fun j h2 h3 => (Below.heap_setCell w2 ⟨B0, 2, none⟩ _ j (fun e => h3 e)).trans (hk j h2), fun P hP hPs hPW => hPs _ _ _ _ hw0 (hP.1 _ _ hbl hPW)⟩
theorem swap_any (nm s t : ByteArray) (Bf Bt : Nat) (w : World) (h0 : w.cell? ⟨Bf, 0, none⟩ = some (.string s)) (h1 : w.cell? ⟨Bt, 0, none⟩ = some (.string t)) :
    Calls Tryz.prog 38 #[.string nm, .pointer (some ⟨Bf, 0, none⟩), .pointer (some ⟨Bt, 0, none⟩)] w fun e w' => e = .returned (.string (swap s t nm)) ∧ Below w.heap.size w w' := by
  cases hq : (nm.toList == s.toList)
  · have he : Hid (nm = swap s t nm) := by show _ = _; unfold swap; rw [hq]; rfl
    go_enter Tryz.func38, Tryz.ntmps38
    go_wp2_with fail
    go_ret
    exact ⟨by rw [← unhide he]; rfl, Below.refl _ _⟩
  · have he : Hid (t = swap s t nm) := by show _ = _; unfold swap; rw [hq]; rfl
    go_enter Tryz.func38, Tryz.ntmps38
    go_wp2_with fail
    go_ret
    exact ⟨by rw [← unhide he]; rfl, Below.refl _ _⟩
set_option maxHeartbeats 8000000 in
theorem withSwap_any (Bf Bt : Nat) (P : World → Prop) (tf : ByteArray → ByteArray) (nm : ByteArray) (wk : Bool) (a : Option Addr) (cap : Nat) (xs : List InsD) (w : World) (hP : Stable P) (hPs : ∀ w' b i v, w.heap.size ≤ b → P w' → P (w'.setCell ⟨b, i, none⟩ v)) (hT : ∀ s w', s.size ≤ maxLen → P w' → Calls Tryz.prog 38 #[.string s, .pointer (some ⟨Bf, 0, none⟩), .pointer (some ⟨Bt, 0, none⟩)] w' fun e w'' => e = .returned (.string (tf s)) ∧ Below w'.heap.size w' w'') (hPw : P w) (hcap : xs.length ≤ cap) (hcm : cap ≤ maxLen) (h1 : 0 < xs.length) (hl : xs.length ≤ 1000) (hnm : nm.size ≤ maxLen) (hR : InsRow w a xs) :
    Calls Tryz.prog 37 #[.agg #[.string nm, .bool wk, .slice a xs.length cap], (.func (.func 38) #[] #[.pointer (some ⟨Bf, 0, none⟩), .pointer (some ⟨Bt, 0, none⟩)])] w (Made w ⟨nm, wk, mapB tf xs⟩) := by
  have HT := hide hT
  have HP := hide hP
  have HPS := hide hPs
  have HTZ : Hid (∀ x ∈ xs, x.s.size ≤ maxLen) := hR.sizes
  have hB0 := below_alloc2 w (.cells #[.string nm, .bool wk, .slice a xs.length cap] 28) (.cells #[.string ⟨#[]⟩, .bool false, .slice none 0 0] 28)
  have hnb := new_block (w.alloc (.cells #[.string nm, .bool wk, .slice a xs.length cap] 28)) (.cells #[.string ⟨#[]⟩, .bool false, .slice none 0 0] 28)
  have hna := box_below (new_block w (.cells #[.string nm, .bool wk, .slice a xs.length cap] 28)) (below_alloc1 _ (.cells #[.string ⟨#[]⟩, .bool false, .slice none 0 0] 28))
  have HC := hide (fun ty => copy_at (ty := ty) hB0 (Nat.le_refl _) hna (hR.below hB0) h1 hl)
  have HPW := hide (hP.1 _ _ hB0 hPw)
  have HNA := hide hna
  simp only [World.size_alloc] at hnb
  have HNB := hide hnb
  have HSZ : Hid (((w.alloc (.cells #[.string nm, .bool wk, .slice a xs.length cap] 28)).alloc (.cells #[.string ⟨#[]⟩, .bool false, .slice none 0 0] 28)).heap.size = w.heap.size + 2) := by show _ = _; simp only [World.size_alloc]
  have hln : (xs.length : Int) ≤ 9223372036854775807 := by omega
  clear hT hP hPs hR hna hPw hB0 hnb
  go_enter Tryz.func37, Tryz.ntmps37
  go_upto_region 1 with fail
  generalize (w.alloc (.cells #[.string nm, .bool wk, .slice a xs.length cap] 28)).alloc (.cells #[.string ⟨#[]⟩, .bool false, .slice none 0 0] 28) = W0 at *
  obtain ⟨⟨x0, x1, x2⟩, _⟩ := box3 (unhide HNA)
  go_wp2_with (first
    | (at_builtin; obtain ⟨g, c, w2, hrun, ⟨e2, f2⟩, hb0, hO, hB, hoth, hp⟩ := unhide HC _; refine Lib.wpList_append_run _ rfl _ _ _ _ rfl _ _ rfl rfl _ _ hrun ?_; have HX0 := hide hb0; have HO := hide hO; have HB := hide hB; have HOT := hide hoth; have HPP := hide (hp P (unhide HP) (unhide HPS) (unhide HPW)); obtain ⟨⟨y0, y1, y2⟩, _⟩ := box3 hb0; clear hrun hb0 hO hB hoth hp)
    | go_in)
  have HX1 := hide ((unhide HOT (w.heap.size + 1) (by rw [unhide HSZ]; omega) (by omega)).trans (unhide HNB))
  generalize w2.setCell ⟨w.heap.size, 2, none⟩ (.slice (some ⟨g, 0, none⟩) xs.length c) = wl at *
  rw [unhide HSZ] at HO
  clear HOT HNB HNA HPW HC x0 x1 x2 e2 f2
  go_loopw [14] (fun i w' => ∃ k : Nat, k ≤ xs.length ∧ i = .int .i64 k ∧ Hid (w'.heap[w.heap.size]? = some (.cells #[.string nm, .bool wk, .slice (some ⟨g, 0, none⟩) xs.length c] 28)) ∧ Hid (w'.heap[w.heap.size + 1]? = some (.cells #[.string ⟨#[]⟩, .bool false, .slice none 0 0] 28)) ∧ Hid (InsO w' (w.heap.size + 2) (.slice (some ⟨g, 0, none⟩) xs.length c) (curB tf xs k)) ∧ Hid (Below w.heap.size w w') ∧ Hid (P w')) (fun i _ => xs.length - (intOf i).toNat)
  case atStart => exact ⟨0, Nat.zero_le _, rfl, HX0, HX1, by rw [curB_zero]; exact HO, HB, HPP⟩
  case round =>
    clear HX0 HX1 HO HB HPP y0 y1 y2
    obtain ⟨k, hk, rfl, HX0, HX1, HO, HB, HPP⟩ := hrel
    by_cases hkl : k < xs.length
    · have hkl' : (k : Int) < (xs.length : Int) := by omega
      have hk0 : (0 : Int) ≤ (k : Int) := by omega
      have hcl := curB_len tf hk
      obtain ⟨c0, c1, c2, cf⟩ := insO_cells hcl.symm (unhide HO) (show k < (curB tf xs k).length by omega)
      have hat : (curB tf xs k)[k]'(by omega) = xs[k] := curB_at hkl (by omega)
      rw [hat] at c0 c1 c2
      have hgl := insO_lt (unhide HO)
      have HSTO := hide (fun W (h : InsO W (w.heap.size + 2) (.slice (some ⟨g, 0, none⟩) xs.length c) (curB tf xs k)) => insO_store hcl.symm h (show k < (curB tf xs k).length by omega) (tf xs[k].s))
      rw [hat] at HSTO
      have HSK := hide (curB_skip (tf := tf) hkl)
      have HYS := hide (curB_step (tf := tf) hkl)
      have hxsz := unhide HTZ xs[k] (List.getElem_mem _)
      have hbx := below_alloc1 wr (.cells #[.int .i64 xs[k].o, .int .i64 xs[k].n, .string xs[k].s] 105)
      have HNX := hide (new_block wr (.cells #[.int .i64 xs[k].o, .int .i64 xs[k].n, .string xs[k].s] 105))
      replace HX0 := hide (box_below (unhide HX0) hbx)
      replace HX1 := hide (box_below (unhide HX1) hbx)
      replace HO := hide (insO_below (unhide HO) hbx)
      replace HB := hide (bl_trans (unhide HB) hbx)
      replace HPP := hide ((unhide HP).1 _ _ hbx (unhide HPP))
      generalize xs[k] = x at *
      clear hbx hat cf
      go_wp2_with fail
      refine (implRefs_any _ _ _ _).mono ?_
      rintro e w1 ⟨rfl, hb1⟩
      replace HX0 := hide (box_below (unhide HX0) hb1)
      replace HX1 := hide (box_below (unhide HX1) hb1)
      replace HNX := hide (box_below (unhide HNX) hb1)
      replace HO := hide (insO_below (unhide HO) hb1)
      replace HB := hide (bl_trans (unhide HB) hb1)
      replace HPP := hide ((unhide HP).1 _ _ hb1 (unhide HPP))
      clear hb1 c0 c1 c2
      generalize hxb : wr.heap.size = xb at *
      clear hxb
      have hgb : g < xb := hgl.2
      cases hrf : refsB x.o
      · have HCS := unhide HSK hrf
        go_wp2_with fail
        exact ⟨⟨k + 1, by omega, by go_num, HX0, HX1, by rw [HCS]; exact HO, HB, HPP⟩, by simp [intOf]; omega⟩
      · have HCS : Hid (curB tf xs (k + 1) = (curB tf xs k).set k ⟨x.o, x.n, tf x.s⟩) := by
          show _ = _
          rw [unhide HYS, mapI_yes hrf]
        have HST : Hid (Stable (fun w' => w'.cell? ⟨w.heap.size, 2, none⟩ = some (.slice (some ⟨g, 0, none⟩) xs.length c) ∧ w'.cell? ⟨xb, 2, none⟩ = some (.string x.s))) := (Stable.cell _ _).and (Stable.cell _ _)
        have HS : Hid ((fun w' => w'.cell? ⟨w.heap.size, 2, none⟩ = some (.slice (some ⟨g, 0, none⟩) xs.length c) ∧ w'.cell? ⟨xb, 2, none⟩ = some (.string x.s)) w1) := ⟨(box3 (unhide HX0)).1.2.2, (box3 (unhide HNX)).1.2.2⟩
        clear HSK HYS hcl
        go_upto_region 6 with fail
        obtain ⟨hX0, hX1, hO, hB, hPP⟩ := (⟨unhide HX0, unhide HX1, unhide HO, unhide HB, unhide HPP⟩ : w1.drew.heap[w.heap.size]? = some (.cells #[.string nm, .bool wk, .slice (some ⟨g, 0, none⟩) xs.length c] 28) ∧ w1.drew.heap[w.heap.size + 1]? = some (.cells #[.string ⟨#[]⟩, .bool false, .slice none 0 0] 28) ∧ InsO w1 (w.heap.size + 2) (.slice (some ⟨g, 0, none⟩) xs.length c) (curB tf xs k) ∧ Below w.heap.size w w1 ∧ P w1)
        replace hO : InsO w1.drew (w.heap.size + 2) (.slice (some ⟨g, 0, none⟩) xs.length c) (curB tf xs k) := World.ownsRow.drew hO
        replace hB : Below w.heap.size w w1.drew := hB.drew
        replace hPP : P w1.drew := (unhide HP).2 _ hPP
        clear HX0 HX1 HO HB HPP HNX
        refine wp_region_held_drew (S := (fun w' => w'.cell? ⟨w.heap.size, 2, none⟩ = some (.slice (some ⟨g, 0, none⟩) xs.length c) ∧ w'.cell? ⟨xb, 2, none⟩ = some (.string x.s))) (by kernel_rfl) ((unhide HST).2 _ (unhide HS)) (fun hHeld => ?_)
        generalize w1.drew = wa at *
        refine wpAnyH_take (i := 0) (oi := { dst := some 21, op := Go.Op.fieldAddr 28 (Go.Operand.tmp 2) 2, type := 0, pos := "l10_fold.go:69", after := #[], guard := none }) (v := ?v1_0) rfl (by kernel_rfl) (by kernel_rfl) (by kernel_rfl) (fun _ _ _ h => h) (Or.inl ⟨by rfl, ?y1_0⟩) (by assumption) ?r1_0
        case y1_0 => (intro w hSw; (try dsimp only at hSw); go_simp; try (with_reducible rfl))
        try simp only [Act.put, List.setIfInBounds_toArray, List.set_cons_zero, List.set_cons_succ]
        refine wpAnyH_take (i := 1) (oi := { dst := some 22, op := Go.Op.load 26 (Go.Operand.tmp 21), type := 26, pos := "l10_fold.go:69", after := #[{ on := 0, ground := Go.Ground.data }], guard := none }) (v := ?v2_1) rfl (by kernel_rfl) (by kernel_rfl) (by kernel_rfl) (fun _ _ _ h => h) (Or.inl ⟨by rfl, ?y2_1⟩) (by assumption) ?r2_1
        case y2_1 => (intro w hSw; (try dsimp only at hSw); go_simp; try (with_reducible rfl))
        try simp only [Act.put, List.setIfInBounds_toArray, List.set_cons_zero, List.set_cons_succ]
        refine wpAnyH_take (i := 2) (oi := { dst := some 23, op := Go.Op.move (Go.Operand.tmp 5), type := 3, pos := "l10_fold.go:69", after := #[], guard := none }) (v := ?v3_2) rfl (by kernel_rfl) (by kernel_rfl) (by kernel_rfl) (fun _ _ _ h => h) (Or.inl ⟨by rfl, ?y3_2⟩) (by assumption) ?r3_2
        case y3_2 => (intro w hSw; (try dsimp only at hSw); go_simp; try (with_reducible rfl))
        try simp only [Act.put, List.setIfInBounds_toArray, List.set_cons_zero, List.set_cons_succ]
        refine wpAnyH_take (i := 3) (oi := { dst := some 24, op := Go.Op.move (Go.Operand.tmp 1), type := 66, pos := "l10_fold.go:69", after := #[], guard := none }) (v := ?v4_3) rfl (by kernel_rfl) (by kernel_rfl) (by kernel_rfl) (fun _ _ _ h => h) (Or.inl ⟨by rfl, ?y4_3⟩) (by assumption) ?r4_3
        case y4_3 => (intro w hSw; (try dsimp only at hSw); go_simp; try (with_reducible rfl))
        try simp only [Act.put, List.setIfInBounds_toArray, List.set_cons_zero, List.set_cons_succ]
        refine wpAnyH_take (i := 4) (oi := { dst := some 25, op := Go.Op.fieldAddr 105 (Go.Operand.tmp 6) 2, type := 0, pos := "l10_fold.go:69", after := #[], guard := none }) (v := ?v5_4) rfl (by kernel_rfl) (by kernel_rfl) (by kernel_rfl) (fun _ _ _ h => h) (Or.inl ⟨by rfl, ?y5_4⟩) (by assumption) ?r5_4
        case y5_4 => (intro w hSw; (try dsimp only at hSw); go_simp; try (with_reducible rfl))
        try simp only [Act.put, List.setIfInBounds_toArray, List.set_cons_zero, List.set_cons_succ]
        refine wpAnyH_take (i := 5) (oi := { dst := some 26, op := Go.Op.load 9 (Go.Operand.tmp 25), type := 9, pos := "l10_fold.go:69", after := #[{ on := 4, ground := Go.Ground.data }], guard := none }) (v := ?v6_5) rfl (by kernel_rfl) (by kernel_rfl) (by kernel_rfl) (fun _ _ _ h => h) (Or.inl ⟨by rfl, ?y6_5⟩) (by assumption) ?r6_5
        case y6_5 => (intro w hSw; (try dsimp only at hSw); go_simp; try (with_reducible rfl))
        try simp only [Act.put, List.setIfInBounds_toArray, List.set_cons_zero, List.set_cons_succ]
        refine wpAnyH_ready (rs := [6]) (by kernel_rfl) (by simp) ?_
        refine AllReadyH.cons (o := { dst := some 27, op := Go.Op.call { callee := Go.Callee.value (Go.Operand.tmp 24), args := #[Go.Operand.tmp 26], argTypes := #[9] }, type := 9, pos := "l10_fold.go:69", after := #[{ on := 3, ground := Go.Ground.data }, { on := 5, ground := Go.Ground.data }], guard := none }) rfl (fun K hK => ?_) AllReadyH.nil
        go_simp
        go_at_call 38
        refine (unhide HT x.s _ hxsz hPP).mono ?_
        rintro e w5 ⟨rfl, hbk⟩
        replace hHeld := (unhide HST).1 _ _ hbk hHeld
        replace hX0 := box_below hX0 hbk
        replace hX1 := box_below hX1 hbk
        replace hO := insO_below hO hbk
        replace hB := bl_trans hB hbk
        replace hPP := (unhide HP).1 _ _ hbk hPP
        clear hbk
        go_wp2_with fail
        refine hK.out _ _ hHeld (fun _ => ?_)
        clear hK K
        try simp only [Act.put, List.setIfInBounds_toArray, List.set_cons_zero, List.set_cons_succ]
        refine wpAnyH_take (i := 7) (oi := { dst := some 28, op := Go.Op.indexAddr 26 (Go.Operand.tmp 22) (Go.Operand.tmp 23), type := 0, pos := "l10_fold.go:69", after := #[{ on := 1, ground := Go.Ground.data }, { on := 2, ground := Go.Ground.data }, { on := 0, ground := Go.Ground.phase }, { on := 1, ground := Go.Ground.phase }, { on := 2, ground := Go.Ground.phase }, { on := 3, ground := Go.Ground.phase }, { on := 4, ground := Go.Ground.phase }, { on := 5, ground := Go.Ground.phase }, { on := 6, ground := Go.Ground.phase }], guard := none }) (v := ?v7_7) rfl (by kernel_rfl) (by kernel_rfl) (by kernel_rfl) (fun _ _ _ h => h) (Or.inl ⟨by rfl, ?y7_7⟩) (by assumption) ?r7_7
        case y7_7 => (intro w hSw; (try dsimp only at hSw); go_simp; try (with_reducible rfl))
        try simp only [Act.put, List.setIfInBounds_toArray, List.set_cons_zero, List.set_cons_succ]
        refine wpAnyH_take (i := 8) (oi := { dst := some 29, op := Go.Op.fieldAddr 105 (Go.Operand.tmp 28) 2, type := 0, pos := "l10_fold.go:69", after := #[{ on := 7, ground := Go.Ground.data }, { on := 0, ground := Go.Ground.phase }, { on := 1, ground := Go.Ground.phase }, { on := 2, ground := Go.Ground.phase }, { on := 3, ground := Go.Ground.phase }, { on := 4, ground := Go.Ground.phase }, { on := 5, ground := Go.Ground.phase }, { on := 6, ground := Go.Ground.phase }], guard := none }) (v := ?v8_8) rfl (by kernel_rfl) (by kernel_rfl) (by kernel_rfl) (fun _ _ _ h => h) (Or.inl ⟨by rfl, ?y8_8⟩) (by assumption) ?r8_8
        case y8_8 => (intro w hSw; (try dsimp only at hSw); go_simp; try (with_reducible rfl))
        try simp only [Act.put, List.setIfInBounds_toArray, List.set_cons_zero, List.set_cons_succ]
        refine wpAnyH_ready (rs := [9]) (by kernel_rfl) (by simp) ?_
        refine AllReadyH.cons (o := { dst := none, op := Go.Op.store 9 (Go.Operand.tmp 29) (Go.Operand.tmp 27), type := 0, pos := "l10_fold.go:69", after := #[{ on := 8, ground := Go.Ground.data }, { on := 6, ground := Go.Ground.data }, { on := 6, ground := Go.Ground.chain }, { on := 0, ground := Go.Ground.phase }, { on := 1, ground := Go.Ground.phase }, { on := 2, ground := Go.Ground.phase }, { on := 3, ground := Go.Ground.phase }, { on := 4, ground := Go.Ground.phase }, { on := 5, ground := Go.Ground.phase }, { on := 6, ground := Go.Ground.phase }], guard := none }) rfl (fun K hK => ?_) AllReadyH.nil
        obtain ⟨_, _, d2, df⟩ := insO_cells (curB_len tf hk).symm hO (show k < (curB tf xs k).length by rw [curB_len tf hk]; exact hkl)
        go_simp
        have hO9 := unhide HSTO _ hO
        have hB9 := hB.setCell (p := ⟨g, k * 3 + 2, none⟩) (by show w.heap.size ≤ g; omega) (.string (tf x.s))
        have hP9 := unhide HPS _ g (k * 3 + 2) (.string (tf x.s)) (by omega) hPP
        have hX09 := set_oth (o := k * 3 + 2) (v := .string (tf x.s)) hX0 (show g ≠ w.heap.size by omega)
        have hX19 := set_oth (o := k * 3 + 2) (v := .string (tf x.s)) hX1 (show g ≠ w.heap.size + 1 by omega)
        replace hHeld : (fun w' => w'.cell? ⟨w.heap.size, 2, none⟩ = some (.slice (some ⟨g, 0, none⟩) xs.length c) ∧ w'.cell? ⟨xb, 2, none⟩ = some (.string x.s)) (w5.setCell ⟨g, k * 3 + 2, none⟩ (.string (tf x.s))) := ⟨(World.cell?_setCell_far _ _ _ _ (by show g ≠ w.heap.size; omega)).trans hHeld.1, (World.cell?_setCell_far _ _ _ _ (by show g ≠ xb; omega)).trans hHeld.2⟩
        clear hO hB hPP hX0 hX1 d2 df
        refine hK.out _ _ hHeld (fun _ => ?_)
        clear hK K
        try simp only [Act.put, List.setIfInBounds_toArray, List.set_cons_zero, List.set_cons_succ]
        generalize w5.setCell ⟨g, k * 3 + 2, none⟩ (.string (tf x.s)) = w6 at *
        refine wpAnyH_done (by kernel_rfl) ?_ _
        go_wp2_with fail
        exact ⟨⟨k + 1, by omega, by go_num, hX09, hX19, by rw [unhide HCS]; exact hO9, hB9, hP9⟩, by simp [intOf]; omega⟩
    · have hkl' : ¬ (k : Int) < (xs.length : Int) := by omega
      have hke : k = xs.length := by omega
      rw [hke, curB_end] at HO
      have hB := unhide HB
      obtain ⟨⟨x0, x1, x2⟩, _⟩ := box3 (unhide HX0)
      obtain ⟨⟨y0, y1, y2⟩, yf⟩ := box3 (unhide HX1)
      go_wp2_with fail
      have hz1 := block_setCell (i := 2) (block_setCell (i := 1) (block_setCell (i := 0) (unhide HX1) (.string nm)) (.bool wk)) (.slice (some ⟨g, 0, none⟩) xs.length c)
      have hOz := insO_set (i := 2) (u := .slice (some ⟨g, 0, none⟩) xs.length c) (insO_set (i := 1) (u := .bool wk) (insO_set (i := 0) (u := .string nm) (unhide HO) (show w.heap.size + 1 < _ by omega)) (show w.heap.size + 1 < _ by omega)) (show w.heap.size + 1 < _ by omega)
      have hBz := ((hB.setCell (p := ⟨w.heap.size + 1, 0, none⟩) (by show _ ≤ w.heap.size + 1; omega) (.string nm)).setCell (p := ⟨w.heap.size + 1, 1, none⟩) (by show _ ≤ w.heap.size + 1; omega) (.bool wk)).setCell (p := ⟨w.heap.size + 1, 2, none⟩) (by show _ ≤ w.heap.size + 1; omega) (.slice (some ⟨g, 0, none⟩) xs.length c)
      generalize ((wr.setCell ⟨w.heap.size + 1, 0, none⟩ (.string nm)).setCell ⟨w.heap.size + 1, 1, none⟩ (.bool wk)).setCell ⟨w.heap.size + 1, 2, none⟩ (.slice (some ⟨g, 0, none⟩) xs.length c) = wz at *
      have hr := (box3 (v0 := .string nm) (v1 := .bool wk) (v2 := .slice (some ⟨g, 0, none⟩) xs.length c) hz1).1
      exact bodyPost_ret (v := .agg #[.string nm, .bool wk, .slice (some ⟨g, 0, none⟩) xs.length c]) (by simp [results, Tryz.results37, go_sem, hr]) rfl ⟨_, rfl, insO_base hOz (by omega), hBz⟩
set_option maxHeartbeats 4000000 in
theorem implFoldName_any (nm : ByteArray) (wk : Bool) (a : Option Addr) (cap : Nat) (xs : List InsD) (s t : ByteArray) (w : World) (hnm : nm.size ≤ maxLen) (ht : t.size ≤ maxLen) (hcap : xs.length ≤ cap) (hcm : cap ≤ maxLen) (hR : InsRow w a xs) :
    Calls Tryz.prog 10 #[.agg #[.string nm, .bool wk, .slice a xs.length cap], .string s, .string t] w (Made w (foldF s t ⟨nm, wk, xs⟩)) := by
  obtain ⟨W0, hW0⟩ : ∃ W0, (((w.alloc (.cells #[.string nm, .bool wk, .slice a xs.length cap] 28)).alloc (.cells #[.string s] 9)).alloc (.cells #[.string t] 9)).alloc (.cells #[.string ⟨#[]⟩, .bool false, .slice none 0 0] 28) = W0 := ⟨_, rfl⟩
  have hB : Below w.heap.size w W0 := by rw [← hW0]; exact bl_alloc (below_alloc3 _ _ _ _) _
  have HSZ : Hid (W0.heap.size = w.heap.size + 4) := by show _ = _; rw [← hW0]; simp only [World.size_alloc]
  have HB0 : Hid (W0.heap[w.heap.size]? = some (.cells #[.string nm, .bool wk, .slice a xs.length cap] 28)) := by
    show _ = _
    rw [← hW0]
    exact box_below (box_below (box_below (new_block w _) (below_alloc1 _ _)) (below_alloc1 _ _)) (below_alloc1 _ _)
  have HBf : Hid (W0.heap[w.heap.size + 1]? = some (.cells #[.string s] 9)) := by
    show _ = _
    rw [← hW0]
    have h := new_block (w.alloc (.cells #[.string nm, .bool wk, .slice a xs.length cap] 28)) (.cells #[.string s] 9)
    rw [World.size_alloc] at h
    exact box_below (box_below h (below_alloc1 _ _)) (below_alloc1 _ _)
  have HBt : Hid (W0.heap[w.heap.size + 1 + 1]? = some (.cells #[.string t] 9)) := by
    show _ = _
    rw [← hW0]
    have h := new_block ((w.alloc (.cells #[.string nm, .bool wk, .slice a xs.length cap] 28)).alloc (.cells #[.string s] 9)) (.cells #[.string t] 9)
    rw [World.size_alloc, World.size_alloc] at h
    exact box_below h (below_alloc1 _ _)
  have HB1 : Hid (W0.heap[w.heap.size + 1 + 1 + 1]? = some (.cells #[.string ⟨#[]⟩, .bool false, .slice none 0 0] 28)) := by
    show _ = _
    rw [← hW0]
    have h := new_block (((w.alloc (.cells #[.string nm, .bool wk, .slice a xs.length cap] 28)).alloc (.cells #[.string s] 9)).alloc (.cells #[.string t] 9)) (.cells #[.string ⟨#[]⟩, .bool false, .slice none 0 0] 28)
    rw [World.size_alloc, World.size_alloc, World.size_alloc] at h
    exact h
  have HR := hide (hR.below hB)
  have HW0 := hide hW0
  clear hR hW0
  go_enter Tryz.func10, Tryz.ntmps10
  go_upto_region 1 with fail
  rw [unhide HW0]
  clear HW0
  obtain ⟨⟨x0, x1, x2⟩, _⟩ := box3 (unhide HB0)
  go_wp2_with fail
  refine (implFunOk_any nm wk a cap xs _ hnm hcap hcm (unhide HR)).mono ?_
  rintro e w1 ⟨rfl, hb1⟩
  replace HB0 := hide (box_below (unhide HB0) hb1)
  replace HBf := hide (box_below (unhide HBf) hb1)
  replace HBt := hide (box_below (unhide HBt) hb1)
  replace HB1 := hide (box_below (unhide HB1) hb1)
  replace HR := hide ((unhide HR).below hb1)
  replace hB := bl_trans hB hb1
  have hs1 : w.heap.size + 4 ≤ w1.heap.size := by rw [← unhide HSZ]; exact hb1.size
  clear hb1 x0 x1 x2
  cases hf : funOkB nm xs
  · clear HR HB0
    obtain ⟨⟨y0, y1, y2⟩, yf⟩ := box3 (unhide HB1)
    go_wp2_with fail
    have hz1 := block_setCell (i := 2) (block_setCell (i := 1) (block_setCell (i := 0) (unhide HB1) (.string ⟨#[]⟩)) (.bool false)) (.slice none 0 0)
    have hBz := ((hB.setCell (p := ⟨w.heap.size + 1 + 1 + 1, 0, none⟩) (by show _ ≤ w.heap.size + 1 + 1 + 1; omega) (.string ⟨#[]⟩)).setCell (p := ⟨w.heap.size + 1 + 1 + 1, 1, none⟩) (by show _ ≤ w.heap.size + 1 + 1 + 1; omega) (.bool false)).setCell (p := ⟨w.heap.size + 1 + 1 + 1, 2, none⟩) (by show _ ≤ w.heap.size + 1 + 1 + 1; omega) (.slice none 0 0)
    generalize ((w1.setCell ⟨w.heap.size + 1 + 1 + 1, 0, none⟩ (.string ⟨#[]⟩)).setCell ⟨w.heap.size + 1 + 1 + 1, 1, none⟩ (.bool false)).setCell ⟨w.heap.size + 1 + 1 + 1, 2, none⟩ (.slice none 0 0) = wz at *
    have hr := (box3 (v0 := .string ⟨#[]⟩) (v1 := .bool false) (v2 := .slice none 0 0) hz1).1
    have hg : foldF s t ⟨nm, wk, xs⟩ = default := by unfold foldF; rw [if_neg (by simp_all)]
    rw [hg]
    exact bodyPost_ret (v := .agg #[.string ⟨#[]⟩, .bool false, .slice none 0 0]) (by simp [results, Tryz.results10, go_sem, hr]) rfl ⟨_, rfl, World.ownsRow_nil _ _ _ _, hBz⟩
  · have t0 : w1.cell? ⟨w.heap.size + 1 + 1, 0, none⟩ = some (.string t) := by rw [cell_of_block (unhide HBt)]; rfl
    go_wp2_with fail
    refine (implName_any t _ ht).mono ?_
    rintro e w2 ⟨rfl, hb2⟩
    replace HB0 := hide (box_below (unhide HB0) hb2)
    replace HBf := hide (box_below (unhide HBf) hb2)
    replace HBt := hide (box_below (unhide HBt) hb2)
    replace HB1 := hide (box_below (unhide HB1) hb2)
    replace HR := hide ((unhide HR).below hb2)
    replace hB := bl_trans hB hb2
    have hs2 := Nat.le_trans hs1 hb2.size
    clear hb2 t0 hs1
    cases hn : nameB t
    · clear HR HB0
      obtain ⟨⟨y0, y1, y2⟩, yf⟩ := box3 (unhide HB1)
      go_wp2_with fail
      have hz1 := block_setCell (i := 2) (block_setCell (i := 1) (block_setCell (i := 0) (unhide HB1) (.string ⟨#[]⟩)) (.bool false)) (.slice none 0 0)
      have hBz := ((hB.setCell (p := ⟨w.heap.size + 1 + 1 + 1, 0, none⟩) (by show _ ≤ w.heap.size + 1 + 1 + 1; omega) (.string ⟨#[]⟩)).setCell (p := ⟨w.heap.size + 1 + 1 + 1, 1, none⟩) (by show _ ≤ w.heap.size + 1 + 1 + 1; omega) (.bool false)).setCell (p := ⟨w.heap.size + 1 + 1 + 1, 2, none⟩) (by show _ ≤ w.heap.size + 1 + 1 + 1; omega) (.slice none 0 0)
      generalize ((w2.setCell ⟨w.heap.size + 1 + 1 + 1, 0, none⟩ (.string ⟨#[]⟩)).setCell ⟨w.heap.size + 1 + 1 + 1, 1, none⟩ (.bool false)).setCell ⟨w.heap.size + 1 + 1 + 1, 2, none⟩ (.slice none 0 0) = wz at *
      have hr := (box3 (v0 := .string ⟨#[]⟩) (v1 := .bool false) (v2 := .slice none 0 0) hz1).1
      have hg : foldF s t ⟨nm, wk, xs⟩ = default := by unfold foldF; rw [if_neg (by simp_all)]
      rw [hg]
      exact bodyPost_ret (v := .agg #[.string ⟨#[]⟩, .bool false, .slice none 0 0]) (by simp [results, Tryz.results10, go_sem, hr]) rfl ⟨_, rfl, World.ownsRow_nil _ _ _ _, hBz⟩
    · have hlen : 0 < xs.length ∧ xs.length ≤ 1000 := by
        unfold funOkB at hf
        simp only [Bool.and_eq_true, decide_eq_true_iff] at hf
        omega
      have HPW : Hid ((fun w' : World => w'.heap[w.heap.size + 1]? = some (.cells #[.string s] 9) ∧ w'.heap[w.heap.size + 1 + 1]? = some (.cells #[.string t] 9)) w2) := ⟨unhide HBf, unhide HBt⟩
      obtain ⟨⟨x0, x1, x2⟩, _⟩ := box3 (unhide HB0)
      have hmf : (Instr.makeFunc (.func 38) #[] #[.pointer (some ⟨w.heap.size + 1, 0, none⟩), .pointer (some ⟨w.heap.size + 1 + 1, 0, none⟩)]).run Tryz.prog w2 = .ok (.func (.func 38) #[] #[.pointer (some ⟨w.heap.size + 1, 0, none⟩), .pointer (some ⟨w.heap.size + 1 + 1, 0, none⟩)]) w2 := rfl
      go_wp2_with fail
      refine (withSwap_any (w.heap.size + 1) (w.heap.size + 1 + 1) (fun w' : World => w'.heap[w.heap.size + 1]? = some (.cells #[.string s] 9) ∧ w'.heap[w.heap.size + 1 + 1]? = some (.cells #[.string t] 9)) (swap s t) nm wk a cap xs w2 ((Stable.box _ _).and (Stable.box _ _)) (fun w' b i v hb hp => ⟨set_oth hp.1 (by omega), set_oth hp.2 (by omega)⟩) (fun nm w' hs hp => swap_any nm s t _ _ w' (by rw [cell_of_block hp.1]; rfl) (by rw [cell_of_block hp.2]; rfl)) (unhide HPW) hcap hcm hlen.1 hlen.2 hnm (unhide HR)).mono ?_
      rw [← renB_map]
      rintro e w3 ⟨v, rfl, hO, hb3⟩
      replace HB1 := hide (box_below (unhide HB1) hb3)
      replace hB := bl_trans hB hb3
      dsimp only at hO ⊢
      clear hb3 HR HB0 x0 x1 x2
      obtain ⟨va, vc, rfl⟩ := insO_form hO
      have HO := hide hO
      clear hO
      obtain ⟨⟨y0, y1, y2⟩, yf⟩ := box3 (unhide HB1)
      generalize hys : renB s t xs = ys at *
      go_wp2_with fail
      have hz1 := block_setCell (i := 2) (block_setCell (i := 1) (block_setCell (i := 0) (unhide HB1) (.string nm)) (.bool wk)) (.slice va ys.length vc)
      have hOz := insO_set (i := 2) (u := .slice va ys.length vc) (insO_set (i := 1) (u := .bool wk) (insO_set (i := 0) (u := .string nm) (unhide HO) (show w.heap.size + 1 + 1 + 1 < _ by omega)) (show w.heap.size + 1 + 1 + 1 < _ by omega)) (show w.heap.size + 1 + 1 + 1 < _ by omega)
      have hBz := ((hB.setCell (p := ⟨w.heap.size + 1 + 1 + 1, 0, none⟩) (by show _ ≤ w.heap.size + 1 + 1 + 1; omega) (.string nm)).setCell (p := ⟨w.heap.size + 1 + 1 + 1, 1, none⟩) (by show _ ≤ w.heap.size + 1 + 1 + 1; omega) (.bool wk)).setCell (p := ⟨w.heap.size + 1 + 1 + 1, 2, none⟩) (by show _ ≤ w.heap.size + 1 + 1 + 1; omega) (.slice va ys.length vc)
      generalize ((w3.setCell ⟨w.heap.size + 1 + 1 + 1, 0, none⟩ (.string nm)).setCell ⟨w.heap.size + 1 + 1 + 1, 1, none⟩ (.bool wk)).setCell ⟨w.heap.size + 1 + 1 + 1, 2, none⟩ (.slice va ys.length vc) = wz at *
      have hr := (box3 (v0 := .string nm) (v1 := .bool wk) (v2 := .slice va ys.length vc) hz1).1
      have hg : foldF s t ⟨nm, wk, xs⟩ = ⟨nm, wk, ys⟩ := by unfold foldF; rw [if_pos (by simp_all), ← hys]
      rw [hg]
      exact bodyPost_ret (v := .agg #[.string nm, .bool wk, .slice va ys.length vc]) (by simp [results, Tryz.results10, go_sem, hr]) rfl ⟨_, rfl, insO_base hOz (by omega), hBz⟩
end Go.Proofs.YthbbmookhcalkaaGreatDoor.FoldN
