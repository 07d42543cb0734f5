/- The contracts of the specification's draws of functions. -/
import Derived.Test.YthbbmookhcalkaaGreatDoorPkbd957d2b
import Derived.Test.YthbbmookhcalkaaGreatDoorDrawIns
import Derived.OwnWalk
import Derived.Maps.AppendAt
namespace Go.Proofs.YthbbmookhcalkaaGreatDoor.DrawFun
open Go.ChangeShapes Go.WideShapes Go.ChangeAt Go.RowKit Go.Joins
open Go.Proofs.YthbbmookhcalkaaGreatDoor.Base Go.Proofs.YthbbmookhcalkaaGreatDoor.InsA Go.Proofs.YthbbmookhcalkaaGreatDoor.Funs Go.Proofs.YthbbmookhcalkaaGreatDoor.Open Go.Proofs.YthbbmookhcalkaaGreatDoor.FunS Go.Proofs.YthbbmookhcalkaaGreatDoor.Keep Go.Proofs.YthbbmookhcalkaaGreatDoor.UnitS Go.Proofs.YthbbmookhcalkaaGreatDoor.Rd Go.Proofs.YthbbmookhcalkaaGreatDoor.DrawIns
set_option linter.unusedVariables false
set_option maxRecDepth 100000

def encI (x : InsD) : List Value := [.int .i64 x.o, .int .i64 x.n, .string x.s]
/-- A slice of instructions of the call's own. -/
def InsOwn (w : World) (B : Nat) (v : Value) (xs : List InsD) : Prop := w.ownsRow B 105 3 v xs.length (xs.flatMap encI)
theorem flat_at (xs : List InsD) : ∀ (i : Nat) (h : i < xs.length), (xs.flatMap encI)[i * 3]? = some (.int .i64 xs[i].o) ∧ (xs.flatMap encI)[i * 3 + 1]? = some (.int .i64 xs[i].n) ∧ (xs.flatMap encI)[i * 3 + 2]? = some (.string xs[i].s) := by
  induction xs with
  | nil => intro i h; simp at h
  | cons x r ih =>
    intro i h
    rw [List.flatMap_cons]
    match i with
    | 0 => simp [encI]
    | i + 1 =>
      have hl : (encI x).length = 3 := rfl
      obtain ⟨h0, h1, h2⟩ := ih i (by simpa using h)
      refine ⟨?_, ?_, ?_⟩
      · rw [List.getElem?_append_right (by omega), hl, show (i + 1) * 3 - 3 = i * 3 by omega]; simpa using h0
      · rw [List.getElem?_append_right (by omega), hl, show (i + 1) * 3 + 1 - 3 = i * 3 + 1 by omega]; simpa using h1
      · rw [List.getElem?_append_right (by omega), hl, show (i + 1) * 3 + 2 - 3 = i * 3 + 2 by omega]; simpa using h2
theorem InsOwn.row {w : World} {B : Nat} {v : Value} {xs : List InsD} (h : InsOwn w B v xs) (hs : ∀ x ∈ xs, x.s.size ≤ maxLen) : ∃ a cap, v = .slice a xs.length cap ∧ xs.length ≤ cap ∧ cap ≤ maxLen ∧ InsRow w a xs := by
  obtain ⟨_, ⟨rfl, h0⟩ | ⟨g, cap, cur, rfl, hB, hg, hn, hm, hsz, ht⟩⟩ := h
  · exact ⟨none, 0, by rw [h0], by omega, Nat.zero_le _, .inl (List.length_eq_zero_iff.1 h0)⟩
  · refine ⟨_, cap, rfl, hn, hm, .inr ⟨g, 0, rfl, fun i hi => ?_⟩⟩
    have t : ∀ j v, j < xs.length * 3 → (xs.flatMap encI)[j]? = some v → w.cell? ⟨g, j, none⟩ = some v := fun j v hj e => by
      rw [cell_of_block hg]
      rw [← ht, List.getElem?_take_of_lt hj] at e
      simpa using e
    obtain ⟨h0, h1, h2⟩ := flat_at xs i hi
    simp only [Nat.zero_add]
    exact ⟨t _ _ (by omega) h0, t _ _ (by omega) h1, t _ _ (by omega) h2, hs _ (List.getElem_mem _)⟩
theorem own_grown {w w' : World} {B : Nat} {e : TypeId} {z n : Nat} {v : Value} {xs : List Value} {row : Option Nat} (h : w.ownsRow B e z v n xs) (hg : w.grownBy w' row) (hne : v.ownBlock = none ∨ v.ownBlock ≠ row) : w'.ownsRow B e z v n xs := h.kept hg hne
theorem turns_by {R : Nat} {w w' : World} (h : Turns R w w') : w.grownBy w' (some R) := ⟨h.os, h.tape, h.output, h.size, fun k hk hne => h.block k hk (fun e => hne (by rw [e]))⟩
theorem own_turns {w w' : World} {R B : Nat} {e : TypeId} {z n : Nat} {v : Value} {xs : List Value} (h : w.ownsRow B e z v n xs) (ht : Turns R w w') (hR : R < B) : w'.ownsRow B e z v n xs :=
  own_grown h (turns_by ht) (.inr fun e => by have := h.lt _ e; omega)
theorem own_set' {w : World} {B G o : Nat} {e : TypeId} {z n : Nat} {v u : Value} {xs : List Value} (h : w.ownsRow B e z v n xs) (hne : v.ownBlock ≠ some G) : (w.setCell ⟨G, o, none⟩ u).ownsRow B e z v n xs :=
  own_grown h (row := some G) ⟨rfl, rfl, rfl, by simp, fun k hk hne => Below.heap_setCell w ⟨G, o, none⟩ u k (fun e => hne (by rw [e]))⟩ (.inr hne)
theorem rd_grown {w w' : World} {R p : Nat} {row : Option Nat} (h : RdAt w R p) (hg : w.grownBy w' row) (hr : ∀ k, row = some k → R < k) : RdAt w' R p := by
  obtain ⟨a, len, cap, hh, hl, hy⟩ := h
  have hlt := (Array.getElem?_eq_some_iff.1 hh).1
  refine ⟨a, len, cap, (hg.block R hlt (fun e => by have := hr R e.symm; omega)).trans hh, hl, ?_⟩
  rcases hy with hy | ⟨b, off, rfl, hbR, hc⟩
  · exact .inl hy
  · refine .inr ⟨b, off, rfl, hbR, fun i hi => ?_⟩
    obtain ⟨c, h1, h2⟩ := hc i hi
    exact ⟨c, h1, hg.cell h2 (fun e => by have := hr b e.symm; omega)⟩
theorem turns_grown {R : Nat} {w w2 w3 : World} {row : Option Nat} (h : Turns R w w2) (hg : w2.grownBy w3 row) (hr : ∀ k, row = some k → w.heap.size ≤ k) : Turns R w w3 :=
  ⟨hg.os.trans h.os, hg.tape.trans h.tape, hg.output.trans h.output, Nat.le_trans h.size hg.size, fun k hk hne => (hg.block k (Nat.lt_of_lt_of_le hk h.size) (fun e => by have := hr k e.symm; omega)).trans (h.block k hk hne)⟩
theorem box_grown {w w' : World} {G : Nat} {o : Obj} {row : Option Nat} (h : w.heap[G]? = some o) (hg : w.grownBy w' row) (hne : some G ≠ row) : w'.heap[G]? = some o := (hg.block G (Array.getElem?_eq_some_iff.1 h).1 hne).trans h
theorem infoInsP : (Tryz.prog.info? 105).map (fun i => (i.zero, i.size, i.bytes)) = some (some (.agg #[.int .i64 0, .int .i64 0, .string ⟨#[]⟩]), 3, 32) := by kernel_rfl
theorem ins_new (w : World) (x : InsD) : ∀ j u, (encI x)[j]? = some u → (w.alloc (.cells #[.int .i64 x.o, .int .i64 x.n, .string x.s] 105)).cell? ((⟨w.heap.size, 0, none⟩ : Addr).add j) = some u := by
  intro j u hj
  rw [add_plain, cell_of_block (new_block w _)]
  match j, hj with
  | 0, hj => simpa [encI] using hj
  | 1, hj => simpa [encI] using hj
  | 2, hj => simpa [encI] using hj
theorem ins_snoc {w : World} {B : Nat} {v : Value} {xs : List InsD} {x : InsD} (h : w.ownsRow B 105 3 v (xs.length + 1) (xs.flatMap encI ++ encI x)) : InsOwn w B v (xs ++ [x]) := by
  unfold InsOwn
  simpa [List.flatMap_append] using h
def short (xs : List InsD) : Prop := ∀ x ∈ xs, okN x.s
theorem short_snoc {xs : List InsD} {x : InsD} (h : short xs) (hx : okN x.s) : short (xs ++ [x]) := by
  intro y hy
  rcases List.mem_append.1 hy with hy | hy
  · exact h y hy
  · rw [List.mem_singleton.1 hy]; exact hx

theorem own_slice {w : World} {B : Nat} {e : TypeId} {z n : Nat} {v : Value} {xs : List Value} (h : w.ownsRow B e z v n xs) : ∃ a m c, v = .slice a m c := by
  obtain ⟨_, ⟨rfl, _⟩ | ⟨g, cap, cur, rfl, _⟩⟩ := h
  · exact ⟨_, _, _, rfl⟩
  · exact ⟨_, _, _, rfl⟩
theorem own_box_ne {w : World} {B G : Nat} {e t : TypeId} {z n : Nat} {v : Value} {xs : List Value} {C : Array Value} (h : w.ownsRow B e z v n xs) (hb : w.heap[G]? = some (.cells C t)) (ht : e ≠ t) : v.ownBlock ≠ some G := by
  obtain ⟨_, ⟨rfl, _⟩ | ⟨g, cap, cur, rfl, _, hg, _⟩⟩ := h
  · intro e; cases e
  · intro e
    obtain rfl : g = G := by simpa [Value.ownBlock] using e
    rw [hg] at hb
    simp at hb
    exact ht hb.2
theorem app_all {w w4 w5 : World} {R p F : Nat} {nm : ByteArray} {wk : Bool} {v v' : Value} {xs : List InsD} {x : InsD} {blk : Obj} (hlt : R < w.heap.size) (hF : w.heap.size < F) (HO : InsOwn w4 w.heap.size v xs)
    (HF : w4.heap[F]? = some (.cells #[.string nm, .bool wk, v] 28)) (HX : w4.heap[w.heap.size]? = some (.cells #[.string ⟨#[]⟩, .bool false, .slice none 0 0] 28)) (HR : RdAt w4 R p) (HT : Turns R w w4)
    (h5 : w5.ownsRow w.heap.size 105 3 v' (xs.length + 1) (xs.flatMap encI ++ encI x)) (hg : (w4.alloc blk).grownBy w5 v.ownBlock) :
    InsOwn (w5.setCell ⟨F, 2, none⟩ v') w.heap.size v' (xs ++ [x]) ∧ (w5.setCell ⟨F, 2, none⟩ v').heap[F]? = some (.cells #[.string nm, .bool wk, v'] 28) ∧ (w5.setCell ⟨F, 2, none⟩ v').heap[w.heap.size]? = some (.cells #[.string ⟨#[]⟩, .bool false, .slice none 0 0] 28) ∧ RdAt (w5.setCell ⟨F, 2, none⟩ v') R p ∧ Turns R w (w5.setCell ⟨F, 2, none⟩ v') := by
  have hrow : ∀ k, v.ownBlock = some k → w.heap.size ≤ k := fun k hk => (World.ownsRow.lt HO k hk).1
  have hF5 := box_grown (box_below HF (below_alloc1 w4 blk)) hg (fun e => own_box_ne HO HF (by decide) e.symm)
  have hX5 := box_grown (box_below HX (below_alloc1 w4 blk)) hg (fun e => own_box_ne HO HX (by decide) e.symm)
  refine ⟨own_set' (ins_snoc h5) (own_box_ne h5 hF5 (by decide)), block_setCell hF5 _, (Below.heap_setCell _ _ _ _ (by simp; omega)).trans hX5, rd_set (rd_grown (rd_alloc HR blk) hg (fun k hk => by have := hrow k hk; omega)) (by omega) _, (turns_grown (HT.alloc blk) hg hrow).set (by omega) _⟩
/-- What a function's draw leaves behind. -/
def FunLeft (R p k : Nat) (nm : ByteArray) (w : World) (e : Ending) (w' : World) : Prop :=
  ∃ (wk : Bool) (v : Value) (xs : List InsD) (p' : Nat), e = .returned (.agg #[.string nm, .bool wk, v]) ∧ InsOwn w' w.heap.size v xs ∧ xs.length ≤ 6 ∧ short xs ∧ p' ≤ p + k ∧ RdAt w' R p' ∧ Turns R w w'

theorem own_three {w : World} {B Z : Nat} {e : TypeId} {z n : Nat} {v a b c : Value} {xs : List Value} (h : w.ownsRow B e z v n xs) (hne : v.ownBlock ≠ some Z) : (((w.setCell ⟨Z, 0, none⟩ a).setCell ⟨Z, 1, none⟩ b).setCell ⟨Z, 2, none⟩ c).ownsRow B e z v n xs :=
  own_set' (own_set' (own_set' h hne) hne) hne
theorem box_three {w : World} {Z G : Nat} {a b c : Value} {o : Obj} (h : w.heap[G]? = some o) (hne : G ≠ Z) : (((w.setCell ⟨Z, 0, none⟩ a).setCell ⟨Z, 1, none⟩ b).setCell ⟨Z, 2, none⟩ c).heap[G]? = some o :=
  (Below.heap_setCell _ _ _ _ hne).trans ((Below.heap_setCell _ _ _ _ hne).trans ((Below.heap_setCell _ _ _ _ hne).trans h))
theorem set3_all {w w4 : World} {R p F Z : Nat} {nm : ByteArray} {wk : Bool} {v : Value} {xs : List InsD} {x : InsD} {d0 d1 d2 : Value} (hlt : R < w.heap.size) (hF : F < Z) (hX : w.heap.size < Z) (hZ : w.heap.size ≤ Z) (hne : v.ownBlock ≠ some Z) (HO : InsOwn w4 w.heap.size v xs)
    (HF : w4.heap[F]? = some (.cells #[.string nm, .bool wk, v] 28)) (HX : w4.heap[w.heap.size]? = some (.cells #[.string ⟨#[]⟩, .bool false, .slice none 0 0] 28)) (HZ : w4.heap[Z]? = some (.cells #[d0, d1, d2] 105)) (HR : RdAt w4 R p) (HT : Turns R w w4) :
    (fun w' => InsOwn w' w.heap.size v xs ∧ w'.heap[F]? = some (.cells #[.string nm, .bool wk, v] 28) ∧ w'.heap[w.heap.size]? = some (.cells #[.string ⟨#[]⟩, .bool false, .slice none 0 0] 28) ∧ w'.heap[Z]? = some (.cells #[.int .i64 x.o, .int .i64 x.n, .string x.s] 105) ∧ RdAt w' R p ∧ Turns R w w') (((w4.setCell ⟨Z, 0, none⟩ (.int .i64 x.o)).setCell ⟨Z, 1, none⟩ (.int .i64 x.n)).setCell ⟨Z, 2, none⟩ (.string x.s)) :=
  ⟨own_three HO hne, box_three HF (by omega), box_three HX (by omega), block_setCell (block_setCell (block_setCell HZ _) _) _, rd_set (rd_set (rd_set HR (by omega) _) (by omega) _) (by omega) _, ((HT.set (by omega) _).set (by omega) _).set (by omega) _⟩
theorem fun_fin {w w' : World} {R p p' k F : Nat} {nm : ByteArray} {wk : Bool} {v a b c : Value} {xs : List InsD} (hlt : R < w.heap.size) (hl : xs.length ≤ 6) (hs : short xs) (hp : p' ≤ p + k)
    (h : InsOwn w' w.heap.size v xs ∧ w'.heap[F]? = some (.cells #[.string nm, .bool wk, v] 28) ∧ w'.heap[w.heap.size]? = some (.cells #[.string ⟨#[]⟩, .bool false, .slice none 0 0] 28) ∧ RdAt w' R p' ∧ Turns R w w') :
    FunLeft R p k nm w (.returned (.agg #[.string nm, .bool wk, v])) (((w'.setCell ⟨w.heap.size, 0, none⟩ a).setCell ⟨w.heap.size, 1, none⟩ b).setCell ⟨w.heap.size, 2, none⟩ c) :=
  ⟨wk, v, xs, p', rfl, own_three h.1 (own_box_ne h.1 h.2.2.1 (by decide)), hl, hs, hp, rd_set (rd_set (rd_set h.2.2.2.1 hlt _) hlt _) hlt _, ((h.2.2.2.2.set (Nat.le_refl _) _).set (Nat.le_refl _) _).set (Nat.le_refl _) _⟩

set_option maxHeartbeats 4000000 in
theorem fun_draw (w : World) (R p : Nat) (nm : ByteArray) (h : RdAt w R p) (hp : p ≤ 4294964000) :
    Calls Tryz.prog 119 #[.pointer (some ⟨R, 0, none⟩), .string nm] w (FunLeft R p 30 nm w) := by
  have hlt := rd_lt h
  have H := hide (rd_alloc h (.cells #[.string ⟨#[]⟩, .bool false, .slice none 0 0] 28))
  clear h
  obtain ⟨i0, hi, hz0, hz1, hz2⟩ := info_parts infoInsP
  go_enter Tryz.func119, Tryz.ntmps119
  go_wp2_with fail
  refine (pick_any _ R p 5 (unhide H) (by omega) (by omega)).mono ?_
  rintro e w1 ⟨v1, hv1, rfl, hr1, ht1⟩
  have HR1 := hide hr1
  have HT1 := hide ((Turns.of_below (R := R) (below_alloc1 w _)).trans ht1)
  have HX1 := hide (box_turns (new_block w _) ht1 (by omega))
  have hs1 : w.heap.size + 1 ≤ w1.heap.size := by have := ht1.size; simpa using this
  clear hr1 ht1 H
  go_wp2_with fail
  generalize ((v1 : Int) == 0) = wk
  have HF1 := hide (new_block w1 (.cells #[.string nm, .bool wk, .slice none 0 0] 28))
  refine (pick_any _ R (p + 1) 5 (rd_alloc (unhide HR1) _) (by omega) (by omega)).mono ?_
  rintro e w2 ⟨v2, hv2, rfl, hr2, ht2⟩
  have hFR : w1.heap.size ≠ R := by omega
  have HF := hide (box_turns (unhide HF1) ht2 hFR)
  have HX := hide (box_turns (box_below (unhide HX1) (below_alloc1 w1 (.cells #[.string nm, .bool wk, .slice none 0 0] 28))) ht2 (by omega))
  have HR := hide hr2
  have HT := hide ((unhide HT1).trans ((Turns.of_below (below_alloc1 w1 (.cells #[.string nm, .bool wk, .slice none 0 0] 28))).trans ht2))
  clear HR1 HT1 HX1 HF1 hr2 ht2
  go_wp2_with fail
  go_loopw [6] (fun i w' => ∃ (j p' : Nat) (v : Value) (xs : List InsD), i = .int .i64 j ∧ xs.length + j ≤ 4 ∧ p' + 3 * j ≤ p + 2 + 12 ∧ short xs ∧ InsOwn w' w.heap.size v xs ∧ w'.heap[w1.heap.size]? = some (.cells #[.string nm, .bool wk, v] 28) ∧ w'.heap[w.heap.size]? = some (.cells #[.string ⟨#[]⟩, .bool false, .slice none 0 0] 28) ∧ RdAt w' R p' ∧ Turns R w w') (fun i _ => (intOf i).toNat)
  case atStart => exact ⟨v2, p + 1 + 1, _, [], rfl, by simp; omega, by omega, (fun x hx => by cases hx), World.ownsRow_nil _ _ _ _, unhide HF, unhide HX, unhide HR, unhide HT⟩
  case round =>
    obtain ⟨j, p', v, xs, rfl, hxl, hpj, hsh, hown, hF, hX, hR, hT⟩ := hrel
    have HF := hide hF
    have HX := hide hX
    have HR := hide hR
    have HT := hide hT
    have HO := hide hown
    have HSH := hide hsh
    clear hF hX hR hT hown hsh
    by_cases hj : 0 < j
    · have hj' : (0 : Int) < (j : Int) := by omega
      go_wp2_with fail
      refine (right_any _ R p' (unhide HR) (by omega)).mono ?_
      rintro e w3 ⟨o, n, s, p3, rfl, hs3, hp3, hr3, ht3⟩
      have HF3 := hide (box_below (box_turns (unhide HF) ht3 hFR) (below_alloc1 w3 (.cells #[.int .i64 o, .int .i64 n, .string s] 105)))
      have HX3 := hide (box_below (box_turns (unhide HX) ht3 (by omega)) (below_alloc1 w3 (.cells #[.int .i64 o, .int .i64 n, .string s] 105)))
      have HR3 := hide (rd_alloc hr3 (.cells #[.int .i64 o, .int .i64 n, .string s] 105))
      have HT3 := hide (((unhide HT).trans ht3).alloc (.cells #[.int .i64 o, .int .i64 n, .string s] 105))
      have HO3 := hide (World.ownsRow.alloc (own_turns (unhide HO) ht3 hlt) (.cells #[.int .i64 o, .int .i64 n, .string s] 105))
      have HY3 := hide (new_block w3 (.cells #[.int .i64 o, .int .i64 n, .string s] 105))
      clear HF HX HR HT HO hr3 ht3
      cases hla : lastB o
      · go_wp2_with fail
        refine (specLast_any _ _ _ _).mono ?_
        rintro e w4 ⟨rfl, hb4⟩
        rw [hla]
        have HF4 := hide (box_below (unhide HF3) hb4)
        have HX4 := hide (box_below (unhide HX3) hb4)
        have HR4 := hide (rd_below (unhide HR3) hb4)
        have HT4 := hide ((unhide HT3).trans (Turns.of_below hb4))
        have HO4 : Hid (InsOwn w4 w.heap.size v xs) := own_turns (R := R) (unhide HO3) (Turns.of_below hb4) hlt
        have hsz4 := (unhide HT4).size
        obtain ⟨⟨y0, y1, y2⟩, _⟩ := box3 (box_below (unhide HY3) hb4)
        obtain ⟨⟨f0, f1, f2⟩, fz0, fz1, fz2⟩ := box3 (unhide HF4)
        have hne := own_box_ne (unhide HO4) (unhide HF4) (by decide)
        have f2' : ∀ ob, (w4.alloc ob).cell? ⟨w1.heap.size, 2, none⟩ = some v := fun ob => (Stable.cell _ _).alloc f2 ob
        clear HF3 HX3 HR3 HT3 HO3 HY3 hb4
        go_wp2_with (first
          | (at_builtin; refine wpList_append_own _ rfl _ _ 26 rfl w.heap.size 105 i0 (.agg #[.int .i64 0, .int .i64 0, .string ⟨#[]⟩]) 3 32 Tryz.underlying26 hi hz0 hz1 hz2 rfl (by decide) _ xs.length (xs.flatMap encI) rfl (World.ownsRow.alloc (unhide HO4) _) ⟨w4.heap.size, 0, none⟩ 1 1 (encI ⟨o, n, s⟩) rfl rfl (ins_new w4 ⟨o, n, s⟩) (by simp [encI, Value.oneCell']) (by unfold maxLen; omega) (by omega) (by simp; omega) ?_; intro v' w5 hown5 hgrow5 _; obtain ⟨a5, n5, c5, rfl⟩ := own_slice hown5; obtain ⟨⟨g0, g1, g2⟩, z0, z1, z2⟩ := box3 (box_grown (box_below (unhide HF4) (below_alloc1 w4 _)) hgrow5 (fun e => hne e.symm)))
          | go_in)
        have hall := app_all (x := ⟨o, n, s⟩) hlt (by omega) (unhide HO4) (unhide HF4) (unhide HX4) (unhide HR4) (unhide HT4) hown5 hgrow5
        exact ⟨⟨j - 1, p3, _, xs ++ [⟨o, n, s⟩], by go_num, by simp; omega, by omega, short_snoc (unhide HSH) hs3, hall⟩, by simp [intOf]; omega⟩
      · go_wp2_with fail
        refine (specLast_any _ _ _ _).mono ?_
        rintro e w4 ⟨rfl, hb4⟩
        rw [hla]
        go_wp2_with fail
        exact ⟨⟨j - 1, p3, v, xs, by go_num, by omega, by omega, unhide HSH, own_turns (R := R) (unhide HO3) (Turns.of_below hb4) hlt, box_below (unhide HF3) hb4, box_below (unhide HX3) hb4, rd_below (unhide HR3) hb4, (unhide HT3).trans (Turns.of_below hb4)⟩, by simp [intOf]; omega⟩
    · have hj0 : j = 0 := by omega
      subst hj0
      go_wp2_with fail
      have HZ := hide (new_block wr (.cells #[.int .i64 6, .int .i64 0, .string ⟨#[]⟩] 105))
      refine (pick_any _ R p' 6 (rd_alloc (unhide HR) _) (by omega) (by omega)).mono ?_
      rintro e w3 ⟨v3, hv3, rfl, hr3, ht3⟩
      have hsw := (unhide HT).size
      have hFw : w1.heap.size < wr.heap.size := (Array.getElem?_eq_some_iff.1 (unhide HF)).1
      have HF3 := hide (box_turns (box_below (unhide HF) (below_alloc1 wr (.cells #[.int .i64 6, .int .i64 0, .string ⟨#[]⟩] 105))) ht3 hFR)
      have HX3 := hide (box_turns (box_below (unhide HX) (below_alloc1 wr (.cells #[.int .i64 6, .int .i64 0, .string ⟨#[]⟩] 105))) ht3 (by omega))
      have HZ3 := hide (box_turns (unhide HZ) ht3 (by omega))
      have HR3 := hide hr3
      have HT3 := hide (((unhide HT).alloc (.cells #[.int .i64 6, .int .i64 0, .string ⟨#[]⟩] 105)).trans ht3)
      have HO3 := hide (own_turns (World.ownsRow.alloc (unhide HO) (.cells #[.int .i64 6, .int .i64 0, .string ⟨#[]⟩] 105)) ht3 hlt)
      have hneZ : v.ownBlock ≠ some wr.heap.size := fun e => by have := World.ownsRow.lt (unhide HO) _ e; omega
      clear HF HX HR HT HO HZ hr3 ht3
      by_cases h0 : v3 = 0
      · subst h0
        go_wp2_with fail
        refine (name_ok _ R (p' + 1) (unhide HR3) (by omega)).mono ?_
        rintro e w6 ⟨nn, hnn, rfl, hr6, ht6⟩
        have HS6 := hide (set3_all (x := ⟨4, 0, nn⟩) hlt (by omega) (by omega) (by omega) hneZ (own_turns (unhide HO3) ht6 hlt) (box_turns (unhide HF3) ht6 hFR) (box_turns (unhide HX3) ht6 (by omega)) (box_turns (unhide HZ3) ht6 (by omega)) hr6 ((unhide HT3).trans ht6))
        obtain ⟨⟨b0, b1, b2⟩, bz0, bz1, bz2⟩ := box3 (box_turns (unhide HZ3) ht6 (by omega))
        clear HF3 HX3 HZ3 HR3 HT3 HO3 hr6 ht6
        have HO4 := hide (unhide HS6).1
        have HF4 := hide (unhide HS6).2.1
        have HX4 := hide (unhide HS6).2.2.1
        have HZ4 := hide (unhide HS6).2.2.2.1
        have HR4 := hide (unhide HS6).2.2.2.2.1
        have HT4 := hide (unhide HS6).2.2.2.2.2
        obtain ⟨⟨y0, y1, y2⟩, _⟩ := box3 (unhide HZ4)
        obtain ⟨⟨f0, f1, f2⟩, fz0, fz1, fz2⟩ := box3 (unhide HF4)
        have hne := own_box_ne (unhide HO4) (unhide HF4) (by decide)
        have hsz4 : w.heap.size ≤ w6.heap.size := by have := (unhide HT4).size; simpa using this
        have hnew : Hid (∀ j u, (encI ⟨4, 0, nn⟩)[j]? = some u → ((((w6.setCell ⟨wr.heap.size, 0, none⟩ (.int .i64 4)).setCell ⟨wr.heap.size, 1, none⟩ (.int .i64 0)).setCell ⟨wr.heap.size, 2, none⟩ (.string nn)).alloc (.cells #[.int .i64 4, .int .i64 0, .string nn] 105)).cell? ((⟨w6.heap.size, 0, none⟩ : Addr).add j) = some u) := by
          have h := ins_new (((w6.setCell ⟨wr.heap.size, 0, none⟩ (.int .i64 4)).setCell ⟨wr.heap.size, 1, none⟩ (.int .i64 0)).setCell ⟨wr.heap.size, 2, none⟩ (.string nn)) ⟨4, 0, nn⟩
          simp only [World.size_setCell] at h
          exact h
        simp only [] at y0 y1 y2
        go_wp2_with (first
          | (at_builtin; refine wpList_append_own _ rfl _ _ 26 rfl w.heap.size 105 i0 (.agg #[.int .i64 0, .int .i64 0, .string ⟨#[]⟩]) 3 32 Tryz.underlying26 hi hz0 hz1 hz2 rfl (by decide) _ xs.length (xs.flatMap encI) rfl (World.ownsRow.alloc (unhide HO4) _) ⟨w6.heap.size, 0, none⟩ 1 1 (encI ⟨4, 0, nn⟩) rfl rfl (unhide hnew) (by simp [encI, Value.oneCell']) (by unfold maxLen; omega) (by omega) (by simp; omega) ?_; intro v' w5 hown5 hgrow5 _; obtain ⟨a5, n5, c5, rfl⟩ := own_slice hown5; obtain ⟨⟨g0, g1, g2⟩, q0, q1, q2⟩ := box3 (box_grown (box_below (unhide HF4) (below_alloc1 _ _)) hgrow5 (fun e => hne e.symm)); have hall := app_all (x := ⟨4, 0, nn⟩) hlt (by omega) (unhide HO4) (unhide HF4) (unhide HX4) (unhide HR4) (unhide HT4) hown5 hgrow5; have HALL := hide hall; clear hall; obtain ⟨⟨k0, k1, k2⟩, l0, l1, l2⟩ := box3 (unhide HALL).2.2.1; obtain ⟨⟨m0, m1, m2⟩, _⟩ := box3 (unhide HALL).2.1)
          | go_in)
        exact bodyPost_ret (v := .agg #[.string nm, .bool wk, .slice a5 n5 c5]) (by simp [results, Tryz.results119, go_sem, k0, k1, k2]) rfl (fun_fin hlt (by simp; omega) (short_snoc (unhide HSH) hnn) (show p' + 1 + 1 ≤ p + 30 by omega) (unhide HALL))
      by_cases h1 : v3 = 1
      · subst h1
        have HS6 := hide (set3_all (x := ⟨7, 0, ⟨#[]⟩⟩) hlt (by omega) (by omega) (by omega) hneZ (unhide HO3) (unhide HF3) (unhide HX3) (unhide HZ3) (unhide HR3) (unhide HT3))
        obtain ⟨⟨b0, b1, b2⟩, bz0, bz1, bz2⟩ := box3 (unhide HZ3)
        clear HF3 HX3 HZ3 HR3 HT3 HO3
        have HO4 := hide (unhide HS6).1
        have HF4 := hide (unhide HS6).2.1
        have HX4 := hide (unhide HS6).2.2.1
        have HZ4 := hide (unhide HS6).2.2.2.1
        have HR4 := hide (unhide HS6).2.2.2.2.1
        have HT4 := hide (unhide HS6).2.2.2.2.2
        obtain ⟨⟨y0, y1, y2⟩, _⟩ := box3 (unhide HZ4)
        obtain ⟨⟨f0, f1, f2⟩, fz0, fz1, fz2⟩ := box3 (unhide HF4)
        have hne := own_box_ne (unhide HO4) (unhide HF4) (by decide)
        have hsz4 : w.heap.size ≤ w3.heap.size := by have := (unhide HT4).size; simpa using this
        have hnew : Hid (∀ j u, (encI ⟨7, 0, ⟨#[]⟩⟩)[j]? = some u → ((((w3.setCell ⟨wr.heap.size, 0, none⟩ (.int .i64 7)).setCell ⟨wr.heap.size, 1, none⟩ (.int .i64 0)).setCell ⟨wr.heap.size, 2, none⟩ (.string ⟨#[]⟩)).alloc (.cells #[.int .i64 7, .int .i64 0, .string ⟨#[]⟩] 105)).cell? ((⟨w3.heap.size, 0, none⟩ : Addr).add j) = some u) := by
          have h := ins_new (((w3.setCell ⟨wr.heap.size, 0, none⟩ (.int .i64 7)).setCell ⟨wr.heap.size, 1, none⟩ (.int .i64 0)).setCell ⟨wr.heap.size, 2, none⟩ (.string ⟨#[]⟩)) ⟨7, 0, ⟨#[]⟩⟩
          simp only [World.size_setCell] at h
          exact h
        simp only [] at y0 y1 y2
        go_wp2_with (first
          | (at_builtin; refine wpList_append_own _ rfl _ _ 26 rfl w.heap.size 105 i0 (.agg #[.int .i64 0, .int .i64 0, .string ⟨#[]⟩]) 3 32 Tryz.underlying26 hi hz0 hz1 hz2 rfl (by decide) _ xs.length (xs.flatMap encI) rfl (World.ownsRow.alloc (unhide HO4) _) ⟨w3.heap.size, 0, none⟩ 1 1 (encI ⟨7, 0, ⟨#[]⟩⟩) rfl rfl (unhide hnew) (by simp [encI, Value.oneCell']) (by unfold maxLen; omega) (by omega) (by simp; omega) ?_; intro v' w5 hown5 hgrow5 _; obtain ⟨a5, n5, c5, rfl⟩ := own_slice hown5; obtain ⟨⟨g0, g1, g2⟩, q0, q1, q2⟩ := box3 (box_grown (box_below (unhide HF4) (below_alloc1 _ _)) hgrow5 (fun e => hne e.symm)); have hall := app_all (x := ⟨7, 0, ⟨#[]⟩⟩) hlt (by omega) (unhide HO4) (unhide HF4) (unhide HX4) (unhide HR4) (unhide HT4) hown5 hgrow5; have HALL := hide hall; clear hall; obtain ⟨⟨k0, k1, k2⟩, l0, l1, l2⟩ := box3 (unhide HALL).2.2.1; obtain ⟨⟨m0, m1, m2⟩, _⟩ := box3 (unhide HALL).2.1)
          | go_in)
        exact bodyPost_ret (v := .agg #[.string nm, .bool wk, .slice a5 n5 c5]) (by simp [results, Tryz.results119, go_sem, k0, k1, k2]) rfl (fun_fin hlt (by simp; omega) (short_snoc (unhide HSH) (by decide)) (show p' + 1 ≤ p + 30 by omega) (unhide HALL))
      · have h0' : ¬ (v3 : Int) = 0 := by omega
        have h1' : ¬ (v3 : Int) = 1 := by omega
        generalize hw4 : w3 = w4 at *
        have HF4 := HF3
        have HX4 := HX3
        have HZ4 := HZ3
        have HR4 := HR3
        have HT4 := HT3
        have HO4 : Hid (InsOwn w4 w.heap.size v xs) := HO3
        clear HF3 HX3 HZ3 HR3 HT3 HO3
        obtain ⟨⟨y0, y1, y2⟩, _⟩ := box3 (unhide HZ4)
        obtain ⟨⟨f0, f1, f2⟩, fz0, fz1, fz2⟩ := box3 (unhide HF4)
        have hne := own_box_ne (unhide HO4) (unhide HF4) (by decide)
        have hsz4 := (unhide HT4).size
        go_wp2_with (first
          | (at_builtin; refine wpList_append_own _ rfl _ _ 26 rfl w.heap.size 105 i0 (.agg #[.int .i64 0, .int .i64 0, .string ⟨#[]⟩]) 3 32 Tryz.underlying26 hi hz0 hz1 hz2 rfl (by decide) _ xs.length (xs.flatMap encI) rfl (World.ownsRow.alloc (unhide HO4) _) ⟨w4.heap.size, 0, none⟩ 1 1 (encI ⟨6, 0, ⟨#[]⟩⟩) rfl rfl (ins_new w4 ⟨6, 0, ⟨#[]⟩⟩) (by simp [encI, Value.oneCell']) (by unfold maxLen; omega) (by omega) (by simp; omega) ?_; intro v' w5 hown5 hgrow5 _; obtain ⟨a5, n5, c5, rfl⟩ := own_slice hown5; obtain ⟨⟨g0, g1, g2⟩, q0, q1, q2⟩ := box3 (box_grown (box_below (unhide HF4) (below_alloc1 w4 _)) hgrow5 (fun e => hne e.symm)); have hall := app_all (x := ⟨6, 0, ⟨#[]⟩⟩) hlt (by omega) (unhide HO4) (unhide HF4) (unhide HX4) (unhide HR4) (unhide HT4) hown5 hgrow5; have HALL := hide hall; clear hall; obtain ⟨⟨k0, k1, k2⟩, l0, l1, l2⟩ := box3 (unhide HALL).2.2.1; obtain ⟨⟨m0, m1, m2⟩, _⟩ := box3 (unhide HALL).2.1)
          | go_in)
        exact bodyPost_ret (v := .agg #[.string nm, .bool wk, .slice a5 n5 c5]) (by simp [results, Tryz.results119, go_sem, k0, k1, k2]) rfl (fun_fin hlt (by simp; omega) (short_snoc (unhide HSH) (by decide)) (show p' + 1 ≤ p + 30 by omega) (unhide HALL))

end Go.Proofs.YthbbmookhcalkaaGreatDoor.DrawFun
