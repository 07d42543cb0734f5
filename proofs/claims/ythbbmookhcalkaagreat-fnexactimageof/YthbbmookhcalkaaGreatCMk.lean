/- The laws' marks in places of an image and in layings (its first part written by mk_cmk.py out of CMark.t). -/
import Derived.Test.YthbbmookhcalkaaGreatImgC
import Derived.Test.YthbbmookhcalkaaGreatMarkU
import Derived.Test.YthbbmookhcalkaaGreatLayB
namespace Go.Proofs.YthbbmookhcalkaaGreat.CMk
open Go.ChangeShapes Go.WideShapes Go.ChangeAt Go.RowKit Go.Joins Go.Deep
open Go.Proofs.YthbbmookhcalkaaGreat.Base Go.Proofs.YthbbmookhcalkaaGreat.Keep Go.Proofs.YthbbmookhcalkaaGreat.Refs Go.Proofs.YthbbmookhcalkaaGreat.LayN Go.Proofs.YthbbmookhcalkaaGreat.LayA Go.Proofs.YthbbmookhcalkaaGreat.LayB Go.Proofs.YthbbmookhcalkaaGreat.CellA Go.Proofs.YthbbmookhcalkaaGreat.Mark Go.Proofs.YthbbmookhcalkaaGreat.MarkF Go.Proofs.YthbbmookhcalkaaGreat.MarkU Go.Proofs.YthbbmookhcalkaaGreat.ImgC
set_option linter.unusedVariables false
set_option maxRecDepth 100000

def MarkC (w : World) (g k z n : Nat) : Prop := ∃ C, w.heap[g]? = some (Obj.cells C 63) ∧ C.size = z ∧ ∀ i, i < n → C[i * 2]? = some (.int .i64 ((k : Int) + (i : Int) * 2)) ∧ C[i * 2 + 1]? = some (.int .i64 ((k : Int) + (i : Int) * 2 + 1))
def MarkN (w : World) (g k z n : Nat) : Prop := ∃ C, w.heap[g]? = some (Obj.cells C 3) ∧ C.size = z ∧ ∀ i, i < n → C[i]? = some (.int .i64 ((k : Int) + (i : Int)))
theorem markC_step {w : World} {g k z j : Nat} {C : Array Value} (hC : w.heap[g]? = some (Obj.cells C 63)) (hz : C.size = z) (hj : j * 2 + 1 < z) (hm : ∀ i, i < j → C[i * 2]? = some (.int .i64 ((k : Int) + (i : Int) * 2)) ∧ C[i * 2 + 1]? = some (.int .i64 ((k : Int) + (i : Int) * 2 + 1))) :
    MarkC ((w.setCell ⟨g, j * 2, none⟩ (.int .i64 ((k : Int) + (j : Int) * 2))).setCell ⟨g, j * 2 + 1, none⟩ (.int .i64 ((k : Int) + (j : Int) * 2 + 1))) g k z (j + 1) := by
  refine ⟨_, block_setCell (block_setCell hC _) _, by simp [hz], fun i hi => ?_⟩
  by_cases e : i = j
  · subst e
    refine ⟨?_, ?_⟩
    · rw [Array.getElem?_setIfInBounds_ne (by omega), Array.getElem?_setIfInBounds_self_of_lt (by omega)]
    · rw [Array.getElem?_setIfInBounds_self_of_lt (by simp; omega)]
  · obtain ⟨h0, h1⟩ := hm i (by omega)
    refine ⟨?_, ?_⟩
    · rw [Array.getElem?_setIfInBounds_ne (by omega), Array.getElem?_setIfInBounds_ne (by omega), h0]
    · rw [Array.getElem?_setIfInBounds_ne (by omega), Array.getElem?_setIfInBounds_ne (by omega), h1]
theorem markN_step {w : World} {g k z j : Nat} {C : Array Value} (hC : w.heap[g]? = some (Obj.cells C 3)) (hz : C.size = z) (hj : j < z) (hm : ∀ i, i < j → C[i]? = some (.int .i64 ((k : Int) + (i : Int)))) :
    MarkN (w.setCell ⟨g, j, none⟩ (.int .i64 ((k : Int) + (j : Int)))) g k z (j + 1) := by
  refine ⟨_, block_setCell hC _, by simp [hz], fun i hi => ?_⟩
  by_cases e : i = j
  · subst e; rw [Array.getElem?_setIfInBounds_self_of_lt (by omega)]
  · rw [Array.getElem?_setIfInBounds_ne (by omega)]; exact hm i (by omega)
theorem markCells_nil (a : Option Addr) (c k : Nat) (w : World) : Calls Tryz.prog 15 #[.slice a 0 c, .int .i64 k] w fun e w' => e = .returned (.int .i64 k) ∧ w' = w := by
  go_enter Tryz.func15, Tryz.ntmps15
  go_wp2_with fail
  refine wp_loop_rounds 1 ?_
  rw [rounds_succ]
  go_wp2
  go_ret
  exact ⟨rfl, rfl⟩
set_option maxHeartbeats 2000000 in
theorem markCells_some (g n cap k z : Nat) (hkm : k + n * 2 ≤ 9007199254740992) (hn : n * 2 ≤ z) (w : World) (hO : MarkC w g k z 0) :
    Calls Tryz.prog 15 #[.slice (some ⟨g, 0, none⟩) n cap, .int .i64 k] w fun e w' => e = .returned (.int .i64 ((k + n * 2 : Nat) : Int)) ∧ MarkC w' g k z n ∧ But g w w' := by
  have HO := hide hO
  clear hO
  go_enter Tryz.func15, Tryz.ntmps15
  go_wp2_with fail
  go_loopw [1, 5] (fun kk i w' => ∃ j : Nat, j ≤ n ∧ i = .int .i64 j ∧ kk = .int .i64 ((k : Int) + (j : Int) * 2) ∧ MarkC w' g k z j ∧ But g w w') (fun _ i _ => n - (intOf i).toNat)
  case atStart => exact ⟨0, Nat.zero_le _, rfl, by simp, unhide HO, But.refl _ _⟩
  case round =>
    obtain ⟨j, hj, rfl, rfl, hM, hb⟩ := hrel
    have HM := hide hM
    clear hM HO
    by_cases hjl : j < n
    · have hjl' : (j : Int) < (n : Int) := by omega
      obtain ⟨C, hC, hz, hm⟩ := unhide HM
      obtain ⟨v0, e0⟩ : ∃ v, wr.cell? ⟨g, j * 2, none⟩ = some v := ⟨C[j * 2]'(by omega), by rw [cell_of_block hC]; exact Array.getElem?_eq_getElem _⟩
      obtain ⟨v1, e1⟩ : ∃ v, wr.cell? ⟨g, j * 2 + 1, none⟩ = some v := ⟨C[j * 2 + 1]'(by omega), by rw [cell_of_block hC]; exact Array.getElem?_eq_getElem _⟩
      have g0 := unfrozen_of_block hC (j * 2)
      have g1 := unfrozen_of_block hC (j * 2 + 1)
      have HX := hide (markC_step (k := k) hC hz (by omega) hm)
      clear hm hC HM
      go_wp2_with fail
      exact ⟨⟨j + 1, by omega, by go_num, by go_num, unhide HX, (hb.set _ _).set _ _⟩, by simp [intOf]; omega⟩
    · have hjl' : ¬ (j : Int) < (n : Int) := by omega
      have hje : j = n := by omega
      have HM' := hide (hje ▸ unhide HM)
      go_wp2_with fail
      go_ret
      exact ⟨ret_int (by omega), unhide HM', hb⟩
theorem markNums_nil (a : Option Addr) (c k : Nat) (w : World) : Calls Tryz.prog 34 #[.slice a 0 c, .int .i64 k] w fun e w' => e = .returned (.int .i64 k) ∧ w' = w := by
  go_enter Tryz.func34, Tryz.ntmps34
  go_wp2_with fail
  refine wp_loop_rounds 1 ?_
  rw [rounds_succ]
  go_wp2
  go_ret
  exact ⟨rfl, rfl⟩
set_option maxHeartbeats 2000000 in
theorem markNums_some (g n cap k z : Nat) (hkm : k + n ≤ 9007199254740992) (hn : n ≤ z) (w : World) (hO : MarkN w g k z 0) :
    Calls Tryz.prog 34 #[.slice (some ⟨g, 0, none⟩) n cap, .int .i64 k] w fun e w' => e = .returned (.int .i64 ((k + n : Nat) : Int)) ∧ MarkN w' g k z n ∧ But g w w' := by
  have HO := hide hO
  clear hO
  go_enter Tryz.func34, Tryz.ntmps34
  go_wp2_with fail
  go_loopw [1, 5] (fun kk i w' => ∃ j : Nat, j ≤ n ∧ i = .int .i64 j ∧ kk = .int .i64 ((k : Int) + (j : Int)) ∧ MarkN w' g k z j ∧ But g w w') (fun _ i _ => n - (intOf i).toNat)
  case atStart => exact ⟨0, Nat.zero_le _, rfl, by simp, unhide HO, But.refl _ _⟩
  case round =>
    obtain ⟨j, hj, rfl, rfl, hM, hb⟩ := hrel
    have HM := hide hM
    clear hM HO
    by_cases hjl : j < n
    · have hjl' : (j : Int) < (n : Int) := by omega
      obtain ⟨C, hC, hz, hm⟩ := unhide HM
      obtain ⟨v0, e0⟩ : ∃ v, wr.cell? ⟨g, j, none⟩ = some v := ⟨C[j]'(by omega), by rw [cell_of_block hC]; exact Array.getElem?_eq_getElem _⟩
      have g0 := unfrozen_of_block hC j
      have HX := hide (markN_step (k := k) hC hz (by omega) hm)
      clear hm hC HM
      go_wp2_with fail
      exact ⟨⟨j + 1, by omega, by go_num, by go_num, unhide HX, hb.set _ _⟩, by simp [intOf]; omega⟩
    · have hjl' : ¬ (j : Int) < (n : Int) := by omega
      have hje : j = n := by omega
      have HM' := hide (hje ▸ unhide HM)
      go_wp2_with fail
      go_ret
      exact ⟨ret_int (by omega), unhide HM', hb⟩
def CanC (w : World) (R E : Nat) (v : Value) (n : Nat) : Prop := (n = 0 ∧ ∃ a c, v = .slice a 0 c) ∨ ∃ g cap C, v = .slice (some ⟨g, 0, none⟩) n cap ∧ R ≤ g ∧ g < E ∧ w.heap[g]? = some (Obj.cells C 63) ∧ n * 2 ≤ C.size
def CanN (w : World) (R E : Nat) (v : Value) (n : Nat) : Prop := (n = 0 ∧ ∃ a c, v = .slice a 0 c) ∨ ∃ g cap C, v = .slice (some ⟨g, 0, none⟩) n cap ∧ R ≤ g ∧ g < E ∧ w.heap[g]? = some (Obj.cells C 3) ∧ n ≤ C.size
def IsC (w : World) (v : Value) (k n : Nat) : Prop := (n = 0 ∧ ∃ a c, v = .slice a 0 c) ∨ ∃ g cap z, v = .slice (some ⟨g, 0, none⟩) n cap ∧ MarkC w g k z n
theorem CanN.made {w : World} {R E g : Nat} {os : List Int} (h : OwnNums w g os os.length) (h1 : R ≤ g) (h2 : g < E) : CanN w R E (.slice (some ⟨g, 0, none⟩) os.length os.length) os.length := by
  obtain ⟨C, hC, hF⟩ := h
  exact .inr ⟨g, _, C, rfl, h1, h2, hC, by rw [hF.1]; exact Nat.le_refl _⟩
theorem CanC.below {w w' : World} {R E : Nat} {v : Value} {n : Nat} (h : CanC w R E v n) (hb : Below w.heap.size w w') : CanC w' R E v n := by
  rcases h with h | ⟨g, cap, C, h1, h2, h3, h4, h5⟩
  · exact .inl h
  · exact .inr ⟨g, cap, C, h1, h2, h3, box_below h4 hb, h5⟩
theorem CanN.below {w w' : World} {R E : Nat} {v : Value} {n : Nat} (h : CanN w R E v n) (hb : Below w.heap.size w w') : CanN w' R E v n := by
  rcases h with h | ⟨g, cap, C, h1, h2, h3, h4, h5⟩
  · exact .inl h
  · exact .inr ⟨g, cap, C, h1, h2, h3, box_below h4 hb, h5⟩
theorem CanC.mid {w w' : World} {R E R' E' : Nat} {v : Value} {n : Nat} (h : CanC w R E v n) (hb : Mid R' E' w w') (ho : E' ≤ R ∨ E ≤ R') : CanC w' R E v n := by
  rcases h with h | ⟨g, cap, C, h1, h2, h3, h4, h5⟩
  · exact .inl h
  · exact .inr ⟨g, cap, C, h1, h2, h3, hb.box h4 (by omega), h5⟩
theorem CanN.mid {w w' : World} {R E R' E' : Nat} {v : Value} {n : Nat} (h : CanN w R E v n) (hb : Mid R' E' w w') (ho : E' ≤ R ∨ E ≤ R') : CanN w' R E v n := by
  rcases h with h | ⟨g, cap, C, h1, h2, h3, h4, h5⟩
  · exact .inl h
  · exact .inr ⟨g, cap, C, h1, h2, h3, hb.box h4 (by omega), h5⟩
theorem markCells_any (R E : Nat) (v : Value) (n k : Nat) (hn : n ≤ 100000000) (hk : k ≤ 1000000000000000) (w : World) (h : CanC w R E v n) :
    Calls Tryz.prog 15 #[v, .int .i64 k] w fun e w' => e = .returned (.int .i64 ((k + n * 2 : Nat) : Int)) ∧ IsC w' v k n ∧ Mid R E w w' ∧ ∀ (g : Nat) (C : Array Value) (t : TypeId), w.heap[g]? = some (Obj.cells C t) → t ≠ 63 → w'.heap[g]? = some (Obj.cells C t) := by
  rcases h with ⟨rfl, a, c, rfl⟩ | ⟨g, cap, C, rfl, h1, h2, h3, h4⟩
  · refine (markCells_nil a c k w).mono ?_
    rintro e w' ⟨rfl, rfl⟩
    exact ⟨rfl, .inl ⟨rfl, a, c, rfl⟩, Mid.refl _ _ _, fun g C t h _ => h⟩
  · refine (markCells_some g n cap k C.size (by omega) h4 w ⟨C, h3, rfl, fun i hi => by omega⟩).mono ?_
    rintro e w' ⟨rfl, hm, hb⟩
    exact ⟨rfl, .inr ⟨g, cap, _, rfl, hm⟩, (Mid.refl R E w).but h1 h2 hb, fun g' C' t' h' ht => hb.box h' (fun e => by subst e; rw [h3] at h'; simp at h'; exact ht h'.2.symm)⟩
theorem IsC.below {w w' : World} {v : Value} {k n : Nat} (h : IsC w v k n) (hb : Below w.heap.size w w') : IsC w' v k n := by
  rcases h with h | ⟨g, cap, z, h1, C, h2, h3⟩
  · exact .inl h
  · exact .inr ⟨g, cap, z, h1, C, box_below h2 hb, h3⟩
theorem CanC.of {w : World} {B E : Nat} {v : Value} {l : List CellD} (h : CellsO w B v l) (hE : w.heap.size ≤ E) : CanC w B E v l.length := by
  obtain ⟨_, ⟨rfl, e⟩ | ⟨g, cap, cur, rfl, hB, hg, hn, _, hs, _⟩⟩ := h
  · exact .inl ⟨e, none, 0, rfl⟩
  · have := (Array.getElem?_eq_some_iff.1 hg).1
    exact .inr ⟨g, cap, cur, rfl, hB, by omega, hg, by omega⟩
theorem CellsO.mid {w w' : World} {B R E : Nat} {v : Value} {l : List CellD} (h : CellsO w B v l) (hb : Mid R E w w') (ho : ∀ g, v.ownBlock = some g → g < R ∨ E ≤ g) : CellsO w' B v l := by
  obtain ⟨h0, h1 | ⟨g, cap, cur, hv, hB, hg, hr⟩⟩ := h
  · exact ⟨h0, .inl h1⟩
  · exact ⟨h0, .inr ⟨g, cap, cur, hv, hB, hb.box hg (ho g (by rw [hv]; rfl)), hr⟩⟩
theorem heldCells_nil (a : Option Addr) (c k : Nat) (w : World) : Calls Tryz.prog 16 #[.slice a 0 c, .int .i64 k] w fun e w' => e = .returned (.int .i64 k) ∧ w' = w := by
  go_enter Tryz.func16, Tryz.ntmps16
  go_wp2_with fail
  refine wp_loop_rounds 1 ?_
  rw [rounds_succ]
  go_wp2
  go_ret
  exact ⟨rfl, rfl⟩
set_option maxHeartbeats 2000000 in
theorem heldCells_some (g n cap k z : Nat) (hkm : k + n * 2 ≤ 9007199254740992) (w : World) (hO : MarkC w g k z n) :
    Calls Tryz.prog 16 #[.slice (some ⟨g, 0, none⟩) n cap, .int .i64 k] w fun e w' => e = .returned (.int .i64 ((k + n * 2 : Nat) : Int)) ∧ Below w.heap.size w w' := by
  have HO := hide hO
  clear hO
  go_enter Tryz.func16, Tryz.ntmps16
  go_wp2_with fail
  go_loopw [1, 5] (fun kk i w' => ∃ j : Nat, j ≤ n ∧ i = .int .i64 j ∧ kk = .int .i64 ((k : Int) + (j : Int) * 2) ∧ Below w.heap.size w w') (fun _ i _ => n - (intOf i).toNat)
  case atStart => exact ⟨0, Nat.zero_le _, rfl, by simp, Below.refl _ _⟩
  case round =>
    obtain ⟨j, hj, rfl, rfl, hb⟩ := hrel
    by_cases hjl : j < n
    · have hjl' : (j : Int) < (n : Int) := by omega
      obtain ⟨C, hC, hz, hm⟩ := unhide HO
      have hCr := box_below hC hb
      obtain ⟨h0, h1⟩ := hm j hjl
      have e0 : wr.cell? ⟨g, j * 2, none⟩ = some (.int .i64 ((k : Int) + (j : Int) * 2)) := by rw [cell_of_block hCr]; exact h0
      have e1 : wr.cell? ⟨g, j * 2 + 1, none⟩ = some (.int .i64 ((k : Int) + (j : Int) * 2 + 1)) := by rw [cell_of_block hCr]; exact h1
      clear hm hC hCr h0 h1
      go_wp2_with fail
      exact ⟨⟨j + 1, by omega, by go_num, by go_num, hb⟩, by simp [intOf]; omega⟩
    · have hjl' : ¬ (j : Int) < (n : Int) := by omega
      go_wp2_with fail
      go_ret
      exact ⟨ret_int (by omega), hb⟩
theorem heldCells_any (v : Value) (n k : Nat) (hn : n ≤ 100000000) (hk : k ≤ 1000000000000000) (w : World) (h : IsC w v k n) :
    Calls Tryz.prog 16 #[v, .int .i64 k] w fun e w' => e = .returned (.int .i64 ((k + n * 2 : Nat) : Int)) ∧ Below w.heap.size w w' := by
  rcases h with ⟨rfl, a, c, rfl⟩ | ⟨g, cap, z, rfl, h1⟩
  · refine (heldCells_nil a c k w).mono ?_
    rintro e w' ⟨rfl, rfl⟩
    exact ⟨rfl, Below.refl _ _⟩
  · exact heldCells_some g n cap k z (by omega) w h1
/-- Lists of texts that can be written, in blocks from R up to E. -/
def StrBlk (w : World) (g n : Nat) : Prop := ∃ ss : List ByteArray, ss.length = n ∧ StrOwn w g (.slice (some ⟨g, 0, none⟩) n n) ss
structure CanT (w : World) (R E S : Nat) (Rs : Nat → Nat) (st : List (List ByteArray)) : Prop where
  out : ∃ C, w.heap[S]? = some (.cells C 65) ∧ ∀ i (h : i < st.length), C[i]? = some (.slice (some ⟨Rs i, 0, none⟩) st[i].length st[i].length)
  lo : R ≤ S
  ent : ∀ i (h : i < st.length), S < Rs i ∧ Rs i < E ∧ StrBlk w (Rs i) st[i].length
theorem own_text {w : World} {R : Nat} {ss : List ByteArray} (h : OwnText w R ss ss.length) (hl : ss.length ≤ 1048576) : StrBlk w R ss.length := by
  obtain ⟨C, hC, hz, hF⟩ := h
  refine ⟨ss, rfl, by simp, .inr ⟨R, _, C, rfl, Nat.le_refl _, hC, Nat.le_refl _, by unfold maxLen; omega, by omega, ?_⟩⟩
  refine List.ext_getElem? fun j => ?_
  by_cases hj : j < ss.length
  · rw [List.getElem?_take_of_lt (by omega)]
    have := hF j hj hj
    simp only [Array.getElem?_toList] at *
    rw [this]
    simp [hj]
  · rw [List.getElem?_eq_none (by simp; omega), List.getElem?_eq_none (by simp; omega)]
theorem CanT.of {w : World} {S E : Nat} {st : List (List ByteArray)} (h : OwnTexts w S st st.length) (hf : FewT st) (hE : w.heap.size ≤ E) {R : Nat} (hR : R ≤ S) : ∃ Rs, CanT w R E S Rs st := by
  obtain ⟨C, Rs, hC, hz, hF⟩ := h
  refine ⟨Rs, ⟨C, hC, fun i hi => (hF i hi hi).1⟩, hR, fun i hi => ?_⟩
  obtain ⟨_, h1, h2⟩ := hF i hi hi
  obtain ⟨D, hD, _⟩ := h2
  have := (Array.getElem?_eq_some_iff.1 hD).1
  exact ⟨h1, by omega, own_text (hF i hi hi).2.2 (hf.2 _ (List.getElem_mem hi))⟩
theorem CanT.below {w w' : World} {R E S : Nat} {Rs : Nat → Nat} {st : List (List ByteArray)} (h : CanT w R E S Rs st) (hb : Below w.heap.size w w') : CanT w' R E S Rs st := by
  obtain ⟨⟨C, hC, hF⟩, h1, h2⟩ := h
  refine ⟨⟨C, box_below hC hb, hF⟩, h1, fun i hi => ?_⟩
  obtain ⟨k1, k2, ss, k3, k4⟩ := h2 i hi
  exact ⟨k1, k2, ss, k3, World.ownsRow.kept k4 (row := none) ⟨hb.os, hb.tape, hb.output, hb.size, fun k hk _ => hb.block k hk⟩ (by simp [Value.ownBlock])⟩
theorem blk_size {w : World} {g n : Nat} (h : StrBlk w g n) : ∃ cur, w.heap[g]? = some (.cells cur 9) ∧ cur.size = n := by
  obtain ⟨ss, h0, h1, ⟨h2, _⟩ | ⟨g', cap, cur, e, _, hg, _, _, hs, _⟩⟩ := h
  · cases h2
  · injection e with e1 e2 e3
    injection e1 with e4
    injection e4 with e5 _ _
    subst e5
    exact ⟨cur, hg, by omega⟩
/-- One list is written: all can be written still. -/
theorem CanT.mark {w w' : World} {R E S : Nat} {Rs : Nat → Nat} {st : List (List ByteArray)} (h : CanT w R E S Rs st) {i : Nat} (hi : i < st.length) (hb : But (Rs i) w w') {ms : List ByteArray} (hm : ms.length = st[i].length) (ho : StrOwn w' (Rs i) (.slice (some ⟨Rs i, 0, none⟩) st[i].length st[i].length) ms) : CanT w' R E S Rs st := by
  obtain ⟨⟨C, hC, hF⟩, h1, h2⟩ := h
  have hSi := (h2 i hi).1
  refine ⟨⟨C, hb.box hC (by omega), hF⟩, h1, fun j hj => ?_⟩
  obtain ⟨k1, k2, k3⟩ := h2 j hj
  refine ⟨k1, k2, ?_⟩
  by_cases e : Rs j = Rs i
  · obtain ⟨c1, e1, e2⟩ := blk_size k3
    obtain ⟨c2, e3, e4⟩ := blk_size (h2 i hi).2.2
    rw [e, e3] at e1
    have e5 : c2 = c1 := by
      injection e1 with e6
      injection e6
    rw [← e2, ← e5, e4, e]
    exact ⟨ms, hm, ho⟩
  · obtain ⟨ss, k4, k5⟩ := k3
    exact ⟨ss, k4, hb.strOwn k5 (by simp only [Value.ownBlock, ne_eq, Option.some.injEq]; exact e)⟩
set_option maxHeartbeats 2000000 in
theorem markTexts_any (R E S cap k : Nat) (Rs : Nat → Nat) (st : List (List ByteArray)) (hk : 0 < k) (hkm : k ≤ 1000000000000000) (hf : FewT st) (hcap : st.length ≤ cap) (w : World) (h : CanT w R E S Rs st) :
    Calls Tryz.prog 35 #[.slice (some ⟨S, 0, none⟩) st.length cap, .int .i64 k] w fun e w' => e = .returned (.int .i64 ((k + manyN st : Nat) : Int)) ∧ Mid R E w w' := by
  have HF := hide hf
  have HC := hide h
  have hs1 := hf.1
  have HMB := hide (many_bd hf.2)
  have hlo := h.lo
  clear h hf
  go_enter Tryz.func35, Tryz.ntmps35
  go_wp2_with fail
  go_loopw [1, 5] (fun kk i w' => ∃ j q : Nat, j ≤ st.length ∧ i = .int .i64 j ∧ kk = .int .i64 (q : Int) ∧ Hid (q = k + manyTo st j) ∧ q ≤ 1000000000000000 + j * 1048576 ∧ k ≤ q ∧ Hid (CanT w' R E S Rs st) ∧ Mid R E w w') (fun _ i _ => st.length - (intOf i).toNat)
  case atStart => exact ⟨0, k, Nat.zero_le _, rfl, rfl, rfl, by omega, Nat.le_refl _, HC, Mid.refl _ _ _⟩
  case round =>
    clear HC
    obtain ⟨j, q, hj, rfl, rfl, HQ, hq9, hq0, HC, hM⟩ := hrel
    by_cases hjl : j < st.length
    · have hjl' : (j : Int) < (st.length : Int) := by omega
      have hj0 : (0 : Int) ≤ (j : Int) := by omega
      obtain ⟨C, hC, hF⟩ := (unhide HC).out
      have e0 : wr.cell? ⟨S, j, none⟩ = some (.slice (some ⟨Rs j, 0, none⟩) st[j].length st[j].length) := by rw [cell_of_block hC]; exact hF j hjl
      obtain ⟨k1, k2, ss, k3, k4⟩ := (unhide HC).ent j hjl
      have hl9 := (unhide HF).2 st[j] (List.getElem_mem hjl)
      have HQ2 : Hid (q + st[j].length = k + manyTo st (j + 1)) := by show _ = _; rw [many_succ hjl, unhide HQ]; omega
      have hbw : Rs j ≤ wr.heap.size := by
        obtain ⟨cur, hg, _⟩ := blk_size ⟨ss, k3, k4⟩
        exact Nat.le_of_lt (Array.getElem?_eq_some_iff.1 hg).1
      have hj9 : j * 1048576 ≤ 1048576 * 1048576 := Nat.mul_le_mul_right _ (by omega)
      have HCM := hide (fun (w' : World) (ms : List ByteArray) hb hm ho => (unhide HC).mark hjl (w' := w') (ms := ms) hb hm ho)
      clear hC hF
      go_wp2_with fail
      refine (markStringS_any (Rs j) _ ss q (by omega) (by omega) _ hbw k4).mono ?_
      rintro e w2 ⟨rfl, g, hg1, hg2, hO2, hb2⟩
      have hgr : g = Rs j := by
        rcases hg2 with hg2 | ⟨hg2, _⟩
        · simp only [Value.ownBlock, Option.some.injEq] at hg2; exact hg2.symm
        · simp [Value.ownBlock] at hg2
      subst hgr
      have HC2 := hide (unhide HCM w2 (marks q ss.length) hb2 (by rw [marks_len, k3]) hO2)
      have hM2 := hM.but (by omega) k2 hb2
      clear hO2 hb2 hM
      rw [k3] at *
      have hqq : ((q + st[j].length : Nat) : Int) = (q : Int) + (st[j].length : Int) := Int.natCast_add _ _
      clear k4 k3
      go_wp2_with fail
      exact ⟨⟨j + 1, q + st[j].length, by omega, by go_num, rfl, HQ2, by omega, by omega, HC2, hM2⟩, by simp [intOf]; omega⟩
    · have hjl' : ¬ (j : Int) < (st.length : Int) := by omega
      have hje : j = st.length := by omega
      have HQ3 : Hid (q = k + manyN st) := by show _ = _; rw [unhide HQ, hje]; rfl
      go_wp2_with fail
      go_ret
      exact ⟨ret_int (by have := unhide HQ3; omega), hM⟩
theorem CanT.kept {w w' : World} {R E S : Nat} {Rs : Nat → Nat} {st : List (List ByteArray)} (h : CanT w R E S Rs st) (hk : ∀ (g : Nat) (C : Array Value) (t : TypeId), w.heap[g]? = some (Obj.cells C t) → t ≠ 3 → w'.heap[g]? = some (Obj.cells C t)) : CanT w' R E S Rs st := by
  obtain ⟨⟨C, hC, hF⟩, h1, h2⟩ := h
  refine ⟨⟨C, hk _ _ _ hC (by decide), hF⟩, h1, fun i hi => ?_⟩
  obtain ⟨k1, k2, ss, k3, k4, k5 | ⟨g, cap, cur, hv, hB, hg, hr⟩⟩ := h2 i hi
  · exact ⟨k1, k2, ss, k3, k4, .inl k5⟩
  · exact ⟨k1, k2, ss, k3, k4, .inr ⟨g, cap, cur, hv, hB, hk _ _ _ hg (by decide), hr⟩⟩
theorem markNums_to (R E T n cap k : Nat) (hn : n ≤ 1048576) (hk : k ≤ 1000000000000000) (w : World) (h : CanN w R E (.slice (some ⟨T, 0, none⟩) n cap) n) :
    Calls Tryz.prog 34 #[.slice (some ⟨T, 0, none⟩) n cap, .int .i64 k] w fun e w' => e = .returned (.int .i64 ((k + n : Nat) : Int)) ∧ Mid R E w w' ∧ ∀ (g : Nat) (C : Array Value) (t : TypeId), w.heap[g]? = some (Obj.cells C t) → t ≠ 3 → w'.heap[g]? = some (Obj.cells C t) := by
  rcases h with ⟨rfl, a, c, e⟩ | ⟨g, cap', C, e, h1, h2, h3, h4⟩
  · refine (markNums_nil _ _ k w).mono ?_
    rintro e w' ⟨rfl, rfl⟩
    exact ⟨rfl, Mid.refl _ _ _, fun g C t h _ => h⟩
  · injection e with e1 _ _
    injection e1 with e4
    injection e4 with e5 _ _
    subst e5
    refine (markNums_some _ n cap k C.size (by omega) h4 w ⟨C, h3, rfl, fun i hi => by omega⟩).mono ?_
    rintro e w' ⟨rfl, hm, hb⟩
    exact ⟨rfl, (Mid.refl R E w).but h1 h2 hb, fun g' C' t' h' ht => hb.box h' (fun e => by subst e; rw [h3] at h'; simp at h'; exact ht h'.2.symm)⟩
set_option maxHeartbeats 2000000 in
theorem markLay_any (R E T S nc sc n k : Nat) (Rs : Nat → Nat) (st : List (List ByteArray)) (hk : 0 < k) (hkm : k ≤ 900000000000000) (hn : n ≤ 1048576) (hf : FewT st) (h3 : st.length ≤ sc) (w : World) (hE : E ≤ w.heap.size) (hN : CanN w R E (.slice (some ⟨T, 0, none⟩) n nc) n) (hT : CanT w R E S Rs st) :
    Calls Tryz.prog 14 #[.agg #[.slice (some ⟨T, 0, none⟩) n nc, .slice (some ⟨S, 0, none⟩) st.length sc], .int .i64 k] w fun e w' => (∃ q : Nat, e = .returned (.int .i64 (q : Int))) ∧ Mid R E w w' := by
  have hb := below_alloc1 w (.cells #[.slice (some ⟨T, 0, none⟩) n nc, .slice (some ⟨S, 0, none⟩) st.length sc] 33)
  have HX := hide (new_block w (.cells #[.slice (some ⟨T, 0, none⟩) n nc, .slice (some ⟨S, 0, none⟩) st.length sc] 33))
  have HN := hide (hN.below hb)
  have HT := hide (hT.below hb)
  have HM := hide ((Mid.refl R E w).below hb)
  have HF := hide hf
  obtain ⟨⟨x0, x1⟩, _⟩ := box2 (unhide HX)
  clear hb hN hT hf
  go_enter Tryz.func14, Tryz.ntmps14
  go_wp2_with fail
  refine (markNums_to R E T n nc k hn (by omega) _ (unhide HN)).mono ?_
  rintro e w1 ⟨rfl, hm1, hk1⟩
  have HX1 := hide (hm1.box (unhide HX) (.inr hE))
  have HT1 := hide ((unhide HT).kept hk1)
  have HM1 := hide ((unhide HM).trans hm1)
  clear HX HN HT HM hm1 hk1 x0 x1
  obtain ⟨⟨x0, x1⟩, _⟩ := box2 (unhide HX1)
  have hkn : k + n ≤ 1000000000000000 := by omega
  have hkn0 : 0 < k + n := by omega
  generalize k + n = q at *
  go_wp2_with fail
  refine (markTexts_any R E S sc q Rs st hkn0 hkn (unhide HF) h3 _ (unhide HT1)).mono ?_
  rintro e w2 ⟨rfl, hm2⟩
  have HM2 := hide ((unhide HM1).trans hm2)
  clear hm2 x0 x1 HX1 HT1
  generalize q + manyN st = m at *
  go_wp2_with fail
  go_ret
  exact ⟨⟨m, rfl⟩, unhide HM2⟩
end Go.Proofs.YthbbmookhcalkaaGreat.CMk
