/- The contracts of the laws' marks in cells and in machines of an image (written by mk_cmark.py out of MMark.t). -/
import Derived.Test.YtjbhbkkkjdpamaaCSpecD
import Derived.Test.YtjbhbkkkjdpamaaMarkF
namespace Go.Proofs.Ytjbhbkkkjdpamaa.CMark
open Go.ChangeShapes Go.WideShapes Go.ChangeAt Go.RowKit Go.Joins Go.Deep
open Go.Proofs.Ytjbhbkkkjdpamaa.Base Go.Proofs.Ytjbhbkkkjdpamaa.Keep Go.Proofs.Ytjbhbkkkjdpamaa.LayN Go.Proofs.Ytjbhbkkkjdpamaa.CellA Go.Proofs.Ytjbhbkkkjdpamaa.Mark Go.Proofs.Ytjbhbkkkjdpamaa.MarkF Go.Proofs.Ytjbhbkkkjdpamaa.ImgD Go.Proofs.Ytjbhbkkkjdpamaa.CSpec
set_option linter.unusedVariables false
set_option maxRecDepth 100000

def MarkC (w : World) (g k z n : Nat) : Prop := ∃ C, w.heap[g]? = some (Obj.cells C 85) ∧ C.size = z ∧ ∀ i, i < n → C[i * 2]? = some (.int .i64 ((k : Int) + (i : Int) * 2)) ∧ C[i * 2 + 1]? = some (.int .i64 ((k : Int) + (i : Int) * 2 + 1))
def MarkN (w : World) (g k z n : Nat) : Prop := ∃ C, w.heap[g]? = some (Obj.cells C 3) ∧ C.size = z ∧ ∀ i, i < n → C[i]? = some (.int .i64 ((k : Int) + (i : Int)))
theorem markC_step {w : World} {g k z j : Nat} {C : Array Value} (hC : w.heap[g]? = some (Obj.cells C 85)) (hz : C.size = z) (hj : j * 2 + 1 < z) (hm : ∀ i, i < j → C[i * 2]? = some (.int .i64 ((k : Int) + (i : Int) * 2)) ∧ C[i * 2 + 1]? = some (.int .i64 ((k : Int) + (i : Int) * 2 + 1))) :
    MarkC ((w.setCell ⟨g, j * 2, none⟩ (.int .i64 ((k : Int) + (j : Int) * 2))).setCell ⟨g, j * 2 + 1, none⟩ (.int .i64 ((k : Int) + (j : Int) * 2 + 1))) g k z (j + 1) := by
  refine ⟨_, block_setCell (block_setCell hC _) _, by simp [hz], fun i hi => ?_⟩
  by_cases e : i = j
  · subst e
    refine ⟨?_, ?_⟩
    · rw [Array.getElem?_setIfInBounds_ne (by omega), Array.getElem?_setIfInBounds_self_of_lt (by omega)]
    · rw [Array.getElem?_setIfInBounds_self_of_lt (by simp; omega)]
  · obtain ⟨h0, h1⟩ := hm i (by omega)
    refine ⟨?_, ?_⟩
    · rw [Array.getElem?_setIfInBounds_ne (by omega), Array.getElem?_setIfInBounds_ne (by omega), h0]
    · rw [Array.getElem?_setIfInBounds_ne (by omega), Array.getElem?_setIfInBounds_ne (by omega), h1]
theorem markN_step {w : World} {g k z j : Nat} {C : Array Value} (hC : w.heap[g]? = some (Obj.cells C 3)) (hz : C.size = z) (hj : j < z) (hm : ∀ i, i < j → C[i]? = some (.int .i64 ((k : Int) + (i : Int)))) :
    MarkN (w.setCell ⟨g, j, none⟩ (.int .i64 ((k : Int) + (j : Int)))) g k z (j + 1) := by
  refine ⟨_, block_setCell hC _, by simp [hz], fun i hi => ?_⟩
  by_cases e : i = j
  · subst e; rw [Array.getElem?_setIfInBounds_self_of_lt (by omega)]
  · rw [Array.getElem?_setIfInBounds_ne (by omega)]; exact hm i (by omega)
theorem markCells_nil (a : Option Addr) (c k : Nat) (w : World) : Calls Try.prog 35 #[.slice a 0 c, .int .i64 k] w fun e w' => e = .returned (.int .i64 k) ∧ w' = w := by
  go_enter Try.func35, Try.ntmps35
  go_wp2_with fail
  refine wp_loop_rounds 1 ?_
  rw [rounds_succ]
  go_wp2
  go_ret
  exact ⟨rfl, rfl⟩
theorem markNums_nil (a : Option Addr) (c k : Nat) (w : World) : Calls Try.prog 78 #[.slice a 0 c, .int .i64 k] w fun e w' => e = .returned (.int .i64 k) ∧ w' = w := by
  go_enter Try.func78, Try.ntmps78
  go_wp2_with fail
  refine wp_loop_rounds 1 ?_
  rw [rounds_succ]
  go_wp2
  go_ret
  exact ⟨rfl, rfl⟩
theorem heldNums_nil (a : Option Addr) (c k : Nat) (w : World) : Calls Try.prog 79 #[.slice a 0 c, .int .i64 k] w fun e w' => e = .returned (.int .i64 k) ∧ w' = w := by
  go_enter Try.func79, Try.ntmps79
  go_wp2_with fail
  refine wp_loop_rounds 1 ?_
  rw [rounds_succ]
  go_wp2
  go_ret
  exact ⟨rfl, rfl⟩
set_option maxHeartbeats 2000000 in
theorem markCells_some (g n cap k z : Nat) (hkm : k + n * 2 ≤ 9007199254740992) (hn : n * 2 ≤ z) (w : World) (hO : MarkC w g k z 0) :
    Calls Try.prog 35 #[.slice (some ⟨g, 0, none⟩) n cap, .int .i64 k] w fun e w' => e = .returned (.int .i64 ((k + n * 2 : Nat) : Int)) ∧ MarkC w' g k z n ∧ But g w w' := by
  have HO := hide hO
  clear hO
  go_enter Try.func35, Try.ntmps35
  go_wp2_with fail
  go_loopw [1, 5] (fun kk i w' => ∃ j : Nat, j ≤ n ∧ i = .int .i64 j ∧ kk = .int .i64 ((k : Int) + (j : Int) * 2) ∧ MarkC w' g k z j ∧ But g w w') (fun _ i _ => n - (intOf i).toNat)
  case atStart => exact ⟨0, Nat.zero_le _, rfl, by simp, unhide HO, But.refl _ _⟩
  case round =>
    obtain ⟨j, hj, rfl, rfl, hM, hb⟩ := hrel
    have HM := hide hM
    clear hM HO
    by_cases hjl : j < n
    · have hjl' : (j : Int) < (n : Int) := by omega
      obtain ⟨C, hC, hz, hm⟩ := unhide HM
      obtain ⟨v0, e0⟩ : ∃ v, wr.cell? ⟨g, j * 2, none⟩ = some v := ⟨C[j * 2]'(by omega), by rw [cell_of_block hC]; exact Array.getElem?_eq_getElem _⟩
      obtain ⟨v1, e1⟩ : ∃ v, wr.cell? ⟨g, j * 2 + 1, none⟩ = some v := ⟨C[j * 2 + 1]'(by omega), by rw [cell_of_block hC]; exact Array.getElem?_eq_getElem _⟩
      have g0 := unfrozen_of_block hC (j * 2)
      have g1 := unfrozen_of_block hC (j * 2 + 1)
      have HX := hide (markC_step (k := k) hC hz (by omega) hm)
      clear hm hC HM
      go_wp2_with fail
      exact ⟨⟨j + 1, by omega, by go_num, by go_num, unhide HX, (hb.set _ _).set _ _⟩, by simp [intOf]; omega⟩
    · have hjl' : ¬ (j : Int) < (n : Int) := by omega
      have hje : j = n := by omega
      have HM' := hide (hje ▸ unhide HM)
      go_wp2_with fail
      go_ret
      exact ⟨ret_int (by omega), unhide HM', hb⟩
set_option maxHeartbeats 2000000 in
theorem markNums_some (g n cap k z : Nat) (hkm : k + n ≤ 9007199254740992) (hn : n ≤ z) (w : World) (hO : MarkN w g k z 0) :
    Calls Try.prog 78 #[.slice (some ⟨g, 0, none⟩) n cap, .int .i64 k] w fun e w' => e = .returned (.int .i64 ((k + n : Nat) : Int)) ∧ MarkN w' g k z n ∧ But g w w' := by
  have HO := hide hO
  clear hO
  go_enter Try.func78, Try.ntmps78
  go_wp2_with fail
  go_loopw [1, 5] (fun kk i w' => ∃ j : Nat, j ≤ n ∧ i = .int .i64 j ∧ kk = .int .i64 ((k : Int) + (j : Int)) ∧ MarkN w' g k z j ∧ But g w w') (fun _ i _ => n - (intOf i).toNat)
  case atStart => exact ⟨0, Nat.zero_le _, rfl, by simp, unhide HO, But.refl _ _⟩
  case round =>
    obtain ⟨j, hj, rfl, rfl, hM, hb⟩ := hrel
    have HM := hide hM
    clear hM HO
    by_cases hjl : j < n
    · have hjl' : (j : Int) < (n : Int) := by omega
      obtain ⟨C, hC, hz, hm⟩ := unhide HM
      obtain ⟨v0, e0⟩ : ∃ v, wr.cell? ⟨g, j, none⟩ = some v := ⟨C[j]'(by omega), by rw [cell_of_block hC]; exact Array.getElem?_eq_getElem _⟩
      have g0 := unfrozen_of_block hC j
      have HX := hide (markN_step (k := k) hC hz (by omega) hm)
      clear hm hC HM
      go_wp2_with fail
      exact ⟨⟨j + 1, by omega, by go_num, by go_num, unhide HX, hb.set _ _⟩, by simp [intOf]; omega⟩
    · have hjl' : ¬ (j : Int) < (n : Int) := by omega
      have hje : j = n := by omega
      have HM' := hide (hje ▸ unhide HM)
      go_wp2_with fail
      go_ret
      exact ⟨ret_int (by omega), unhide HM', hb⟩
set_option maxHeartbeats 2000000 in
theorem heldNums_some (g n cap k z : Nat) (hkm : k + n ≤ 9007199254740992) (w : World) (hO : MarkN w g k z n) :
    Calls Try.prog 79 #[.slice (some ⟨g, 0, none⟩) n cap, .int .i64 k] w fun e w' => e = .returned (.int .i64 ((k + n : Nat) : Int)) ∧ Below w.heap.size w w' := by
  have HO := hide hO
  clear hO
  go_enter Try.func79, Try.ntmps79
  go_wp2_with fail
  go_loopw [1, 5] (fun kk i w' => ∃ j : Nat, j ≤ n ∧ i = .int .i64 j ∧ kk = .int .i64 ((k : Int) + (j : Int)) ∧ Below w.heap.size w w') (fun _ i _ => n - (intOf i).toNat)
  case atStart => exact ⟨0, Nat.zero_le _, rfl, by simp, Below.refl _ _⟩
  case round =>
    obtain ⟨j, hj, rfl, rfl, hb⟩ := hrel
    by_cases hjl : j < n
    · have hjl' : (j : Int) < (n : Int) := by omega
      obtain ⟨C, hC, hz, hm⟩ := unhide HO
      have hCr := box_below hC hb
      have h0 := hm j hjl
      have e0 : wr.cell? ⟨g, j, none⟩ = some (.int .i64 ((k : Int) + (j : Int))) := by rw [cell_of_block hCr]; exact h0
      clear hm hC hCr h0
      go_wp2_with fail
      exact ⟨⟨j + 1, by omega, by go_num, by go_num, hb⟩, by simp [intOf]; omega⟩
    · have hjl' : ¬ (j : Int) < (n : Int) := by omega
      go_wp2_with fail
      go_ret
      exact ⟨ret_int (by omega), hb⟩
/-- Places that can be written, in a block from R up to E; numbers alike. -/
def CanC (w : World) (R E : Nat) (v : Value) (n : Nat) : Prop := (n = 0 ∧ ∃ a c, v = .slice a 0 c) ∨ ∃ g cap C, v = .slice (some ⟨g, 0, none⟩) n cap ∧ R ≤ g ∧ g < E ∧ w.heap[g]? = some (Obj.cells C 85) ∧ n * 2 ≤ C.size
def CanN (w : World) (R E : Nat) (v : Value) (n : Nat) : Prop := (n = 0 ∧ ∃ a c, v = .slice a 0 c) ∨ ∃ g cap C, v = .slice (some ⟨g, 0, none⟩) n cap ∧ R ≤ g ∧ g < E ∧ w.heap[g]? = some (Obj.cells C 3) ∧ n ≤ C.size
def IsN (w : World) (v : Value) (k n : Nat) : Prop := (n = 0 ∧ ∃ a c, v = .slice a 0 c) ∨ ∃ g cap z, v = .slice (some ⟨g, 0, none⟩) n cap ∧ MarkN w g k z n
def IsC (w : World) (v : Value) (k n : Nat) : Prop := (n = 0 ∧ ∃ a c, v = .slice a 0 c) ∨ ∃ g cap z, v = .slice (some ⟨g, 0, none⟩) n cap ∧ MarkC w g k z n
theorem CanN.of {w : World} {B E : Nat} {v : Value} {os : List Int} (h : IntOwn w B v os) (hE : w.heap.size ≤ E) : CanN w B E v os.length := by
  obtain ⟨_, ⟨rfl, e⟩ | ⟨g, cap, cur, rfl, hB, hg, hn, _, hs, _⟩⟩ := h
  · exact .inl ⟨e, none, 0, rfl⟩
  · have := (Array.getElem?_eq_some_iff.1 hg).1
    exact .inr ⟨g, cap, cur, rfl, hB, by omega, hg, by omega⟩
theorem CanC.made {w : World} {R E g : Nat} {st : List CellD} (h : OwnCells w g st st.length) (h1 : R ≤ g) (h2 : g < E) : CanC w R E (.slice (some ⟨g, 0, none⟩) st.length st.length) st.length := by
  obtain ⟨C, hC, hF⟩ := h
  exact .inr ⟨g, _, C, rfl, h1, h2, hC, by rw [hF.1]; exact Nat.le_refl _⟩
theorem CanN.made {w : World} {R E g : Nat} {os : List Int} (h : OwnNums w g os os.length) (h1 : R ≤ g) (h2 : g < E) : CanN w R E (.slice (some ⟨g, 0, none⟩) os.length os.length) os.length := by
  obtain ⟨C, hC, hF⟩ := h
  exact .inr ⟨g, _, C, rfl, h1, h2, hC, by rw [hF.1]; exact Nat.le_refl _⟩
theorem CanC.below {w w' : World} {R E : Nat} {v : Value} {n : Nat} (h : CanC w R E v n) (hb : Below w.heap.size w w') : CanC w' R E v n := by
  rcases h with h | ⟨g, cap, C, h1, h2, h3, h4, h5⟩
  · exact .inl h
  · exact .inr ⟨g, cap, C, h1, h2, h3, box_below h4 hb, h5⟩
theorem CanN.below {w w' : World} {R E : Nat} {v : Value} {n : Nat} (h : CanN w R E v n) (hb : Below w.heap.size w w') : CanN w' R E v n := by
  rcases h with h | ⟨g, cap, C, h1, h2, h3, h4, h5⟩
  · exact .inl h
  · exact .inr ⟨g, cap, C, h1, h2, h3, box_below h4 hb, h5⟩
theorem CanC.mid {w w' : World} {R E R' E' : Nat} {v : Value} {n : Nat} (h : CanC w R E v n) (hb : Mid R' E' w w') (ho : E' ≤ R ∨ E ≤ R') : CanC w' R E v n := by
  rcases h with h | ⟨g, cap, C, h1, h2, h3, h4, h5⟩
  · exact .inl h
  · exact .inr ⟨g, cap, C, h1, h2, h3, hb.box h4 (by omega), h5⟩
theorem CanN.mid {w w' : World} {R E R' E' : Nat} {v : Value} {n : Nat} (h : CanN w R E v n) (hb : Mid R' E' w w') (ho : E' ≤ R ∨ E ≤ R') : CanN w' R E v n := by
  rcases h with h | ⟨g, cap, C, h1, h2, h3, h4, h5⟩
  · exact .inl h
  · exact .inr ⟨g, cap, C, h1, h2, h3, hb.box h4 (by omega), h5⟩
theorem IsN.below {w w' : World} {v : Value} {k n : Nat} (h : IsN w v k n) (hb : Below w.heap.size w w') : IsN w' v k n := by
  rcases h with h | ⟨g, cap, z, h1, C, h2, h3⟩
  · exact .inl h
  · exact .inr ⟨g, cap, z, h1, C, box_below h2 hb, h3⟩
theorem markCells_any (R E : Nat) (v : Value) (n k : Nat) (hn : n ≤ 1048576) (hk : k ≤ 9007199250546688) (w : World) (h : CanC w R E v n) :
    Calls Try.prog 35 #[v, .int .i64 k] w fun e w' => e = .returned (.int .i64 ((k + n * 2 : Nat) : Int)) ∧ IsC w' v k n ∧ Mid R E w w' ∧ ∀ (g : Nat) (C : Array Value) (t : TypeId), w.heap[g]? = some (Obj.cells C t) → t ≠ 85 → w'.heap[g]? = some (Obj.cells C t) := by
  rcases h with ⟨rfl, a, c, rfl⟩ | ⟨g, cap, C, rfl, h1, h2, h3, h4⟩
  · refine (markCells_nil a c k w).mono ?_
    rintro e w' ⟨rfl, rfl⟩
    exact ⟨rfl, .inl ⟨rfl, a, c, rfl⟩, Mid.refl _ _ _, fun g C t h _ => h⟩
  · refine (markCells_some g n cap k C.size (by omega) h4 w ⟨C, h3, rfl, fun i hi => by omega⟩).mono ?_
    rintro e w' ⟨rfl, hm, hb⟩
    exact ⟨rfl, .inr ⟨g, cap, _, rfl, hm⟩, (Mid.refl R E w).but h1 h2 hb, fun g' C' t' h' ht => hb.box h' (fun e => by subst e; rw [h3] at h'; simp at h'; exact ht h'.2.symm)⟩
theorem markNums_any (R E : Nat) (v : Value) (n k : Nat) (hn : n ≤ 1048576) (hk : k ≤ 9007199250546688) (w : World) (h : CanN w R E v n) :
    Calls Try.prog 78 #[v, .int .i64 k] w fun e w' => e = .returned (.int .i64 ((k + n : Nat) : Int)) ∧ IsN w' v k n ∧ Mid R E w w' ∧ ∀ (g : Nat) (C : Array Value) (t : TypeId), w.heap[g]? = some (Obj.cells C t) → n = 0 ∨ v.ownBlock ≠ some g → w'.heap[g]? = some (Obj.cells C t) := by
  have nil : ∀ a c, Calls Try.prog 78 #[.slice a 0 c, .int .i64 k] w fun e w' => e = .returned (.int .i64 ((k + 0 : Nat) : Int)) ∧ IsN w' (.slice a 0 c) k 0 ∧ Mid R E w w' ∧ ∀ (g : Nat) (C : Array Value) (t : TypeId), w.heap[g]? = some (Obj.cells C t) → 0 = 0 ∨ (Value.slice a 0 c).ownBlock ≠ some g → w'.heap[g]? = some (Obj.cells C t) := fun a c => by
    refine (markNums_nil a c k w).mono ?_
    rintro e w' ⟨rfl, rfl⟩
    exact ⟨rfl, .inl ⟨rfl, a, c, rfl⟩, Mid.refl _ _ _, fun g C t h _ => h⟩
  rcases h with ⟨rfl, a, c, rfl⟩ | ⟨g, cap, C, rfl, h1, h2, h3, h4⟩
  · exact nil a c
  · by_cases h0 : n = 0
    · subst h0; exact nil _ _
    · refine (markNums_some g n cap k C.size (by omega) h4 w ⟨C, h3, rfl, fun i hi => by omega⟩).mono ?_
      rintro e w' ⟨rfl, hm, hb⟩
      exact ⟨rfl, .inr ⟨g, cap, _, rfl, hm⟩, (Mid.refl R E w).but h1 h2 hb, fun g' C' t' h' ht => hb.box h' (fun e => by rcases ht with ht | ht; exact h0 ht; exact ht (by rw [e]; rfl))⟩
theorem heldNums_any (v : Value) (n k : Nat) (hn : n ≤ 1048576) (hk : k ≤ 9007199250546688) (w : World) (h : IsN w v k n) :
    Calls Try.prog 79 #[v, .int .i64 k] w fun e w' => e = .returned (.int .i64 ((k + n : Nat) : Int)) ∧ Below w.heap.size w w' := by
  rcases h with ⟨rfl, a, c, rfl⟩ | ⟨g, cap, z, rfl, h1⟩
  · refine (heldNums_nil a c k w).mono ?_
    rintro e w' ⟨rfl, rfl⟩
    exact ⟨rfl, Below.refl _ _⟩
  · exact heldNums_some g n cap k z (by omega) w h1
/-- A box of a machine is no row of numbers. -/
theorem box_far {w : World} {R E N : Nat} {v : Value} {n : Nat} {C : Array Value} (h : CanN w R E v n) (hN : w.heap[N]? = some (.cells C 60)) : n = 0 ∨ v.ownBlock ≠ some N := by
  rcases h with ⟨h, _⟩ | ⟨g, cap, C', rfl, _, _, h4, _⟩
  · exact .inl h
  · right
    intro e
    have e' : g = N := by simpa [Value.ownBlock] using e
    subst e'
    rw [hN] at h4; simp at h4
set_option maxHeartbeats 2000000 in
theorem markCpu_any (R E : Nat) (m : CM) (sv ov : Value) (sa oa : Option Addr) (sc oc n l k : Nat) (hsv : sv = .slice sa n sc) (hov : ov = .slice oa l oc) (hn : n ≤ 1048576) (hl : l ≤ 1048576) (hk : k ≤ 9007199247000000) (w : World) (hs : CanN w R E sv n) (ho : CanN w R E ov l) (hap : Apart sv ov) :
    Calls Try.prog 36 #[.agg (aggC m sv ov), .int .i64 k] w fun e w' => e = .returned (.int .i64 ((k + n + l : Nat) : Int)) ∧ IsN w' sv k n ∧ IsN w' ov (k + n) l ∧ Mid R E w w' := by
  subst hsv hov
  have hap' : ∀ g cap, Value.slice oa l oc = .slice (some ⟨g, 0, none⟩) l cap → (Value.slice sa n sc).ownBlock ≠ some g := fun g cap e => by
    have e2 : (Value.slice oa l oc).ownBlock = some g := by rw [e]; rfl
    rcases hap with h | h
    · rw [h]; simp
    · rw [← e2]; exact h
  have hap2 : ∀ g cap, Value.slice sa n sc = .slice (some ⟨g, 0, none⟩) n cap → (Value.slice oa l oc).ownBlock ≠ some g := fun g cap e => by
    have e2 : (Value.slice sa n sc).ownBlock = some g := by rw [e]; rfl
    rcases hap.symm with h | h
    · rw [h]; simp
    · rw [← e2]; exact h
  have HS := hide (hs.below (below_alloc1 w (.cells #[.int .i64 m.p, .int .i64 m.c, .slice sa n sc, .slice oa l oc, .int .i64 m.d] 60)))
  have HO := hide (ho.below (below_alloc1 w (.cells #[.int .i64 m.p, .int .i64 m.c, .slice sa n sc, .slice oa l oc, .int .i64 m.d] 60)))
  have HB := hide (new_block w (.cells #[.int .i64 m.p, .int .i64 m.c, .slice sa n sc, .slice oa l oc, .int .i64 m.d] 60))
  clear hs ho hap
  unfold aggC
  go_enter Try.func36, Try.ntmps36
  go_wp2_with fail
  refine (markNums_any R E _ n k hn (by omega) _ (unhide HS)).mono ?_
  rintro e w1 ⟨rfl, hI1, hM1, hN1⟩
  have HO1 : Hid (CanN w1 R E (.slice oa l oc) l) := by
    rcases unhide HO with h | ⟨g, cap, C, h1, h2, h3, h4, h5⟩
    · exact .inl h
    · exact .inr ⟨g, cap, C, h1, h2, h3, hN1 _ _ _ h4 (.inr (hap' g cap h1)), h5⟩
  have q3 : w1.cell? ⟨w.heap.size, 3, none⟩ = some (.slice oa l oc) := by
    rw [cell_of_block (hN1 _ _ _ (unhide HB) (box_far (unhide HS) (unhide HB)))]; rfl
  have HI1 := hide hI1
  have HM1 := hide (((Mid.refl R E w).below (below_alloc1 w (.cells #[.int .i64 m.p, .int .i64 m.c, .slice sa n sc, .slice oa l oc, .int .i64 m.d] 60))).trans hM1)
  clear hI1 hM1 hN1 HS HO HB
  go_wp2_with fail
  refine (markNums_any R E _ l (k + n) hl (by omega) _ (unhide HO1)).mono ?_
  rintro e w2 ⟨rfl, hI2, hM2, hN2⟩
  have HI2 := hide hI2
  have HI1' : Hid (IsN w2 (.slice sa n sc) k n) := by
    rcases unhide HI1 with h | ⟨g, cap, z, h1, C, h2, h3⟩
    · exact .inl h
    · exact .inr ⟨g, cap, z, h1, C, hN2 _ _ _ h2 (.inr (hap2 g cap h1)), h3⟩
  have HM2 := hide ((unhide HM1).trans hM2)
  clear hI2 hM2 hN2 HI1 HM1 HO1 q3
  go_wp2_with fail
  go_ret
  exact ⟨rfl, unhide HI1', unhide HI2, unhide HM2⟩
set_option maxHeartbeats 2000000 in
theorem heldCpu_any (m : CM) (sv ov : Value) (sa oa : Option Addr) (sc oc n l k : Nat) (hsv : sv = .slice sa n sc) (hov : ov = .slice oa l oc) (hn : n ≤ 1048576) (hl : l ≤ 1048576) (hk : k ≤ 9007199247000000) (w : World) (hs : IsN w sv k n) (ho : IsN w ov (k + n) l) :
    Calls Try.prog 37 #[.agg (aggC m sv ov), .int .i64 k] w fun e w' => e = .returned (.int .i64 ((k + n + l : Nat) : Int)) ∧ Below w.heap.size w w' := by
  subst hsv hov
  have HS := hide (hs.below (below_alloc1 w (.cells #[.int .i64 m.p, .int .i64 m.c, .slice sa n sc, .slice oa l oc, .int .i64 m.d] 60)))
  have HO := hide (ho.below (below_alloc1 w (.cells #[.int .i64 m.p, .int .i64 m.c, .slice sa n sc, .slice oa l oc, .int .i64 m.d] 60)))
  have HB := hide (new_block w (.cells #[.int .i64 m.p, .int .i64 m.c, .slice sa n sc, .slice oa l oc, .int .i64 m.d] 60))
  clear hs ho
  unfold aggC
  go_enter Try.func37, Try.ntmps37
  go_wp2_with fail
  refine (heldNums_any _ n k hn (by omega) _ (unhide HS)).mono ?_
  rintro e w1 ⟨rfl, hb1⟩
  have q3 : w1.cell? ⟨w.heap.size, 3, none⟩ = some (.slice oa l oc) := by
    rw [cell_of_block (box_below (unhide HB) hb1)]; rfl
  have HO1 := hide ((unhide HO).below hb1)
  have HB1 := hide (bl_trans (below_alloc1 w (.cells #[.int .i64 m.p, .int .i64 m.c, .slice sa n sc, .slice oa l oc, .int .i64 m.d] 60)) hb1)
  have hp1 : (0 : Int) ≤ ((k + n : Nat) : Int) := by omega
  clear hb1 HS HO HB
  generalize hkk : ((k + n : Nat) : Int) = kk at *
  have HKK := hide hkk
  clear hkk
  go_wp2_with fail
  rw [← unhide HKK]
  refine (heldNums_any _ l (k + n) hl (by omega) _ (unhide HO1)).mono ?_
  rintro e w2 ⟨rfl, hb2⟩
  have HB2 := hide (bl_trans (unhide HB1) hb2)
  have hp2 : (0 : Int) ≤ ((k + n + l : Nat) : Int) := by omega
  clear hb2 HB1 HO1 q3
  generalize hk2 : ((k + n + l : Nat) : Int) = kk2 at *
  have HK2 := hide hk2
  clear hk2
  go_wp2_with fail
  go_ret
  exact ⟨ret_int (unhide HK2).symm, unhide HB2⟩
end Go.Proofs.Ytjbhbkkkjdpamaa.CMark
