/- The contracts of the laws' marks in machines: written, and looked for again. -/
import Derived.Test.YtjbhbkkkjdpamaaGreatMSpecD
import Derived.Test.YtjbhbkkkjdpamaaGreatMarkF
namespace Go.Proofs.YtjbhbkkkjdpamaaGreat.MMark
open Go.ChangeShapes Go.WideShapes Go.ChangeAt Go.RowKit Go.Joins Go.Deep
open Go.Proofs.YtjbhbkkkjdpamaaGreat.Base Go.Proofs.YtjbhbkkkjdpamaaGreat.Keep Go.Proofs.YtjbhbkkkjdpamaaGreat.Mach Go.Proofs.YtjbhbkkkjdpamaaGreat.Mark Go.Proofs.YtjbhbkkkjdpamaaGreat.MarkF Go.Proofs.YtjbhbkkkjdpamaaGreat.MD Go.Proofs.YtjbhbkkkjdpamaaGreat.MRun Go.Proofs.YtjbhbkkkjdpamaaGreat.MDeed Go.Proofs.YtjbhbkkkjdpamaaGreat.MSay Go.Proofs.YtjbhbkkkjdpamaaGreat.MSpec Go.Proofs.YtjbhbkkkjdpamaaGreat.MSpecB Go.Proofs.YtjbhbkkkjdpamaaGreat.MCopy Go.Proofs.YtjbhbkkkjdpamaaGreat.MSpecD
set_option linter.unusedVariables false
set_option maxRecDepth 100000

def MarkS (w : World) (g k z n : Nat) : Prop := ∃ C, w.heap[g]? = some (Obj.cells C 31) ∧ C.size = z ∧ ∀ i, i < n → C[i * 2]? = some (.int .i64 ((k : Int) + (i : Int) * 2)) ∧ C[i * 2 + 1]? = some (.int .i64 ((k : Int) + (i : Int) * 2 + 1))
def MarkN (w : World) (g k z n : Nat) : Prop := ∃ C, w.heap[g]? = some (Obj.cells C 3) ∧ C.size = z ∧ ∀ i, i < n → C[i]? = some (.int .i64 ((k : Int) + (i : Int)))
theorem markS_step {w : World} {g k z j : Nat} {C : Array Value} (hC : w.heap[g]? = some (Obj.cells C 31)) (hz : C.size = z) (hj : j * 2 + 1 < z) (hm : ∀ i, i < j → C[i * 2]? = some (.int .i64 ((k : Int) + (i : Int) * 2)) ∧ C[i * 2 + 1]? = some (.int .i64 ((k : Int) + (i : Int) * 2 + 1))) :
    MarkS ((w.setCell ⟨g, j * 2, none⟩ (.int .i64 ((k : Int) + (j : Int) * 2))).setCell ⟨g, j * 2 + 1, none⟩ (.int .i64 ((k : Int) + (j : Int) * 2 + 1))) g k z (j + 1) := by
  refine ⟨_, block_setCell (block_setCell hC _) _, by simp [hz], fun i hi => ?_⟩
  by_cases e : i = j
  · subst e
    refine ⟨?_, ?_⟩
    · rw [Array.getElem?_setIfInBounds_ne (by omega), Array.getElem?_setIfInBounds_self_of_lt (by omega)]
    · rw [Array.getElem?_setIfInBounds_self_of_lt (by simp; omega)]
  · obtain ⟨h0, h1⟩ := hm i (by omega)
    refine ⟨?_, ?_⟩
    · rw [Array.getElem?_setIfInBounds_ne (by omega), Array.getElem?_setIfInBounds_ne (by omega), h0]
    · rw [Array.getElem?_setIfInBounds_ne (by omega), Array.getElem?_setIfInBounds_ne (by omega), h1]
theorem markN_step {w : World} {g k z j : Nat} {C : Array Value} (hC : w.heap[g]? = some (Obj.cells C 3)) (hz : C.size = z) (hj : j < z) (hm : ∀ i, i < j → C[i]? = some (.int .i64 ((k : Int) + (i : Int)))) :
    MarkN (w.setCell ⟨g, j, none⟩ (.int .i64 ((k : Int) + (j : Int)))) g k z (j + 1) := by
  refine ⟨_, block_setCell hC _, by simp [hz], fun i hi => ?_⟩
  by_cases e : i = j
  · subst e; rw [Array.getElem?_setIfInBounds_self_of_lt (by omega)]
  · rw [Array.getElem?_setIfInBounds_ne (by omega)]; exact hm i (by omega)
theorem markSpots_nil (a : Option Addr) (c k : Nat) (w : World) : Calls Tryz.prog 60 #[.slice a 0 c, .int .i64 k] w fun e w' => e = .returned (.int .i64 k) ∧ w' = w := by
  go_enter Tryz.func60, Tryz.ntmps60
  go_wp2_with fail
  refine wp_loop_rounds 1 ?_
  rw [rounds_succ]
  go_wp2
  go_ret
  exact ⟨rfl, rfl⟩
theorem markNums_nil (a : Option Addr) (c k : Nat) (w : World) : Calls Tryz.prog 61 #[.slice a 0 c, .int .i64 k] w fun e w' => e = .returned (.int .i64 k) ∧ w' = w := by
  go_enter Tryz.func61, Tryz.ntmps61
  go_wp2_with fail
  refine wp_loop_rounds 1 ?_
  rw [rounds_succ]
  go_wp2
  go_ret
  exact ⟨rfl, rfl⟩
theorem heldSpots_nil (a : Option Addr) (c k : Nat) (w : World) : Calls Tryz.prog 62 #[.slice a 0 c, .int .i64 k] w fun e w' => e = .returned (.int .i64 k) ∧ w' = w := by
  go_enter Tryz.func62, Tryz.ntmps62
  go_wp2_with fail
  refine wp_loop_rounds 1 ?_
  rw [rounds_succ]
  go_wp2
  go_ret
  exact ⟨rfl, rfl⟩
theorem heldNums_nil (a : Option Addr) (c k : Nat) (w : World) : Calls Tryz.prog 63 #[.slice a 0 c, .int .i64 k] w fun e w' => e = .returned (.int .i64 k) ∧ w' = w := by
  go_enter Tryz.func63, Tryz.ntmps63
  go_wp2_with fail
  refine wp_loop_rounds 1 ?_
  rw [rounds_succ]
  go_wp2
  go_ret
  exact ⟨rfl, rfl⟩
set_option maxHeartbeats 2000000 in
theorem markSpots_some (g n cap k z : Nat) (hkm : k + n * 2 ≤ 9007199254740992) (hn : n * 2 ≤ z) (w : World) (hO : MarkS w g k z 0) :
    Calls Tryz.prog 60 #[.slice (some ⟨g, 0, none⟩) n cap, .int .i64 k] w fun e w' => e = .returned (.int .i64 ((k + n * 2 : Nat) : Int)) ∧ MarkS w' g k z n ∧ But g w w' := by
  have HO := hide hO
  clear hO
  go_enter Tryz.func60, Tryz.ntmps60
  go_wp2_with fail
  go_loopw [1, 5] (fun kk i w' => ∃ j : Nat, j ≤ n ∧ i = .int .i64 j ∧ kk = .int .i64 ((k : Int) + (j : Int) * 2) ∧ MarkS w' g k z j ∧ But g w w') (fun _ i _ => n - (intOf i).toNat)
  case atStart => exact ⟨0, Nat.zero_le _, rfl, by simp, unhide HO, But.refl _ _⟩
  case round =>
    obtain ⟨j, hj, rfl, rfl, hM, hb⟩ := hrel
    have HM := hide hM
    clear hM HO
    by_cases hjl : j < n
    · have hjl' : (j : Int) < (n : Int) := by omega
      obtain ⟨C, hC, hz, hm⟩ := unhide HM
      obtain ⟨v0, e0⟩ : ∃ v, wr.cell? ⟨g, j * 2, none⟩ = some v := ⟨C[j * 2]'(by omega), by rw [cell_of_block hC]; exact Array.getElem?_eq_getElem _⟩
      obtain ⟨v1, e1⟩ : ∃ v, wr.cell? ⟨g, j * 2 + 1, none⟩ = some v := ⟨C[j * 2 + 1]'(by omega), by rw [cell_of_block hC]; exact Array.getElem?_eq_getElem _⟩
      have g0 := unfrozen_of_block hC (j * 2)
      have g1 := unfrozen_of_block hC (j * 2 + 1)
      have HX := hide (markS_step (k := k) hC hz (by omega) hm)
      clear hm hC HM
      go_wp2_with fail
      exact ⟨⟨j + 1, by omega, by go_num, by go_num, unhide HX, (hb.set _ _).set _ _⟩, by simp [intOf]; omega⟩
    · have hjl' : ¬ (j : Int) < (n : Int) := by omega
      have hje : j = n := by omega
      have HM' := hide (hje ▸ unhide HM)
      go_wp2_with fail
      go_ret
      exact ⟨ret_int (by omega), unhide HM', hb⟩
set_option maxHeartbeats 2000000 in
theorem markNums_some (g n cap k z : Nat) (hkm : k + n ≤ 9007199254740992) (hn : n ≤ z) (w : World) (hO : MarkN w g k z 0) :
    Calls Tryz.prog 61 #[.slice (some ⟨g, 0, none⟩) n cap, .int .i64 k] w fun e w' => e = .returned (.int .i64 ((k + n : Nat) : Int)) ∧ MarkN w' g k z n ∧ But g w w' := by
  have HO := hide hO
  clear hO
  go_enter Tryz.func61, Tryz.ntmps61
  go_wp2_with fail
  go_loopw [1, 5] (fun kk i w' => ∃ j : Nat, j ≤ n ∧ i = .int .i64 j ∧ kk = .int .i64 ((k : Int) + (j : Int)) ∧ MarkN w' g k z j ∧ But g w w') (fun _ i _ => n - (intOf i).toNat)
  case atStart => exact ⟨0, Nat.zero_le _, rfl, by simp, unhide HO, But.refl _ _⟩
  case round =>
    obtain ⟨j, hj, rfl, rfl, hM, hb⟩ := hrel
    have HM := hide hM
    clear hM HO
    by_cases hjl : j < n
    · have hjl' : (j : Int) < (n : Int) := by omega
      obtain ⟨C, hC, hz, hm⟩ := unhide HM
      obtain ⟨v0, e0⟩ : ∃ v, wr.cell? ⟨g, j, none⟩ = some v := ⟨C[j]'(by omega), by rw [cell_of_block hC]; exact Array.getElem?_eq_getElem _⟩
      have g0 := unfrozen_of_block hC j
      have HX := hide (markN_step (k := k) hC hz (by omega) hm)
      clear hm hC HM
      go_wp2_with fail
      exact ⟨⟨j + 1, by omega, by go_num, by go_num, unhide HX, hb.set _ _⟩, by simp [intOf]; omega⟩
    · have hjl' : ¬ (j : Int) < (n : Int) := by omega
      have hje : j = n := by omega
      have HM' := hide (hje ▸ unhide HM)
      go_wp2_with fail
      go_ret
      exact ⟨ret_int (by omega), unhide HM', hb⟩
set_option maxHeartbeats 2000000 in
theorem heldSpots_some (g n cap k z : Nat) (hkm : k + n * 2 ≤ 9007199254740992) (w : World) (hO : MarkS w g k z n) :
    Calls Tryz.prog 62 #[.slice (some ⟨g, 0, none⟩) n cap, .int .i64 k] w fun e w' => e = .returned (.int .i64 ((k + n * 2 : Nat) : Int)) ∧ Below w.heap.size w w' := by
  have HO := hide hO
  clear hO
  go_enter Tryz.func62, Tryz.ntmps62
  go_wp2_with fail
  go_loopw [1, 5] (fun kk i w' => ∃ j : Nat, j ≤ n ∧ i = .int .i64 j ∧ kk = .int .i64 ((k : Int) + (j : Int) * 2) ∧ Below w.heap.size w w') (fun _ i _ => n - (intOf i).toNat)
  case atStart => exact ⟨0, Nat.zero_le _, rfl, by simp, Below.refl _ _⟩
  case round =>
    obtain ⟨j, hj, rfl, rfl, hb⟩ := hrel
    by_cases hjl : j < n
    · have hjl' : (j : Int) < (n : Int) := by omega
      obtain ⟨C, hC, hz, hm⟩ := unhide HO
      have hCr := box_below hC hb
      obtain ⟨h0, h1⟩ := hm j hjl
      have e0 : wr.cell? ⟨g, j * 2, none⟩ = some (.int .i64 ((k : Int) + (j : Int) * 2)) := by rw [cell_of_block hCr]; exact h0
      have e1 : wr.cell? ⟨g, j * 2 + 1, none⟩ = some (.int .i64 ((k : Int) + (j : Int) * 2 + 1)) := by rw [cell_of_block hCr]; exact h1
      clear hm hC hCr h0 h1
      go_wp2_with fail
      exact ⟨⟨j + 1, by omega, by go_num, by go_num, hb⟩, by simp [intOf]; omega⟩
    · have hjl' : ¬ (j : Int) < (n : Int) := by omega
      go_wp2_with fail
      go_ret
      exact ⟨ret_int (by omega), hb⟩
set_option maxHeartbeats 2000000 in
theorem heldNums_some (g n cap k z : Nat) (hkm : k + n ≤ 9007199254740992) (w : World) (hO : MarkN w g k z n) :
    Calls Tryz.prog 63 #[.slice (some ⟨g, 0, none⟩) n cap, .int .i64 k] w fun e w' => e = .returned (.int .i64 ((k + n : Nat) : Int)) ∧ Below w.heap.size w w' := by
  have HO := hide hO
  clear hO
  go_enter Tryz.func63, Tryz.ntmps63
  go_wp2_with fail
  go_loopw [1, 5] (fun kk i w' => ∃ j : Nat, j ≤ n ∧ i = .int .i64 j ∧ kk = .int .i64 ((k : Int) + (j : Int)) ∧ Below w.heap.size w w') (fun _ i _ => n - (intOf i).toNat)
  case atStart => exact ⟨0, Nat.zero_le _, rfl, by simp, Below.refl _ _⟩
  case round =>
    obtain ⟨j, hj, rfl, rfl, hb⟩ := hrel
    by_cases hjl : j < n
    · have hjl' : (j : Int) < (n : Int) := by omega
      obtain ⟨C, hC, hz, hm⟩ := unhide HO
      have hCr := box_below hC hb
      have h0 := hm j hjl
      have e0 : wr.cell? ⟨g, j, none⟩ = some (.int .i64 ((k : Int) + (j : Int))) := by rw [cell_of_block hCr]; exact h0
      clear hm hC hCr h0
      go_wp2_with fail
      exact ⟨⟨j + 1, by omega, by go_num, by go_num, hb⟩, by simp [intOf]; omega⟩
    · have hjl' : ¬ (j : Int) < (n : Int) := by omega
      go_wp2_with fail
      go_ret
      exact ⟨ret_int (by omega), hb⟩
/-- Places that can be written, in a block from R up to E; numbers alike. -/
def CanS (w : World) (R E : Nat) (v : Value) (n : Nat) : Prop := (n = 0 ∧ ∃ a c, v = .slice a 0 c) ∨ ∃ g cap C, v = .slice (some ⟨g, 0, none⟩) n cap ∧ R ≤ g ∧ g < E ∧ w.heap[g]? = some (Obj.cells C 31) ∧ n * 2 ≤ C.size
def CanN (w : World) (R E : Nat) (v : Value) (n : Nat) : Prop := (n = 0 ∧ ∃ a c, v = .slice a 0 c) ∨ ∃ g cap C, v = .slice (some ⟨g, 0, none⟩) n cap ∧ R ≤ g ∧ g < E ∧ w.heap[g]? = some (Obj.cells C 3) ∧ n ≤ C.size
def IsS (w : World) (v : Value) (k n : Nat) : Prop := (n = 0 ∧ ∃ a c, v = .slice a 0 c) ∨ ∃ g cap z, v = .slice (some ⟨g, 0, none⟩) n cap ∧ MarkS w g k z n
def IsN (w : World) (v : Value) (k n : Nat) : Prop := (n = 0 ∧ ∃ a c, v = .slice a 0 c) ∨ ∃ g cap z, v = .slice (some ⟨g, 0, none⟩) n cap ∧ MarkN w g k z n
theorem CanS.of {w : World} {B E : Nat} {v : Value} {st : List SpotD} (h : SpotOwn w B v st) (hE : w.heap.size ≤ E) : CanS w B E v st.length := by
  obtain ⟨_, ⟨rfl, e⟩ | ⟨g, cap, cur, rfl, hB, hg, hn, _, hs, _⟩⟩ := h
  · exact .inl ⟨e, none, 0, rfl⟩
  · have := (Array.getElem?_eq_some_iff.1 hg).1
    exact .inr ⟨g, cap, cur, rfl, hB, by omega, hg, by rw [hs]; exact Nat.mul_le_mul_right _ hn⟩
theorem CanN.of {w : World} {B E : Nat} {v : Value} {os : List Int} (h : NumOwn w B v os) (hE : w.heap.size ≤ E) : CanN w B E v os.length := by
  obtain ⟨_, ⟨rfl, e⟩ | ⟨g, cap, cur, rfl, hB, hg, hn, _, hs, _⟩⟩ := h
  · exact .inl ⟨e, none, 0, rfl⟩
  · have := (Array.getElem?_eq_some_iff.1 hg).1
    exact .inr ⟨g, cap, cur, rfl, hB, by omega, hg, by omega⟩
theorem CanS.made {w : World} {R E g : Nat} {st : List SpotD} (h : OwnSpots w g st st.length) (h1 : R ≤ g) (h2 : g < E) : CanS w R E (.slice (some ⟨g, 0, none⟩) st.length st.length) st.length := by
  obtain ⟨C, hC, hF⟩ := h
  exact .inr ⟨g, _, C, rfl, h1, h2, hC, by rw [hF.1]; exact Nat.le_refl _⟩
theorem CanN.made {w : World} {R E g : Nat} {os : List Int} (h : OwnNums w g os os.length) (h1 : R ≤ g) (h2 : g < E) : CanN w R E (.slice (some ⟨g, 0, none⟩) os.length os.length) os.length := by
  obtain ⟨C, hC, hF⟩ := h
  exact .inr ⟨g, _, C, rfl, h1, h2, hC, by rw [hF.1]; exact Nat.le_refl _⟩
theorem CanS.below {w w' : World} {R E : Nat} {v : Value} {n : Nat} (h : CanS w R E v n) (hb : Below w.heap.size w w') : CanS w' R E v n := by
  rcases h with h | ⟨g, cap, C, h1, h2, h3, h4, h5⟩
  · exact .inl h
  · exact .inr ⟨g, cap, C, h1, h2, h3, box_below h4 hb, h5⟩
theorem CanN.below {w w' : World} {R E : Nat} {v : Value} {n : Nat} (h : CanN w R E v n) (hb : Below w.heap.size w w') : CanN w' R E v n := by
  rcases h with h | ⟨g, cap, C, h1, h2, h3, h4, h5⟩
  · exact .inl h
  · exact .inr ⟨g, cap, C, h1, h2, h3, box_below h4 hb, h5⟩
theorem CanS.mid {w w' : World} {R E R' E' : Nat} {v : Value} {n : Nat} (h : CanS w R E v n) (hb : Mid R' E' w w') (ho : E' ≤ R ∨ E ≤ R') : CanS w' R E v n := by
  rcases h with h | ⟨g, cap, C, h1, h2, h3, h4, h5⟩
  · exact .inl h
  · exact .inr ⟨g, cap, C, h1, h2, h3, hb.box h4 (by omega), h5⟩
theorem CanN.mid {w w' : World} {R E R' E' : Nat} {v : Value} {n : Nat} (h : CanN w R E v n) (hb : Mid R' E' w w') (ho : E' ≤ R ∨ E ≤ R') : CanN w' R E v n := by
  rcases h with h | ⟨g, cap, C, h1, h2, h3, h4, h5⟩
  · exact .inl h
  · exact .inr ⟨g, cap, C, h1, h2, h3, hb.box h4 (by omega), h5⟩
theorem IsS.below {w w' : World} {v : Value} {k n : Nat} (h : IsS w v k n) (hb : Below w.heap.size w w') : IsS w' v k n := by
  rcases h with h | ⟨g, cap, z, h1, C, h2, h3⟩
  · exact .inl h
  · exact .inr ⟨g, cap, z, h1, C, box_below h2 hb, h3⟩
theorem IsN.below {w w' : World} {v : Value} {k n : Nat} (h : IsN w v k n) (hb : Below w.heap.size w w') : IsN w' v k n := by
  rcases h with h | ⟨g, cap, z, h1, C, h2, h3⟩
  · exact .inl h
  · exact .inr ⟨g, cap, z, h1, C, box_below h2 hb, h3⟩
theorem markSpots_any (R E : Nat) (v : Value) (n k : Nat) (hn : n ≤ 1048576) (hk : k ≤ 9007199250546688) (w : World) (h : CanS w R E v n) :
    Calls Tryz.prog 60 #[v, .int .i64 k] w fun e w' => e = .returned (.int .i64 ((k + n * 2 : Nat) : Int)) ∧ IsS w' v k n ∧ Mid R E w w' ∧ ∀ (g : Nat) (C : Array Value) (t : TypeId), w.heap[g]? = some (Obj.cells C t) → t ≠ 31 → w'.heap[g]? = some (Obj.cells C t) := by
  rcases h with ⟨rfl, a, c, rfl⟩ | ⟨g, cap, C, rfl, h1, h2, h3, h4⟩
  · refine (markSpots_nil a c k w).mono ?_
    rintro e w' ⟨rfl, rfl⟩
    exact ⟨rfl, .inl ⟨rfl, a, c, rfl⟩, Mid.refl _ _ _, fun g C t h _ => h⟩
  · refine (markSpots_some g n cap k C.size (by omega) h4 w ⟨C, h3, rfl, fun i hi => by omega⟩).mono ?_
    rintro e w' ⟨rfl, hm, hb⟩
    exact ⟨rfl, .inr ⟨g, cap, _, rfl, hm⟩, (Mid.refl R E w).but h1 h2 hb, fun g' C' t' h' ht => hb.box h' (fun e => by subst e; rw [h3] at h'; simp at h'; exact ht h'.2.symm)⟩
theorem markNums_any (R E : Nat) (v : Value) (n k : Nat) (hn : n ≤ 1048576) (hk : k ≤ 9007199250546688) (w : World) (h : CanN w R E v n) :
    Calls Tryz.prog 61 #[v, .int .i64 k] w fun e w' => e = .returned (.int .i64 ((k + n : Nat) : Int)) ∧ IsN w' v k n ∧ Mid R E w w' ∧ ∀ (g : Nat) (C : Array Value) (t : TypeId), w.heap[g]? = some (Obj.cells C t) → t ≠ 3 → w'.heap[g]? = some (Obj.cells C t) := by
  rcases h with ⟨rfl, a, c, rfl⟩ | ⟨g, cap, C, rfl, h1, h2, h3, h4⟩
  · refine (markNums_nil a c k w).mono ?_
    rintro e w' ⟨rfl, rfl⟩
    exact ⟨rfl, .inl ⟨rfl, a, c, rfl⟩, Mid.refl _ _ _, fun g C t h _ => h⟩
  · refine (markNums_some g n cap k C.size (by omega) h4 w ⟨C, h3, rfl, fun i hi => by omega⟩).mono ?_
    rintro e w' ⟨rfl, hm, hb⟩
    exact ⟨rfl, .inr ⟨g, cap, _, rfl, hm⟩, (Mid.refl R E w).but h1 h2 hb, fun g' C' t' h' ht => hb.box h' (fun e => by subst e; rw [h3] at h'; simp at h'; exact ht h'.2.symm)⟩
theorem heldSpots_any (v : Value) (n k : Nat) (hn : n ≤ 1048576) (hk : k ≤ 9007199250546688) (w : World) (h : IsS w v k n) :
    Calls Tryz.prog 62 #[v, .int .i64 k] w fun e w' => e = .returned (.int .i64 ((k + n * 2 : Nat) : Int)) ∧ Below w.heap.size w w' := by
  rcases h with ⟨rfl, a, c, rfl⟩ | ⟨g, cap, z, rfl, h1⟩
  · refine (heldSpots_nil a c k w).mono ?_
    rintro e w' ⟨rfl, rfl⟩
    exact ⟨rfl, Below.refl _ _⟩
  · exact heldSpots_some g n cap k z (by omega) w h1
theorem heldNums_any (v : Value) (n k : Nat) (hn : n ≤ 1048576) (hk : k ≤ 9007199250546688) (w : World) (h : IsN w v k n) :
    Calls Tryz.prog 63 #[v, .int .i64 k] w fun e w' => e = .returned (.int .i64 ((k + n : Nat) : Int)) ∧ Below w.heap.size w w' := by
  rcases h with ⟨rfl, a, c, rfl⟩ | ⟨g, cap, z, rfl, h1⟩
  · refine (heldNums_nil a c k w).mono ?_
    rintro e w' ⟨rfl, rfl⟩
    exact ⟨rfl, Below.refl _ _⟩
  · exact heldNums_some g n cap k z (by omega) w h1
set_option maxHeartbeats 2000000 in
theorem markMach_any (R E : Nat) (m : MD) (sv ov : Value) (sa oa : Option Addr) (sc oc n l k : Nat) (hsv : sv = .slice sa n sc) (hov : ov = .slice oa l oc) (hn : n ≤ 1048576) (hl : l ≤ 1048576) (hk : k ≤ 9007199247000000) (w : World) (hs : CanS w R E sv n) (ho : CanN w R E ov l) :
    Calls Tryz.prog 21 #[.agg (aggM m sv ov), .int .i64 k] w fun e w' => e = .returned (.int .i64 ((k + n * 2 + l : Nat) : Int)) ∧ IsS w' sv k n ∧ IsN w' ov (k + n * 2) l ∧ Mid R E w w' := by
  subst hsv hov
  have HS := hide (hs.below (below_alloc1 w (.cells #[.int .i64 m.f, .int .i64 m.p, .int .i64 m.c, .slice sa n sc, .slice oa l oc, .int .i64 m.d] 47)))
  have HO := hide (ho.below (below_alloc1 w (.cells #[.int .i64 m.f, .int .i64 m.p, .int .i64 m.c, .slice sa n sc, .slice oa l oc, .int .i64 m.d] 47)))
  have HB := hide (new_block w (.cells #[.int .i64 m.f, .int .i64 m.p, .int .i64 m.c, .slice sa n sc, .slice oa l oc, .int .i64 m.d] 47))
  clear hs ho
  unfold aggM
  go_enter Tryz.func21, Tryz.ntmps21
  go_wp2_with fail
  refine (markSpots_any R E _ n k hn (by omega) _ (unhide HS)).mono ?_
  rintro e w1 ⟨rfl, hI1, hM1, hN1⟩
  have HO1 : Hid (CanN w1 R E (.slice oa l oc) l) := by
    rcases unhide HO with h | ⟨g, cap, C, h1, h2, h3, h4, h5⟩
    · exact .inl h
    · exact .inr ⟨g, cap, C, h1, h2, h3, hN1 _ _ _ h4 (by decide), h5⟩
  have q4 : w1.cell? ⟨w.heap.size, 4, none⟩ = some (.slice oa l oc) := by
    rw [cell_of_block (hN1 _ _ _ (unhide HB) (by decide))]; rfl
  have HI1 := hide hI1
  have HM1 := hide (((Mid.refl R E w).below (below_alloc1 w (.cells #[.int .i64 m.f, .int .i64 m.p, .int .i64 m.c, .slice sa n sc, .slice oa l oc, .int .i64 m.d] 47))).trans hM1)
  clear hI1 hM1 hN1 HS HO HB
  go_wp2_with fail
  refine (markNums_any R E _ l (k + n * 2) hl (by omega) _ (unhide HO1)).mono ?_
  rintro e w2 ⟨rfl, hI2, hM2, hN2⟩
  have HI2 := hide hI2
  have HI1' : Hid (IsS w2 (.slice sa n sc) k n) := by
    rcases unhide HI1 with h | ⟨g, cap, z, h1, C, h2, h3⟩
    · exact .inl h
    · exact .inr ⟨g, cap, z, h1, C, hN2 _ _ _ h2 (by decide), h3⟩
  have HM2 := hide ((unhide HM1).trans hM2)
  clear hI2 hM2 hN2 HI1 HM1 HO1 q4
  go_wp2_with fail
  go_ret
  exact ⟨rfl, unhide HI1', unhide HI2, unhide HM2⟩
set_option maxHeartbeats 2000000 in
theorem heldMach_any (m : MD) (sv ov : Value) (sa oa : Option Addr) (sc oc n l k : Nat) (hsv : sv = .slice sa n sc) (hov : ov = .slice oa l oc) (hn : n ≤ 1048576) (hl : l ≤ 1048576) (hk : k ≤ 9007199247000000) (w : World) (hs : IsS w sv k n) (ho : IsN w ov (k + n * 2) l) :
    Calls Tryz.prog 22 #[.agg (aggM m sv ov), .int .i64 k] w fun e w' => e = .returned (.int .i64 ((k + n * 2 + l : Nat) : Int)) ∧ Below w.heap.size w w' := by
  subst hsv hov
  have HS := hide (hs.below (below_alloc1 w (.cells #[.int .i64 m.f, .int .i64 m.p, .int .i64 m.c, .slice sa n sc, .slice oa l oc, .int .i64 m.d] 47)))
  have HO := hide (ho.below (below_alloc1 w (.cells #[.int .i64 m.f, .int .i64 m.p, .int .i64 m.c, .slice sa n sc, .slice oa l oc, .int .i64 m.d] 47)))
  have HB := hide (new_block w (.cells #[.int .i64 m.f, .int .i64 m.p, .int .i64 m.c, .slice sa n sc, .slice oa l oc, .int .i64 m.d] 47))
  clear hs ho
  unfold aggM
  go_enter Tryz.func22, Tryz.ntmps22
  go_wp2_with fail
  refine (heldSpots_any _ n k hn (by omega) _ (unhide HS)).mono ?_
  rintro e w1 ⟨rfl, hb1⟩
  have q4 : w1.cell? ⟨w.heap.size, 4, none⟩ = some (.slice oa l oc) := by
    rw [cell_of_block (box_below (unhide HB) hb1)]; rfl
  have HO1 := hide ((unhide HO).below hb1)
  have HB1 := hide (bl_trans (below_alloc1 w (.cells #[.int .i64 m.f, .int .i64 m.p, .int .i64 m.c, .slice sa n sc, .slice oa l oc, .int .i64 m.d] 47)) hb1)
  have hp1 : (0 : Int) ≤ ((k + n * 2 : Nat) : Int) := by omega
  clear hb1 HS HO HB
  generalize hkk : ((k + n * 2 : Nat) : Int) = kk at *
  have HKK := hide hkk
  clear hkk
  go_wp2_with fail
  rw [← unhide HKK]
  refine (heldNums_any _ l (k + n * 2) hl (by omega) _ (unhide HO1)).mono ?_
  rintro e w2 ⟨rfl, hb2⟩
  have HB2 := hide (bl_trans (unhide HB1) hb2)
  have hp2 : (0 : Int) ≤ ((k + n * 2 + l : Nat) : Int) := by omega
  clear hb2 HB1 HO1 q4
  generalize hk2 : ((k + n * 2 + l : Nat) : Int) = kk2 at *
  have HK2 := hide hk2
  clear hk2
  go_wp2_with fail
  go_ret
  exact ⟨ret_int (unhide HK2).symm, unhide HB2⟩
end Go.Proofs.YtjbhbkkkjdpamaaGreat.MMark
