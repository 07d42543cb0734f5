/- Marks in functions that own their memory, for whatever such functions: written, and looked for again. -/
import Derived.Test.YthbbmookhcalkaaGreatDoorMarkO
import Derived.Test.YthbbmookhcalkaaGreatDoorKeepC
namespace Go.Proofs.YthbbmookhcalkaaGreatDoor.KeepM
open Go.ChangeShapes Go.WideShapes Go.ChangeAt Go.RowKit Go.Joins Go.Deep
open Go.Proofs.YthbbmookhcalkaaGreatDoor.Base Go.Proofs.YthbbmookhcalkaaGreatDoor.InsA Go.Proofs.YthbbmookhcalkaaGreatDoor.Funs Go.Proofs.YthbbmookhcalkaaGreatDoor.Open Go.Proofs.YthbbmookhcalkaaGreatDoor.Keep Go.Proofs.YthbbmookhcalkaaGreatDoor.Units Go.Proofs.YthbbmookhcalkaaGreatDoor.Refs Go.Proofs.YthbbmookhcalkaaGreatDoor.Mark Go.Proofs.YthbbmookhcalkaaGreatDoor.MarkF Go.Proofs.YthbbmookhcalkaaGreatDoor.MarkU Go.Proofs.YthbbmookhcalkaaGreatDoor.MarkO Go.Proofs.YthbbmookhcalkaaGreatDoor.Concat Go.Proofs.YthbbmookhcalkaaGreatDoor.KeepC
set_option linter.unusedVariables false
set_option maxRecDepth 100000

/-- A block of these functions. -/
def blockOf (v : Value) (vs : List (FunD × Value)) (g : Nat) : Prop := v.ownBlock = some g ∨ ∃ u ∈ vs, u.2.ownBlock = some g
theorem own_step {w w' : World} {B : Nat} {v : Value} {vs : List (FunD × Value)} (h : OwnFs w B v vs) (hk : ∀ g, blockOf v vs g → w'.heap[g]? = w.heap[g]?) : OwnFs w' B v vs := by
  have key : ∀ {e : TypeId} {z n : Nat} {x : Value} {ys : List Value}, w.ownsRow B e z x n ys → (∀ g, x.ownBlock = some g → w'.heap[g]? = w.heap[g]?) → w'.ownsRow B e z x n ys := fun h hk => by
    obtain ⟨h0, h1 | ⟨g, cap, cur, hv, hB, hb, hr⟩⟩ := h
    · exact ⟨h0, .inl h1⟩
    · exact ⟨h0, .inr ⟨g, cap, cur, hv, hB, (hk g (by rw [hv]; rfl)).trans hb, hr⟩⟩
  exact ⟨key h.1 (fun g hg => hk g (.inl hg)), fun u hu => ⟨key (h.2.1 u hu).1 (fun g hg => hk g (.inr ⟨u, hu, hg⟩)), (h.2.1 u hu).2⟩, h.2.2⟩
theorem own_lt {w : World} {B : Nat} {v : Value} {vs : List (FunD × Value)} (h : OwnFs w B v vs) : ∀ g, blockOf v vs g → B ≤ g ∧ g < w.heap.size := fun g hg => by
  rcases hg with hg | ⟨u, hu, hg⟩
  · exact World.ownsRow.lt h.1 g hg
  · exact World.ownsRow.lt (h.2.1 u hu).1 g hg
/-- All blocks of it are marked. -/
def MarkedO (w : World) (v : Value) (n : Nat) (ls : Nat → Nat) : Prop := (n = 0 ∧ ∃ a c, v = .slice a 0 c) ∨ ∃ g cap Rs cs, v = .slice (some ⟨g, 0, none⟩) n cap ∧ MarkedF w g 1 n Rs ls cs n
theorem MarkedO.below {w w' : World} {v : Value} {n : Nat} {ls : Nat → Nat} (h : MarkedO w v n ls) (hb : Below w.heap.size w w') : MarkedO w' v n ls := by
  rcases h with h | ⟨g, cap, Rs, cs, h1, h2⟩
  · exact .inl h
  · exact .inr ⟨g, cap, Rs, cs, h1, MarkedF.below h2 hb⟩
theorem cntL_bd {ls : Nat → Nat} {m : Nat} : ∀ n, (∀ i, i < n → ls i ≤ m) → cntL ls n ≤ n * (2 + m * 3)
  | 0, _ => by simp [cntL]
  | n + 1, h => by
    have ih := cntL_bd (ls := ls) (m := m) n (fun i hi => h i (by omega))
    have hn := h n (by omega)
    rw [cntL, Nat.succ_mul]
    have : ls n * 3 ≤ m * 3 := Nat.mul_le_mul_right _ hn
    omega
/-- How the functions lie, for the marks. -/
theorem own_marked {w : World} {B : Nat} {v : Value} {vs : List (FunD × Value)} (h : OwnFs w B v vs) (h0 : 0 < vs.length) : ∃ g cap Rs cs, v = .slice (some ⟨g, 0, none⟩) vs.length cap ∧ B ≤ g ∧ (∀ i, i < vs.length → B ≤ Rs i) ∧ (∀ i j, i < vs.length → j < vs.length → Rs i = Rs j → i = j) ∧ MarkedF w g 1 vs.length Rs (bodyLen (vs.map Prod.fst)) cs 0 := by
  obtain ⟨h1, h2, h3⟩ := h
  have each : ∀ i, i < vs.length → ∃ p : Nat × Nat, ∀ hi : i < vs.length, vs[i].2 = .slice (some ⟨p.1, 0, none⟩) vs[i].1.body.length p.2 ∧ B ≤ p.1 ∧ ∃ D, w.heap[p.1]? = some (.cells D 105 (0, 0)) ∧ vs[i].1.body.length * 3 ≤ D.size := fun i hi => by
    obtain ⟨ho, _, _, hne⟩ := h2 vs[i] (List.getElem_mem hi)
    obtain ⟨_, ⟨e, _⟩ | ⟨g, cap, cur, e, hB, hb, hn, hm, hs, _⟩⟩ := ho
    · rw [e] at hne; exact absurd rfl hne
    · exact ⟨(g, cap), fun _ => ⟨e, hB, cur, hb, by rw [hs]; exact Nat.mul_le_mul_right _ hn⟩⟩
  obtain ⟨f, hf⟩ := choose_lt each
  obtain ⟨_, ⟨_, hz⟩ | ⟨g, cap, cur, rfl, hB, hb, hn, hm, hs, ht⟩⟩ := h1
  · omega
  · refine ⟨g, cap, fun i => (f i).1, fun i => (f i).2, rfl, hB, fun i hi => (hf i hi hi).2.1, fun i j hi hj e => ?_, ?_⟩
    · rcases Nat.lt_trichotomy i j with hij | hij | hij
      · exact absurd (by rw [(hf i hi hi).1, (hf j hj hj).1]; exact congrArg some e) (List.pairwise_iff_getElem.1 h3 i j hi hj hij)
      · exact hij
      · exact absurd (by rw [(hf i hi hi).1, (hf j hj hj).1]; exact congrArg some e.symm) (List.pairwise_iff_getElem.1 h3 j i hj hi hij)
    · refine MarkedF.start hb (by rw [hs]; exact Nat.mul_le_mul_right _ hn) (fun i hi => ?_) (fun i hi => ?_)
      · obtain ⟨_, _, e2⟩ := flatV_at vs i hi
        rw [← ht, List.getElem?_take_of_lt (by omega)] at e2
        have e3 : cur[i * 3 + 2]? = some vs[i].2 := by simpa using e2
        rw [e3, (hf i hi hi).1]
        simp [bodyLen, List.getD, hi]
      · obtain ⟨e, hB', D, hD, hz⟩ := hf i hi hi
        refine ⟨fun e' => ?_, D, hD, by simpa [bodyLen, List.getD, hi] using hz⟩
        rw [e'] at hD
        rw [hb] at hD
        simp at hD

theorem markFs_nil (a : Option Addr) (c : Nat) (w : World) : Calls Tryz.prog 18 #[.slice a 0 c, .int .i64 1] w fun e w' => e = .returned (.int .i64 1) ∧ w' = w := by
  go_enter Tryz.func18, Tryz.ntmps18
  go_wp2_with fail
  refine wp_loop_rounds 1 ?_
  rw [rounds_succ]
  go_wp2
  go_ret
  exact ⟨rfl, rfl⟩
theorem markO_any (B : Nat) (v : Value) (vs : List (FunD × Value)) (w : World) (hl : vs.length ≤ 1000) (hbd : ∀ u ∈ vs, u.1.body.length ≤ 1000) (hBw : B ≤ w.heap.size) (hO : OwnFs w B v vs) :
    Calls Tryz.prog 18 #[v, .int .i64 1] w fun e w' => e = .returned (.int .i64 ((1 + cntL (bodyLen (vs.map Prod.fst)) vs.length : Nat) : Int)) ∧ MarkedO w' v vs.length (bodyLen (vs.map Prod.fst)) ∧ Below B w w' := by
  by_cases h0 : 0 < vs.length
  · obtain ⟨g, cap, Rs, cs, rfl, hB, hRB, hinj, hM⟩ := own_marked hO h0
    have hc := cntL_bd (ls := bodyLen (vs.map Prod.fst)) (m := 1000) vs.length (fun i hi => by
      have := hbd vs[i] (List.getElem_mem hi)
      simpa [bodyLen, List.getD, hi] using this)
    refine (markFs_any B g vs.length cap 1 Rs _ cs (by omega) (by omega) (by omega) hB hRB hinj w hBw hM).mono ?_
    rintro e w' ⟨rfl, hm, hb⟩
    exact ⟨rfl, .inr ⟨g, cap, Rs, cs, rfl, hm⟩, hb⟩
  · have hz : vs = [] := List.length_eq_zero_iff.1 (by omega)
    subst hz
    obtain ⟨a, c, rfl⟩ : ∃ a c, v = .slice a 0 c := by
      obtain ⟨_, ⟨rfl, _⟩ | ⟨g, cap, cur, rfl, _⟩⟩ := hO.1
      · exact ⟨_, _, rfl⟩
      · exact ⟨_, _, rfl⟩
    refine (markFs_nil a c w).mono ?_
    rintro e w' ⟨rfl, rfl⟩
    exact ⟨rfl, .inl ⟨rfl, a, c, rfl⟩, Below.refl _ _⟩
theorem heldFs_nil (a : Option Addr) (c : Nat) (w : World) : Calls Tryz.prog 19 #[.slice a 0 c, .int .i64 1] w fun e w' => e = .returned (.int .i64 1) ∧ w' = w := by
  go_enter Tryz.func19, Tryz.ntmps19
  go_wp2_with fail
  refine wp_loop_rounds 1 ?_
  rw [rounds_succ]
  go_wp2
  go_ret
  exact ⟨rfl, rfl⟩
theorem heldO_any (v : Value) (n : Nat) (ls : Nat → Nat) (w : World) (hl : n ≤ 1000) (hbd : ∀ i, i < n → ls i ≤ 1000) (hM : MarkedO w v n ls) :
    Calls Tryz.prog 19 #[v, .int .i64 1] w fun e w' => e = .returned (.int .i64 ((1 + cntL ls n : Nat) : Int)) ∧ Below w.heap.size w w' := by
  have hc := cntL_bd (ls := ls) (m := 1000) n hbd
  rcases hM with ⟨rfl, a, c, rfl⟩ | ⟨g, cap, Rs, cs, rfl, hM⟩
  · refine (heldFs_nil a c w).mono ?_
    rintro e w' ⟨rfl, rfl⟩
    exact ⟨rfl, Below.refl _ _⟩
  · exact heldFs_any g n cap 1 Rs ls cs (by omega) (by omega) (by omega) w hM
theorem eqO_same {B B' : Nat} (v v' : Value) {vs vs' : List (FunD × Value)} (w : World) (hv : vs.map Prod.fst = vs'.map Prod.fst) (h : OwnFs w B v vs) (h' : OwnFs w B' v' vs') :
    Calls Tryz.prog 17 #[v, v'] w fun e w' => e = .returned (.bool true) ∧ Below w.heap.size w w' := by
  obtain ⟨a, c, e, h1, h2, h3⟩ := h.row
  obtain ⟨a', c', e', _, _, h3'⟩ := h'.row
  rw [← hv] at e' h3'
  rw [e, e']
  exact eqFunS_same a a' c c' _ w h1 h2 h3 h3'
end Go.Proofs.YthbbmookhcalkaaGreatDoor.KeepM
