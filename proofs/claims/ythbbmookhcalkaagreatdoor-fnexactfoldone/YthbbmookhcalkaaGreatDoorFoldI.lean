/- The program's chain of functions that become one: stays, told, left, foldChainOf. -/
import Derived.Test.YthbbmookhcalkaaGreatDoorFoldT
import Derived.Test.YthbbmookhcalkaaGreatDoorFoldC
import Derived.Test.YthbbmookhcalkaaGreatDoorKeepO
import Derived.Test.YthbbmookhcalkaaGreatDoorUnitM
import Derived.Lib.AppendZeros
namespace Go.Proofs.YthbbmookhcalkaaGreatDoor.FoldI
open Go.ChangeShapes Go.WideShapes Go.ChangeAt Go.RowKit Go.Joins Go.WideMaps Go.Maps Go.Deep
open Go.Proofs.YthbbmookhcalkaaGreatDoor.Base Go.Proofs.YthbbmookhcalkaaGreatDoor.InsA Go.Proofs.YthbbmookhcalkaaGreatDoor.Name Go.Proofs.YthbbmookhcalkaaGreatDoor.InsB Go.Proofs.YthbbmookhcalkaaGreatDoor.Funs Go.Proofs.YthbbmookhcalkaaGreatDoor.Open Go.Proofs.YthbbmookhcalkaaGreatDoor.FunS Go.Proofs.YthbbmookhcalkaaGreatDoor.Keep Go.Proofs.YthbbmookhcalkaaGreatDoor.UnitS Go.Proofs.YthbbmookhcalkaaGreatDoor.UnitM Go.Proofs.YthbbmookhcalkaaGreatDoor.UU Go.Proofs.YthbbmookhcalkaaGreatDoor.Concat Go.Proofs.YthbbmookhcalkaaGreatDoor.KeepC Go.Proofs.YthbbmookhcalkaaGreatDoor.KeepD Go.Proofs.YthbbmookhcalkaaGreatDoor.KeepA Go.Proofs.YthbbmookhcalkaaGreatDoor.KeepO Go.Proofs.YthbbmookhcalkaaGreatDoor.Mark Go.Proofs.YthbbmookhcalkaaGreatDoor.MarkV Go.Proofs.YthbbmookhcalkaaGreatDoor.FoldR Go.Proofs.YthbbmookhcalkaaGreatDoor.FoldN Go.Proofs.YthbbmookhcalkaaGreatDoor.FoldT Go.Proofs.YthbbmookhcalkaaGreatDoor.FoldC
set_option linter.unusedVariables false
set_option maxRecDepth 100000

theorem ret_strF {a b : ByteArray} (h : a = b) : Ending.returned (.string a) = .returned (.string b) := by rw [h]
theorem infoLink : (Tryz.prog.info? 3).map (fun i => (i.zero, i.size, i.bytes)) = some (some (.int .i64 0), 1, 8) := by kernel_rfl
theorem link_info : ∃ i, Tryz.prog.info? 3 = some i ∧ i.zero = some (.int .i64 0) ∧ i.size = 1 ∧ i.bytes = 8 := by
  obtain ⟨i, hi, h⟩ := Option.map_eq_some_iff.1 infoLink
  simp only [Prod.mk.injEq] at h
  exact ⟨i, hi, h.1, h.2.1, h.2.2⟩
def encL (L : List Nat) : List Value := L.map fun (i : Nat) => Value.int .i64 (i : Int)
/-- Links in memory of the call's own. -/
def LinkO (w : World) (B : Nat) (v : Value) (L : List Nat) : Prop := w.ownsRow B 3 1 v L.length (encL L)
theorem encL_set {L : List Nat} {k i : Nat} : (encL L).set k (.int .i64 (i : Int)) = encL (L.set k i) := by
  unfold encL
  rw [List.map_set]
theorem LinkO.below {w w' : World} {B : Nat} {v : Value} {L : List Nat} (h : LinkO w B v L) (hb : Below w.heap.size w w') : LinkO w' B v L := row_below h hb
theorem LinkO.cell {w : World} {B G c : Nat} {L : List Nat} (h : LinkO w B (.slice (some ⟨G, 0, none⟩) L.length c) L) {i : Nat} (hi : i < L.length) : w.cell? ⟨G, i, none⟩ = some (.int .i64 (L.getD i i : Nat)) ∧ w.frozen? ⟨G, i, none⟩ = false := by
  have h1 : (encL L)[i]? = some (.int .i64 (L.getD i i : Nat)) := by
    unfold encL
    simp [List.getD, List.getElem?_eq_getElem hi]
  exact ⟨(World.ownsRow.cellAt h i (by omega)).trans h1, World.ownsRow.frozenAt h _⟩
theorem LinkO.store {w : World} {B G c : Nat} {L : List Nat} {n : Nat} (hn : n = L.length) (h : LinkO w B (.slice (some ⟨G, 0, none⟩) n c) L) (k i : Nat) : LinkO (w.setCell ⟨G, k, none⟩ (.int .i64 (i : Int))) B (.slice (some ⟨G, 0, none⟩) n c) (L.set k i) := by
  subst hn
  have := (World.ownsRow.stored h k (.int .i64 (i : Int))).1
  rw [encL_set] at this
  unfold LinkO
  rw [List.length_set]
  exact this
theorem LinkO.lt {w : World} {B G c n : Nat} {L : List Nat} (h : LinkO w B (.slice (some ⟨G, 0, none⟩) n c) L) : B ≤ G ∧ G < w.heap.size := World.ownsRow.lt h G rfl
theorem map_under {w w' : World} {P : Program} {k b n : Nat} {R : Value → Option (DataW Unit × List MemPlace)} {D : DataW Unit} (h : w.ownsMap P k R b n D) (hb : w'.heap[b]? = w.heap[b]?) : w'.ownsMap P k R b n D := by
  obtain ⟨es, clock, hh, F, hs, hD⟩ := h
  exact ⟨es, clock, hb.trans hh, F, hs, hD⟩
theorem map_inside {w : World} {P : Program} {k b n : Nat} {R : Value → Option (DataW Unit × List MemPlace)} {D : DataW Unit} (h : w.ownsMap P k R b n D) : b < w.heap.size := by
  obtain ⟨es, clock, hh, _⟩ := h
  exact (Array.getElem?_eq_some_iff.1 hh).1
/-- A chain: functions that stand since a world ahead, the map of their names and links that were made since. -/
structure Ch (w0 w : World) (a : Option Addr) (fs : List FunD) (M G lc : Nat) (L : List Nat) : Prop where
  row0 : FunRow w0 a fs
  bel : Below w0.heap.size w0 w
  map : w.ownsMap Tryz.prog 9 (plainElem Tryz.prog 3) M fs.length (PD fs fs.length)
  lk : LinkO w w0.heap.size (.slice (some ⟨G, 0, none⟩) fs.length lc) L
  len : L.length = fs.length
  ok : Links L
theorem Ch.row {w0 w : World} {a : Option Addr} {fs : List FunD} {M G lc : Nat} {L : List Nat} (h : Ch w0 w a fs M G lc L) : FunRow w a fs := h.row0.below h.bel
theorem Ch.below {w0 w w' : World} {a : Option Addr} {fs : List FunD} {M G lc : Nat} {L : List Nat} (h : Ch w0 w a fs M G lc L) (hb : Below w.heap.size w w') : Ch w0 w' a fs M G lc L :=
  ⟨h.row0, bl_trans h.bel hb, map_under h.map (hb.block _ (map_inside h.map)), h.lk.below hb, h.len, h.ok⟩
theorem Ch.ne {w0 w : World} {a : Option Addr} {fs : List FunD} {M G lc : Nat} {L : List Nat} (h : Ch w0 w a fs M G lc L) : M ≠ G := fun e => by
  subst e
  obtain ⟨es, clock, hh, _⟩ := h.map
  obtain ⟨_, ⟨e2, _⟩ | ⟨g, cap, cur, e2, _, hg, _⟩⟩ := h.lk
  · cases e2
  · have e3 : M = g := by
      injection e2 with e4 _ _
      injection e4 with e5
      injection e5 with e6
    subst e3
    rw [hh] at hg
    cases hg
/-- One more link. -/
theorem Ch.store {w0 w : World} {a : Option Addr} {fs : List FunD} {M G lc : Nat} {L : List Nat} (h : Ch w0 w a fs M G lc L) {k i : Nat} (hk : k < fs.length) (hik : i ≤ k) : Ch w0 (w.setCell ⟨G, k, none⟩ (.int .i64 (i : Int))) a fs M G lc (L.set k i) :=
  ⟨h.row0, h.bel.setCell (by show w0.heap.size ≤ G; exact h.lk.lt.1) _, map_under h.map (Below.heap_setCell w ⟨G, k, none⟩ _ M h.ne), h.lk.store h.len.symm k i, by rw [List.length_set]; exact h.len, links_set h.ok (by rw [h.len]; exact hk) hik⟩
theorem Ch.cell {w0 w : World} {a : Option Addr} {fs : List FunD} {M G lc : Nat} {L : List Nat} (h : Ch w0 w a fs M G lc L) {i : Nat} (hi : i < fs.length) : w.cell? ⟨G, i, none⟩ = some (.int .i64 (L.getD i i : Nat)) ∧ w.frozen? ⟨G, i, none⟩ = false := by
  have h1 := h.lk
  have e := h.len
  rw [← e] at h1
  exact h1.cell (by omega)
def chV (a : Option Addr) (n cap M G lc : Nat) : Value := .agg #[.slice a n cap, .map (some M), .slice (some ⟨G, 0, none⟩) n lc]
def chO (a : Option Addr) (n cap M G lc : Nat) : Obj := .cells #[.slice a n cap, .map (some M), .slice (some ⟨G, 0, none⟩) n lc] 71

theorem stays_any (a : Option Addr) (cap : Nat) (fs : List FunD) (M G lc : Nat) (L : List Nat) (i : Nat) (w0 w : World) (hi : i < fs.length) (hl : fs.length ≤ 40) (h : Ch w0 w a fs M G lc L) :
    Calls Tryz.prog 80 #[.agg #[.slice a fs.length cap, .map (some M), .slice (some ⟨G, 0, none⟩) fs.length lc], .int .i64 (i : Int)] w fun e w' => e = .returned (.bool (L.getD i i == i)) ∧ Below w.heap.size w w' := by
  have hB := below_alloc1 w (.cells #[.slice a fs.length cap, .map (some M), .slice (some ⟨G, 0, none⟩) fs.length lc] 71)
  obtain ⟨⟨x0, x1, x2⟩, _⟩ := box3 (new_block w (.cells #[.slice a fs.length cap, .map (some M), .slice (some ⟨G, 0, none⟩) fs.length lc] 71))
  have c0 := ((h.below hB).cell hi).1
  have hi' : (i : Int) < (fs.length : Int) := by omega
  have hi0 : (0 : Int) ≤ (i : Int) := by omega
  have HB := hide hB
  clear hB h
  generalize L.getD i i = z at *
  have HE : Hid ((((z : Nat) : Int) == ((i : Nat) : Int)) = (z == i)) := by
    show _ = _
    rw [Bool.eq_iff_iff, beq_iff_eq, beq_iff_eq]; omega
  go_enter Tryz.func80, Tryz.ntmps80
  go_wp2_with fail
  go_ret
  exact ⟨ret_bool (by first | exact unhide HE | (rw [← unhide HE]; rfl)), unhide HB⟩

theorem idx_has {fs : List FunD} {s : ByteArray} {c : Int} (h : (PD fs fs.length).atKey (keyS s) (.lit (.int .i64 0)) = .lit (.int .i64 c)) : c = ((idx fs s : Nat) : Int) := by
  unfold idx
  cases hh : has (PD fs fs.length) (keyS s) with
  | true =>
    have := at_find hh h
    have h0 : (0 : Int) ≤ findI fs s := by
      rw [PD_has fs (Nat.le_refl _), List.take_length] at hh
      have hlt : fs.findIdx (isNm s) < fs.length := List.findIdx_lt_length_of_exists (by simpa using hh)
      unfold findI
      rw [if_pos hlt]
      omega
    omega
  | false =>
    have h1 := no_find hh
    rw [atKey_of_not_has hh] at h
    injection h with h2
    injection h2 with _ h3
    omega
set_option maxHeartbeats 2000000 in
theorem told_any (a : Option Addr) (cap : Nat) (fs : List FunD) (M G lc : Nat) (L : List Nat) (s : ByteArray) (w0 w : World) (h0 : 0 < fs.length) (hl : fs.length ≤ 40) (hs : s.size ≤ maxLen) (h : Ch w0 w a fs M G lc L) :
    Calls Tryz.prog 82 #[.agg #[.slice a fs.length cap, .map (some M), .slice (some ⟨G, 0, none⟩) fs.length lc], .string s] w fun e w' => e = .returned (.string (tf fs (rt L) s)) ∧ Below w.heap.size w w' := by
  have hB := below_alloc1 w (.cells #[.slice a fs.length cap, .map (some M), .slice (some ⟨G, 0, none⟩) fs.length lc] 71)
  have HX := hide (new_block w (.cells #[.slice a fs.length cap, .map (some M), .slice (some ⟨G, 0, none⟩) fs.length lc] 71))
  obtain ⟨⟨x0, x1, x2⟩, _⟩ := box3 (unhide HX)
  have HC := hide (h.below hB)
  have hmap := (unhide HC).map
  have hkey : keyOf Tryz.prog 9 (.string s) = some (keyS s) := keyOf_string_mk Tryz.underlying9 hs
  have HIL := hide (idx_lt h0 s)
  have HB := hide hB
  have HEI := hide (fun c hc => idx_has (fs := fs) (s := s) (c := c) hc)
  have HTF : Hid (tf fs (rt L) s = nmA fs (rt L (idx fs s))) := rfl
  have HLN := hide h.len
  have HLK := hide h.ok
  clear h hB
  generalize idx fs s = q at *
  go_enter Tryz.func82, Tryz.ntmps82
  go_wp2_with (first
    | (at_lookup; refine wpList_lookup_own_int _ rfl _ _ 58 rfl 9 3 .i64 lawS Tryz.underlying58 Tryz.underlying3 (zeroI _) M fs.length _ rfl hmap _ _ rfl hkey ?_; intro c hat hwc)
    | go_in)
  have hc := unhide HEI _ hat
  subst hc
  clear hat hwc hkey hmap HEI
  go_loopw [5] (fun v w' => ∃ k : Nat, k < fs.length ∧ v = .int .i64 (k : Int) ∧ Hid (rt L q = rt L k) ∧ Hid (w'.heap[w.heap.size]? = some (.cells #[.slice a fs.length cap, .map (some M), .slice (some ⟨G, 0, none⟩) fs.length lc] 71)) ∧ Hid (Ch w0 w' a fs M G lc L) ∧ Hid (Below w.heap.size w w')) (fun v _ => (intOf v).toNat)
  case atStart => exact ⟨q, unhide HIL, rfl, rfl, HX, HC, HB⟩
  case round =>
    clear HX HC HB x0 x1 x2
    obtain ⟨k, hk, rfl, HR, HX, HC, HB⟩ := hrel
    obtain ⟨⟨x0, x1, x2⟩, _⟩ := box3 (unhide HX)
    have hk' : (k : Int) < (fs.length : Int) := by omega
    have hk0 : (0 : Int) ≤ (k : Int) := by omega
    have hle := unhide HLK k (by rw [unhide HLN]; exact hk)
    cases hq : (L.getD k k == k)
    · have hne : L.getD k k ≠ k := by simpa using hq
      have HST := hide (rt_step (unhide HLK) (i := k) (by rw [unhide HLN]; exact hk))
      go_wp2_with fail
      refine (stays_any a cap fs M G lc L k w0 _ hk hl (unhide HC)).mono ?_
      rw [hq]
      rintro e w2 ⟨rfl, hb2⟩
      replace HX := hide (box_below (unhide HX) hb2)
      replace HC := hide ((unhide HC).below hb2)
      replace HB := hide (bl_trans (unhide HB) hb2)
      clear x0 x1 x2 hb2
      obtain ⟨⟨x0, x1, x2⟩, _⟩ := box3 (unhide HX)
      have c0 := ((unhide HC).cell hk).1
      obtain ⟨z, hz⟩ : ∃ z, L.getD k k = z := ⟨_, rfl⟩
      rw [hz] at c0 HST hle hne
      clear hz hq
      go_wp2_with fail
      exact ⟨⟨z, by omega, rfl, (unhide HR).trans (unhide HST), HX, HC, HB⟩, by simp [intOf]; omega⟩
    · have hee : L.getD k k = k := by simpa using hq
      have HRK := hide ((unhide HR).trans (rt_stays hee))
      go_wp2_with fail
      refine (stays_any a cap fs M G lc L k w0 _ hk hl (unhide HC)).mono ?_
      rw [hq]
      rintro e w2 ⟨rfl, hb2⟩
      replace HX := hide (box_below (unhide HX) hb2)
      replace HC := hide ((unhide HC).below hb2)
      replace HB := hide (bl_trans (unhide HB) hb2)
      clear x0 x1 x2 hb2
      obtain ⟨⟨x0, x1, x2⟩, _⟩ := box3 (unhide HX)
      obtain ⟨b, off, rfl⟩ := (unhide HC).row.get (by omega)
      obtain ⟨ai, ci, c0, c1, c2, hn, h4, h5, h6⟩ := (unhide HC).row.at hk
      clear h6 c1 c2
      have HE : Hid (fs[k].nm = tf fs (rt L) s) := by
        show _ = _
        rw [unhide HTF, unhide HRK]
        unfold nmA
        rw [getD_is hk]
      generalize fs[k].nm = nm at *
      go_wp2_with fail
      go_ret
      exact ⟨ret_strF (unhide HE), unhide HB⟩
/-- One more link behind those of a chain that is being made. -/
theorem put_link {w W : World} {BB B2 k cv : Nat} {av : Option Addr} {v0 v1 : Value} (hB : Below w.heap.size w W) (hw2 : w.heap.size ≤ B2) (h2 : B2 < BB) (hb2 : W.heap[B2]? = some (.cells #[v0, v1, .slice av k cv] 71)) (hO : LinkO W BB (.slice av k cv) (List.range k)) (hBB : BB ≤ W.heap.size) (hl : k ≤ 1000) (ty : TypeId) :
    ∃ g c w2, (Builtin.append_ #[33, 33] ty #[.slice av k cv, .slice (some ⟨W.heap.size, 0, none⟩) 1 1]).run Tryz.prog (W.alloc (.cells #[.int .i64 (k : Int)] 3)) = .ok (.slice (some ⟨g, 0, none⟩) (k + 1) c) w2 ∧
      (w2.cell? ⟨B2, 2, none⟩ = some (.slice av k cv) ∧ w2.frozen? ⟨B2, 2, none⟩ = false) ∧
      (w2.setCell ⟨B2, 2, none⟩ (.slice (some ⟨g, 0, none⟩) (k + 1) c)).heap[B2]? = some (.cells #[v0, v1, .slice (some ⟨g, 0, none⟩) (k + 1) c] 71) ∧ LinkO (w2.setCell ⟨B2, 2, none⟩ (.slice (some ⟨g, 0, none⟩) (k + 1) c)) BB (.slice (some ⟨g, 0, none⟩) (k + 1) c) (List.range (k + 1)) ∧ Below w.heap.size w (w2.setCell ⟨B2, 2, none⟩ (.slice (some ⟨g, 0, none⟩) (k + 1) c)) ∧
      (∀ j, j < BB → j ≠ B2 → (w2.setCell ⟨B2, 2, none⟩ (.slice (some ⟨g, 0, none⟩) (k + 1) c)).heap[j]? = W.heap[j]?) ∧ W.heap.size ≤ (w2.setCell ⟨B2, 2, none⟩ (.slice (some ⟨g, 0, none⟩) (k + 1) c)).heap.size := by
  obtain ⟨i, hi, hz0, hz1, hz2⟩ := link_info
  have hcell : ∀ j u, ([Value.int .i64 (k : Int)])[j]? = some u → (W.alloc (.cells #[.int .i64 (k : Int)] 3)).cell? ((⟨W.heap.size, 0, none⟩ : Addr).add j) = some u := by
    intro j u hj
    rw [add_plain, cell_of_block (new_block W _)]
    match j, hj with
    | 0, hj => simpa using hj
    | j + 1, hj => simp at hj
  have hO1 : W.ownsRow BB 3 1 (.slice av k cv) k (encL (List.range k)) := by
    have := hO
    unfold LinkO at this
    rwa [List.length_range] at this
  obtain ⟨v', w2, hr, ho, hg, _, _⟩ := run_append_own_at (P := Tryz.prog) (W.alloc (.cells #[.int .i64 (k : Int)] 3)) BB 33 ty 3 i _ 1 8 Tryz.underlying33 hi hz0 hz1 hz2 rfl (by decide) (.slice av k cv) k (encL (List.range k)) (row_below hO1 (below_alloc1 W _)) ⟨W.heap.size, 0, none⟩ 1 1 [.int .i64 (k : Int)] rfl hcell (by intro u hu; simp only [List.mem_cons, List.not_mem_nil, or_false] at hu; rcases hu with rfl; rfl) (by unfold maxLen; omega) (by omega) (by simp only [World.size_alloc]; omega)
  have hE : encL (List.range k) ++ [.int .i64 (k : Int)] = encL (List.range (k + 1)) := by
    unfold encL
    rw [List.range_succ, List.map_append]
    rfl
  rw [hE] at ho
  have hO' : LinkO w2 BB v' (List.range (k + 1)) := by
    unfold LinkO
    rw [List.length_range]
    exact ho
  have hv : ∀ g, (Value.slice av k cv).ownBlock = some g → BB ≤ g := fun g e => (World.ownsRow.lt hO g e).1
  have hk : ∀ j, j < BB → w2.heap[j]? = W.heap[j]? := fun j hj => by
    rw [hg.block j (by simp only [World.size_alloc]; omega) (fun e => by have := hv j e.symm; omega)]
    exact (below_alloc1 W _).block j (by omega)
  have hb2' : w2.heap[B2]? = some (.cells #[v0, v1, .slice av k cv] 71) := (hk B2 h2).trans hb2
  have hB2 : Below w.heap.size w w2 := (bl_alloc hB _).grown hg (bl_alloc hB _).size (fun j hj => by have := hv j hj; omega)
  obtain ⟨g, c, e⟩ : ∃ g c, v' = .slice (some ⟨g, 0, none⟩) (k + 1) c := by
    obtain ⟨_, ⟨_, h0⟩ | ⟨g, cap, cur, e, _⟩⟩ := ho
    · omega
    · exact ⟨g, cap, e⟩
  subst e
  have hOs : LinkO (w2.setCell ⟨B2, 2, none⟩ (.slice (some ⟨g, 0, none⟩) (k + 1) c)) BB (.slice (some ⟨g, 0, none⟩) (k + 1) c) (List.range (k + 1)) :=
    World.ownsRow.kept hO' ((But.refl B2 w2).set 2 _) (.inr (fun e' => by have := hO'.lt; simp only [Value.ownBlock, Option.some.injEq] at e'; omega))
  refine ⟨g, c, w2, hr, ⟨by rw [cell_of_block hb2']; rfl, unfrozen_of_block hb2' 2⟩, block_setCell (i := 2) hb2' _, hOs, hB2.setCell hw2 _, fun j h1 h3 => ?_, by have := hg.size; simp only [World.size_alloc] at this; simp only [World.size_setCell]; omega⟩
  exact (Below.heap_setCell w2 ⟨B2, 2, none⟩ _ j (fun e => h3 e)).trans (hk j h1)
set_option maxHeartbeats 4000000 in
theorem chainOf_any (a : Option Addr) (cap : Nat) (fs : List FunD) (w : World) (hcap : fs.length ≤ cap) (hcm : cap ≤ maxLen) (h0 : 0 < fs.length) (h40 : fs.length ≤ 40) (hR : FunRow w a fs) :
    Calls Tryz.prog 42 #[.slice a fs.length cap] w fun e w' => ∃ M G lc, e = .returned (.agg #[.slice a fs.length cap, .map (some M), .slice (some ⟨G, 0, none⟩) fs.length lc]) ∧ Ch w w' a fs M G lc (List.range fs.length) := by
  have HR0 := hide hR
  have hB0 := below_alloc1 w (.cells #[.slice none 0 0, .map none, .slice none 0 0] 71)
  have HR := hide (hR.below hB0)
  have HZ := hide (new_block w (.cells #[.slice none 0 0, .map none, .slice none 0 0] 71))
  have hln : (fs.length : Int) ≤ 9223372036854775807 := by unfold maxLen at hcm; omega
  clear hR
  go_enter Tryz.func42, Tryz.ntmps42
  go_wp2_with fail
  refine (places_any a cap fs _ hcap hcm h40 (unhide HR)).mono ?_
  rintro e w1 ⟨rfl, hown, hb1⟩
  rw [World.size_alloc] at hown ⊢
  have hB1 := bl_trans hB0 hb1
  have hm1 := map_inside hown
  replace HZ := hide (box_below (unhide HZ) hb1)
  have HM := hide hown
  clear hown hb1 hB0 HR
  obtain ⟨wB, hwB⟩ : ∃ wB, w1.alloc (.cells #[.slice a fs.length cap, .map (some (w.heap.size + 1)), .slice none 0 0] 71) = wB := ⟨_, rfl⟩
  obtain ⟨B2, hB2⟩ : ∃ B2, w1.heap.size = B2 := ⟨_, rfl⟩
  have hbB : Below w1.heap.size w1 wB := by rw [← hwB]; exact below_alloc1 _ _
  have HX : Hid (wB.heap[B2]? = some (.cells #[.slice a fs.length cap, .map (some (w.heap.size + 1)), .slice none 0 0] 71)) := by
    show _ = _
    rw [← hwB, ← hB2]; exact new_block _ _
  have HSB : Hid (wB.heap.size = B2 + 1) := by show _ = _; rw [← hwB, World.size_alloc, hB2]
  replace HZ := hide (box_below (unhide HZ) hbB)
  replace HM := hide (map_under (unhide HM) (hbB.block _ (map_inside (unhide HM))))
  have hBB := bl_trans hB1 hbB
  rw [hB2] at hm1
  have HW := hide hwB
  have HG := hide hB2
  clear hB1 hbB hwB hB2
  go_upto_region 2 with fail
  rw [unhide HW, unhide HG] at *
  clear HW HG
  have hsB := unhide HSB
  go_wp2_with fail
  go_loopw [11] (fun i w' => ∃ (k : Nat) (av : Option Addr) (cv : Nat), k ≤ fs.length ∧ i = .int .i64 (k : Int) ∧ Hid (w'.heap[B2]? = some (.cells #[.slice a fs.length cap, .map (some (w.heap.size + 1)), .slice av k cv] 71)) ∧ Hid (w'.heap[w.heap.size]? = some (.cells #[.slice none 0 0, .map none, .slice none 0 0] 71)) ∧ Hid (w'.ownsMap Tryz.prog 9 (plainElem Tryz.prog 3) (w.heap.size + 1) fs.length (PD fs fs.length)) ∧ Hid (LinkO w' (B2 + 1) (.slice av k cv) (List.range k)) ∧ Hid (Below w.heap.size w w') ∧ B2 + 1 ≤ w'.heap.size) (fun i _ => fs.length - (intOf i).toNat)
  case atStart => exact ⟨0, none, 0, Nat.zero_le _, rfl, HX, HZ, HM, World.ownsRow_nil _ _ _ _, hBB, by omega⟩
  case round =>
    clear HX HZ HM hBB HSB
    obtain ⟨k, av, cv, hk, rfl, HX, HZ, HM, HL, HB, hsz⟩ := hrel
    obtain ⟨⟨x0, x1, x2⟩, _⟩ := box3 (unhide HX)
    by_cases hkl : k < fs.length
    · have hkl' : (k : Int) < (fs.length : Int) := by omega
      have HPL := hide (fun ty => put_link (w := w) (W := wr) (B2 := B2) (unhide HB) (by omega) (Nat.lt_succ_self B2) (unhide HX) (unhide HL) hsz (by omega) ty)
      go_wp2_with (first
        | (at_builtin; obtain ⟨g, c, w2, hrun, ⟨e2, f2⟩, hb3, hO3, hB3, hoth, hs3⟩ := unhide HPL _; refine Lib.wpList_append_run _ rfl _ _ _ _ rfl _ _ rfl rfl _ _ hrun ?_; have HO3 := hide hO3; have HB3 := hide hB3; have HX3 := hide hb3; have HOT := hide hoth; clear hO3 hB3 hb3 hoth hrun)
        | go_in)
      exact ⟨⟨k + 1, some ⟨g, 0, none⟩, c, by omega, by go_num, HX3, (unhide HOT w.heap.size (by omega) (by omega)).trans (unhide HZ), map_under (unhide HM) (unhide HOT (w.heap.size + 1) (by omega) (by omega)), HO3, HB3, by simp only [World.size_setCell] at hs3 ⊢; omega⟩, by simp [intOf]; omega⟩
    · have hke : k = fs.length := by omega
      subst hke
      obtain ⟨G, hG⟩ : ∃ G, av = some ⟨G, 0, none⟩ := by
        obtain ⟨_, ⟨e, e2⟩ | ⟨g, cap', cur, e, _⟩⟩ := (unhide HL)
        · rw [List.length_range] at e2; omega
        · injection e with e4 _ _; exact ⟨_, e4⟩
      subst hG
      obtain ⟨⟨z0, z1, z2⟩, zf⟩ := box3 (unhide HZ)
      go_wp2_with fail
      have hz1 := block_setCell (i := 2) (block_setCell (i := 1) (block_setCell (i := 0) (unhide HZ) (.slice a fs.length cap)) (.map (some (w.heap.size + 1)))) (.slice (some ⟨G, 0, none⟩) fs.length cv)
      have hBz := (((unhide HB).setCell (p := ⟨w.heap.size, 0, none⟩) (Nat.le_refl _) (.slice a fs.length cap)).setCell (p := ⟨w.heap.size, 1, none⟩) (Nat.le_refl _) (.map (some (w.heap.size + 1)))).setCell (p := ⟨w.heap.size, 2, none⟩) (Nat.le_refl _) (.slice (some ⟨G, 0, none⟩) fs.length cv)
      have hkz : ∀ j, j ≠ w.heap.size → (((wr.setCell ⟨w.heap.size, 0, none⟩ (.slice a fs.length cap)).setCell ⟨w.heap.size, 1, none⟩ (.map (some (w.heap.size + 1)))).setCell ⟨w.heap.size, 2, none⟩ (.slice (some ⟨G, 0, none⟩) fs.length cv)).heap[j]? = wr.heap[j]? := fun j hj => by
        rw [Below.heap_setCell _ ⟨w.heap.size, 2, none⟩ _ j (fun e => hj e), Below.heap_setCell _ ⟨w.heap.size, 1, none⟩ _ j (fun e => hj e), Below.heap_setCell _ ⟨w.heap.size, 0, none⟩ _ j (fun e => hj e)]
      have hgz : wr.grownBy (((wr.setCell ⟨w.heap.size, 0, none⟩ (.slice a fs.length cap)).setCell ⟨w.heap.size, 1, none⟩ (.map (some (w.heap.size + 1)))).setCell ⟨w.heap.size, 2, none⟩ (.slice (some ⟨G, 0, none⟩) fs.length cv)) (some w.heap.size) := (((But.refl w.heap.size wr).set 0 _).set 1 _).set 2 _
      generalize ((wr.setCell ⟨w.heap.size, 0, none⟩ (.slice a fs.length cap)).setCell ⟨w.heap.size, 1, none⟩ (.map (some (w.heap.size + 1)))).setCell ⟨w.heap.size, 2, none⟩ (.slice (some ⟨G, 0, none⟩) fs.length cv) = wz at *
      have hr := (box3 (v0 := .slice a fs.length cap) (v1 := .map (some (w.heap.size + 1))) (v2 := .slice (some ⟨G, 0, none⟩) fs.length cv) hz1).1
      have hGl := (unhide HL).lt
      refine bodyPost_ret (v := .agg #[.slice a fs.length cap, .map (some (w.heap.size + 1)), .slice (some ⟨G, 0, none⟩) fs.length cv]) (by simp [results, Tryz.results42, go_sem, hr]) rfl ⟨_, _, _, rfl, unhide HR0, hBz, map_under (unhide HM) (hkz _ (by omega)), ?_, List.length_range, range_links _⟩
      have h1 : LinkO wz (B2 + 1) (.slice (some ⟨G, 0, none⟩) fs.length cv) (List.range fs.length) := World.ownsRow.kept (unhide HL) hgz (.inr (fun e' => by simp only [Value.ownBlock, Option.some.injEq] at e'; omega))
      exact row_base h1 (by omega)
end Go.Proofs.YthbbmookhcalkaaGreatDoor.FoldI
