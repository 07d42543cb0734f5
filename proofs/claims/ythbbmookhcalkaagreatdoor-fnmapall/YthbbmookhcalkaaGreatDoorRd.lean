/- The contracts of the specification's reader of drawn bytes: what a pick may answer, and that it turns nothing but the reader's own place. -/
import Derived.Test.YthbbmookhcalkaaGreatDoorPk3b7a8e77
import Derived.WalkKit
import Derived.ProofKit
import Derived.OpenShut
import Derived.Below
import Derived.Outline
import Derived.Lib.SmallJoins
import Derived.Deep.QuietTactic
import Derived.BigQuiet
namespace Go.Proofs.YthbbmookhcalkaaGreatDoor.Rd
open Go.ChangeShapes Go.WideShapes Go.ChangeAt Go.RowKit Go.Joins
open Go.Proofs.YthbbmookhcalkaaGreatDoor.Base
set_option linter.unusedVariables false


/-- The bytes that a reader reads: none, or so many cells of one block below. -/
def Bytes (w : World) (R : Nat) (a : Option Addr) (len : Nat) : Prop :=
  len = 0 ∨ ∃ b off, a = some ⟨b, off, none⟩ ∧ b < R ∧ ∀ i, i < len → ∃ c : Nat, c < 256 ∧ w.cell? ⟨b, off + i, none⟩ = some (.int .u8 c)
/-- A reader stands in block R, at place p. -/
def RdAt (w : World) (R p : Nat) : Prop :=
  ∃ (a : Option Addr) (len cap : Nat), w.heap[R]? = some (.cells #[.slice a len cap, .int .i64 p] 107) ∧ len ≤ 2000 ∧ Bytes w R a len

theorem i64_xor_nat (a b : Nat) (ha : a < 4611686018427387904) (hb : b < 4611686018427387904) : bits .xor .i64 (a : Int) (b : Int) = ((a ^^^ b : Nat) : Int) := by
  have hx : a ^^^ b < 2 ^ 62 := Nat.xor_lt_two_pow (by omega) (by omega)
  show IntKind.i64.wrap ((BitVec.ofInt 64 (a : Int) ^^^ BitVec.ofInt 64 (b : Int)).toNat : Int) = _
  rw [BitVec.toNat_xor, ofInt_u64 a (by omega), ofInt_u64 b (by omega), IntKind.wrap_i64]
  omega
theorem fin_v (x n : Int) (h0 : 0 ≤ x) (h1 : x < 4611686018427387904) (hn : 1 ≤ n) : ∃ v : Nat, (v : Int) < n ∧ (bits .xor .i64 x (x / 64)).tmod n = (v : Int) := by
  obtain ⟨X, rfl⟩ := Int.eq_ofNat_of_zero_le h0
  obtain ⟨N, rfl⟩ := Int.eq_ofNat_of_zero_le (show 0 ≤ n by omega)
  have e : ((X : Int) / 64) = ((X / 64 : Nat) : Int) := by omega
  rw [e, i64_xor_nat X (X / 64) (by omega) (by omega)]
  refine ⟨(X ^^^ (X / 64)) % N, ?_, ?_⟩
  · have := Nat.mod_lt (X ^^^ (X / 64)) (show 0 < N by omega)
    omega
  · rw [Int.tmod_eq_emod_of_nonneg (by omega)]
    rfl
theorem rd_cells {w : World} {R p : Nat} {a : Option Addr} {len cap : Nat} (h : w.heap[R]? = some (.cells #[.slice a len cap, .int .i64 p] 107)) :
    w.cell? ⟨R, 0, none⟩ = some (.slice a len cap) ∧ w.cell? ⟨R, 1, none⟩ = some (.int .i64 p) ∧ w.frozen? ⟨R, 1, none⟩ = false ∧ w.frozen? ⟨R, 0, none⟩ = false :=
  ⟨by rw [cell_of_block h]; rfl, by rw [cell_of_block h]; rfl, unfrozen_of_block h 1, unfrozen_of_block h 0⟩

set_option maxHeartbeats 400000 in
theorem pick_none (w : World) (R p : Nat) (n : Int) (a : Option Addr) (cap : Nat) (h : w.heap[R]? = some (.cells #[.slice a 0 cap, .int .i64 p] 107)) (hp : p ≤ 4294967296) (hn : 1 ≤ n) :
    Calls Tryz.prog 64 #[.pointer (some ⟨R, 0, none⟩), .int .i64 n] w fun e w' => e = .returned (.int .i64 0) ∧ w' = w.setCell ⟨R, 1, none⟩ (.int .i64 ((p : Int) + 1)) := by
  obtain ⟨c0, c1, f1, f0⟩ := rd_cells h
  clear h
  go_enter Tryz.func64, Tryz.ntmps64
  go_wp2
  go_ret
  exact ⟨rfl, rfl⟩

set_option maxHeartbeats 400000 in
theorem pick_near (w : World) (R p : Nat) (n : Int) (b off len cap c : Nat) (h : w.heap[R]? = some (.cells #[.slice (some ⟨b, off, none⟩) len cap, .int .i64 p] 107)) (hp : p ≤ 4294967296) (hn : 1 ≤ n) (hl : p < len) (hb : b < R)
    (hc : w.cell? ⟨b, off + p, none⟩ = some (.int .u8 c)) (h256 : c < 256) :
    Calls Tryz.prog 64 #[.pointer (some ⟨R, 0, none⟩), .int .i64 n] w fun e w' => e = .returned (.int .i64 ((c : Int) % n)) ∧ w' = w.setCell ⟨R, 1, none⟩ (.int .i64 ((p : Int) + 1)) := by
  obtain ⟨c0, c1, f1, f0⟩ := rd_cells h
  clear h
  have hl0 : ((len : Int) == 0) = false := by simp; omega
  have hl1 : (p : Int) < (len : Int) := by omega
  have hne : (b == R) = false := by simp; omega
  have hc' : (w.setCell ⟨R, 1, none⟩ (.int .i64 ((p : Int) + 1))).cell? ⟨b, off + p, none⟩ = some (.int .u8 c) := by
    rw [World.cell?_of_block (w := w) (Below.heap_setCell _ _ _ _ (by show b ≠ R; omega))]; exact hc
  go_enter Tryz.func64, Tryz.ntmps64
  go_wp2
  go_ret
  exact ⟨rfl, rfl⟩
set_option maxHeartbeats 1000000 in
theorem pick_far (w : World) (R p : Nat) (n : Int) (b off len cap c d i j g : Nat) (h : w.heap[R]? = some (.cells #[.slice (some ⟨b, off, none⟩) len cap, .int .i64 p] 107)) (hp : p ≤ 4294967296) (hn : 1 ≤ n) (hl : len ≤ p) (hl2 : 1 ≤ len) (hlm : len ≤ 2000) (hb : b < R)
    (hi : (p : Int) % (len : Int) = (i : Int)) (hj : ((p : Int) * 7 + 3) % (len : Int) = (j : Int)) (hg : (p : Int) / (len : Int) = (g : Int)) (hgp : g ≤ p) (hil : i < len) (hjl : j < len)
    (hc : w.cell? ⟨b, off + i, none⟩ = some (.int .u8 c)) (h256 : c < 256) (hd : w.cell? ⟨b, off + j, none⟩ = some (.int .u8 d)) (h256' : d < 256) :
    Calls Tryz.prog 64 #[.pointer (some ⟨R, 0, none⟩), .int .i64 n] w fun e w' => ∃ v q : Nat, (v : Int) < n ∧ e = .returned (.int .i64 v) ∧ w' = (w.setCell ⟨R, 1, none⟩ (.int .i64 ((p : Int) + 1))).drewN q := by
  obtain ⟨c0, c1, f1, f0⟩ := rd_cells h
  clear h
  have hl0 : ((len : Int) == 0) = false := by simp; omega
  have hl1 : (len : Int) ≤ (p : Int) := by omega
  have hl3 : (1 : Int) ≤ (len : Int) := by omega
  have hil' : (i : Int) < (len : Int) := by omega
  have hjl' : (j : Int) < (len : Int) := by omega
  have hc' : (w.setCell ⟨R, 1, none⟩ (.int .i64 ((p : Int) + 1))).cell? ⟨b, off + i, none⟩ = some (.int .u8 c) := by
    rw [World.cell?_of_block (w := w) (Below.heap_setCell _ _ _ _ (by show b ≠ R; omega))]; exact hc
  have hd' : (w.setCell ⟨R, 1, none⟩ (.int .i64 ((p : Int) + 1))).cell? ⟨b, off + j, none⟩ = some (.int .u8 d) := by
    rw [World.cell?_of_block (w := w) (Below.heap_setCell _ _ _ _ (by show b ≠ R; omega))]; exact hd
  go_enter Tryz.func64, Tryz.ntmps64
  go_wp2
  go_quiet (fail)
  go_wp2
  obtain ⟨v, hv, hx⟩ := fin_v ((c : Int) * 131 + (d : Int) * 1117 + (p : Int) * 29 + (g : Int) * 53) n (by omega) (by omega) hn
  go_ret
  exact ⟨v, nq, hv, ret_int hx, rfl⟩
/-- Nothing that was there has turned, block R aside. -/
structure Turns (R : Nat) (w w' : World) : Prop where
  os : w'.os = w.os
  tape : w'.tape = w.tape
  output : w'.output = w.output
  size : w.heap.size ≤ w'.heap.size
  block : ∀ k, k < w.heap.size → k ≠ R → w'.heap[k]? = w.heap[k]?

theorem Turns.refl (R : Nat) (w : World) : Turns R w w := ⟨rfl, rfl, rfl, Nat.le_refl _, fun _ _ _ => rfl⟩
theorem Turns.trans {R : Nat} {a b c : World} (h : Turns R a b) (k : Turns R b c) : Turns R a c :=
  ⟨k.os.trans h.os, k.tape.trans h.tape, k.output.trans h.output, Nat.le_trans h.size k.size, fun i hi hr => (k.block i (Nat.lt_of_lt_of_le hi h.size) hr).trans (h.block i hi hr)⟩
theorem Turns.of_below {R : Nat} {w w' : World} (h : Below w.heap.size w w') : Turns R w w' := ⟨h.os, h.tape, h.output, h.size, fun k hk _ => h.block k hk⟩
theorem Turns.below {R B : Nat} {w w' : World} (h : Turns R w w') (hR : B ≤ R) (hB : B ≤ w.heap.size) : Below B w w' := ⟨h.os, h.tape, h.output, h.size, fun k hk => h.block k (by omega) (by omega)⟩
theorem Turns.cell {R : Nat} {w w' : World} (h : Turns R w w') {b o : Nat} {v : Value} (hb : b ≠ R) (hc : w.cell? ⟨b, o, none⟩ = some v) : w'.cell? ⟨b, o, none⟩ = some v := by
  have hlt : b < w.heap.size := by
    rcases Nat.lt_or_ge b w.heap.size with h' | h'
    · exact h'
    · simp [World.cell?, Array.getElem?_eq_none h'] at hc
  rw [World.cell?_of_block (w := w) (h.block b hlt hb)]; exact hc
theorem Turns.frozen {R : Nat} {w w' : World} (h : Turns R w w') {b o : Nat} (hb : b ≠ R) (hlt : b < w.heap.size) : w'.frozen? ⟨b, o, none⟩ = w.frozen? ⟨b, o, none⟩ :=
  World.frozen?_of_block (w := w) (h.block b hlt hb)
theorem turns_set (w : World) (R o q : Nat) (v : Value) : Turns R w ((w.setCell ⟨R, o, none⟩ v).drewN q) :=
  have hb := (Below.refl 0 w).setCell (p := ⟨R, o, none⟩) (Nat.zero_le _) v
  ⟨hb.os, hb.tape, hb.output, hb.size, fun k _ hk => by
    show (w.setCell ⟨R, o, none⟩ v).heap[k]? = _
    exact Below.heap_setCell w ⟨R, o, none⟩ v k hk⟩

theorem rd_step {w : World} {R p q : Nat} (h : RdAt w R p) : RdAt ((w.setCell ⟨R, 1, none⟩ (.int .i64 ((p : Int) + 1))).drewN q) R (p + 1) := by
  obtain ⟨a, len, cap, hh, hl, hb⟩ := h
  refine ⟨a, len, cap, ?_, hl, ?_⟩
  · show (w.setCell ⟨R, 1, none⟩ (.int .i64 ((p : Int) + 1))).heap[R]? = _
    rw [block_setCell hh]
    rfl
  · rcases hb with hb | ⟨b, off, rfl, hbR, hc⟩
    · exact .inl hb
    · refine .inr ⟨b, off, rfl, hbR, fun i hi => ?_⟩
      obtain ⟨c, h1, h2⟩ := hc i hi
      exact ⟨c, h1, (turns_set w R 1 q _).cell (by omega) h2⟩

theorem rd_new (w : World) (a : Option Addr) (len cap : Nat) (hl : len ≤ 2000) (hb : len = 0 ∨ ∃ b off, a = some ⟨b, off, none⟩ ∧ b < w.heap.size ∧ ∀ i, i < len → ∃ c : Nat, c < 256 ∧ w.cell? ⟨b, off + i, none⟩ = some (.int .u8 c)) :
    RdAt (w.alloc (.cells #[.slice a len cap, .int .i64 0] 107)) w.heap.size 0 := by
  refine ⟨a, len, cap, ?_, hl, ?_⟩
  · exact new_block w _
  · rcases hb with hb | ⟨b, off, rfl, hbR, hc⟩
    · exact .inl hb
    · refine .inr ⟨b, off, rfl, hbR, fun i hi => ?_⟩
      obtain ⟨c, h1, h2⟩ := hc i hi
      exact ⟨c, h1, ((below_alloc1 w _).cell (p := ⟨b, off + i, none⟩) hbR).trans h2⟩

theorem pick_any (w : World) (R p : Nat) (n : Int) (h : RdAt w R p) (hp : p ≤ 4294967296) (hn : 1 ≤ n) :
    Calls Tryz.prog 64 #[.pointer (some ⟨R, 0, none⟩), .int .i64 n] w fun e w' => ∃ v : Nat, (v : Int) < n ∧ e = .returned (.int .i64 v) ∧ RdAt w' R (p + 1) ∧ Turns R w w' := by
  have h' := h
  obtain ⟨a, len, cap, hh, hl, hb⟩ := h'
  have fin0 : w.setCell ⟨R, 1, none⟩ (.int .i64 ((p : Int) + 1)) = (w.setCell ⟨R, 1, none⟩ (.int .i64 ((p : Int) + 1))).drewN 0 := rfl
  by_cases h0 : len = 0
  · subst h0
    refine (pick_none w R p n a cap hh hp hn).mono ?_
    rintro e w' ⟨rfl, rfl⟩
    rw [fin0]
    exact ⟨0, by omega, rfl, rd_step h, turns_set _ _ _ _ _⟩
  · rcases hb with hb | ⟨b, off, rfl, hbR, hc⟩
    · exact absurd hb h0
    · by_cases hlt : p < len
      · obtain ⟨c, h1, h2⟩ := hc p hlt
        refine (pick_near w R p n b off len cap c hh hp hn hlt hbR h2 h1).mono ?_
        rintro e w' ⟨rfl, rfl⟩
        rw [fin0]
        have hm := Int.emod_lt_of_pos (c : Int) (show 0 < n by omega)
        have hz := Int.emod_nonneg (c : Int) (show n ≠ 0 by omega)
        exact ⟨((c : Int) % n).toNat, by omega, ret_int (by omega), rd_step h, turns_set _ _ _ _ _⟩
      · obtain ⟨c, h1, h2⟩ := hc (p % len) (Nat.mod_lt _ (by omega))
        obtain ⟨d, h3, h4⟩ := hc ((p * 7 + 3) % len) (Nat.mod_lt _ (by omega))
        refine (pick_far w R p n b off len cap c d (p % len) ((p * 7 + 3) % len) (p / len) hh hp hn (by omega) (by omega) hl hbR (by omega) (by simp) (by omega) (Nat.div_le_self _ _) (Nat.mod_lt _ (by omega)) (Nat.mod_lt _ (by omega)) h2 h1 h4 h3).mono ?_
        rintro e w' ⟨v, q, hv, rfl, rfl⟩
        exact ⟨v, hv, rfl, rd_step h, turns_set _ _ _ _ _⟩

set_option maxHeartbeats 400000 in
theorem num_any (w : World) (R p L m : Nat) (Pr : Int → Prop) (h : RdAt w R p) (hp : p ≤ 4294967296) (hm : 1 ≤ m) (hm2 : m ≤ 1000) (hL : L ≠ R) (hx : ∀ i, i < m → ∃ x, Pr x ∧ w.cell? ⟨L, i, none⟩ = some (.int .i64 x)) :
    Calls Tryz.prog 113 #[.pointer (some ⟨R, 0, none⟩), .slice (some ⟨L, 0, none⟩) m m] w fun e w' => ∃ x, Pr x ∧ e = .returned (.int .i64 x) ∧ RdAt w' R (p + 1) ∧ Turns R w w' := by
  have Hx : Hid (∀ i, i < m → ∃ x, Pr x ∧ w.cell? ⟨L, i, none⟩ = some (.int .i64 x)) := hx
  clear hx
  go_enter Tryz.func113, Tryz.ntmps113
  go_wp2_with fail
  refine (pick_any w R p m h hp (by omega)).mono ?_
  rintro e w1 ⟨v, hv, rfl, hr, ht⟩
  obtain ⟨x, px, hc⟩ := Hx.out v (by omega)
  have hc1 : w1.cell? ⟨L, v, none⟩ = some (.int .i64 x) := ht.cell hL hc
  have HT : Hid (Turns R w w1) := ht
  have HR : Hid (RdAt w1 R (p + 1)) := hr
  clear ht hr hc h
  go_wp2
  go_ret
  exact ⟨x, px, rfl, HR.out, HT.out⟩

set_option maxHeartbeats 400000 in
theorem open_any (w : World) (a : Option Addr) (len cap : Nat) (hl : len ≤ cap) (hm : cap ≤ maxLen) (hb : len = 0 ∨ ∃ b off, a = some ⟨b, off, none⟩ ∧ b < w.heap.size ∧ ∀ i, i < len → ∃ c : Nat, c < 256 ∧ w.cell? ⟨b, off + i, none⟩ = some (.int .u8 c)) :
    Calls Tryz.prog 29 #[.slice a len cap] w fun e w' => e = .returned (.pointer (some ⟨w.heap.size, 0, none⟩)) ∧ RdAt w' w.heap.size 0 ∧ Below w.heap.size w w' ∧ w'.heap.size = w.heap.size + 1 := by
  by_cases h2 : 2000 < len
  · go_enter Tryz.func29, Tryz.ntmps29
    go_wp2
    go_ret
    exact ⟨rfl, rd_new w a 2000 cap (by omega) (hb.elim (fun h => absurd h (by omega)) (fun ⟨b, off, h1, h3, h4⟩ => .inr ⟨b, off, h1, h3, fun i hi => h4 i (by omega)⟩)), below_alloc1 _ _, by simp⟩
  · go_enter Tryz.func29, Tryz.ntmps29
    go_wp2
    go_ret
    exact ⟨rfl, rd_new w a len cap (by omega) hb, below_alloc1 _ _, by simp⟩

set_option maxHeartbeats 400000 in
theorem of_any (w : World) (R p L m : Nat) (Pr : ByteArray → Prop) (h : RdAt w R p) (hp : p ≤ 4294967296) (hm : 1 ≤ m) (hm2 : m ≤ 1000) (hL : L ≠ R) (hx : ∀ i, i < m → ∃ x, Pr x ∧ w.cell? ⟨L, i, none⟩ = some (.string x)) :
    Calls Tryz.prog 114 #[.pointer (some ⟨R, 0, none⟩), .slice (some ⟨L, 0, none⟩) m m] w fun e w' => ∃ x, Pr x ∧ e = .returned (.string x) ∧ RdAt w' R (p + 1) ∧ Turns R w w' := by
  have Hx : Hid (∀ i, i < m → ∃ x, Pr x ∧ w.cell? ⟨L, i, none⟩ = some (.string x)) := hx
  clear hx
  go_enter Tryz.func114, Tryz.ntmps114
  go_wp2_with fail
  refine (pick_any w R p m h hp (by omega)).mono ?_
  rintro e w1 ⟨v, hv, rfl, hr, ht⟩
  obtain ⟨x, px, hc⟩ := Hx.out v (by omega)
  have hc1 : w1.cell? ⟨L, v, none⟩ = some (.string x) := ht.cell hL hc
  have HT : Hid (Turns R w w1) := ht
  have HR : Hid (RdAt w1 R (p + 1)) := hr
  clear ht hr hc h
  go_wp2
  go_ret
  exact ⟨x, px, rfl, HR.out, HT.out⟩

theorem rd_lt {w : World} {R p : Nat} (h : RdAt w R p) : R < w.heap.size := by
  obtain ⟨a, len, cap, hh, _⟩ := h
  exact (Array.getElem?_eq_some_iff.1 hh).1
theorem rd_below {w w' : World} {R p : Nat} (h : RdAt w R p) (hb : Below w.heap.size w w') : RdAt w' R p := by
  have hlt := rd_lt h
  obtain ⟨a, len, cap, hh, hl, hy⟩ := h
  refine ⟨a, len, cap, (hb.block R hlt).trans hh, hl, ?_⟩
  rcases hy with hy | ⟨b, off, rfl, hbR, hc⟩
  · exact .inl hy
  · refine .inr ⟨b, off, rfl, hbR, fun i hi => ?_⟩
    obtain ⟨c, h1, h2⟩ := hc i hi
    exact ⟨c, h1, (hb.cell (p := ⟨b, off + i, none⟩) (show b < w.heap.size by omega)).trans h2⟩
theorem rd_alloc {w : World} {R p : Nat} (h : RdAt w R p) (o : Obj) : RdAt (w.alloc o) R p := rd_below h (below_alloc1 _ _)
theorem bytes_below {w w' : World} {a : Option Addr} {len : Nat} (hb : len = 0 ∨ ∃ b off, a = some ⟨b, off, none⟩ ∧ b < w.heap.size ∧ ∀ i, i < len → ∃ c : Nat, c < 256 ∧ w.cell? ⟨b, off + i, none⟩ = some (.int .u8 c)) (h : Below w.heap.size w w') :
    len = 0 ∨ ∃ b off, a = some ⟨b, off, none⟩ ∧ b < w'.heap.size ∧ ∀ i, i < len → ∃ c : Nat, c < 256 ∧ w'.cell? ⟨b, off + i, none⟩ = some (.int .u8 c) := by
  rcases hb with hb | ⟨b, off, rfl, hbR, hc⟩
  · exact .inl hb
  · refine .inr ⟨b, off, rfl, Nat.lt_of_lt_of_le hbR h.size, fun i hi => ?_⟩
    obtain ⟨c, h1, h2⟩ := hc i hi
    exact ⟨c, h1, (h.cell (p := ⟨b, off + i, none⟩) hbR).trans h2⟩
theorem bytes_alloc {w : World} {a : Option Addr} {len : Nat} (hb : len = 0 ∨ ∃ b off, a = some ⟨b, off, none⟩ ∧ b < w.heap.size ∧ ∀ i, i < len → ∃ c : Nat, c < 256 ∧ w.cell? ⟨b, off + i, none⟩ = some (.int .u8 c)) (o : Obj) :
    len = 0 ∨ ∃ b off, a = some ⟨b, off, none⟩ ∧ b < (w.alloc o).heap.size ∧ ∀ i, i < len → ∃ c : Nat, c < 256 ∧ (w.alloc o).cell? ⟨b, off + i, none⟩ = some (.int .u8 c) := by
  rcases hb with hb | ⟨b, off, rfl, hbR, hc⟩
  · exact .inl hb
  · refine .inr ⟨b, off, rfl, by simp; omega, fun i hi => ?_⟩
    obtain ⟨c, h1, h2⟩ := hc i hi
    exact ⟨c, h1, ((below_alloc1 w _).cell (p := ⟨b, off + i, none⟩) hbR).trans h2⟩
theorem ints_lit (w : World) (xs : List Int) (t : TypeId) (n : Nat) (hn : n = w.heap.size) : ∀ i, i < xs.length → ∃ x, x ∈ xs ∧ (w.alloc (.cells (xs.map (Value.int .i64)).toArray t)).cell? ⟨n, i, none⟩ = some (.int .i64 x) := by
  intro i hi
  subst hn
  refine ⟨xs[i], List.getElem_mem _, ?_⟩
  rw [cell_of_block (new_block w _)]
  simp [hi]
theorem strs_lit (w : World) (xs : List ByteArray) (t : TypeId) (n : Nat) (hn : n = w.heap.size) : ∀ i, i < xs.length → ∃ x, x ∈ xs ∧ (w.alloc (.cells (xs.map Value.string).toArray t)).cell? ⟨n, i, none⟩ = some (.string x) := by
  intro i hi
  subst hn
  refine ⟨xs[i], List.getElem_mem _, ?_⟩
  rw [cell_of_block (new_block w _)]
  simp [hi]

theorem Turns.set {R : Nat} {w w2 : World} (h : Turns R w w2) {B o : Nat} (hB : w.heap.size ≤ B) (v : Value) : Turns R w (w2.setCell ⟨B, o, none⟩ v) :=
  have hb := (Below.refl w.heap.size w2).setCell (p := ⟨B, o, none⟩) hB v
  ⟨hb.os.trans h.os, hb.tape.trans h.tape, hb.output.trans h.output, Nat.le_trans h.size hb.size, fun k hk hr => (hb.block k hk).trans (h.block k hk hr)⟩
theorem Turns.alloc {R : Nat} {w w2 : World} (h : Turns R w w2) (o : Obj) : Turns R w (w2.alloc o) := h.trans (Turns.of_below (below_alloc1 _ _))
theorem Turns.drewN {R : Nat} {w w2 : World} (h : Turns R w w2) (n : Nat) : Turns R w (w2.drewN n) := ⟨h.os, h.tape, h.output, h.size, h.block⟩
theorem rd_drewN {w : World} {R p : Nat} (h : RdAt w R p) (n : Nat) : RdAt (w.drewN n) R p := h
theorem rd_set {w : World} {R p B o : Nat} (h : RdAt w R p) (hB : R < B) (v : Value) : RdAt (w.setCell ⟨B, o, none⟩ v) R p := by
  have hb := (Below.refl B w).setCell (p := ⟨B, o, none⟩) (Nat.le_refl _) v
  obtain ⟨a, len, cap, hh, hl, hy⟩ := h
  refine ⟨a, len, cap, (hb.block R hB).trans hh, hl, ?_⟩
  rcases hy with hy | ⟨b, off, rfl, hbR, hc⟩
  · exact .inl hy
  · refine .inr ⟨b, off, rfl, hbR, fun i hi => ?_⟩
    obtain ⟨c, h1, h2⟩ := hc i hi
    exact ⟨c, h1, (hb.cell (p := ⟨b, off + i, none⟩) (show b < B by omega)).trans h2⟩
theorem box_turns {R B : Nat} {w w' : World} {o : Obj} (h : w.heap[B]? = some o) (ht : Turns R w w') (hB : B ≠ R) : w'.heap[B]? = some o :=
  (ht.block B (Array.getElem?_eq_some_iff.1 h).1 hB).trans h

/-- What the walk is told of a slice of bytes that came in. -/
def IsRow (k : IntKind) (w : World) (a : Option Addr) (len cap : Nat) (zs : List Int) : Prop :=
  (a = none ∧ len = 0 ∧ cap = 0 ∧ zs = []) ∨
  ∃ x, a = some x ∧ len ≤ cap ∧ cap ≤ maxLen ∧ zs.length = cap ∧ (∀ i, i < zs.length → w.cell? (x.add i) = some (.int k (zs.getD i 0))) ∧ ∀ n ∈ zs, (Lit.int k n).wf = true

theorem isRow_bytes {w : World} {a : Option Addr} {len cap : Nat} {zs : List Int} (h : IsRow .u8 w a len cap zs) :
    len ≤ cap ∧ cap ≤ maxLen ∧ (len = 0 ∨ ∃ b off, a = some ⟨b, off, none⟩ ∧ b < w.heap.size ∧ ∀ i, i < len → ∃ c : Nat, c < 256 ∧ w.cell? ⟨b, off + i, none⟩ = some (.int .u8 c)) := by
  rcases h with ⟨rfl, rfl, rfl, rfl⟩ | ⟨x, rfl, hl, hm, hz, hc, hw⟩
  · exact ⟨Nat.le_refl _, Nat.zero_le _, .inl rfl⟩
  · refine ⟨hl, hm, ?_⟩
    by_cases h0 : len = 0
    · exact .inl h0
    · obtain ⟨b, off, spot⟩ := x
      have hc0 := hc 0 (by omega)
      have hspot : spot = none := by simpa [Addr.add] using World.cell?_spot hc0
      subst hspot
      refine .inr ⟨b, off, rfl, ?_, fun i hi => ?_⟩
      · rcases Nat.lt_or_ge b w.heap.size with h' | h'
        · exact h'
        · simp [World.cell?, Addr.add, Array.getElem?_eq_none h'] at hc0
      · have hci := hc i (by omega)
        have hi' : i < zs.length := by omega
        have hwf := bounds_u8 (hw (zs.getD i 0) (by simp [List.getD, hi']))
        exact ⟨(zs.getD i 0).toNat, by omega, by
          rw [show (((zs.getD i 0).toNat : Nat) : Int) = zs.getD i 0 by omega]
          by_cases hi0 : i = 0
          · subst hi0; simpa [Addr.add] using hci
          · simpa [Addr.add, hi0] using hci⟩
end Go.Proofs.YthbbmookhcalkaaGreatDoor.Rd
