/- The contracts of the laws' marks: texts that are written and looked for again. -/
import Derived.Test.YthbbmookhcalkaaGreatRefs
import Derived.Deep.RegionHeld3
import Derived.Laws.IdiomStrings
import Derived.Deep.QuietTactic
import Derived.BigQuiet
namespace Go.Proofs.YthbbmookhcalkaaGreat.Mark
open Go.ChangeShapes Go.WideShapes Go.ChangeAt Go.RowKit Go.Joins
open Go.Proofs.YthbbmookhcalkaaGreat.Base Go.Proofs.YthbbmookhcalkaaGreat.InsA Go.Proofs.YthbbmookhcalkaaGreat.Funs Go.Proofs.YthbbmookhcalkaaGreat.Open Go.Proofs.YthbbmookhcalkaaGreat.Keep Go.Proofs.YthbbmookhcalkaaGreat.Refs
set_option linter.unusedVariables false
set_option maxRecDepth 100000

def dig (n : Nat) : UInt8 := UInt8.ofNat (48 + n % 10)
def mkD (n : Nat) (t : ByteArray) : ByteArray := if h : n = 0 then t else mkD (n / 10) (⟨#[dig n]⟩ ++ t)
  termination_by n
  decreasing_by omega
/-- The text of a mark. -/
def mk (k : Nat) : ByteArray := ⟨#[109]⟩ ++ mkD k ⟨#[]⟩
theorem mkD_zero (t : ByteArray) : mkD 0 t = t := by rw [mkD]; rfl
theorem mkD_pos {n : Nat} (h : 0 < n) (t : ByteArray) : mkD n t = mkD (n / 10) (⟨#[dig n]⟩ ++ t) := by rw [mkD, dif_neg (by omega)]
theorem size_one (d : UInt8) (t : ByteArray) : ((⟨#[d]⟩ : ByteArray) ++ t).size = 1 + t.size := by rw [ByteArray.size_append]; rfl

theorem conv_one (n : Nat) (w : World) : Sem.run Tryz.prog (convert 91 9 (.slice (some ⟨w.heap.size, 0, none⟩) 1 1)) (w.alloc (.cells #[.int .u8 (48 + (n : Int) % 10)] 5)) = .ok (.string ⟨#[dig n]⟩) (w.alloc (.cells #[.int .u8 (48 + (n : Int) % 10)] 5)) := by
  refine run_convert_bytes_back (P := Tryz.prog) (w.alloc (.cells #[.int .u8 (48 + (n : Int) % 10)] 5)) 91 9 5 ⟨w.heap.size, 0, none⟩ 1 [dig n] Tryz.underlying91 Tryz.underlying5 Tryz.underlying9 (fun j hj => ?_)
  match j, hj with
  | 0, _ =>
    have e : ((dig n).toNat : Int) = 48 + (n : Int) % 10 := by
      unfold dig
      rw [UInt8.toNat_ofNat_of_lt' (by show 48 + n % 10 < 256; omega)]
      omega
    show (w.alloc _).cell? _ = some (.int .u8 ((dig n).toNat : Int))
    rw [e]
    simp [Addr.add, cell_of_block (new_block w _)]

set_option maxHeartbeats 1000000 in
theorem markText_any (k : Nat) (hk : 0 < k) (hm : k ≤ 1125899906842624) (w : World) :
    Calls Tryz.prog 32 #[.int .i64 k] w fun e w' => e = .returned (.string (mk k)) ∧ Below w.heap.size w w' := by
  go_enter Tryz.func32, Tryz.ntmps32
  go_wp2_with fail
  go_loopw [0, 3] (fun k' s w' => ∃ (n : Nat) (t : ByteArray), k' = .int .i64 n ∧ s = .string t ∧ n + t.size ≤ k ∧ Hid (mkD k ⟨#[]⟩ = mkD n t) ∧ Below w.heap.size w w') (fun k' _ _ => (intOf k').toNat)
  case atStart => exact ⟨k, _, rfl, rfl, Nat.le_refl _, rfl, Below.refl _ _⟩
  case round =>
    obtain ⟨n, t, rfl, rfl, hn, HD, hB⟩ := hrel
    by_cases h0 : 0 < n
    · have h0' : (0 : Int) < (n : Int) := by omega
      have hcv := conv_one n
      have hsz := size_one (dig n) t
      go_wp2_with fail
      exact ⟨⟨n / 10, _, by go_num, rfl, by rw [hsz]; omega, (unhide HD).trans (mkD_pos h0 t), bl_alloc hB _⟩, by simp [intOf]; omega⟩
    · have hn0 : n = 0 := by omega
      subst hn0
      have hs1 : (((⟨#[109]⟩ : ByteArray).size : Int) + (t.size : Int)) ≤ 9223372036854775807 := by show ((1 : Nat) : Int) + _ ≤ _; omega
      have HM : Hid (mk k = ⟨#[109]⟩ ++ t) := by show mk k = ⟨#[109]⟩ ++ t; unfold mk; rw [unhide HD, mkD_zero]
      go_wp2_with fail
      go_ret
      exact ⟨congrArg (fun x => Ending.returned (Value.string x)) (unhide HM).symm, hB⟩

/-- All but block g stands as it stood, and there may be new blocks. -/
def But (g : Nat) (w w' : World) : Prop := w.grownBy w' (some g)
theorem But.refl (g : Nat) (w : World) : But g w w := World.grownBy.refl w _
theorem But.below {g : Nat} {a w w' : World} (h : But g a w) (hb : Below w.heap.size w w') : But g a w' :=
  ⟨hb.os.trans h.os, hb.tape.trans h.tape, hb.output.trans h.output, Nat.le_trans h.size hb.size, fun k hk hne => (hb.block k (Nat.lt_of_lt_of_le hk h.size)).trans (h.block k hk hne)⟩
theorem But.set {g : Nat} {a w : World} (h : But g a w) (i : Nat) (v : Value) : But g a (w.setCell ⟨g, i, none⟩ v) :=
  ⟨h.os, h.tape, h.output, by simpa using h.size, fun k hk hne => (Below.heap_setCell w ⟨g, i, none⟩ v k (fun e => hne (by rw [e]))).trans (h.block k hk hne)⟩
theorem But.trans {g : Nat} {a b c : World} (h : But g a b) (k : But g b c) : But g a c := World.grownBy.trans h k
theorem But.box {g B : Nat} {w w' : World} {o : Obj} (h : But g w w') (hb : w.heap[B]? = some o) (hne : B ≠ g) : w'.heap[B]? = some o :=
  (h.block B (Array.getElem?_eq_some_iff.1 hb).1 (fun e => hne (by cases e; rfl))).trans hb
theorem But.down {g : Nat} {a w w' : World} (hB : Below a.heap.size a w) (h : But g w w') (hg : a.heap.size ≤ g) : Below a.heap.size a w' :=
  hB.grown h hB.size (fun j hj => by cases hj; exact hg)
theorem But.strOwn {g B : Nat} {w w' : World} {v : Value} {ss : List ByteArray} (h : But g w w') (hs : StrOwn w B v ss) (hne : v.ownBlock ≠ some g) : StrOwn w' B v ss := World.ownsRow.kept hs h (.inr hne)
theorem But.insRow {g b off : Nat} {w w' : World} {xs : List InsD} (h : But g w w') (hs : InsRow w (some ⟨b, off, none⟩) xs) (hne : b ≠ g) : InsRow w' (some ⟨b, off, none⟩) xs := by
  rcases hs with hs | ⟨b', off', ha, hs⟩
  · exact .inl hs
  · simp only [Option.some.injEq, Addr.mk.injEq, and_true] at ha
    obtain ⟨rfl, rfl⟩ := ha
    refine .inr ⟨_, _, rfl, fun i hi => ?_⟩
    obtain ⟨h0, h1, h2, h3⟩ := hs i hi
    have t : ∀ o v, w.cell? ⟨b, o, none⟩ = some v → w'.cell? ⟨b, o, none⟩ = some v := fun o v hc => World.grownBy.cell h hc (fun e => hne (by cases e; rfl))
    exact ⟨t _ _ h0, t _ _ h1, t _ _ h2, h3⟩

def marks (k n : Nat) : List ByteArray := (List.range n).map fun i => mk (k + i)
theorem marks_len (k n : Nat) : (marks k n).length = n := by simp [marks]
theorem marks_at {k n i : Nat} (h : i < (marks k n).length) : (marks k n)[i] = mk (k + i) := by simp [marks]

/-- The first i cells of block g bear marks. -/
def MarkedS (w : World) (g k n cap i : Nat) : Prop := ∃ cur, w.heap[g]? = some (.cells cur 9 (0, 0)) ∧ cur.size = cap ∧ ∀ j, j < i → cur[j]? = some (.string (mk (k + j)))
theorem marked_own {w : World} {g k n cap B : Nat} (h : MarkedS w g k n cap n) (hB : B ≤ g) (hn : n ≤ cap) (hm : cap ≤ maxLen) : StrOwn w B (.slice (some ⟨g, 0, none⟩) n cap) (marks k n) := by
  obtain ⟨cur, hg, hs, hj⟩ := h
  refine ⟨by simp, .inr ⟨g, cap, cur, by rw [marks_len], hB, hg, by rw [marks_len]; exact hn, hm, by omega, ?_⟩⟩
  rw [marks_len]
  refine List.ext_getElem? fun i => ?_
  by_cases hi : i < n
  · rw [List.getElem?_take_of_lt (by omega)]
    simp [marks, hj i hi, hi]
  · rw [List.getElem?_eq_none (by simp; omega), List.getElem?_eq_none (by simp [marks]; omega)]

theorem marked_step {w : World} {g k n cap j : Nat} {cur : Array Value} (hg : w.heap[g]? = some (.cells cur 9 (0, 0))) (hs : cur.size = cap) (hm : ∀ i, i < j → cur[i]? = some (.string (mk (k + i)))) (hj : j < cap) : MarkedS (w.setCell ⟨g, j, none⟩ (.string (mk (k + j)))) g k n cap (j + 1) := by
  refine ⟨_, block_setCell hg _, by simp [hs], fun i hi => ?_⟩
  by_cases e : i = j
  · subst e; rw [Array.getElem?_setIfInBounds_self_of_lt (by omega)]
  · rw [Array.getElem?_setIfInBounds_ne (by omega)]; exact hm i (by omega)
set_option maxHeartbeats 1000000 in
theorem markStringS_any (B : Nat) (v : Value) (ss : List ByteArray) (k : Nat) (hk : 0 < k) (hkm : k + ss.length ≤ 1125899906842624) (w : World) (hBw : B ≤ w.heap.size) (hO : StrOwn w B v ss) :
    Calls Tryz.prog 51 #[v, .int .i64 k] w fun e w' => e = .returned (.int .i64 ((k + ss.length : Nat) : Int)) ∧ ∃ g, B ≤ g ∧ (v.ownBlock = some g ∨ v.ownBlock = none ∧ w.heap.size ≤ g) ∧ StrOwn w' B v (marks k ss.length) ∧ But g w w' := by
  obtain ⟨_, ⟨rfl, h0⟩ | ⟨g, cap, cur, rfl, hB, hg, hn, hm, hs, ht⟩⟩ := hO
  · obtain rfl : ss = [] := List.length_eq_zero_iff.1 h0
    go_enter Tryz.func51, Tryz.ntmps51
    go_wp2_with fail
    refine wp_loop_rounds 1 ?_
    rw [rounds_succ]
    go_wp2
    go_ret
    exact ⟨rfl, w.heap.size, hBw, .inr ⟨rfl, Nat.le_refl _⟩, World.ownsRow_nil _ _ _ _, But.refl _ _⟩
  · have HG := hide (And.intro hg (And.intro hs ht))
    have hs' : cur.size = cap := by omega
    clear hg hs ht
    unfold maxLen at hm
    have hlen : (ss.length : Int) ≤ 9223372036854775807 := by omega
    go_enter Tryz.func51, Tryz.ntmps51
    go_wp2_with fail
    go_loopw [1, 5] (fun kk i w' => ∃ j : Nat, j ≤ ss.length ∧ i = .int .i64 j ∧ kk = .int .i64 ((k + j : Nat) : Int) ∧ MarkedS w' g k ss.length cap j ∧ But g w w') (fun _ i _ => ss.length - (intOf i).toNat)
    case atStart => exact ⟨0, Nat.zero_le _, rfl, rfl, ⟨cur, (unhide HG).1, hs', fun j hj => by omega⟩, But.refl _ _⟩
    case round =>
      obtain ⟨j, hj, rfl, rfl, hM, hb⟩ := hrel
      have HM := hide hM
      clear hM
      by_cases hjl : j < ss.length
      · have hjl' : (j : Int) < (ss.length : Int) := by omega
        go_wp2_with fail
        refine (markText_any (k + j) (by omega) (by omega) _).mono ?_
        rintro e w1 ⟨rfl, hb1⟩
        obtain ⟨cur1, hg1, hs1, hj1⟩ := unhide HM
        have HG1 := hide (box_below hg1 hb1)
        have HJ1 := hide hj1
        have hb' := hb.below hb1
        clear hj1 hg1 hb1 hb
        obtain ⟨v0, e0⟩ : ∃ v, w1.cell? ⟨g, j, none⟩ = some v := ⟨cur1[j]'(by omega), by rw [cell_of_block (unhide HG1)]; exact Array.getElem?_eq_getElem _⟩
        have g0 := unfrozen_of_block (unhide HG1) j
        go_wp2_with fail
        exact ⟨⟨j + 1, by omega, by go_num, by go_num, marked_step (unhide HG1) hs1 (unhide HJ1) (by omega), hb'.set _ _⟩, by simp [intOf]; omega⟩
      · have hjl' : ¬ (j : Int) < (ss.length : Int) := by omega
        have hje : j = ss.length := by omega
        have HM' := hide (hje ▸ unhide HM)
        go_wp2_with fail
        go_ret
        exact ⟨ret_int (by omega), g, hB, .inl rfl, marked_own (unhide HM') hB hn (by unfold maxLen; omega), hb⟩


set_option maxHeartbeats 1000000 in
theorem eqStringS_same (v v' : Value) (ss : List ByteArray) (w : World) (hR : StrAt w v ss) (hQ : StrAt w v' ss) :
    Calls Tryz.prog 50 #[v, v'] w fun e w' => e = .returned (.bool true) ∧ Below w.heap.size w w' := by
  obtain ⟨a, cap, rfl, hcap, hcm, hR⟩ := hR
  obtain ⟨a', cap', rfl, hcap', hcm', hQ⟩ := hQ
  have HR := hide hR
  have HQ := hide hQ
  clear hR hQ
  unfold maxLen at hcm
  have hlen : (ss.length : Int) ≤ 9223372036854775807 := by omega
  go_enter Tryz.func50, Tryz.ntmps50
  go_wp2_with fail
  go_loopw [5] (fun i w' => ∃ k : Nat, k ≤ ss.length ∧ i = .int .i64 k ∧ Below w.heap.size w w') (fun i _ => ss.length - (intOf i).toNat)
  case atStart => exact ⟨0, Nat.zero_le _, rfl, Below.refl _ _⟩
  case round =>
    obtain ⟨k, hk, rfl, hB⟩ := hrel
    by_cases hkl : k < ss.length
    · obtain h0 | ⟨b, off, rfl, hc⟩ := unhide HR
      · rw [h0] at hkl; simp at hkl
      obtain h0 | ⟨b', off', rfl, hd⟩ := unhide HQ
      · rw [h0] at hkl; simp at hkl
      have c0 := (Stable.cell ⟨b, off + k, none⟩ (.string ss[k])).1 _ _ hB (hc k hkl)
      have d0 := (Stable.cell ⟨b', off' + k, none⟩ (.string ss[k])).1 _ _ hB (hd k hkl)
      have hkl' : (k : Int) < (ss.length : Int) := by omega
      clear hc hd
      generalize ss[k] = t at *
      go_wp2_with fail
      go_quiet (fail)
      go_wp2
      exact ⟨⟨k + 1, by omega, by go_num, bl_drewN hB _⟩, by simp [intOf]; omega⟩
    · go_wp2_with fail
      go_ret
      exact ⟨rfl, hB⟩

/-- The first n instructions of block R bear marks. -/
def MarkedI (w : World) (R k z n : Nat) : Prop := ∃ C, w.heap[R]? = some (.cells C 61 (0, 0)) ∧ C.size = z ∧ ∀ i, i < n → C[i * 3]? = some (.int .i64 ((k : Int) + (i : Int) * 3)) ∧ C[i * 3 + 1]? = some (.int .i64 ((k : Int) + (i : Int) * 3 + 1)) ∧ C[i * 3 + 2]? = some (.string (mk (k + i * 3 + 2)))
theorem markedI_step {w w2 : World} {R k z j : Nat} {C : Array Value} (hC : w.heap[R]? = some (.cells C 61 (0, 0))) (hz : C.size = z) (hj : j * 3 + 2 < z) (hm : ∀ i, i < j → C[i * 3]? = some (.int .i64 ((k : Int) + (i : Int) * 3)) ∧ C[i * 3 + 1]? = some (.int .i64 ((k : Int) + (i : Int) * 3 + 1)) ∧ C[i * 3 + 2]? = some (.string (mk (k + i * 3 + 2))))
    (hb : Below ((w.setCell ⟨R, j * 3, none⟩ (.int .i64 ((k : Int) + (j : Int) * 3))).setCell ⟨R, j * 3 + 1, none⟩ (.int .i64 ((k : Int) + (j : Int) * 3 + 1))).heap.size ((w.setCell ⟨R, j * 3, none⟩ (.int .i64 ((k : Int) + (j : Int) * 3))).setCell ⟨R, j * 3 + 1, none⟩ (.int .i64 ((k : Int) + (j : Int) * 3 + 1))) w2) :
    MarkedI (w2.setCell ⟨R, j * 3 + 2, none⟩ (.string (mk (k + j * 3 + 2)))) R k z (j + 1) := by
  refine ⟨_, block_setCell (box_below (block_setCell (block_setCell hC _) _) hb) _, by simp [hz], fun i hi => ?_⟩
  by_cases e : i = j
  · subst e
    refine ⟨?_, ?_, ?_⟩
    · rw [Array.getElem?_setIfInBounds_ne (by omega), Array.getElem?_setIfInBounds_ne (by omega), Array.getElem?_setIfInBounds_self_of_lt (by omega)]
    · rw [Array.getElem?_setIfInBounds_ne (by omega), Array.getElem?_setIfInBounds_self_of_lt (by simp; omega)]
    · rw [Array.getElem?_setIfInBounds_self_of_lt (by simp; omega)]
  · obtain ⟨h0, h1, h2⟩ := hm i (by omega)
    refine ⟨?_, ?_, ?_⟩
    · rw [Array.getElem?_setIfInBounds_ne (by omega), Array.getElem?_setIfInBounds_ne (by omega), Array.getElem?_setIfInBounds_ne (by omega), h0]
    · rw [Array.getElem?_setIfInBounds_ne (by omega), Array.getElem?_setIfInBounds_ne (by omega), Array.getElem?_setIfInBounds_ne (by omega), h1]
    · rw [Array.getElem?_setIfInBounds_ne (by omega), Array.getElem?_setIfInBounds_ne (by omega), Array.getElem?_setIfInBounds_ne (by omega), h2]

set_option maxHeartbeats 2000000 in
theorem markInsS_any (R n cap k z : Nat) (hk : 0 < k) (hkm : k + n * 3 ≤ 1125899906842624) (hn : n * 3 ≤ z) (w : World) (hO : MarkedI w R k z 0) :
    Calls Tryz.prog 33 #[.slice (some ⟨R, 0, none⟩) n cap, .int .i64 k] w fun e w' => e = .returned (.int .i64 ((k + n * 3 : Nat) : Int)) ∧ MarkedI w' R k z n ∧ But R w w' := by
  have HO := hide hO
  clear hO
  go_enter Tryz.func33, Tryz.ntmps33
  go_wp2_with fail
  go_loopw [1, 5] (fun kk i w' => ∃ j : Nat, j ≤ n ∧ i = .int .i64 j ∧ kk = .int .i64 ((k : Int) + (j : Int) * 3) ∧ MarkedI w' R k z j ∧ But R w w') (fun _ i _ => n - (intOf i).toNat)
  case atStart => exact ⟨0, Nat.zero_le _, rfl, by simp, unhide HO, But.refl _ _⟩
  case round =>
    obtain ⟨j, hj, rfl, rfl, hM, hb⟩ := hrel
    have HM := hide hM
    clear hM HO
    by_cases hjl : j < n
    · have hjl' : (j : Int) < (n : Int) := by omega
      obtain ⟨C, hC, hz, hm⟩ := unhide HM
      obtain ⟨v0, e0⟩ : ∃ v, wr.cell? ⟨R, j * 3, none⟩ = some v := ⟨C[j * 3]'(by omega), by rw [cell_of_block hC]; exact Array.getElem?_eq_getElem _⟩
      obtain ⟨v1, e1⟩ : ∃ v, wr.cell? ⟨R, j * 3 + 1, none⟩ = some v := ⟨C[j * 3 + 1]'(by omega), by rw [cell_of_block hC]; exact Array.getElem?_eq_getElem _⟩
      have g0 := unfrozen_of_block hC (j * 3)
      have g1 := unfrozen_of_block hC (j * 3 + 1)
      have HC := hide hC
      have HJ := hide hm
      clear hm hC
      go_wp2_with fail
      refine (markText_any (k + j * 3 + 2) (by omega) (by omega) _).mono ?_
      rintro e w1 ⟨rfl, hb1⟩
      have HN := hide (box_below (block_setCell (block_setCell (unhide HC) _) _) hb1)
      have HX := hide (markedI_step (k := k) (unhide HC) hz (by omega) (unhide HJ) hb1)
      have hb2 : But R w w1 := ((hb.set _ _).set _ _).below hb1
      obtain ⟨v2, e2⟩ : ∃ v, w1.cell? ⟨R, j * 3 + 2, none⟩ = some v := ⟨_, by rw [cell_of_block (unhide HN)]; exact Array.getElem?_eq_getElem (by simp; omega)⟩
      have g2 := unfrozen_of_block (unhide HN) (j * 3 + 2)
      clear e0 e1 g0 g1 hb1 hb
      go_wp2_with fail
      exact ⟨⟨j + 1, by omega, by go_num, by go_num, unhide HX, hb2.set _ _⟩, by simp [intOf]; omega⟩
    · have hjl' : ¬ (j : Int) < (n : Int) := by omega
      have hje : j = n := by omega
      have HM' := hide (hje ▸ unhide HM)
      go_wp2_with fail
      go_ret
      exact ⟨ret_int (by omega), unhide HM', hb⟩

theorem OwnIns.marked {w : World} {R k : Nat} {xs : List InsD} (h : OwnIns w R xs xs.length) : MarkedI w R k (xs.length * 3) 0 := by
  obtain ⟨C, hC, hF⟩ := h
  exact ⟨C, hC, hF.1, fun i hi => by omega⟩
theorem Stable.own (R : Nat) (xs : List InsD) (k : Nat) : Stable (fun w => OwnIns w R xs k) := ⟨fun w w' hb hs => hs.below hb, fun w hs => hs⟩
end Go.Proofs.YthbbmookhcalkaaGreat.Mark
