/- The contracts of the laws' marks: texts that are written and looked for again. -/
import Derived.Test.YthbbmookhcalkaaGreatDoorRefs
import Derived.Deep.RegionHeld3
import Derived.Laws.IdiomStrings
import Derived.Deep.QuietTactic
import Derived.BigQuiet
import Derived.Test.YthbbmookhcalkaaGreatDoorPkbd957d2b
namespace Go.Proofs.YthbbmookhcalkaaGreatDoor.Mark
open Go.ChangeShapes Go.WideShapes Go.ChangeAt Go.RowKit Go.Joins
open Go.Proofs.YthbbmookhcalkaaGreatDoor.Base Go.Proofs.YthbbmookhcalkaaGreatDoor.InsA Go.Proofs.YthbbmookhcalkaaGreatDoor.Funs Go.Proofs.YthbbmookhcalkaaGreatDoor.Open Go.Proofs.YthbbmookhcalkaaGreatDoor.Keep Go.Proofs.YthbbmookhcalkaaGreatDoor.Refs
set_option linter.unusedVariables false
set_option maxRecDepth 100000

def dig (n : Nat) : UInt8 := UInt8.ofNat (48 + n % 10)
def mkD (n : Nat) (t : ByteArray) : ByteArray := if h : n = 0 then t else mkD (n / 10) (⟨#[dig n]⟩ ++ t)
  termination_by n
  decreasing_by omega
/-- The text of a mark. -/
def mk (k : Nat) : ByteArray := ⟨#[109]⟩ ++ mkD k ⟨#[]⟩
theorem mkD_zero (t : ByteArray) : mkD 0 t = t := by rw [mkD]; rfl
theorem mkD_pos {n : Nat} (h : 0 < n) (t : ByteArray) : mkD n t = mkD (n / 10) (⟨#[dig n]⟩ ++ t) := by rw [mkD, dif_neg (by omega)]
theorem size_one (d : UInt8) (t : ByteArray) : ((⟨#[d]⟩ : ByteArray) ++ t).size = 1 + t.size := by rw [ByteArray.size_append]; rfl

theorem conv_one (n : Nat) (w : World) : Sem.run Tryz.prog (convert 22 9 (.slice (some ⟨w.heap.size, 0, none⟩) 1 1)) (w.alloc (.cells #[.int .u8 (48 + (n : Int) % 10)] 5)) = .ok (.string ⟨#[dig n]⟩) (w.alloc (.cells #[.int .u8 (48 + (n : Int) % 10)] 5)) := by
  refine run_convert_bytes_back (P := Tryz.prog) (w.alloc (.cells #[.int .u8 (48 + (n : Int) % 10)] 5)) 22 9 5 ⟨w.heap.size, 0, none⟩ 1 [dig n] Tryz.underlying22 Tryz.underlying5 Tryz.underlying9 (fun j hj => ?_)
  match j, hj with
  | 0, _ =>
    have e : ((dig n).toNat : Int) = 48 + (n : Int) % 10 := by
      unfold dig
      rw [UInt8.toNat_ofNat_of_lt' (by show 48 + n % 10 < 256; omega)]
      omega
    show (w.alloc _).cell? _ = some (.int .u8 ((dig n).toNat : Int))
    rw [e]
    simp [Addr.add, cell_of_block (new_block w _)]

set_option maxHeartbeats 1000000 in
theorem markText_any (k : Nat) (hk : 0 < k) (hm : k ≤ 1125899906842624) (w : World) :
    Calls Tryz.prog 51 #[.int .i64 k] w fun e w' => e = .returned (.string (mk k)) ∧ Below w.heap.size w w' := by
  go_enter Tryz.func51, Tryz.ntmps51
  go_wp2_with fail
  go_loopw [0, 3] (fun k' s w' => ∃ (n : Nat) (t : ByteArray), k' = .int .i64 n ∧ s = .string t ∧ n + t.size ≤ k ∧ Hid (mkD k ⟨#[]⟩ = mkD n t) ∧ Below w.heap.size w w') (fun k' _ _ => (intOf k').toNat)
  case atStart => exact ⟨k, _, rfl, rfl, Nat.le_refl _, rfl, Below.refl _ _⟩
  case round =>
    obtain ⟨n, t, rfl, rfl, hn, HD, hB⟩ := hrel
    by_cases h0 : 0 < n
    · have h0' : (0 : Int) < (n : Int) := by omega
      have hcv := conv_one n
      have hsz := size_one (dig n) t
      go_wp2_with fail
      exact ⟨⟨n / 10, _, by go_num, rfl, by rw [hsz]; omega, (unhide HD).trans (mkD_pos h0 t), bl_alloc hB _⟩, by simp [intOf]; omega⟩
    · have hn0 : n = 0 := by omega
      subst hn0
      have hs1 : (((⟨#[109]⟩ : ByteArray).size : Int) + (t.size : Int)) ≤ 9223372036854775807 := by show ((1 : Nat) : Int) + _ ≤ _; omega
      have HM : Hid (mk k = ⟨#[109]⟩ ++ t) := by show mk k = ⟨#[109]⟩ ++ t; unfold mk; rw [unhide HD, mkD_zero]
      go_wp2_with fail
      go_ret
      exact ⟨congrArg (fun x => Ending.returned (Value.string x)) (unhide HM).symm, hB⟩

/-- All but block g stands as it stood, and there may be new blocks. -/
def But (g : Nat) (w w' : World) : Prop := w.grownBy w' (some g)
theorem But.refl (g : Nat) (w : World) : But g w w := World.grownBy.refl w _
theorem But.below {g : Nat} {a w w' : World} (h : But g a w) (hb : Below w.heap.size w w') : But g a w' :=
  ⟨hb.os.trans h.os, hb.tape.trans h.tape, hb.output.trans h.output, Nat.le_trans h.size hb.size, fun k hk hne => (hb.block k (Nat.lt_of_lt_of_le hk h.size)).trans (h.block k hk hne)⟩
theorem But.set {g : Nat} {a w : World} (h : But g a w) (i : Nat) (v : Value) : But g a (w.setCell ⟨g, i, none⟩ v) :=
  ⟨h.os, h.tape, h.output, by simpa using h.size, fun k hk hne => (Below.heap_setCell w ⟨g, i, none⟩ v k (fun e => hne (by rw [e]))).trans (h.block k hk hne)⟩
theorem But.trans {g : Nat} {a b c : World} (h : But g a b) (k : But g b c) : But g a c := World.grownBy.trans h k
theorem But.box {g B : Nat} {w w' : World} {o : Obj} (h : But g w w') (hb : w.heap[B]? = some o) (hne : B ≠ g) : w'.heap[B]? = some o :=
  (h.block B (Array.getElem?_eq_some_iff.1 hb).1 (fun e => hne (by cases e; rfl))).trans hb
theorem But.down {g : Nat} {a w w' : World} (hB : Below a.heap.size a w) (h : But g w w') (hg : a.heap.size ≤ g) : Below a.heap.size a w' :=
  hB.grown h hB.size (fun j hj => by cases hj; exact hg)
theorem But.strOwn {g B : Nat} {w w' : World} {v : Value} {ss : List ByteArray} (h : But g w w') (hs : StrOwn w B v ss) (hne : v.ownBlock ≠ some g) : StrOwn w' B v ss := World.ownsRow.kept hs h (.inr hne)
theorem But.insRow {g b off : Nat} {w w' : World} {xs : List InsD} (h : But g w w') (hs : InsRow w (some ⟨b, off, none⟩) xs) (hne : b ≠ g) : InsRow w' (some ⟨b, off, none⟩) xs := by
  rcases hs with hs | ⟨b', off', ha, hs⟩
  · exact .inl hs
  · simp only [Option.some.injEq, Addr.mk.injEq, and_true] at ha
    obtain ⟨rfl, rfl⟩ := ha
    refine .inr ⟨_, _, rfl, fun i hi => ?_⟩
    obtain ⟨h0, h1, h2, h3⟩ := hs i hi
    have t : ∀ o v, w.cell? ⟨b, o, none⟩ = some v → w'.cell? ⟨b, o, none⟩ = some v := fun o v hc => World.grownBy.cell h hc (fun e => hne (by cases e; rfl))
    exact ⟨t _ _ h0, t _ _ h1, t _ _ h2, h3⟩

def marks (k n : Nat) : List ByteArray := (List.range n).map fun i => mk (k + i)
theorem marks_len (k n : Nat) : (marks k n).length = n := by simp [marks]
theorem marks_at {k n i : Nat} (h : i < (marks k n).length) : (marks k n)[i] = mk (k + i) := by simp [marks]

/-- The first i cells of block g bear marks. -/
def MarkedS (w : World) (g k n cap i : Nat) : Prop := ∃ cur, w.heap[g]? = some (.cells cur 9 (0, 0)) ∧ cur.size = cap ∧ ∀ j, j < i → cur[j]? = some (.string (mk (k + j)))
theorem marked_own {w : World} {g k n cap B : Nat} (h : MarkedS w g k n cap n) (hB : B ≤ g) (hn : n ≤ cap) (hm : cap ≤ maxLen) : StrOwn w B (.slice (some ⟨g, 0, none⟩) n cap) (marks k n) := by
  obtain ⟨cur, hg, hs, hj⟩ := h
  refine ⟨by simp, .inr ⟨g, cap, cur, by rw [marks_len], hB, hg, by rw [marks_len]; exact hn, hm, by omega, ?_⟩⟩
  rw [marks_len]
  refine List.ext_getElem? fun i => ?_
  by_cases hi : i < n
  · rw [List.getElem?_take_of_lt (by omega)]
    simp [marks, hj i hi, hi]
  · rw [List.getElem?_eq_none (by simp; omega), List.getElem?_eq_none (by simp [marks]; omega)]

theorem marked_step {w : World} {g k n cap j : Nat} {cur : Array Value} (hg : w.heap[g]? = some (.cells cur 9 (0, 0))) (hs : cur.size = cap) (hm : ∀ i, i < j → cur[i]? = some (.string (mk (k + i)))) (hj : j < cap) : MarkedS (w.setCell ⟨g, j, none⟩ (.string (mk (k + j)))) g k n cap (j + 1) := by
  refine ⟨_, block_setCell hg _, by simp [hs], fun i hi => ?_⟩
  by_cases e : i = j
  · subst e; rw [Array.getElem?_setIfInBounds_self_of_lt (by omega)]
  · rw [Array.getElem?_setIfInBounds_ne (by omega)]; exact hm i (by omega)



/-- The first n instructions of block R bear marks. -/
def MarkedI (w : World) (R k z n : Nat) : Prop := ∃ C, w.heap[R]? = some (.cells C 105 (0, 0)) ∧ C.size = z ∧ ∀ i, i < n → C[i * 3]? = some (.int .i64 ((k : Int) + (i : Int) * 3)) ∧ C[i * 3 + 1]? = some (.int .i64 ((k : Int) + (i : Int) * 3 + 1)) ∧ C[i * 3 + 2]? = some (.string (mk (k + i * 3 + 2)))
theorem markedI_step {w w2 : World} {R k z j : Nat} {C : Array Value} (hC : w.heap[R]? = some (.cells C 105 (0, 0))) (hz : C.size = z) (hj : j * 3 + 2 < z) (hm : ∀ i, i < j → C[i * 3]? = some (.int .i64 ((k : Int) + (i : Int) * 3)) ∧ C[i * 3 + 1]? = some (.int .i64 ((k : Int) + (i : Int) * 3 + 1)) ∧ C[i * 3 + 2]? = some (.string (mk (k + i * 3 + 2))))
    (hb : Below ((w.setCell ⟨R, j * 3, none⟩ (.int .i64 ((k : Int) + (j : Int) * 3))).setCell ⟨R, j * 3 + 1, none⟩ (.int .i64 ((k : Int) + (j : Int) * 3 + 1))).heap.size ((w.setCell ⟨R, j * 3, none⟩ (.int .i64 ((k : Int) + (j : Int) * 3))).setCell ⟨R, j * 3 + 1, none⟩ (.int .i64 ((k : Int) + (j : Int) * 3 + 1))) w2) :
    MarkedI (w2.setCell ⟨R, j * 3 + 2, none⟩ (.string (mk (k + j * 3 + 2)))) R k z (j + 1) := by
  refine ⟨_, block_setCell (box_below (block_setCell (block_setCell hC _) _) hb) _, by simp [hz], fun i hi => ?_⟩
  by_cases e : i = j
  · subst e
    refine ⟨?_, ?_, ?_⟩
    · rw [Array.getElem?_setIfInBounds_ne (by omega), Array.getElem?_setIfInBounds_ne (by omega), Array.getElem?_setIfInBounds_self_of_lt (by omega)]
    · rw [Array.getElem?_setIfInBounds_ne (by omega), Array.getElem?_setIfInBounds_self_of_lt (by simp; omega)]
    · rw [Array.getElem?_setIfInBounds_self_of_lt (by simp; omega)]
  · obtain ⟨h0, h1, h2⟩ := hm i (by omega)
    refine ⟨?_, ?_, ?_⟩
    · rw [Array.getElem?_setIfInBounds_ne (by omega), Array.getElem?_setIfInBounds_ne (by omega), Array.getElem?_setIfInBounds_ne (by omega), h0]
    · rw [Array.getElem?_setIfInBounds_ne (by omega), Array.getElem?_setIfInBounds_ne (by omega), Array.getElem?_setIfInBounds_ne (by omega), h1]
    · rw [Array.getElem?_setIfInBounds_ne (by omega), Array.getElem?_setIfInBounds_ne (by omega), Array.getElem?_setIfInBounds_ne (by omega), h2]

set_option maxHeartbeats 2000000 in
theorem markInsS_any (R n cap k z : Nat) (hk : 0 < k) (hkm : k + n * 3 ≤ 1125899906842624) (hn : n * 3 ≤ z) (w : World) (hO : MarkedI w R k z 0) :
    Calls Tryz.prog 52 #[.slice (some ⟨R, 0, none⟩) n cap, .int .i64 k] w fun e w' => e = .returned (.int .i64 ((k + n * 3 : Nat) : Int)) ∧ MarkedI w' R k z n ∧ But R w w' := by
  have HO := hide hO
  clear hO
  go_enter Tryz.func52, Tryz.ntmps52
  go_wp2_with fail
  go_loopw [1, 5] (fun kk i w' => ∃ j : Nat, j ≤ n ∧ i = .int .i64 j ∧ kk = .int .i64 ((k : Int) + (j : Int) * 3) ∧ MarkedI w' R k z j ∧ But R w w') (fun _ i _ => n - (intOf i).toNat)
  case atStart => exact ⟨0, Nat.zero_le _, rfl, by simp, unhide HO, But.refl _ _⟩
  case round =>
    obtain ⟨j, hj, rfl, rfl, hM, hb⟩ := hrel
    have HM := hide hM
    clear hM HO
    by_cases hjl : j < n
    · have hjl' : (j : Int) < (n : Int) := by omega
      obtain ⟨C, hC, hz, hm⟩ := unhide HM
      obtain ⟨v0, e0⟩ : ∃ v, wr.cell? ⟨R, j * 3, none⟩ = some v := ⟨C[j * 3]'(by omega), by rw [cell_of_block hC]; exact Array.getElem?_eq_getElem _⟩
      obtain ⟨v1, e1⟩ : ∃ v, wr.cell? ⟨R, j * 3 + 1, none⟩ = some v := ⟨C[j * 3 + 1]'(by omega), by rw [cell_of_block hC]; exact Array.getElem?_eq_getElem _⟩
      have g0 := unfrozen_of_block hC (j * 3)
      have g1 := unfrozen_of_block hC (j * 3 + 1)
      have HC := hide hC
      have HJ := hide hm
      clear hm hC
      go_wp2_with fail
      refine (markText_any (k + j * 3 + 2) (by omega) (by omega) _).mono ?_
      rintro e w1 ⟨rfl, hb1⟩
      have HN := hide (box_below (block_setCell (block_setCell (unhide HC) _) _) hb1)
      have HX := hide (markedI_step (k := k) (unhide HC) hz (by omega) (unhide HJ) hb1)
      have hb2 : But R w w1 := ((hb.set _ _).set _ _).below hb1
      obtain ⟨v2, e2⟩ : ∃ v, w1.cell? ⟨R, j * 3 + 2, none⟩ = some v := ⟨_, by rw [cell_of_block (unhide HN)]; exact Array.getElem?_eq_getElem (by simp; omega)⟩
      have g2 := unfrozen_of_block (unhide HN) (j * 3 + 2)
      clear e0 e1 g0 g1 hb1 hb
      go_wp2_with fail
      exact ⟨⟨j + 1, by omega, by go_num, by go_num, unhide HX, hb2.set _ _⟩, by simp [intOf]; omega⟩
    · have hjl' : ¬ (j : Int) < (n : Int) := by omega
      have hje : j = n := by omega
      have HM' := hide (hje ▸ unhide HM)
      go_wp2_with fail
      go_ret
      exact ⟨ret_int (by omega), unhide HM', hb⟩

theorem OwnIns.marked {w : World} {R k : Nat} {xs : List InsD} (h : OwnIns w R xs xs.length) : MarkedI w R k (xs.length * 3) 0 := by
  obtain ⟨C, hC, hF⟩ := h
  exact ⟨C, hC, hF.1, fun i hi => by omega⟩
theorem Stable.own (R : Nat) (xs : List InsD) (k : Nat) : Stable (fun w => OwnIns w R xs k) := ⟨fun w w' hb hs => hs.below hb, fun w hs => hs⟩
end Go.Proofs.YthbbmookhcalkaaGreatDoor.Mark
/- What is taken, as plain data: where a name is in units, and how many strong functions have it. -/
namespace Go.Proofs.YthbbmookhcalkaaGreatDoor.PickD
open Go.ChangeShapes Go.WideShapes Go.ChangeAt Go.RowKit Go.Joins
open Go.Proofs.YthbbmookhcalkaaGreatDoor.Base Go.Proofs.YthbbmookhcalkaaGreatDoor.Funs Go.Proofs.YthbbmookhcalkaaGreatDoor.Open Go.Proofs.YthbbmookhcalkaaGreatDoor.FunS Go.Proofs.YthbbmookhcalkaaGreatDoor.UnitS
set_option linter.unusedVariables false
set_option maxRecDepth 100000

/-- A function with its unit's place and its own. -/
abbrev Ent := Nat × Nat × FunD
def unitsOkB (us : List (List FunD)) (m : Nat) : Bool := us.all unitOkB && decide (us.length ≤ m)
/-- What a unit has of a name: its first function of it. -/
def hitU (s : ByteArray) (u : List FunD) (i : Nat) : List Ent := if findI u s < 0 then [] else [(i, (findI u s).toNat, u.getD (findI u s).toNat default)]
def hitsTo (us : List (List FunD)) (s : ByteArray) : Nat → List Ent
  | 0 => []
  | n + 1 => hitsTo us s n ++ hitU s (us.getD n []) n
def hits (us : List (List FunD)) (s : ByteArray) : List Ent := hitsTo us s us.length
def strong (l : List Ent) : List Ent := l.filter fun x => !x.2.2.wk
/-- Where a name is, among those that have it. -/
def bestOf (l : List Ent) : Option Ent := ((strong l).head?).or l.head?
def atOf (o : Option Ent) : Int × Int × Bool := match o with | some x => (x.1, x.2.1, true) | none => (0, 0, false)
def pickAt (us : List (List FunD)) (s : ByteArray) : Int × Int × Bool := atOf (bestOf (hits us s))

theorem getD_at {us : List (List FunD)} {n : Nat} (h : n < us.length) : us.getD n [] = us[n] := by simp [List.getD, List.getElem?_eq_getElem h]
theorem getF_at {u : List FunD} {n : Nat} (h : n < u.length) : u.getD n default = u[n] := by simp [List.getD, List.getElem?_eq_getElem h]
theorem hits_miss {us : List (List FunD)} {s : ByteArray} {n : Nat} (hn : n < us.length) (h : findI us[n] s < 0) : hitsTo us s (n + 1) = hitsTo us s n := by
  rw [hitsTo, getD_at hn, hitU, if_pos h, List.append_nil]
theorem find_lt {u : List FunD} {s : ByteArray} (h : ¬ findI u s < 0) : (findI u s).toNat < u.length ∧ ((findI u s).toNat : Int) = findI u s := by
  unfold findI at *
  by_cases hl : u.findIdx (isNm s) < u.length
  · rw [if_pos hl] at h ⊢; omega
  · rw [if_neg hl] at h; omega
theorem find_at {u : List FunD} {s : ByteArray} (h : ¬ findI u s < 0) : ∃ j, ∃ hj : j < u.length, findI u s = (j : Int) := ⟨_, (find_lt h).1, (find_lt h).2.symm⟩
theorem hits_hit {us : List (List FunD)} {s : ByteArray} {n j : Nat} (hn : n < us.length) (hj : j < us[n].length) (h : findI us[n] s = (j : Int)) : hitsTo us s (n + 1) = hitsTo us s n ++ [(n, j, us[n][j])] := by
  rw [hitsTo, getD_at hn, hitU, if_neg (by omega), h, Int.toNat_natCast, getF_at hj]
theorem strong_append (l r : List Ent) : strong (l ++ r) = strong l ++ strong r := by simp [strong]
theorem strong_one {x : Ent} (h : x.2.2.wk = false) : strong [x] = [x] := by simp [strong, h]
theorem strong_none {x : Ent} (h : x.2.2.wk = true) : strong [x] = [] := by simp [strong, h]

/-- The first n units, flat. -/
def rowE (i : Nat) (u : List FunD) : Nat → List Ent
  | 0 => []
  | k + 1 => rowE i u k ++ [(i, k, u.getD k default)]
def flatTo (us : List (List FunD)) : Nat → List Ent
  | 0 => []
  | n + 1 => flatTo us n ++ rowE n (us.getD n []) (us.getD n []).length
def flat (us : List (List FunD)) : List Ent := flatTo us us.length
def ofName (s : ByteArray) (l : List Ent) : List Ent := l.filter fun x => isNm s x.2.2
theorem ofName_append (s : ByteArray) (l r : List Ent) : ofName s (l ++ r) = ofName s l ++ ofName s r := by simp [ofName]
theorem rowE_len (i : Nat) (u : List FunD) : ∀ k, (rowE i u k).length = k
  | 0 => rfl
  | k + 1 => by rw [rowE, List.length_append, rowE_len i u k]; rfl

theorem rowE_before {u : List FunD} {s : ByteArray} (i : Nat) : ∀ k, k ≤ u.length → (∀ j (h : j < u.length), j < k → isNm s u[j] = false) → ofName s (rowE i u k) = []
  | 0, _, _ => rfl
  | k + 1, hk, h => by
    rw [rowE, ofName_append, rowE_before i k (by omega) (fun j hj hlt => h j hj (by omega)), getF_at (by omega)]
    simp [ofName, h k (by omega) (by omega)]
/-- In a unit in which no two are of one name a name has at most one. -/
theorem rowE_name {u : List FunD} (ha : apartF u = true) (s : ByteArray) (i : Nat) : ofName s (rowE i u u.length) = hitU s u i := by
  unfold hitU
  by_cases h : findI u s < 0
  · rw [if_pos h]
    refine rowE_before i _ (Nat.le_refl _) fun j hj _ => ?_
    cases hj' : isNm s u[j]
    · rfl
    · exfalso
      have hlt : u.findIdx (isNm s) < u.length := List.findIdx_lt_length_of_exists ⟨u[j], List.getElem_mem _, hj'⟩
      unfold findI at h
      rw [if_pos hlt] at h
      omega
  · rw [if_neg h]
    obtain ⟨hlt, hk⟩ := find_lt h
    have hlt' : u.findIdx (isNm s) < u.length := by
      unfold findI at h
      by_cases hl : u.findIdx (isNm s) < u.length
      · exact hl
      · rw [if_neg hl] at h; omega
    have hfe : (findI u s).toNat = u.findIdx (isNm s) := by unfold findI; rw [if_pos hlt']; omega
    have hyes : isNm s (u[(findI u s).toNat]) = true := by
      have := List.findIdx_getElem (w := hlt')
      simpa only [hfe] using this
    have hno : ∀ j (hj : j < u.length), j ≠ (findI u s).toNat → isNm s u[j] = false := fun j hj hne => by
      cases hj' : isNm s u[j]
      · rfl
      · exfalso
        have e : u[j].nm.toList = (u[(findI u s).toNat]).nm.toList := (isNm_iff.1 hj').trans (isNm_iff.1 hyes).symm
        rcases Nat.lt_or_gt_of_ne hne with h1 | h1
        · exact (apartF_iff u).1 ha j _ hj hlt h1 e
        · exact (apartF_iff u).1 ha _ j hlt hj h1 e.symm
    generalize (findI u s).toNat = k at *
    have : ∀ n, k < n → n ≤ u.length → ofName s (rowE i u n) = [(i, k, u.getD k default)] := by
      intro n
      induction n with
      | zero => intro h; omega
      | succ n ih =>
        intro hn hl
        rw [rowE, ofName_append]
        by_cases he : n = k
        · subst he
          rw [rowE_before i n (by omega) (fun j hj hjn => hno j hj (by omega)), getF_at hlt]
          simp [ofName, hyes]
        · rw [ih (by omega) (by omega), getF_at (u := u) (n := n) (by omega)]
          simp [ofName, hno n (by omega) he]
    exact this _ hlt (Nat.le_refl _)
theorem flat_hits {us : List (List FunD)} (h : ∀ u ∈ us, apartF u = true) (s : ByteArray) : ∀ n, n ≤ us.length → ofName s (flatTo us n) = hitsTo us s n
  | 0, _ => rfl
  | n + 1, hn => by
    rw [flatTo, hitsTo, ofName_append, flat_hits h s n (by omega), rowE_name (h _ (by rw [getD_at (by omega)]; exact List.getElem_mem _))]

/-- A row of the program's map: where the one is that goes ahead, and how many strong ones there are. -/
abbrev Row := Nat × Nat × Nat
def rowStep (o : Option Row) (x : Ent) : Row :=
  match o with
  | none => (x.1, x.2.1, if x.2.2.wk then 0 else 1)
  | some r => if x.2.2.wk then r else if r.2.2 = 0 then (x.1, x.2.1, 1) else (r.1, r.2.1, r.2.2 + 1)
def rowFold (l : List Ent) : Option Row := l.foldl (fun o x => some (rowStep o x)) none
def rowOf (l : List Ent) (s : ByteArray) : Option Row := rowFold (ofName s l)
theorem rowOf_snoc (l : List Ent) (x : Ent) (s : ByteArray) : rowOf (l ++ [x]) s = if isNm s x.2.2 then some (rowStep (rowOf l s) x) else rowOf l s := by
  unfold rowOf
  rw [ofName_append]
  cases h : isNm s x.2.2
  · simp [ofName, h]
  · have : ofName s [x] = [x] := by simp [ofName, h]
    rw [this, if_pos rfl]
    simp [rowFold, List.foldl_append]
theorem snoc_cases (l : List Ent) : l = [] ∨ ∃ r x, l = r ++ [x] := by
  cases h : l.reverse with
  | nil => exact .inl (by simpa using h)
  | cons x r => exact .inr ⟨r.reverse, x, by rw [← List.reverse_reverse l, h]; simp⟩
/-- What the fold over those of one name gives. -/
theorem rowFold_is (n : Nat) : ∀ l : List Ent, l.length = n → rowFold l = (bestOf l).map fun x => (x.1, x.2.1, (strong l).length) := by
  induction n with
  | zero => intro l h; rw [List.length_eq_zero_iff.1 h]; rfl
  | succ n ih =>
    intro l hl
    rcases snoc_cases l with rfl | ⟨r, x, rfl⟩
    · rfl
    · have ih := ih r (by simpa using hl)
      have e : rowFold (r ++ [x]) = some (rowStep (rowFold r) x) := by simp [rowFold, List.foldl_append]
      rw [e, ih]
      unfold bestOf
      rw [strong_append]
      cases hw : x.2.2.wk
      · rw [strong_one hw]
        cases hs : strong r with
        | nil =>
          cases hr : r with
          | nil => simp [rowStep, hw]
          | cons y t => simp [rowStep, hw]
        | cons y t => simp [rowStep, hw]
      · rw [strong_none hw]
        cases hs : strong r with
        | nil =>
          cases hr : r with
          | nil => simp [rowStep, hw]
          | cons y t => simp [rowStep, hw]
        | cons y t => simp [rowStep, hw]
theorem rowOf_is (l : List Ent) (s : ByteArray) : rowOf l s = (bestOf (ofName s l)).map fun x => (x.1, x.2.1, (strong (ofName s l)).length) := rowFold_is _ _ rfl
theorem rowOf_hits {us : List (List FunD)} (h : ∀ u ∈ us, apartF u = true) (s : ByteArray) : rowOf (flat us) s = (bestOf (hits us s)).map fun x => (x.1, x.2.1, (strong (hits us s)).length) := by
  rw [rowOf_is]; unfold flat hits; rw [flat_hits h s _ (Nat.le_refl _)]
theorem unit_apart {fs : List FunD} (h : unitOkB fs = true) : apartF fs = true := by
  unfold unitOkB at h
  simp only [Bool.and_eq_true] at h
  exact h.2
theorem units_apart {us : List (List FunD)} {m : Nat} (h : unitsOkB us m = true) : ∀ u ∈ us, apartF u = true := by
  unfold unitsOkB at h
  simp only [Bool.and_eq_true, List.all_eq_true] at h
  exact fun u hu => unit_apart (h.1 u hu)
theorem units_len {us : List (List FunD)} {m : Nat} (h : unitsOkB us m = true) : us.length ≤ m := by
  unfold unitsOkB at h
  simp only [Bool.and_eq_true, decide_eq_true_iff] at h
  exact h.2
theorem units_each {us : List (List FunD)} {m : Nat} (h : unitsOkB us m = true) : ∀ u ∈ us, unitOkB u = true := by
  unfold unitsOkB at h
  simp only [Bool.and_eq_true, List.all_eq_true] at h
  exact h.1
theorem units_bad {us : List (List FunD)} {m k : Nat} (hk : k < us.length) (h : unitOkB us[k] = false) : false = unitsOkB us m := by
  have : us.all unitOkB = false := by rw [List.all_eq_false]; exact ⟨us[k], List.getElem_mem _, by simp [h]⟩
  simp [unitsOkB, this]
theorem units_end {us : List (List FunD)} {m : Nat} (h : ∀ i (hi : i < us.length), unitOkB us[i] = true) : unitsOkB us m = decide (us.length ≤ m) := by
  have h1 : us.all unitOkB = true := by rw [List.all_eq_true]; intro f hf; obtain ⟨i, hi, rfl⟩ := List.getElem_of_mem hf; exact h i hi
  simp [unitsOkB, h1]
theorem units_long {us : List (List FunD)} {m : Nat} (h : m < us.length) : false = unitsOkB us m := by
  have : decide (us.length ≤ m) = false := decide_eq_false (by omega)
  simp [unitsOkB, this]
end Go.Proofs.YthbbmookhcalkaaGreatDoor.PickD
