/- The contracts of the program's unitsOk, rowsByName, PickAt, PickTwo: names kept in a map to what goes ahead. -/
import Derived.Test.YtnmgeaonhbhbkaaPickS
import Derived.Test.YtnmgeaonhbhbkaaUnitM
import Derived.Deep.QuietTactic
import Derived.BigQuiet
namespace Go.Proofs.Ytnmgeaonhbhbkaa.PickM
open Go.ChangeShapes Go.WideShapes Go.ChangeAt Go.RowKit Go.Joins Go.WideMaps Go.Maps
open Go.Proofs.Ytnmgeaonhbhbkaa.Base Go.Proofs.Ytnmgeaonhbhbkaa.InsA Go.Proofs.Ytnmgeaonhbhbkaa.Funs Go.Proofs.Ytnmgeaonhbhbkaa.Open Go.Proofs.Ytnmgeaonhbhbkaa.FunS Go.Proofs.Ytnmgeaonhbhbkaa.Keep Go.Proofs.Ytnmgeaonhbhbkaa.UnitS Go.Proofs.Ytnmgeaonhbhbkaa.UnitM Go.Proofs.Ytnmgeaonhbhbkaa.UU Go.Proofs.Ytnmgeaonhbhbkaa.PickD Go.Proofs.Ytnmgeaonhbhbkaa.PickS
set_option linter.unusedVariables false
set_option maxRecDepth 100000


/-- How a row of the map reads. -/
def rowElem (v : Value) : Option (DataW Unit × List MemPlace) :=
  match v with
  | .agg cs => match cs.toList with
    | [.int .i64 a, .int .i64 b, .int .i64 c] => some (.agg [.lit (.int .i64 a), .lit (.int .i64 b), .lit (.int .i64 c)], [])
    | _ => none
  | _ => none
def encRow (r : Row) : DataW Unit := .agg [.lit (.int .i64 r.1), .lit (.int .i64 r.2.1), .lit (.int .i64 r.2.2)]
def rowVal (r : Row) : Value := .agg #[.int .i64 r.1, .int .i64 r.2.1, .int .i64 r.2.2]
theorem rowElem_mk (r : Row) : rowElem (rowVal r) = some (encRow r, []) := rfl
theorem rowElem_inv {v : Value} {r : Row} {ps : List MemPlace} (h : rowElem v = some (encRow r, ps)) : v = rowVal r := by
  unfold rowElem at h
  split at h
  · rename_i cs
    split at h
    · rename_i a b c e
      simp [encRow] at h
      obtain ⟨⟨rfl, rfl, rfl⟩, _⟩ := h
      unfold rowVal
      rw [← Array.toArray_toList (xs := cs), e]
    · cases h
  · cases h
def RowsIs (l : List Ent) (D : DataW Unit) : Prop := ∀ s : ByteArray, (rowOf l s = none → has D (keyS s) = false) ∧ ∀ r, rowOf l s = some r → ∀ z, D.atKey (keyS s) z = encRow r
/-- The program's map of names, in block b. -/
def RowMap (w : World) (b n : Nat) (l : List Ent) : Prop := ∃ D, w.ownsMap Try.prog 9 rowElem b n D ∧ RowsIs l D
theorem RowMap.below {w w' : World} {b n : Nat} {l : List Ent} (h : RowMap w b n l) (hb : Below w.heap.size w w') : RowMap w' b n l := by
  obtain ⟨D, ⟨es, clock, hh, F, hs, hD⟩, hr⟩ := h
  exact ⟨D, ⟨es, clock, box_below hh hb, F, hs, hD⟩, hr⟩
theorem RowMap.alloc {w : World} {b n : Nat} {l : List Ent} (h : RowMap w b n l) (o : Obj) : RowMap (w.alloc o) b n l := h.below (below_alloc1 _ _)
theorem RowMap.setCell {w : World} {b n : Nat} {l : List Ent} (h : RowMap w b n l) {p : Addr} (hp : b ≠ p.block) (v : Value) : RowMap (w.setCell p v) b n l := by
  obtain ⟨D, ho, hr⟩ := h
  exact ⟨D, ho.setCell hp v, hr⟩
theorem RowMap.mono {w : World} {b n m : Nat} {l : List Ent} (h : RowMap w b n l) (hn : n ≤ m) : RowMap w b m l := by
  obtain ⟨D, ho, hr⟩ := h
  exact ⟨D, ownsMap_mono ho hn, hr⟩
theorem Stable.rowMap (b n : Nat) (l : List Ent) : Stable (fun w => RowMap w b n l) := ⟨fun w w' hb hs => hs.below hb, fun w hs => hs⟩
theorem isNm_same {s t : ByteArray} (h : s.toList = t.toList) : isNm s = isNm t := by funext f; simp [isNm, h]
theorem rowOf_same {l : List Ent} {s t : ByteArray} (h : s.toList = t.toList) : rowOf l s = rowOf l t := by
  unfold rowOf ofName
  rw [isNm_same h]
theorem RowMap.made (w : World) : RowMap (w.alloc (.map #[] 0)) w.heap.size 0 [] := ⟨.map [], World.ownsMap_made _ _ _ _, fun s => ⟨fun _ => rfl, fun r h => by cases h⟩⟩

section
variable {w : World} {ops : Array Oper} {rest : List Oper} {o : Oper} {a : Act} {Q : Exit → Act → World → Prop}
def orNone (r : Option Row) : Row := r.getD (0, 0, 0)
theorem look_row {b n : Nat} {l : List Ent} (h : RowMap w b n l) (s : ByteArray) (hs : s.size ≤ maxLen) (t : TypeId) (ht : Try.prog.underlying t = some (.map 9 85)) (hz : (zeroValue 85).run Try.prog w = .ok (rowVal (0, 0, 0)) w) :
    (Instr.lookup t (.map (some b)) (.string s) true).run Try.prog w = .ok (.tuple #[rowVal (orNone (rowOf l s)), .bool (rowOf l s).isSome]) w ∧ (Instr.lookup t (.map (some b)) (.string s) false).run Try.prog w = .ok (rowVal (orNone (rowOf l s))) w := by
  obtain ⟨D, ⟨es, clock, hb, F, hsz, rfl⟩, hr⟩ := h
  have hkey : keyOf Try.prog 9 (.string s) = some (keyS s) := keyOf_string_mk Try.underlying9 hs
  obtain ⟨h1, h2⟩ := hr s
  constructor
  · rcases Maps.fit_look true lawS ht hz hb F hkey with ⟨hrun, _, hat⟩ | ⟨e0, y, _, _, hrun, hRv, hat, _⟩
    · cases ho : rowOf l s with
      | none => exact hrun
      | some r => exact absurd (Maps.has_false_of_atKey hat) (by rw [Maps.has_true_of_atKey (h2 r ho)]; simp)
    · cases ho : rowOf l s with
      | none => exact absurd (Maps.has_true_of_atKey hat) (by rw [h1 ho]; simp)
      | some r =>
        obtain ⟨y1, y2⟩ := y
        have e1 : y1 = encRow r := (hat (.agg [])).symm.trans (h2 r ho (.agg []))
        subst e1
        rw [rowElem_inv hRv] at hrun
        exact hrun
  · rcases Maps.fit_look false lawS ht hz hb F hkey with ⟨hrun, _, hat⟩ | ⟨e0, y, _, _, hrun, hRv, hat, _⟩
    · cases ho : rowOf l s with
      | none => exact hrun
      | some r => exact absurd (Maps.has_false_of_atKey hat) (by rw [Maps.has_true_of_atKey (h2 r ho)]; simp)
    · cases ho : rowOf l s with
      | none => exact absurd (Maps.has_true_of_atKey hat) (by rw [h1 ho]; simp)
      | some r =>
        obtain ⟨y1, y2⟩ := y
        have e1 : y1 = encRow r := (hat (.agg [])).symm.trans (h2 r ho (.agg []))
        subst e1
        rw [rowElem_inv hRv] at hrun
        exact hrun
/-- 'row, found := rows[name]'. -/
theorem wp_look_ok (hg : o.guard = none) (m x : Operand) (t : TypeId) (hop : o.op = Op.lookup t m x true) (ht : Try.prog.underlying t = some (.map 9 85)) (hz : (zeroValue 85).run Try.prog w = .ok (rowVal (0, 0, 0)) w) (b n : Nat) (l : List Ent)
    (hm : a.eval m = .map (some b)) (hown : RowMap w b n l) (s : ByteArray) (hx : a.eval x = .string s) (hs : s.size ≤ maxLen)
    (hK : wpList Try.prog ops Q rest (a.put o.dst (.tuple #[rowVal (orNone (rowOf l s)), .bool (rowOf l s).isSome])) w) :
    wpList Try.prog ops Q (o :: rest) a w := by
  refine wpList_plain hg fun K' hK' => ?_
  have hrun := (look_row hown s hs t ht hz).1
  unfold Oper.wp
  simp [execOp, hop, hm, hx, hrun, Result.andThen]
  exact hK' _ _ hK
/-- 'rows[name]'. -/
theorem wp_look (hg : o.guard = none) (m x : Operand) (t : TypeId) (hop : o.op = Op.lookup t m x false) (ht : Try.prog.underlying t = some (.map 9 85)) (hz : (zeroValue 85).run Try.prog w = .ok (rowVal (0, 0, 0)) w) (b n : Nat) (l : List Ent)
    (hm : a.eval m = .map (some b)) (hown : RowMap w b n l) (s : ByteArray) (hx : a.eval x = .string s) (hs : s.size ≤ maxLen)
    (hK : wpList Try.prog ops Q rest (a.put o.dst (rowVal (orNone (rowOf l s)))) w) :
    wpList Try.prog ops Q (o :: rest) a w := by
  refine wpList_plain hg fun K' hK' => ?_
  have hrun := (look_row hown s hs t ht hz).2
  unfold Oper.wp
  simp [execOp, hop, hm, hx, hrun, Result.andThen]
  exact hK' _ _ hK
/-- 'rows[f.Name] = row'. -/
theorem wp_put (hg : o.guard = none) (m x v : Operand) (t : TypeId) (hop : o.op = Op.mapUpdate t m x v) (ht : Try.prog.underlying t = some (.map 9 85)) (b n : Nat) (l : List Ent)
    (hm : a.eval m = .map (some b)) (hown : RowMap w b n l) (hn : n < maxLen) (y : Ent) (hx : a.eval x = .string y.2.2.nm) (hs : y.2.2.nm.size ≤ maxLen) (hv : a.eval v = rowVal (rowStep (rowOf l y.2.2.nm) y))
    (hK : ∀ w1, RowMap w1 b (n + 1) (l ++ [y]) → w.grownBy w1 (some b) → wpList Try.prog ops Q rest (a.put o.dst (.tuple #[])) w1) :
    wpList Try.prog ops Q (o :: rest) a w := by
  obtain ⟨D, ho, hr⟩ := hown
  have hkey : keyOf Try.prog 9 (.string y.2.2.nm) = some (keyS y.2.2.nm) := keyOf_string_mk Try.underlying9 hs
  refine wpList_mapUpdate_own _ hg m x v t hop 9 85 lawS ht rowElem b n D hm ho hn _ _ _ hx hv hkey _ [] (rowElem_mk _) fun w1 hown1 hgrow1 => hK w1 ⟨_, hown1, fun s => ?_⟩ hgrow1
  rw [rowOf_snoc]
  by_cases hs : y.2.2.nm.toList = s.toList
  · have e1 : isNm s y.2.2 = true := isNm_iff.2 hs
    rw [e1, if_pos rfl, ← rowOf_same hs, ← keyS_eq hs]
    exact ⟨fun h => (by cases h), fun r h z => (by cases h; exact atKey_put_same ho.isMap (keyS_is _) _ z)⟩
  · have e1 : isNm s y.2.2 = false := by rw [← Bool.not_eq_true, isNm_iff]; exact hs
    rw [e1]
    obtain ⟨h1, h2⟩ := hr s
    exact ⟨fun h => by rw [has_put_other (keyS_ne (fun e => hs e.symm))]; exact h1 h, fun r h z => by rw [atKey_put_other (keyS_ne (fun e => hs e.symm))]; exact h2 r h z⟩
/-- 'row.strong' of a row at hand. -/
theorem wp_strong (hg : o.guard = none) (x : Operand) (hop : o.op = Op.field 85 x 2) (r : Row) (hx : a.eval x = rowVal r)
    (hK : wpList Try.prog ops Q rest (a.put o.dst (.int .i64 r.2.2)) w) :
    wpList Try.prog ops Q (o :: rest) a w := by
  refine wpList_plain hg fun K' hK' => ?_
  have hf : ∀ W : World, (Sem.run Try.prog (Instr.field 85 (rowVal r) 2) W) = .ok (.int .i64 r.2.2) W := fun W => by
    simp [Instr.field, rowVal, run_underlying Try.underlying85, Result.andThen, asAgg, part]
  unfold Oper.wp
  simp [execOp, hop, hx, hf, Result.andThen]
  exact hK' _ _ hK
end
theorem zeroRow (w : World) : (zeroValue 85).run Try.prog w = .ok (rowVal (0, 0, 0)) w := by kernel_rfl

theorem row_new (i k : Nat) (f : FunD) : rowStep none (i, k, f) = (i, k, if f.wk then 0 else 1) := rfl
theorem row_weak (r : Row) {i k : Nat} {f : FunD} (h : f.wk = true) : rowStep (some r) (i, k, f) = r := by simp [rowStep, h]
theorem row_first {r : Row} {i k : Nat} {f : FunD} (h : f.wk = false) (h0 : r.2.2 = 0) : rowStep (some r) (i, k, f) = (i, k, 1) := by simp [rowStep, h, h0]
theorem row_more {r : Row} {i k : Nat} {f : FunD} (h : f.wk = false) (h0 : r.2.2 ≠ 0) : rowStep (some r) (i, k, f) = (r.1, r.2.1, r.2.2 + 1) := by simp [rowStep, h, h0]
theorem strong_len (l : List Ent) : (strong l).length ≤ l.length := List.length_filter_le _ _
theorem rowOf_le {l : List Ent} {s : ByteArray} {r : Row} (h : rowOf l s = some r) : r.2.2 ≤ l.length := by
  rw [rowOf_is] at h
  obtain ⟨x, _, rfl⟩ := Option.map_eq_some_iff.1 h
  exact Nat.le_trans (strong_len _) (List.length_filter_le _ _)
theorem flat_len {us : List (List FunD)} {m : Nat} (h : ∀ u ∈ us, u.length ≤ m) : ∀ n, n ≤ us.length → (flatTo us n).length ≤ n * m
  | 0, _ => by simp [flatTo]
  | n + 1, hn => by
    have := flat_len h n (by omega)
    rw [flat_succ (by omega), List.length_append, rowE_len, Nat.succ_mul]
    have := h us[n] (List.getElem_mem _)
    omega

set_option maxHeartbeats 4000000 in
theorem rows_any (a : Option Addr) (cap : Nat) (us : List (List FunD)) (w : World) (hcap : us.length ≤ cap) (hcm : cap ≤ maxLen) (h8 : us.length ≤ 8) (hu40 : ∀ u ∈ us, u.length ≤ 40) (hR : UnitRow w a us) :
    Calls Try.prog 59 #[.slice a us.length cap] w fun e w' => e = .returned (.map (some w.heap.size)) ∧ RowMap w' w.heap.size 320 (flat us) ∧ Below w.heap.size w w' := by
  have HR := hide hR
  have H5 := hide hu40
  clear hR hu40
  have hmm := @run_makeMap Try.prog
  go_enter Try.func59, Try.ntmps59
  go_wp2_with fail
  clear hmm
  go_loopw [13] (fun i w' => ∃ k : Nat, k ≤ us.length ∧ i = .int .i64 k ∧ RowMap w' w.heap.size (k * 40) (flatTo us k) ∧ Below w.heap.size w w') (fun i _ => us.length - (intOf i).toNat)
  case atStart => exact ⟨0, Nat.zero_le _, rfl, RowMap.made _, (Below.refl _ _).alloc (Nat.le_refl _) _⟩
  case round =>
    obtain ⟨k, hk, rfl, hown, hB⟩ := hrel
    have HO := hide hown
    clear hown
    by_cases hkl : k < us.length
    · have hkl' : (k : Int) < (us.length : Int) := by omega
      obtain ⟨b, off, rfl⟩ := (unhide HR).get (by omega)
      obtain ⟨ai, ci, c00, h4, h5, h6⟩ := (unhide HR).at hkl
      have c0 := (Stable.cell ⟨b, off + k, none⟩ (.slice ai us[k].length ci)).1 _ _ hB c00
      have HR6 := hide h6
      have hl5 := unhide H5 us[k] (List.getElem_mem _)
      have HFL := hide (flat_len (unhide H5) k (by omega))
      have HFS := hide (flat_succ hkl)
      clear h6 c00
      generalize us[k] = u at *
      go_wp2_with fail
      go_loopw [20] (fun j w' => ∃ q : Nat, q ≤ u.length ∧ j = .int .i64 q ∧ RowMap w' w.heap.size (k * 40 + q) (flatTo us k ++ rowE k u q) ∧ Below w.heap.size w w') (fun j _ => u.length - (intOf j).toNat)
      case atStart => exact ⟨0, Nat.zero_le _, rfl, by rw [rowE, List.append_nil]; exact unhide HO, hB⟩
      case round =>
        obtain ⟨q, hq, rfl, hown, hB'⟩ := hrel
        have HM := hide hown
        clear hown HO
        by_cases hql : q < u.length
        · have hql' : (q : Int) < (u.length : Int) := by omega
          obtain ⟨b', off', rfl⟩ := (unhide HR6).get (by omega)
          obtain ⟨ai', ci', d0, d1, d2, hn, _⟩ := ((unhide HR6).below hB').at hql
          have HE : Hid (flatTo us k ++ rowE k u (q + 1) = (flatTo us k ++ rowE k u q) ++ [(k, q, u[q])]) := by show _ = _; rw [rowE_succ k hql, List.append_assoc]
          have HLE : Hid ((flatTo us k ++ rowE k u q).length ≤ 360) := by show _ ≤ _; rw [List.length_append, rowE_len]; have := unhide HFL; omega
          have HSZ : w.heap.size < wr.heap.size := by
            obtain ⟨D, ⟨es, clock, hh, _⟩, _⟩ := unhide HM
            exact (Array.getElem?_eq_some_iff.1 hh).1
          generalize u[q] = f at *
          generalize flatTo us k ++ rowE k u q = l at *
          cases ho : rowOf l f.nm with
          | none =>
            cases hw : f.wk
            · rw [hw] at d1
              have HV : Hid (rowVal (k, q, 1) = rowVal (rowStep (rowOf l f.nm) (k, q, f))) := by show _ = _; rw [ho, row_new, hw]; rfl
              go_wp2_with (first
                | (at_lookup; refine wp_look_ok rfl _ _ 78 rfl Try.underlying78 (zeroRow _) w.heap.size (k * 40 + q) l rfl (RowMap.alloc (unhide HM) _) _ rfl hn ?_; rw [ho]; simp only [orNone, rowVal, Option.getD_none, Option.isSome_none])
                | (at_mapUpdate; refine wp_put rfl _ _ _ 78 rfl Try.underlying78 w.heap.size (k * 40 + q) l rfl (RowMap.alloc (RowMap.alloc (unhide HM) _) _) (by unfold maxLen; omega) (k, q, f) rfl hn (unhide HV) ?_; intro w1 hown1 hgrow1)
                | go_in)
              have hB1 : Below w.heap.size w w1 := (bl_alloc (bl_alloc hB' _) _).grown hgrow1 (bl_alloc (bl_alloc hB' _) _).size (fun j hj => by cases hj; exact Nat.le_refl _)
              exact ⟨⟨q + 1, by omega, by go_num, by rw [unhide HE]; exact hown1, hB1⟩, by simp [intOf]; omega⟩
            · rw [hw] at d1
              have HV : Hid (rowVal (k, q, 0) = rowVal (rowStep (rowOf l f.nm) (k, q, f))) := by show _ = _; rw [ho, row_new, hw]; rfl
              go_wp2_with (first
                | (at_lookup; refine wp_look_ok rfl _ _ 78 rfl Try.underlying78 (zeroRow _) w.heap.size (k * 40 + q) l rfl (RowMap.alloc (unhide HM) _) _ rfl hn ?_; rw [ho]; simp only [orNone, rowVal, Option.getD_none, Option.isSome_none])
                | (at_mapUpdate; refine wp_put rfl _ _ _ 78 rfl Try.underlying78 w.heap.size (k * 40 + q) l rfl (RowMap.alloc (RowMap.alloc (unhide HM) _) _) (by unfold maxLen; omega) (k, q, f) rfl hn (unhide HV) ?_; intro w1 hown1 hgrow1)
                | go_in)
              have hB1 : Below w.heap.size w w1 := (bl_alloc (bl_alloc hB' _) _).grown hgrow1 (bl_alloc (bl_alloc hB' _) _).size (fun j hj => by cases hj; exact Nat.le_refl _)
              exact ⟨⟨q + 1, by omega, by go_num, by rw [unhide HE]; exact hown1, hB1⟩, by simp [intOf]; omega⟩
          | some r =>
            have hrc : r.2.2 ≤ 360 := Nat.le_trans (rowOf_le ho) (unhide HLE)
            obtain ⟨r0, r1, r2⟩ := r
            replace hrc : r2 ≤ 360 := hrc
            cases hw : f.wk
            · by_cases h0 : r2 = 0
              · rw [hw] at d1
                have h0' : (r2 : Int) = 0 := by omega
                have HV : Hid (rowVal (k, q, 1) = rowVal (rowStep (rowOf l f.nm) (k, q, f))) := by show _ = _; rw [ho, row_first hw h0]
                go_wp2_with (first
                  | (at_lookup; refine wp_look_ok rfl _ _ 78 rfl Try.underlying78 (zeroRow _) w.heap.size (k * 40 + q) l rfl (RowMap.alloc (unhide HM) _) _ rfl hn ?_; rw [ho]; simp only [orNone, rowVal, Option.getD_some, Option.isSome_some])
                  | (at_mapUpdate; refine wp_put rfl _ _ _ 78 rfl Try.underlying78 w.heap.size (k * 40 + q) l rfl (RowMap.alloc (RowMap.alloc (unhide HM) _) _) (by unfold maxLen; omega) (k, q, f) rfl hn (unhide HV) ?_; intro w1 hown1 hgrow1)
                  | go_in)
                have hB1 : Below w.heap.size w w1 := (bl_alloc (bl_alloc hB' _) _).grown hgrow1 (bl_alloc (bl_alloc hB' _) _).size (fun j hj => by cases hj; exact Nat.le_refl _)
                exact ⟨⟨q + 1, by omega, by go_num, by rw [unhide HE]; exact hown1, hB1⟩, by simp [intOf]; omega⟩
              · rw [hw] at d1
                have h0' : ¬ (r2 : Int) = 0 := by omega
                have HV : Hid (rowVal (r0, r1, r2 + 1) = rowVal (rowStep (rowOf l f.nm) (k, q, f))) := by show _ = _; rw [ho, row_more hw h0]
                go_wp2_with (first
                  | (at_lookup; refine wp_look_ok rfl _ _ 78 rfl Try.underlying78 (zeroRow _) w.heap.size (k * 40 + q) l rfl (RowMap.alloc (unhide HM) _) _ rfl hn ?_; rw [ho]; simp only [orNone, rowVal, Option.getD_some, Option.isSome_some])
                  | (at_mapUpdate; refine wp_put rfl _ _ _ 78 rfl Try.underlying78 w.heap.size (k * 40 + q) l rfl (RowMap.alloc (RowMap.alloc (unhide HM) _) _) (by unfold maxLen; omega) (k, q, f) rfl hn (unhide HV) ?_; intro w1 hown1 hgrow1)
                  | go_in)
                have hB1 : Below w.heap.size w w1 := (bl_alloc (bl_alloc hB' _) _).grown hgrow1 (bl_alloc (bl_alloc hB' _) _).size (fun j hj => by cases hj; exact Nat.le_refl _)
                exact ⟨⟨q + 1, by omega, by go_num, by rw [unhide HE]; exact hown1, hB1⟩, by simp [intOf]; omega⟩
            · rw [hw] at d1
              have HV : Hid (rowVal (r0, r1, r2) = rowVal (rowStep (rowOf l f.nm) (k, q, f))) := by show _ = _; rw [ho, row_weak _ hw]
              go_wp2_with (first
                | (at_lookup; refine wp_look_ok rfl _ _ 78 rfl Try.underlying78 (zeroRow _) w.heap.size (k * 40 + q) l rfl (RowMap.alloc (unhide HM) _) _ rfl hn ?_; rw [ho]; simp only [orNone, rowVal, Option.getD_some, Option.isSome_some])
                | (at_mapUpdate; refine wp_put rfl _ _ _ 78 rfl Try.underlying78 w.heap.size (k * 40 + q) l rfl (RowMap.alloc (RowMap.alloc (unhide HM) _) _) (by unfold maxLen; omega) (k, q, f) rfl hn (unhide HV) ?_; intro w1 hown1 hgrow1)
                | go_in)
              have hB1 : Below w.heap.size w w1 := (bl_alloc (bl_alloc hB' _) _).grown hgrow1 (bl_alloc (bl_alloc hB' _) _).size (fun j hj => by cases hj; exact Nat.le_refl _)
              exact ⟨⟨q + 1, by omega, by go_num, by rw [unhide HE]; exact hown1, hB1⟩, by simp [intOf]; omega⟩
        · have hqe : q = u.length := by omega
          subst hqe
          have HM' : Hid (RowMap wr w.heap.size ((k + 1) * 40) (flatTo us (k + 1))) := by show RowMap _ _ _ _; rw [unhide HFS]; exact (unhide HM).mono (by omega)
          go_wp2_with fail
          exact ⟨⟨k + 1, by omega, by go_num, unhide HM', hB'⟩, by simp [intOf]; omega⟩
    · have hke : k = us.length := by omega
      subst hke
      go_wp2_with fail
      go_ret
      exact ⟨rfl, (unhide HO).mono (by omega), hB⟩

theorem five_forty {us : List (List FunD)} (h : ∀ u ∈ us, u.length ≤ 5) : ∀ u ∈ us, u.length ≤ 40 := fun u hu => Nat.le_trans (h u hu) (by decide)
theorem ok_five {us : List (List FunD)} {m : Nat} (h : unitsOkB us m = true) : ∀ u ∈ us, u.length ≤ 5 := fun u hu => unit_le (units_each h u hu)
theorem ok_forty {us : List (List FunD)} {m : Nat} (h : unitsOkB us m = true) : ∀ u ∈ us, u.length ≤ 40 := five_forty (ok_five h)
/-- What the row of a name tells, in units that are right. -/
theorem row_at {us : List (List FunD)} (h : unitsOkB us 8 = true) (s : ByteArray) : pickAtB us s = (((orNone (rowOf (flat us) s)).1 : Int), ((orNone (rowOf (flat us) s)).2.1 : Int), (rowOf (flat us) s).isSome) := by
  rw [pickAtB, h, if_pos rfl, rowOf_hits (units_apart h), pickAt]
  cases bestOf (hits us s) <;> rfl
theorem row_strong {us : List (List FunD)} (h : unitsOkB us 8 = true) (s : ByteArray) : (orNone (rowOf (flat us) s)).2.2 = strongN us s := by
  rw [rowOf_hits (units_apart h), strongN]
  cases hb : bestOf (hits us s) with
  | none =>
    have : strong (hits us s) = [] := by
      unfold bestOf at hb
      rw [Option.or_eq_none_iff] at hb
      exact List.head?_eq_none_iff.1 hb.1
    rw [this]; rfl
  | some x => rfl


end Go.Proofs.Ytnmgeaonhbhbkaa.PickM
