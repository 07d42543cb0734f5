/- The contract of the program's groundOf. -/
import Derived.Test.YthbbmookhcalkaaGreatLayH
import Derived.Deep.RegionHeld3
namespace Go.Proofs.YthbbmookhcalkaaGreat.LayJ
open Go.ChangeShapes Go.WideShapes Go.ChangeAt Go.RowKit Go.Joins Go.WideMaps Go.Maps Go.Deep
open Go.Proofs.YthbbmookhcalkaaGreat.Base Go.Proofs.YthbbmookhcalkaaGreat.InsA Go.Proofs.YthbbmookhcalkaaGreat.Funs Go.Proofs.YthbbmookhcalkaaGreat.Open Go.Proofs.YthbbmookhcalkaaGreat.Keep Go.Proofs.YthbbmookhcalkaaGreat.UnitS Go.Proofs.YthbbmookhcalkaaGreat.UnitM Go.Proofs.YthbbmookhcalkaaGreat.Refs Go.Proofs.YthbbmookhcalkaaGreat.Mark Go.Proofs.YthbbmookhcalkaaGreat.LayN Go.Proofs.YthbbmookhcalkaaGreat.LayA Go.Proofs.YthbbmookhcalkaaGreat.LayD Go.Proofs.YthbbmookhcalkaaGreat.LayS Go.Proofs.YthbbmookhcalkaaGreat.LayT Go.Proofs.YthbbmookhcalkaaGreat.LayG Go.Proofs.YthbbmookhcalkaaGreat.LayH
set_option linter.unusedVariables false
set_option maxRecDepth 100000

/-- A look-up whose run is known, as one step of a region that draws. -/
theorem step_look {P : Program} {ops : Array Oper} {o : Oper} {a : Act} {w w' : World} {K : Act → World → Prop} {Q : Exit → Act → World → Prop} {E : Prop} (hgd : o.guard = none) (m x : Operand) (t : TypeId)
    (ho : o.op = Op.lookup t m x false) (v u v' : Value) (hm : a.eval m = v) (hx : a.eval x = u) (hr : (Instr.lookup t v u false).run P w = .ok v' w') (hK : K (a.put o.dst v') w') :
    if Region.wanted o (yielded ops a.tmps) = true then Oper.wp P o a w K Q else E := by
  have hw : Region.wanted o (yielded ops a.tmps) = true := by simp [Region.wanted, hgd]
  rw [if_pos hw]
  unfold Oper.wp
  simp [execOp, ho, hm, hx, hr, Result.andThen]
  exact hK
/-- An append whose run is known, so too. -/
theorem step_run {P : Program} {ops : Array Oper} {o : Oper} {a : Act} {w w' : World} {K : Act → World → Prop} {Q : Exit → Act → World → Prop} {E : Prop} (hgd : o.guard = none) (s x : Operand) (t tx : TypeId)
    (ho : o.op = Op.call { callee := Callee.builtin Builtin.append, args := #[s, x], argTypes := #[t, tx] }) (v u v' : Value) (hs : a.eval s = v) (hx : a.eval x = u) (hr : (Builtin.append_ #[t, tx] o.type #[v, u]).run P w = .ok v' w') (hK : K (a.put o.dst v') w') :
    if Region.wanted o (yielded ops a.tmps) = true then Oper.wp P o a w K Q else E := by
  have hw : Region.wanted o (yielded ops a.tmps) = true := by simp [Region.wanted, hgd]
  rw [if_pos hw]
  unfold Oper.wp
  simp [execOp, ho, resolve, invoke, builtin, hs, hx, hr, Result.andThen]
  exact hK
/-- A store into a map whose run is known, so too. -/
theorem step_put {P : Program} {ops : Array Oper} {o : Oper} {a : Act} {w w' : World} {K : Act → World → Prop} {Q : Exit → Act → World → Prop} {E : Prop} (hgd : o.guard = none) (m x v : Operand) (t : TypeId)
    (ho : o.op = Op.mapUpdate t m x v) (mv xv vv : Value) (hm : a.eval m = mv) (hx : a.eval x = xv) (hv : a.eval v = vv) (hr : (Instr.mapUpdate t mv xv vv).run P w = .ok () w') (hK : K (a.put o.dst undef) w') :
    if Region.wanted o (yielded ops a.tmps) = true then Oper.wp P o a w K Q else E := by
  have hw : Region.wanted o (yielded ops a.tmps) = true := by simp [Region.wanted, hgd]
  rw [if_pos hw]
  unfold Oper.wp
  simp [execOp, ho, hm, hx, hv, hr, Result.andThen]
  exact hK
theorem box4 {w : World} {B : Nat} {v0 v1 v2 v3 : Value} {t : TypeId} (h : w.heap[B]? = some (.cells #[v0, v1, v2, v3] t)) :
    (w.cell? ⟨B, 0, none⟩ = some v0 ∧ w.cell? ⟨B, 1, none⟩ = some v1 ∧ w.cell? ⟨B, 2, none⟩ = some v2 ∧ w.cell? ⟨B, 3, none⟩ = some v3) ∧ (w.frozen? ⟨B, 0, none⟩ = false ∧ w.frozen? ⟨B, 1, none⟩ = false ∧ w.frozen? ⟨B, 2, none⟩ = false ∧ w.frozen? ⟨B, 3, none⟩ = false) :=
  ⟨⟨by rw [cell_of_block h]; rfl, by rw [cell_of_block h]; rfl, by rw [cell_of_block h]; rfl, by rw [cell_of_block h]; rfl⟩, unfrozen_of_block h 0, unfrozen_of_block h 1, unfrozen_of_block h 2, unfrozen_of_block h 3⟩
theorem box_23 {w : World} {B : Nat} {v0 v1 v2 v3 : Value} {t : TypeId} (h : w.heap[B]? = some (.cells #[v0, v1, v2, v3] t)) : w.cell? ⟨B, 2, none⟩ = some v2 ∧ w.cell? ⟨B, 3, none⟩ = some v3 := (box4 h).1.2.2
/-- What is stored into the block of the answer. -/
theorem GS.set {W w : World} {G B1 B2 ka kb : Nat} {l : List (ByteArray × Nat)} {sz : Nat} {na : Option Addr} {nc : Nat} {fs : List FunD} {st : List (List ByteArray)} (h : GS W w G B1 B2 ka kb l sz na nc fs st) {q o : Nat} (hq : q < B1) (hW : W.heap.size ≤ q) (v : Value) : GS W (w.setCell ⟨q, o, none⟩ v) G B1 B2 ka kb l sz na nc fs st := by
  obtain ⟨D, hg, hr⟩ := h.grp
  have hgr := grown_set w q o v
  have h1 := h.o1; have h2 := h.o2; have h3 := h.o3; have hl := h.lt
  have hlo : ∀ j, (Value.slice na ka nc).ownBlock = some j → G ≤ j := fun j hj => (World.ownsRow.lt h.row j hj).1
  exact ⟨(hgr.block G hl (by simp; omega)).trans h.box, map_kept h.beg (hgr.block B1 (by omega) (by simp; omega)), ⟨D, hg.kept hgr (by simp; omega) (hg.rowsAbove (fun j e => by cases e; omega)), hr⟩, h.shn.kept hgr (by omega) (by simp; omega), h.row.kept hgr (.inr (fun e => by have := hlo _ e; omega)), h.blw.setCell (by show W.heap.size ≤ q; omega) _, h1, h2, h3⟩
def gsBox (w : World) : World := (((w.alloc (.cells #[.slice none 0 0, .map none, .map none, .int .i64 0] 58)).alloc (.map #[] 0)).alloc (.map #[] 0)).alloc (.cells #[.slice none 0 0, .map (some (w.heap.size + 1)), .map (some (w.heap.size + 1 + 1)), .int .i64 0] 58)
theorem gs_start (w : World) (fs : List FunD) (st : List (List ByteArray)) : GS w (gsBox w) (w.heap.size + 1 + 1 + 1) (w.heap.size + 1) (w.heap.size + 1 + 1) 0 0 [] 0 none 0 fs st := by
  unfold gsBox
  generalize (.cells #[.slice none 0 0, .map none, .map none, .int .i64 0] 58 : Obj) = o1
  have e1 : (w.alloc o1).heap.size = w.heap.size + 1 := by simp
  have e2 : ((w.alloc o1).alloc (.map #[] 0)).heap.size = w.heap.size + 1 + 1 := by simp
  have hm1 := World.ownsMap_made (H := Unit) (w.alloc o1) Tryz.prog 9 (plainElem Tryz.prog 3)
  have hm2 := World.ownsGroups_made (H := Unit) ((w.alloc o1).alloc (.map #[] 0)) Tryz.prog 9 3 .i64
  have hs2 := World.Shuns_made ((w.alloc o1).alloc (.map #[] 0)) (NoB (w.heap.size + 1 + 1 + 1) (.slice none 0 0))
  rw [e1] at hm1
  rw [e2] at hm2 hs2
  generalize hW3 : ((w.alloc o1).alloc (.map #[] 0)).alloc (.map #[] 0) = W3 at *
  have e3 : W3.heap.size = w.heap.size + 1 + 1 + 1 := by rw [← hW3]; simp
  have hb3 : Below (w.heap.size + 1 + 1) ((w.alloc o1).alloc (.map #[] 0)) W3 := by rw [← hW3, ← e2]; exact below_alloc1 _ _
  have hbw : Below w.heap.size w W3 := by rw [← hW3]; exact below_alloc3 _ _ _ _
  have hb4 := below_alloc1 W3 (.cells #[.slice none 0 0, .map (some (w.heap.size + 1)), .map (some (w.heap.size + 1 + 1)), .int .i64 0] 58)
  have hn := new_block W3 (.cells #[.slice none 0 0, .map (some (w.heap.size + 1)), .map (some (w.heap.size + 1 + 1)), .int .i64 0] 58)
  rw [e3] at hn
  exact ⟨hn, map_kept hm1 ((hb4.block _ (by omega)).trans (hb3.block _ (by omega))), ⟨.map [], hm2.kept (row := none) (grown_below hb4 _) (by simp) (fun _ _ _ x _ => by cases x.val.ownBlock <;> simp), GR.nil⟩, hs2.kept (row := none) (grown_below hb4 _) (by omega) (by simp), World.ownsRow_nil _ _ _ _, bl_trans hbw hb4, by omega, by omega, by omega⟩
theorem cell_two (w : World) (o : Obj) (x : Value) (t : TypeId) : ∀ j u, [x][j]? = some u → ((w.alloc o).alloc (.cells #[x] t)).cell? ((⟨w.heap.size + 1, 0, none⟩ : Addr).add j) = some u := by
  have := cell_one_new (w.alloc o) x t
  rwa [World.size_alloc] at this
theorem fun_place {fs : List FunD} {st : List (List ByteArray)} {k : Nat} : place fs st (k + 1) = place fs st k + lenAt fs k + (stAt st k).length := rfl
set_option maxHeartbeats 16000000 in
theorem groundOf_any (a sa : Option Addr) (cap sc : Nat) (fs : List FunD) (st : List (List ByteArray)) (w : World) (h40 : fs.length ≤ 40) (h10 : ∀ f ∈ fs, f.body.length ≤ 10) (hst : st.length = fs.length) (hft : FewT st) (hcap : fs.length ≤ cap) (hcm : cap ≤ maxLen) (h3 : st.length ≤ sc) (h4 : sc ≤ maxLen) (hR : FunRow w a fs) (ho : TextsRow w sa st) :
    Calls Tryz.prog 26 #[.slice a fs.length cap, .slice sa st.length sc] w fun e w' => ∃ na nc G B1 B2, e = .returned (.agg #[.slice na fs.length nc, .map (some B1), .map (some B2), .int .i64 (place fs st fs.length : Nat)]) ∧ GS w w' G B1 B2 fs.length fs.length (stonesTo fs st fs.length) (place fs st fs.length) na nc fs st := by
  have HR := hide hR
  have HO := hide ho
  have HSZ := hide ho.sizes
  have HPB := hide (place_small h40 h10 hst hft)
  have HFT := hide hft.2
  have H10 := hide h10
  have HSL : Hid (∀ k, k ≤ fs.length → (stonesTo fs st k).length ≤ k * 1048576) := by
    intro k
    induction k with
    | zero => intro _; simp [stonesTo]
    | succ k ih =>
      intro hk
      have := ih (by omega)
      have := hft.2 st[k] (List.getElem_mem (by omega))
      rw [stonesTo, List.length_append, stAt_is (by omega : k < st.length), Nat.succ_mul]
      simp [rowSt]
      omega
  have HST := hide hst
  have hls : (st.length : Int) ≤ 9223372036854775807 := by unfold maxLen at h4; omega
  clear hR ho h10 hft hst
  obtain ⟨i0, hi, hz0, hz1, hz2⟩ := info_int
  have hmm := @run_makeMap Tryz.prog
  have HG0 := hide (gs_start w fs st)
  go_enter Tryz.func26, Tryz.ntmps26
  go_wp2_with fail
  have HB0 : Hid ((gsBox w).heap[w.heap.size]? = some (.cells #[.slice none 0 0, .map none, .map none, .int .i64 0] 58)) := box_below (box_below (box_below (new_block w _) (below_alloc1 _ _)) (below_alloc1 _ _)) (below_alloc1 _ _)
  clear hmm
  go_loopw [15] (fun i w' => ∃ (k : Nat) (na : Option Addr) (nc : Nat), k ≤ fs.length ∧ i = .int .i64 k ∧ GS w w' (w.heap.size + 1 + 1 + 1) (w.heap.size + 1) (w.heap.size + 1 + 1) k k (stonesTo fs st k) (place fs st k) na nc fs st ∧ w'.heap[w.heap.size]? = some (.cells #[.slice none 0 0, .map none, .map none, .int .i64 0] 58)) (fun i _ => fs.length - (intOf i).toNat)
  case atStart => exact ⟨0, none, 0, Nat.zero_le _, rfl, unhide HG0, unhide HB0⟩
  case round =>
    obtain ⟨k, na, nc, hk, rfl, hG, hB0⟩ := hrel
    clear HG0 HB0
    have HG := hide hG
    have HB0 := hide hB0
    have hord := hG.o3
    have hGl := hG.lt
    have hX := box4 hG.box
    have hpb := unhide HPB k hk
    clear hG hB0
    by_cases hkl : k < fs.length
    · have hkl' : (k : Int) < (fs.length : Int) := by omega
      have hks : k < st.length := by rw [unhide HST]; exact hkl
      have hks' : (k : Int) < (st.length : Int) := by omega
      obtain ⟨b, off, rfl⟩ := (unhide HR).get (by omega)
      obtain ⟨sb, so, rfl⟩ := (unhide HO).get (by omega)
      obtain ⟨ai, ci, c0, c1, c2, hn, h4', h5', _⟩ := ((unhide HR).below (unhide HG).blw).at hkl
      have hfl := unhide H10 fs[k] (List.getElem_mem _)
      have HTR := hide ((unhide HO).at hks)
      have hsl := unhide HFT st[k] (List.getElem_mem _)
      have HTZ := hide (unhide HSZ st[k] (List.getElem_mem _)).2
      have HPS : Hid (place fs st (k + 1) = place fs st k + fs[k].body.length + st[k].length) := by show _ = _; rw [fun_place, lenAt_is hkl, stAt_is hks]
      have HSS : Hid (stonesTo fs st (k + 1) = stonesTo fs st k ++ rowSt (place fs st k + fs[k].body.length) st[k] st[k].length) := by show _ = _; rw [stonesTo, stAt_is hks, lenAt_is hkl]
      have HRS0 := hide (fun j (h : j < st[k].length) => rowSt_succ (p := place fs st k + fs[k].body.length) h)
      have HBDS := hide (BD_succ (st := st) hkl)
      have hsl0 := unhide HSL k hk
      have hkey : keyOf Tryz.prog 9 (.string fs[k].nm) = some (keyS fs[k].nm) := keyOf_string_mk Tryz.underlying9 hn
      have hwf := nat_wf (x := place fs st k) (by omega)
      have HAPP := hide (fun (w4 : World) (v4 : Value) => GS.app (w4 := w4) (v4 := v4) (unhide HG) (below_alloc2 wr (.cells #[.string fs[k].nm, .bool fs[k].wk, .slice ai fs[k].body.length ci] 51) (.cells #[.int .i64 (place fs st k : Int)] 3)))
      have HROW := hide ((unhide HG).next (below_alloc2 wr (.cells #[.string fs[k].nm, .bool fs[k].wk, .slice ai fs[k].body.length ci] 51) (.cells #[.int .i64 (place fs st k : Int)] 3)))
      have HF0 : Hid (∀ w4, ((wr.alloc (.cells #[.string fs[k].nm, .bool fs[k].wk, .slice ai fs[k].body.length ci] 51)).alloc (.cells #[.int .i64 (place fs st k : Int)] 3)).grownBy w4 (Value.slice na k nc).ownBlock → w4.heap[wr.heap.size]? = some (.cells #[.string fs[k].nm, .bool fs[k].wk, .slice ai fs[k].body.length ci] 51) ∧ w4.heap[w.heap.size + 1 + 1 + 1]? = some (.cells #[.slice na k nc, .map (some (w.heap.size + 1)), .map (some (w.heap.size + 1 + 1)), .int .i64 (place fs st k : Int)] 58) ∧ w4.heap[w.heap.size]? = some (.cells #[.slice none 0 0, .map none, .map none, .int .i64 0] 58)) := fun w4 hg => by
        have hlo : ∀ q, (Value.slice na k nc).ownBlock = some q → w.heap.size + 1 + 1 + 1 ≤ q ∧ q < wr.heap.size := fun q hq => World.ownsRow.lt (unhide HG).row q hq
        have e0 := hg.block wr.heap.size (by simp; omega) (fun e => by have := hlo _ e.symm; omega)
        have e1 := hg.block (w.heap.size + 1 + 1 + 1) (by simp; omega) (fun e => (unhide HG).ne e.symm)
        have e2 := hg.block w.heap.size (by simp; omega) (fun e => by have := hlo _ e.symm; omega)
        exact ⟨e0.trans (box_below (new_block wr _) (below_alloc1 _ _)), e1.trans (box_below (box_below (unhide HG).box (below_alloc1 _ _)) (below_alloc1 _ _)), e2.trans (box_below (box_below (unhide HB0) (below_alloc1 _ _)) (below_alloc1 _ _))⟩
      obtain ⟨tai, tci, t0, t5, t6, t7⟩ := unhide HTR
      have hsb := World.block_lt_of_cell? w _ t0
      have HT7 := hide t7
      have HTC : Hid (∀ w', Below w.heap.size w w' → w'.cell? ⟨sb, so + k, none⟩ = some (.slice tai st[k].length tci)) := fun w' hb => cell_below hb t0
      clear t0 t7
      generalize fs[k] = f at *
      generalize st[k] = ss at *
      generalize place fs st k = pl at *
      go_wp2_with (first
        | (at_builtin; refine wpList_append_own_at _ rfl _ _ 23 rfl (w.heap.size + 1 + 1 + 1) 3 i0 _ 1 8 Tryz.underlying23 hi hz0 hz1 hz2 rfl (by decide) _ k ((placesTo fs st k).map (Value.int .i64)) rfl (unhide HROW).row ⟨wr.heap.size + 1, 0, none⟩ 1 1 [.int .i64 (pl : Int)] rfl rfl (cell_two _ _ _ _) (by simp [Value.oneCell']) (by unfold maxLen; omega) (by omega) (by simp; omega) ?_; intro v4 w4 hown4 hgrow4 _ hat4; obtain ⟨na4, nc4, rfl, hG4⟩ := unhide HAPP w4 v4 hgrow4 hown4 hat4; obtain ⟨hF4, hX4, hZ4⟩ := unhide HF0 w4 hgrow4; have hX4' := box4 hX4; have hF4' := box3 hF4)
        | (at_mapUpdate; refine wpList_mapUpdate_own _ rfl _ _ _ 55 rfl 9 3 lawS Tryz.underlying55 _ (w.heap.size + 1) k _ rfl hG4.beg (by unfold maxLen; omega) _ _ _ rfl rfl hkey _ [] (plainElem_int Tryz.underlying3 hwf) ?_; intro w6 hown6 hgrow6; rw [← unhide HBDS] at hown6; have hG6 := GS.put hG4 hown6 hgrow6; have hX6 := box4 hG6.box; have hF6 := box3 ((hgrow6.block wr.heap.size (by have := hG4.lt; have := (Array.getElem?_eq_some_iff.1 hF4).1; simp; omega) (by simp; omega)).trans (set_other hF4 (by omega))); have hZ6 := (hgrow6.block w.heap.size (by have := hG4.lt; omega) (by simp)).trans (set_other hZ4 (by omega)); have hT6 := unhide HTC _ hG6.blw)
        | fail)
      have HG7 : Hid (GS w (w6.setCell ⟨w.heap.size + 1 + 1 + 1, 3, none⟩ (.int .i64 ((pl : Int) + (f.body.length : Int)))) (w.heap.size + 1 + 1 + 1) (w.heap.size + 1) (w.heap.size + 1 + 1) (k + 1) (k + 1) (stonesTo fs st k) (pl + f.body.length) na4 nc4 fs st) := by
        have hz := GS.size hG6 (pl + f.body.length)
        rw [Int.natCast_add] at hz
        exact hz
      have HZ7 := hide (set_other (o := 3) (v := .int .i64 ((pl : Int) + (f.body.length : Int))) hZ6 (show w.heap.size + 1 + 1 + 1 ≠ w.heap.size by omega))
      have hp0 : pl + f.body.length ≤ 42000010 := by omega
      clear hX hX4' hF4' hX6 hF6 hZ6 hT6 hG6 hG4 hX4 hF4 hZ4 hown4 hgrow4 hat4 hown6 hgrow6 hkey hwf c0 c1 c2 HAPP HROW HF0 HTC
      generalize stonesTo fs st k = L0 at *
      generalize hpp : pl + f.body.length = p0 at *
      have HPP := hide hpp
      clear hpp
      go_loopw [45] (fun i w' => ∃ j : Nat, j ≤ ss.length ∧ i = .int .i64 j ∧ GS w w' (w.heap.size + 1 + 1 + 1) (w.heap.size + 1) (w.heap.size + 1 + 1) (k + 1) (k + 1) (L0 ++ rowSt p0 ss j) (p0 + j) na4 nc4 fs st ∧ w'.heap[w.heap.size]? = some (.cells #[.slice none 0 0, .map none, .map none, .int .i64 0] 58)) (fun i _ => ss.length - (intOf i).toNat)
      case atStart => exact ⟨0, Nat.zero_le _, rfl, by rw [rowSt_zero, List.append_nil]; exact unhide HG7, unhide HZ7⟩
      case round =>
        obtain ⟨j, hj, rfl, hGD, hZ⟩ := hrel
        clear HG7 HZ7
        have HGD := hide hGD
        have HZ := hide hZ
        have hwl := (Array.getElem?_eq_some_iff.1 hZ).1
        by_cases hjl : j < ss.length
        · have hjl' : (j : Int) < (ss.length : Int) := by omega
          obtain ⟨tb, to', rfl⟩ := (unhide HT7).get (by omega)
          obtain ⟨u0, hsz⟩ := ((unhide HT7).below hGD.blw).cells hjl
          have HRS : Hid (L0 ++ rowSt p0 ss (j + 1) = (L0 ++ rowSt p0 ss j) ++ [(ss[j], p0 + j)]) := by show _ = _; rw [unhide HRS0 j hjl, List.append_assoc]
          have hll : (L0 ++ rowSt p0 ss j).length ≤ 100000000 := by
            rw [List.length_append]
            have e1 : (rowSt p0 ss j).length = j := by simp [rowSt]
            have e2 : k * 1048576 ≤ 40 * 1048576 := Nat.mul_le_mul_right _ (by omega)
            omega
          have hbx := hGD.box
          clear hGD hZ
          generalize ss[j] = s at *
          generalize hq : p0 + j = q at *
          have HQ := hide hq
          have hql : q ≤ 1000000000 := by omega
          have HS0 := box_23 hbx
          clear hq hbx
          go_wp2_with fail
          refine wp_region_held_drew (S := (fun w' => w'.cell? ⟨w.heap.size + 1 + 1 + 1, 2, none⟩ = some (.map (some (w.heap.size + 1 + 1))) ∧ w'.cell? ⟨w.heap.size + 1 + 1 + 1, 3, none⟩ = some (.int .i64 (q : Int)))) (by kernel_rfl) HS0 (fun hHeld => ?_)
          refine wpAnyH_take (i := 0) (oi := { dst := some 49, op := Go.Op.fieldAddr 58 (Go.Operand.tmp 5) 2, type := 0, pos := "l7_lay.go:135", after := #[], guard := none }) (v := ?vg0) rfl (by kernel_rfl) (by kernel_rfl) (by kernel_rfl) (fun _ _ _ h => h) (Or.inl ⟨by rfl, ?yg0⟩) (by assumption) ?rg0
          case yg0 => (intro w hSw; (try dsimp only at hSw); go_simp; try (with_reducible rfl))
          try simp only [Act.put, List.setIfInBounds_toArray, List.set_cons_zero, List.set_cons_succ]
          refine wpAnyH_take (i := 1) (oi := { dst := some 50, op := Go.Op.load 56 (Go.Operand.tmp 49), type := 56, pos := "l7_lay.go:135", after := #[{ on := 0, ground := Go.Ground.data }], guard := none }) (v := ?vg1) rfl (by kernel_rfl) (by kernel_rfl) (by kernel_rfl) (fun _ _ _ h => h) (Or.inl ⟨by rfl, ?yg1⟩) (by assumption) ?rg1
          case yg1 => (intro w hSw; (try dsimp only at hSw); go_simp; try (with_reducible rfl))
          try simp only [Act.put, List.setIfInBounds_toArray, List.set_cons_zero, List.set_cons_succ]
          refine wpAnyH_take (i := 2) (oi := { dst := some 51, op := Go.Op.move (Go.Operand.tmp 9), type := 9, pos := "l7_lay.go:135", after := #[], guard := none }) (v := ?vg2) rfl (by kernel_rfl) (by kernel_rfl) (by kernel_rfl) (fun _ _ _ h => h) (Or.inl ⟨by rfl, ?yg2⟩) (by assumption) ?rg2
          case yg2 => (intro w hSw; (try dsimp only at hSw); go_simp; try (with_reducible rfl))
          try simp only [Act.put, List.setIfInBounds_toArray, List.set_cons_zero, List.set_cons_succ]
          refine wpAnyH_take (i := 3) (oi := { dst := some 52, op := Go.Op.fieldAddr 58 (Go.Operand.tmp 5) 2, type := 0, pos := "l7_lay.go:135", after := #[], guard := none }) (v := ?vg3) rfl (by kernel_rfl) (by kernel_rfl) (by kernel_rfl) (fun _ _ _ h => h) (Or.inl ⟨by rfl, ?yg3⟩) (by assumption) ?rg3
          case yg3 => (intro w hSw; (try dsimp only at hSw); go_simp; try (with_reducible rfl))
          try simp only [Act.put, List.setIfInBounds_toArray, List.set_cons_zero, List.set_cons_succ]
          refine wpAnyH_take (i := 4) (oi := { dst := some 53, op := Go.Op.load 56 (Go.Operand.tmp 52), type := 56, pos := "l7_lay.go:135", after := #[{ on := 3, ground := Go.Ground.data }], guard := none }) (v := ?vg4) rfl (by kernel_rfl) (by kernel_rfl) (by kernel_rfl) (fun _ _ _ h => h) (Or.inl ⟨by rfl, ?yg4⟩) (by assumption) ?rg4
          case yg4 => (intro w hSw; (try dsimp only at hSw); go_simp; try (with_reducible rfl))
          try simp only [Act.put, List.setIfInBounds_toArray, List.set_cons_zero, List.set_cons_succ]
          refine wpAnyH_take (i := 5) (oi := { dst := some 54, op := Go.Op.move (Go.Operand.tmp 9), type := 9, pos := "l7_lay.go:135", after := #[], guard := none }) (v := ?vg5) rfl (by kernel_rfl) (by kernel_rfl) (by kernel_rfl) (fun _ _ _ h => h) (Or.inl ⟨by rfl, ?yg5⟩) (by assumption) ?rg5
          case yg5 => (intro w hSw; (try dsimp only at hSw); go_simp; try (with_reducible rfl))
          try simp only [Act.put, List.setIfInBounds_toArray, List.set_cons_zero, List.set_cons_succ]
          refine wpAnyH_take (i := 7) (oi := { dst := some 56, op := Go.Op.fieldAddr 58 (Go.Operand.tmp 5) 3, type := 0, pos := "l7_lay.go:135", after := #[], guard := none }) (v := ?vg7) rfl (by kernel_rfl) (by kernel_rfl) (by kernel_rfl) (fun _ _ _ h => h) (Or.inl ⟨by rfl, ?yg7⟩) (by assumption) ?rg7
          case yg7 => (intro w hSw; (try dsimp only at hSw); go_simp; try (with_reducible rfl))
          try simp only [Act.put, List.setIfInBounds_toArray, List.set_cons_zero, List.set_cons_succ]
          refine wpAnyH_take (i := 8) (oi := { dst := some 57, op := Go.Op.load 3 (Go.Operand.tmp 56), type := 3, pos := "l7_lay.go:135", after := #[{ on := 7, ground := Go.Ground.data }], guard := none }) (v := ?vg8) rfl (by kernel_rfl) (by kernel_rfl) (by kernel_rfl) (fun _ _ _ h => h) (Or.inl ⟨by rfl, ?yg8⟩) (by assumption) ?rg8
          case yg8 => (intro w hSw; (try dsimp only at hSw); go_simp; try (with_reducible rfl))
          try simp only [Act.put, List.setIfInBounds_toArray, List.set_cons_zero, List.set_cons_succ]
          refine wpAnyH_ready (rs := [6, 9]) (by kernel_rfl) (by simp) ?_
          refine AllReadyH.cons (o := { dst := some 55, op := Go.Op.lookup 56 (Go.Operand.tmp 53) (Go.Operand.tmp 54) false, type := 23, pos := "l7_lay.go:135", after := #[{ on := 4, ground := Go.Ground.data }, { on := 5, ground := Go.Ground.data }], guard := none }) rfl (fun K hK => ?_) ?_
          · skip
            obtain ⟨v, r1, v', A2, r2, w3, r3, hG3, hgG, hZ3⟩ := GS.more (L := wr.drew) (unhide HGD) (Below.refl _ _).drew (below_alloc1 _ (.cells #[.int .i64 (q : Int)] 3)) hll hsz hql (new_block _ _) 23
            refine step_look rfl (.tmp 53) (.tmp 54) 56 rfl (.map (some (w.heap.size + 1 + 1))) (.string s) v (by simp [Act.eval]) (by simp [Act.eval]) r1 ?_
            refine hK.out _ _ hHeld (fun _ => ?_)
            clear hK K
            try simp only [Act.put, List.setIfInBounds_toArray, List.set_cons_zero, List.set_cons_succ]
            refine wpAnyH_ready (rs := [9]) (by kernel_rfl) (by simp) ?_
            refine AllReadyH.cons (o := { dst := some 58, op := Go.Op.buildSlice 23 1 #[(0, Go.Operand.tmp 57)], type := 23, pos := "l7_lay.go:135", after := #[{ on := 8, ground := Go.Ground.data }], guard := none }) rfl (fun K hK => ?_) AllReadyH.nil
            go_simp
            replace hHeld := (Stable.and (Stable.cell _ _) (Stable.cell _ _)).alloc hHeld (.cells #[.int .i64 (q : Int)] 3)
            refine hK.out _ _ hHeld (fun _ => ?_)
            clear hK K
            try simp only [Act.put, List.setIfInBounds_toArray, List.set_cons_zero, List.set_cons_succ]
            refine wpAnyH_ready (rs := [10]) (by kernel_rfl) (by simp) ?_
            refine AllReadyH.cons (o := { dst := some 59, op := Go.Op.call { callee := Go.Callee.builtin Go.Builtin.append, args := #[Go.Operand.tmp 55, Go.Operand.tmp 58], argTypes := #[23, 23] }, type := 23, pos := "l7_lay.go:135", after := #[{ on := 6, ground := Go.Ground.data }, { on := 9, ground := Go.Ground.data }], guard := none }) rfl (fun K hK => ?_) AllReadyH.nil
            refine step_run rfl (.tmp 55) (.tmp 58) 23 23 rfl v (.slice (some ⟨wr.drew.heap.size, 0, none⟩) 1 1) v' (by simp [Act.eval]) (by simp [Act.eval]) r2 ?_
            replace hHeld := box_23 (hgG.trans (unhide HGD).box)
            refine hK.out _ _ hHeld (fun _ => ?_)
            clear hK K
            try simp only [Act.put, List.setIfInBounds_toArray, List.set_cons_zero, List.set_cons_succ]
            refine wpAnyH_ready (rs := [11]) (by kernel_rfl) (by simp) ?_
            refine AllReadyH.cons (o := { dst := none, op := Go.Op.mapUpdate 56 (Go.Operand.tmp 50) (Go.Operand.tmp 51) (Go.Operand.tmp 59), type := 0, pos := "l7_lay.go:135", after := #[{ on := 1, ground := Go.Ground.data }, { on := 2, ground := Go.Ground.data }, { on := 10, ground := Go.Ground.data }, { on := 10, ground := Go.Ground.chain }, { on := 0, ground := Go.Ground.phase }, { on := 1, ground := Go.Ground.phase }, { on := 2, ground := Go.Ground.phase }, { on := 3, ground := Go.Ground.phase }, { on := 4, ground := Go.Ground.phase }, { on := 5, ground := Go.Ground.phase }, { on := 6, ground := Go.Ground.phase }, { on := 7, ground := Go.Ground.phase }, { on := 8, ground := Go.Ground.phase }, { on := 9, ground := Go.Ground.phase }, { on := 10, ground := Go.Ground.phase }], guard := none }) rfl (fun K hK => ?_) AllReadyH.nil
            refine step_put rfl (.tmp 50) (.tmp 51) (.tmp 59) 56 rfl (.map (some (w.heap.size + 1 + 1))) (.string s) v' (by simp [Act.eval]) (by simp [Act.eval]) (by simp [Act.eval]) r3 ?_
            replace hHeld := box_23 hG3.box
            refine hK.out _ _ hHeld (fun _ => ?_)
            clear hK K
            try simp only [Act.put]
            refine wpAnyH_done (by kernel_rfl) ?_ _
            have hX3 := box4 hG3.box
            have HG3 := hide hG3
            have HZ3 := hide ((hZ3 w.heap.size (by omega)).trans ((below_alloc1 _ _).block _ (by show w.heap.size < wr.drew.heap.size; exact hwl) |>.trans (unhide HZ)))
            clear hHeld hG3 hgG hZ3 r1 r2 r3
            go_wp2_with fail
            have HG4 : Hid (GS w (w3.setCell ⟨w.heap.size + 1 + 1 + 1, 3, none⟩ (.int .i64 ((q : Int) + 1))) (w.heap.size + 1 + 1 + 1) (w.heap.size + 1) (w.heap.size + 1 + 1) (k + 1) (k + 1) (L0 ++ rowSt p0 ss (j + 1)) (p0 + (j + 1)) na4 nc4 fs st) := by
              have hz := GS.size (unhide HG3) (q + 1)
              rw [unhide HRS, show p0 + (j + 1) = q + 1 by have := unhide HQ; omega]
              rw [Int.natCast_add] at hz
              exact hz
            exact ⟨⟨j + 1, by omega, by go_num, unhide HG4, set_other (unhide HZ3) (by omega)⟩, by simp [intOf]; omega⟩
          · skip
            refine AllReadyH.cons (o := { dst := some 58, op := Go.Op.buildSlice 23 1 #[(0, Go.Operand.tmp 57)], type := 23, pos := "l7_lay.go:135", after := #[{ on := 8, ground := Go.Ground.data }], guard := none }) rfl (fun K hK => ?_) AllReadyH.nil
            go_simp
            replace hHeld := (Stable.and (Stable.cell _ _) (Stable.cell _ _)).alloc hHeld (.cells #[.int .i64 (q : Int)] 3)
            refine hK.out _ _ hHeld (fun _ => ?_)
            clear hK K
            try simp only [Act.put, List.setIfInBounds_toArray, List.set_cons_zero, List.set_cons_succ]
            obtain ⟨v, r1, v', A2, r2, w3, r3, hG3, hgG, hZ3⟩ := GS.more (L := wr.drew.alloc (.cells #[.int .i64 (q : Int)] 3)) (unhide HGD) (bl_alloc (Below.refl _ _).drew _) (Below.refl _ _) hll hsz hql (new_block _ _) 23
            refine wpAnyH_ready (rs := [6]) (by kernel_rfl) (by simp) ?_
            refine AllReadyH.cons (o := { dst := some 55, op := Go.Op.lookup 56 (Go.Operand.tmp 53) (Go.Operand.tmp 54) false, type := 23, pos := "l7_lay.go:135", after := #[{ on := 4, ground := Go.Ground.data }, { on := 5, ground := Go.Ground.data }], guard := none }) rfl (fun K hK => ?_) AllReadyH.nil
            refine step_look rfl (.tmp 53) (.tmp 54) 56 rfl (.map (some (w.heap.size + 1 + 1))) (.string s) v (by simp [Act.eval]) (by simp [Act.eval]) r1 ?_
            refine hK.out _ _ hHeld (fun _ => ?_)
            clear hK K
            try simp only [Act.put, List.setIfInBounds_toArray, List.set_cons_zero, List.set_cons_succ]
            refine wpAnyH_ready (rs := [10]) (by kernel_rfl) (by simp) ?_
            refine AllReadyH.cons (o := { dst := some 59, op := Go.Op.call { callee := Go.Callee.builtin Go.Builtin.append, args := #[Go.Operand.tmp 55, Go.Operand.tmp 58], argTypes := #[23, 23] }, type := 23, pos := "l7_lay.go:135", after := #[{ on := 6, ground := Go.Ground.data }, { on := 9, ground := Go.Ground.data }], guard := none }) rfl (fun K hK => ?_) AllReadyH.nil
            refine step_run rfl (.tmp 55) (.tmp 58) 23 23 rfl v (.slice (some ⟨wr.drew.heap.size, 0, none⟩) 1 1) v' (by simp [Act.eval]) (by simp [Act.eval]) r2 ?_
            replace hHeld := box_23 (hgG.trans (unhide HGD).box)
            refine hK.out _ _ hHeld (fun _ => ?_)
            clear hK K
            try simp only [Act.put, List.setIfInBounds_toArray, List.set_cons_zero, List.set_cons_succ]
            refine wpAnyH_ready (rs := [11]) (by kernel_rfl) (by simp) ?_
            refine AllReadyH.cons (o := { dst := none, op := Go.Op.mapUpdate 56 (Go.Operand.tmp 50) (Go.Operand.tmp 51) (Go.Operand.tmp 59), type := 0, pos := "l7_lay.go:135", after := #[{ on := 1, ground := Go.Ground.data }, { on := 2, ground := Go.Ground.data }, { on := 10, ground := Go.Ground.data }, { on := 10, ground := Go.Ground.chain }, { on := 0, ground := Go.Ground.phase }, { on := 1, ground := Go.Ground.phase }, { on := 2, ground := Go.Ground.phase }, { on := 3, ground := Go.Ground.phase }, { on := 4, ground := Go.Ground.phase }, { on := 5, ground := Go.Ground.phase }, { on := 6, ground := Go.Ground.phase }, { on := 7, ground := Go.Ground.phase }, { on := 8, ground := Go.Ground.phase }, { on := 9, ground := Go.Ground.phase }, { on := 10, ground := Go.Ground.phase }], guard := none }) rfl (fun K hK => ?_) AllReadyH.nil
            refine step_put rfl (.tmp 50) (.tmp 51) (.tmp 59) 56 rfl (.map (some (w.heap.size + 1 + 1))) (.string s) v' (by simp [Act.eval]) (by simp [Act.eval]) (by simp [Act.eval]) r3 ?_
            replace hHeld := box_23 hG3.box
            refine hK.out _ _ hHeld (fun _ => ?_)
            clear hK K
            try simp only [Act.put]
            refine wpAnyH_done (by kernel_rfl) ?_ _
            have hX3 := box4 hG3.box
            have HG3 := hide hG3
            have HZ3 := hide ((hZ3 w.heap.size (by omega)).trans ((below_alloc1 _ _).block _ (by show w.heap.size < wr.drew.heap.size; exact hwl) |>.trans (unhide HZ)))
            clear hHeld hG3 hgG hZ3 r1 r2 r3
            go_wp2_with fail
            have HG4 : Hid (GS w (w3.setCell ⟨w.heap.size + 1 + 1 + 1, 3, none⟩ (.int .i64 ((q : Int) + 1))) (w.heap.size + 1 + 1 + 1) (w.heap.size + 1) (w.heap.size + 1 + 1) (k + 1) (k + 1) (L0 ++ rowSt p0 ss (j + 1)) (p0 + (j + 1)) na4 nc4 fs st) := by
              have hz := GS.size (unhide HG3) (q + 1)
              rw [unhide HRS, show p0 + (j + 1) = q + 1 by have := unhide HQ; omega]
              rw [Int.natCast_add] at hz
              exact hz
            exact ⟨⟨j + 1, by omega, by go_num, unhide HG4, set_other (unhide HZ3) (by omega)⟩, by simp [intOf]; omega⟩
        · have hjl' : ¬ (j : Int) < (ss.length : Int) := by omega
          have HGE : Hid (GS w wr (w.heap.size + 1 + 1 + 1) (w.heap.size + 1) (w.heap.size + 1 + 1) (k + 1) (k + 1) (stonesTo fs st (k + 1)) (place fs st (k + 1)) na4 nc4 fs st) := by
            have e : j = ss.length := by omega
            subst e
            rw [unhide HSS, unhide HPS]
            exact unhide HGD
          clear hGD hZ
          go_wp2_with fail
          exact ⟨⟨k + 1, na4, nc4, by omega, by go_num, unhide HGE, unhide HZ⟩, by simp [intOf]; omega⟩
    · have hke : k = fs.length := by omega
      subst hke
      have hZ := box4 (unhide HB0)
      have hGz := fun (v0 v1 v2 v3 : Value) => GS.set (GS.set (GS.set (GS.set (unhide HG) (q := w.heap.size) (o := 0) (by omega) (Nat.le_refl _) v0) (q := w.heap.size) (o := 1) (by omega) (Nat.le_refl _) v1) (q := w.heap.size) (o := 2) (by omega) (Nat.le_refl _) v2) (q := w.heap.size) (o := 3) (by omega) (Nat.le_refl _) v3
      have HGZ := hide hGz
      clear hGz
      generalize hpe : place fs st fs.length = pl at *
      have HPE := hide hpe
      clear hpe
      go_wp2_with fail
      exact bodyPost_ret (v := .agg #[.slice na fs.length nc, .map (some (w.heap.size + 1)), .map (some (w.heap.size + 1 + 1)), .int .i64 (pl : Int)]) (by simp [results, Tryz.results26, go_sem, hZ]) rfl (by rw [unhide HPE]; exact ⟨na, nc, _, _, _, rfl, unhide HGZ _ _ _ _⟩)
end Go.Proofs.YthbbmookhcalkaaGreat.LayJ
