/- The contract of the program's graphOf: the walk. -/
import Derived.Test.YtnmgeaonhbhbkaaGraphI
namespace Go.Proofs.Ytnmgeaonhbhbkaa.GraphJ
open Go.ChangeShapes Go.WideShapes Go.ChangeAt Go.RowKit Go.Joins Go.WideMaps Go.Maps Go.Deep
open Go.Proofs.Ytnmgeaonhbhbkaa.Base Go.Proofs.Ytnmgeaonhbhbkaa.InsA Go.Proofs.Ytnmgeaonhbhbkaa.InsB Go.Proofs.Ytnmgeaonhbhbkaa.Funs Go.Proofs.Ytnmgeaonhbhbkaa.Open Go.Proofs.Ytnmgeaonhbhbkaa.FunS Go.Proofs.Ytnmgeaonhbhbkaa.Keep Go.Proofs.Ytnmgeaonhbhbkaa.UnitS Go.Proofs.Ytnmgeaonhbhbkaa.UnitM Go.Proofs.Ytnmgeaonhbhbkaa.Refs Go.Proofs.Ytnmgeaonhbhbkaa.Mark Go.Proofs.Ytnmgeaonhbhbkaa.PickD Go.Proofs.Ytnmgeaonhbhbkaa.WantsS Go.Proofs.Ytnmgeaonhbhbkaa.WantsL Go.Proofs.Ytnmgeaonhbhbkaa.WantsI Go.Proofs.Ytnmgeaonhbhbkaa.KeepC Go.Proofs.Ytnmgeaonhbhbkaa.KeepD Go.Proofs.Ytnmgeaonhbhbkaa.KeepA Go.Proofs.Ytnmgeaonhbhbkaa.KeepR Go.Proofs.Ytnmgeaonhbhbkaa.KeepI Go.Proofs.Ytnmgeaonhbhbkaa.WayD Go.Proofs.Ytnmgeaonhbhbkaa.GraphD Go.Proofs.Ytnmgeaonhbhbkaa.GraphI
set_option linter.unusedVariables false
set_option maxRecDepth 100000

/-- A look-up whose run is known, as one step of a region that draws. -/
theorem step_look {P : Program} {ops : Array Oper} {o : Oper} {a : Act} {w w' : World} {K : Act → World → Prop} {Q : Exit → Act → World → Prop} {E : Prop} (hgd : o.guard = none) (m x : Operand) (t : TypeId)
    (ho : o.op = Op.lookup t m x false) (v u v' : Value) (hm : a.eval m = v) (hx : a.eval x = u) (hr : (Instr.lookup t v u false).run P w = .ok v' w') (hK : K (a.put o.dst v') w') :
    if Region.wanted o (yielded ops a.tmps) = true then Oper.wp P o a w K Q else E := by
  have hw : Region.wanted o (yielded ops a.tmps) = true := by simp [Region.wanted, hgd]
  rw [if_pos hw]
  unfold Oper.wp
  simp [execOp, ho, hm, hx, hr, Result.andThen]
  exact hK
/-- An append whose run is known, as one step of a region that draws. -/
theorem step_run {P : Program} {ops : Array Oper} {o : Oper} {a : Act} {w w' : World} {K : Act → World → Prop} {Q : Exit → Act → World → Prop} {E : Prop} (hgd : o.guard = none) (s x : Operand) (t tx : TypeId)
    (ho : o.op = Op.call { callee := Callee.builtin Builtin.append, args := #[s, x], argTypes := #[t, tx] }) (v u v' : Value) (hs : a.eval s = v) (hx : a.eval x = u) (hr : (Builtin.append_ #[t, tx] o.type #[v, u]).run P w = .ok v' w') (hK : K (a.put o.dst v') w') :
    if Region.wanted o (yielded ops a.tmps) = true then Oper.wp P o a w K Q else E := by
  have hw : Region.wanted o (yielded ops a.tmps) = true := by simp [Region.wanted, hgd]
  rw [if_pos hw]
  unfold Oper.wp
  simp [execOp, ho, resolve, invoke, builtin, hs, hx, hr, Result.andThen]
  exact hK
theorem look_place {w : World} {fs : List FunD} {m n : Nat} {s : ByteArray} {t : Nat} (hm : w.ownsMap Try.prog 9 (plainElem Try.prog 3) m n (PD fs fs.length)) (hs : s.size ≤ maxLen) (h0 : 0 ≤ findI fs s) (ht : (findI fs s).toNat = t) :
    (Instr.lookup 45 (.map (some m)) (.string s) false).run Try.prog w = .ok (.int .i64 (t : Int)) w := by
  subst ht
  have hkey : keyOf Try.prog 9 (.string s) = some (keyS s) := keyOf_string_mk Try.underlying9 hs
  obtain ⟨c, hrun, hat, _⟩ := hm.lookup_int lawS Try.underlying45 Try.underlying3 (zeroI _) hkey
  have hh : has (PD fs fs.length) (keyS s) = true := by
    cases hc : has (PD fs fs.length) (keyS s)
    · have := no_find hc; omega
    · rfl
  have := at_find hh hat
  subst this
  rw [hrun]
  congr 2
  omega

/-- A block of rows of steps. -/
def RowsIn (w : World) (S : Nat) : Prop := ∃ C, w.heap[S]? = some (.cells C 57)
theorem Stable.rowsIn (S : Nat) : Stable (fun w => RowsIn w S) := ⟨fun w w' hb ⟨C, h⟩ => ⟨C, box_below h hb⟩, fun w h => h⟩
theorem Stable.places (m n : Nat) (fs : List FunD) : Stable (fun w => w.ownsMap Try.prog 9 (plainElem Try.prog 3) m n (PD fs fs.length)) := ⟨fun w w' hb h => map_below h hb, fun w h => h⟩
set_option maxHeartbeats 4000000 in
theorem graphOf_any (a : Option Addr) (cap : Nat) (fs : List FunD) (w : World) (hok : keepOkB fs = true) (hcap : fs.length ≤ cap) (hcm : cap ≤ maxLen) (hR : FunRow w a fs) :
    Calls Try.prog 36 #[.slice a fs.length cap] w (GraphIs w fs) := by
  have HR := hide hR
  have HOK := hide hok
  obtain ⟨hp1, hp40, hpok, _, _⟩ := keep_parts hok
  rename_i hap hrf
  clear hap hrf
  have HPO := hide hpok
  have hmk := makeRows fs.length (by omega)
  obtain ⟨i0, hi, hz0, hz1, hz2⟩ := info_parts infoStr
  clear hR hok hpok
  obtain ⟨W0, hW0⟩ : ∃ W0, W0 = w.alloc (.cells #[.slice none 0 0, .slice none 0 0] 54) := ⟨_, rfl⟩
  have hb0 : Below w.heap.size w W0 := by rw [hW0]; exact below_alloc1 _ _
  have HZ : Hid (W0.heap.size = w.heap.size + 1) := by show _ = _; rw [hW0]; simp
  have hr0 : W0.heap[w.heap.size]? = some (.cells #[.slice none 0 0, .slice none 0 0] 54) := by rw [hW0]; exact new_block w _
  go_enter Try.func36, Try.ntmps36
  go_wp2_with fail
  rw [← hW0]
  clear hW0
  have HR0 := hide ((unhide HR).below hb0)
  refine (places_any a cap fs _ hcap hcm (by omega) (unhide HR0)).mono ?_
  rintro e w1 ⟨rfl, hown, hb1⟩
  have HM := hide hown
  have hml : W0.heap.size < w1.heap.size := by
    obtain ⟨es, clock, hh, _⟩ := hown
    exact (Array.getElem?_eq_some_iff.1 hh).1
  have HG0 : Hid (GSt W0 ((w1.alloc (.cells (madeCells #[.slice none 0 0] fs.length) 57)).alloc (.cells #[.slice none 0 0, .slice (some ⟨w1.heap.size, 0, none⟩) fs.length fs.length] 54)) fs W0.heap.size (w1.heap.size + 1) w1.heap.size (w1.heap.size + 2) 0 0 (madeCells #[.slice none 0 0] fs.length) none 0) := by
    refine ⟨?_, ?_, by simp [size_madeCells], fun u hu => by omega, fun u _ hu => made_at hu, World.ownsRow_nil _ _ _ _, map_below hown (below_alloc2 _ _ _), bl_alloc (bl_alloc hb1 _) _, by simp⟩
    · have := new_block (w1.alloc (.cells (madeCells #[.slice none 0 0] fs.length) 57)) (.cells #[.slice none 0 0, .slice (some ⟨w1.heap.size, 0, none⟩) fs.length fs.length] 54)
      rw [World.size_alloc] at this
      exact this
    · exact box_below (new_block w1 _) (below_alloc1 _ _)
  have hz1' := hb1.size
  clear hown hb1
  go_wp2_with fail
  clear hmk
  go_loopw [17] (fun i w' => ∃ (k : Nat) (C : Array Value) (na : Option Addr) (nc : Nat), k ≤ fs.length ∧ i = .int .i64 k ∧ GSt W0 w' fs W0.heap.size (w1.heap.size + 1) w1.heap.size (w1.heap.size + 2) k k C na nc) (fun i _ => fs.length - (intOf i).toNat)
  case atStart => exact ⟨0, _, none, 0, Nat.zero_le _, rfl, unhide HG0⟩
  case round =>
    obtain ⟨k, C, na, nc, hk, rfl, hG⟩ := hrel
    clear HG0 HM
    have HG := hide hG
    by_cases hkl : k < fs.length
    · have hkl' : (k : Int) < (fs.length : Int) := by omega
      obtain ⟨b, off, rfl⟩ := (unhide HR).get (by omega)
      obtain ⟨ai, ci, c0, c1, c2, hn, h4, h5, h6⟩ := ((unhide HR0).below hG.below).at hkl
      have H6 := hide h6
      obtain ⟨ai', ci', _, _, d2, _, _, _, h60⟩ := (unhide HR0).at hkl
      have H60 : Hid (InsRow W0 ai fs[k].body) := by
        have this : wr.cell? ⟨b, off + k * 3 + 2, none⟩ = _ := (Stable.cell _ _).1 _ _ hG.below d2
        rw [c2] at this
        simp only [Option.some.injEq, Value.slice.injEq] at this
        rw [this.1]; exact h60
      clear h60 d2
      have HN := hide (nmsK_succ hkl)
      have hnl : (nmsK fs k).length ≤ k := by rw [nmsK_len hk]; exact Nat.le_refl _
      have h10 := fun_le (unhide HPO _ (List.getElem_mem hkl))
      have g0 : wr.cell? ⟨w1.heap.size + 1, 0, none⟩ = some (.slice na (nmsK fs k).length nc) := by rw [cell_of_block hG.g]; rfl
      have hG1 := hG.lt.1
      have HGR := hide (fun W w5 C' na' nc' a5 c5 (h : GSt W0 W fs W0.heap.size (w1.heap.size + 1) w1.heap.size (w1.heap.size + 2) (k + 1) k C' na' nc') => h.row (w := w5) (a := a5) (c := c5) (by omega) (by omega) (by omega) (by omega) (by omega) (by omega) hkl)
      have HMID : Hid (∀ w4 a4 c4, ((wr.alloc (.cells #[.string fs[k].nm, .bool fs[k].wk, .slice ai fs[k].body.length ci] 31)).alloc (.cells #[.string fs[k].nm] 9)).grownBy w4 (Value.slice na (nmsK fs k).length nc).ownBlock → StrOwn w4 (w1.heap.size + 2) (.slice a4 (nmsK fs (k + 1)).length c4) (nmsK fs (k + 1)) → GSt W0 (w4.setCell ⟨w1.heap.size + 1, 0, none⟩ (.slice a4 (nmsK fs (k + 1)).length c4)) fs W0.heap.size (w1.heap.size + 1) w1.heap.size (w1.heap.size + 2) (k + 1) k C a4 c4) := fun w4 a4 c4 hg ho =>
        GSt.name ((unhide HG).next (below_alloc2 wr (.cells #[.string fs[k].nm, .bool fs[k].wk, .slice ai fs[k].body.length ci] 31) (.cells #[.string fs[k].nm] 9))) (by omega) (by omega) (by omega) (by omega) (by omega) (by omega) hkl hg ho
      have hBs := (unhide HG).base
      have HO := hide (unhide HG).names
      have HF : Hid (∀ w4, ((wr.alloc (.cells #[.string fs[k].nm, .bool fs[k].wk, .slice ai fs[k].body.length ci] 31)).alloc (.cells #[.string fs[k].nm] 9)).grownBy w4 (Value.slice na (nmsK fs k).length nc).ownBlock → w4.cell? ⟨wr.heap.size, 2, none⟩ = some (.slice ai fs[k].body.length ci) ∧ w4.cell? ⟨w1.heap.size + 1, 0, none⟩ = some (.slice na (nmsK fs k).length nc) ∧ w4.frozen? ⟨w1.heap.size + 1, 0, none⟩ = false ∧ InsRow w4 ai fs[k].body) := fun w4 hg => by
        have hX := (unhide HG).next (below_alloc2 wr (.cells #[.string fs[k].nm, .bool fs[k].wk, .slice ai fs[k].body.length ci] 31) (.cells #[.string fs[k].nm] 9))
        have hlo : ∀ j, (Value.slice na (nmsK fs k).length nc).ownBlock = some j → w1.heap.size + 2 ≤ j ∧ j < wr.heap.size := fun j hj => World.ownsRow.lt (unhide HO) j hj
        have hgb : w4.heap[w1.heap.size + 1]? = _ := (hg.block (w1.heap.size + 1) (by rw [World.size_alloc, World.size_alloc]; omega) (fun e => by have := hlo _ e.symm; omega)).trans hX.g
        have hfb : w4.heap[wr.heap.size]? = some (.cells #[.string fs[k].nm, .bool fs[k].wk, .slice ai fs[k].body.length ci] 31) := (hg.block wr.heap.size (by rw [World.size_alloc, World.size_alloc]; omega) (fun e => by have := hlo _ e.symm; omega)).trans (box_below (new_block wr _) (below_alloc1 _ _))
        refine ⟨by rw [cell_of_block hfb]; rfl, by rw [cell_of_block hgb]; rfl, unfrozen_of_block hgb 0, ?_⟩
        exact (unhide H60).below (hX.below.grown hg hX.below.size (fun j hj => by have := hlo j hj; omega))
      clear h6 hG
      go_wp2_with (first
        | (at_builtin; refine wpList_append_own _ rfl _ _ 35 rfl (w1.heap.size + 2) 9 i0 (.string ⟨#[]⟩) 1 16 Try.underlying35 hi hz0 hz1 hz2 rfl (by decide) _ (nmsK fs k).length ((nmsK fs k).map Value.string) rfl (World.ownsRow.alloc (World.ownsRow.alloc (unhide HO) _) _) ⟨wr.heap.size + 1, 0, none⟩ 1 1 [.string fs[k].nm] rfl rfl (cell_two _ _ _ _) (by simp [Value.oneCell']) (by unfold maxLen; omega) (by omega) (by simp; omega) ?_; intro v4 w4 hown4 hgrow4 _; have hown4' := str_snoc hown4; rw [← unhide HN] at hown4'; obtain ⟨a4, c4, e4, _⟩ := hown4'.at; subst e4; obtain ⟨f2, f0, z0, hrow⟩ := unhide HF w4 hgrow4; have HW := hide (unhide HMID w4 a4 c4 hgrow4 hown4'); have HROW := hide hrow; clear hown4 hown4' hgrow4 hrow))
      have HGRr := hide (unhide HGR _ · C a4 c4 · · (unhide HW))
      obtain ⟨W, hW⟩ : ∃ W, W = w4.setCell ⟨w1.heap.size + 1, 0, none⟩ (.slice a4 (nmsK fs (k + 1)).length c4) := ⟨_, rfl⟩
      rw [← hW]
      rw [← hW] at HW HGRr
      have HST := hide ((unhide HW).start hkl fs[k].body)
      have HGW : Hid (W.heap[w1.heap.size + 1]? = some (.cells #[.slice a4 (nmsK fs (k + 1)).length c4, .slice (some ⟨w1.heap.size, 0, none⟩) fs.length fs.length] 54)) := (unhide HW).g
      have hSW := (unhide HW).lt.2
      have hGW := (unhide HW).lt.1
      have hCz : k < C.size := by rw [(unhide HW).sz]; exact hkl
      have HMAP := hide (unhide HW).map
      have HREF : Hid (∀ j (h : j < fs[k].body.length), refsB fs[k].body[j].o = true → 0 ≤ findI fs fs[k].body[j].s) := fun j h hr => ref_ok (unhide HOK) (List.getElem_mem hkl) (List.getElem_mem h) hr
      have hBW := (unhide HW).below
      clear hW f0 f2 z0 HROW HMID HF HO HGR H6 HG g0 c0 c1 c2 HN hnl hG1 hBs
      generalize hxs : fs[k].body = xs at *
      have HXS := hide hxs
      clear hxs
      generalize fs[k].nm = nm at *
      generalize fs[k].wk = wk at *
      go_loopw [32] (fun i w' => ∃ (j : Nat) (a5 : Option Addr) (c5 : Nat), j ≤ xs.length ∧ i = .int .i64 j ∧ RowSt W w' fs w1.heap.size k j C xs a5 c5) (fun i _ => xs.length - (intOf i).toNat)
      case atStart => exact ⟨0, none, 0, Nat.zero_le _, rfl, unhide HST⟩
      case round =>
        obtain ⟨j, a5, c5, hj, rfl, hRS⟩ := hrel
        have HRS := hide hRS
        have hbel := But.down hBW hRS.but (by omega)
        clear HST
        by_cases hjl : j < xs.length
        · have hjl' : (j : Int) < (xs.length : Int) := by omega
          obtain ⟨b5, o5, rfl⟩ := (unhide H60).get (by omega)
          obtain ⟨x0, x1, x2, hxs⟩ := ((unhide H60).below hbel).cells hjl
          have HRJ := hide (unhide HREF j hjl)
          have hg := hRS.but.box (unhide HGW) (by omega)
          have g1 : wr.cell? ⟨w1.heap.size + 1, 1, none⟩ = some (.slice (some ⟨w1.heap.size, 0, none⟩) fs.length fs.length) := by rw [cell_of_block hg]; rfl
          have s1 : wr.cell? ⟨w1.heap.size, k, none⟩ = some (.slice a5 (stpL fs (xs.take j)).length c5) := by rw [cell_of_block hRS.s]; exact Array.getElem?_setIfInBounds_self_of_lt hCz
          have HSK := hide (fun W' (hb : Below wr.heap.size wr W') => (hRS.next hb).skip hjl)
          have HMO := hide (fun W' X (hb : Below wr.heap.size wr W') hr hbX hc => (hRS.next hb).more (X := X) hjl hr h10 hCz hSW hbX hc 57)
          have HMP : Hid (wr.ownsMap Try.prog 9 (plainElem Try.prog 3) W0.heap.size fs.length (PD fs fs.length)) := by
            obtain ⟨es, clock, hh, F, hs', hD⟩ := unhide HMAP
            exact ⟨es, clock, hRS.but.box hh (by omega), F, hs', hD⟩
          have hsl := stpL_take_len fs xs j
          have hRSs := hRS.s
          have hRSo := hRS.own
          have hWr := hRS.but.size
          clear hRS hg HGW HMAP HREF hBW
          have hst : stepOf fs xs[j] = ((findI fs xs[j].s).toNat, xs[j].o == 3) := rfl
          have HSTP := hide hst
          clear hst
          generalize hx : xs[j] = x at *
          have HX := hide hx
          clear hx
          cases hr : refsB x.o
          · go_wp2_with fail
            refine (implRefs_any x.o x.n x.s _).mono ?_
            rintro e w5 ⟨rfl, hb5⟩
            rw [hr]
            have HE := hide (unhide HSK w5 (bl_trans (below_alloc1 _ _) hb5) hr)
            clear x0 x1 x2 g1 s1 hb5
            go_wp2_with fail
            exact ⟨⟨j + 1, a5, c5, by omega, by go_num, unhide HE⟩, by simp [intOf]; omega⟩
          · go_wp2_with fail
            refine (implRefs_any x.o x.n x.s _).mono ?_
            rintro e w5 ⟨rfl, hb5⟩
            rw [hr]
            have hbw := bl_trans (below_alloc1 wr (.cells #[.int .i64 x.o, .int .i64 x.n, .string x.s] 28)) hb5
            have hIb := box_below (new_block wr (.cells #[.int .i64 x.o, .int .i64 x.n, .string x.s] 28)) hb5
            have hII := box3 hIb
            have g1' := (Stable.cell _ _).1 _ _ hbw g1
            have hsk : w5.cell? ⟨w1.heap.size, k, none⟩ = some (.slice a5 (stpL fs (xs.take j)).length c5) := (Stable.cell _ _).1 _ _ hbw s1
            have HM5 := hide (map_below (unhide HMP) hbw)
            have HSN : Hid (RowsIn w5 w1.heap.size) := ⟨_, box_below hRSs hbw⟩
            obtain ⟨t, ht⟩ : ∃ t, t = (findI fs x.s).toNat := ⟨_, rfl⟩
            rw [← ht] at HSTP
            have h0f := unhide HRJ hr
            have HT := hide ht
            clear ht
            have hbX : Below w5.heap.size w5 (w5.drew.alloc (.cells #[.int .i64 (t : Int), .bool (x.o == 3)] 59)) := bl_alloc (Below.refl _ _).drew _
            obtain ⟨a6, c6, w6, hrun, hRS6, hc6⟩ := unhide HMO w5 _ hbw hr hbX (by rw [unhide HSTP]; exact new_block w5.drew _)
            have HRUN := hide hrun
            have HRS6 := hide hRS6
            have HC6 : Hid (∀ b, b ≤ wr.heap.size → b < W.heap.size ∨ b = wr.heap.size → w6.heap[b]? = w5.heap[b]?) := fun b hb hor => hc6 b (by have := hbw.size; have := (Array.getElem?_eq_some_iff.1 hIb).1; omega) (fun e => by have := World.ownsRow.lt hRSo b e; omega)
            clear hrun hRS6 hc6 hbX hbw g1 s1 x0 x1 x2 HMP HMO HSK HRS hb5 hbel hRSs hRSo
            clear hi hz0 hz1 hz2
            go_wp2_with fail
            have HK6 : Hid (w6.cell? ⟨w1.heap.size, k, none⟩ = some (.slice a5 (stpL fs (xs.take j)).length c5)) := by
              show _ = _
              rw [World.cell?_of_block (a := ⟨w1.heap.size, k, none⟩) (unhide HC6 w1.heap.size (by omega) (.inl hSW))]; exact hsk
            have HS6 : Hid ((fun w' => w'.cell? ⟨w1.heap.size + 1, 1, none⟩ = some (.slice (some ⟨w1.heap.size, 0, none⟩) fs.length fs.length) ∧ w'.cell? ⟨wr.heap.size, 0, none⟩ = some (.int .i64 x.o) ∧ w'.cell? ⟨wr.heap.size, 2, none⟩ = some (.string x.s) ∧ w'.ownsMap Try.prog 9 (plainElem Try.prog 3) W0.heap.size fs.length (PD fs fs.length) ∧ RowsIn w' w1.heap.size) w6) := by
              refine ⟨?_, ?_, ?_, ?_, ?_⟩
              · rw [World.cell?_of_block (a := ⟨w1.heap.size + 1, 1, none⟩) (unhide HC6 (w1.heap.size + 1) (by omega) (.inl hGW))]; exact g1'
              · rw [World.cell?_of_block (a := ⟨wr.heap.size, 0, none⟩) (unhide HC6 wr.heap.size (Nat.le_refl _) (.inr rfl))]; exact hII.1.1
              · rw [World.cell?_of_block (a := ⟨wr.heap.size, 2, none⟩) (unhide HC6 wr.heap.size (Nat.le_refl _) (.inr rfl))]; exact hII.1.2.2
              · obtain ⟨es, clock, hh, F, hs', hD⟩ := unhide HM5
                exact ⟨es, clock, (unhide HC6 W0.heap.size (by omega) (.inl (by omega))).trans hh, F, hs', hD⟩
              · obtain ⟨C7, hC7⟩ := unhide HSN
                exact ⟨C7, (unhide HC6 w1.heap.size (by omega) (.inl hSW)).trans hC7⟩
            have HS7 : Hid ((fun w' => w'.cell? ⟨w1.heap.size + 1, 1, none⟩ = some (.slice (some ⟨w1.heap.size, 0, none⟩) fs.length fs.length) ∧ w'.cell? ⟨wr.heap.size, 0, none⟩ = some (.int .i64 x.o) ∧ w'.cell? ⟨wr.heap.size, 2, none⟩ = some (.string x.s) ∧ w'.ownsMap Try.prog 9 (plainElem Try.prog 3) W0.heap.size fs.length (PD fs fs.length) ∧ RowsIn w' w1.heap.size) (w6.setCell ⟨w1.heap.size, k, none⟩ (.slice a6 (stpL fs (xs.take (j + 1))).length c6))) := by
              have hset := (But.refl w1.heap.size w6).set k (.slice a6 (stpL fs (xs.take (j + 1))).length c6)
              obtain ⟨q1, q2, q3, q4, C7, q5⟩ := unhide HS6
              have kc : ∀ b o v, b ≠ w1.heap.size → w6.cell? ⟨b, o, none⟩ = some v → (w6.setCell ⟨w1.heap.size, k, none⟩ (.slice a6 (stpL fs (xs.take (j + 1))).length c6)).cell? ⟨b, o, none⟩ = some v := fun b o v hb hc => by
                rw [World.cell?_of_block (a := ⟨b, o, none⟩) (hset.block b (World.block_lt_of_cell? w6 _ hc) (fun e => hb (by cases e; rfl)))]; exact hc
              refine ⟨kc _ _ _ (by omega) q1, kc _ _ _ (by omega) q2, kc _ _ _ (by omega) q3, ?_, ⟨_, block_setCell q5 _⟩⟩
              obtain ⟨es, clock, hh, F, hs', hD⟩ := q4
              exact ⟨es, clock, hset.box hh (by omega), F, hs', hD⟩
            have HSA : Hid (Stable (fun w' => w'.cell? ⟨w1.heap.size + 1, 1, none⟩ = some (.slice (some ⟨w1.heap.size, 0, none⟩) fs.length fs.length) ∧ w'.cell? ⟨wr.heap.size, 0, none⟩ = some (.int .i64 x.o) ∧ w'.cell? ⟨wr.heap.size, 2, none⟩ = some (.string x.s) ∧ w'.ownsMap Try.prog 9 (plainElem Try.prog 3) W0.heap.size fs.length (PD fs fs.length) ∧ RowsIn w' w1.heap.size)) := (Stable.cell _ _).and ((Stable.cell _ _).and ((Stable.cell _ _).and ((Stable.places _ _ _).and (Stable.rowsIn _))))
            have HS0 : Hid ((fun w' => w'.cell? ⟨w1.heap.size + 1, 1, none⟩ = some (.slice (some ⟨w1.heap.size, 0, none⟩) fs.length fs.length) ∧ w'.cell? ⟨wr.heap.size, 0, none⟩ = some (.int .i64 x.o) ∧ w'.cell? ⟨wr.heap.size, 2, none⟩ = some (.string x.s) ∧ w'.ownsMap Try.prog 9 (plainElem Try.prog 3) W0.heap.size fs.length (PD fs fs.length) ∧ RowsIn w' w1.heap.size) w5.drew) := ⟨g1', hII.1.1, hII.1.2.2, unhide HM5, unhide HSN⟩
            have hI5 := hIb
            clear g1' hII hIb HM5 HSN
            refine wp_region_held_drew (S := (fun w' => w'.cell? ⟨w1.heap.size + 1, 1, none⟩ = some (.slice (some ⟨w1.heap.size, 0, none⟩) fs.length fs.length) ∧ w'.cell? ⟨wr.heap.size, 0, none⟩ = some (.int .i64 x.o) ∧ w'.cell? ⟨wr.heap.size, 2, none⟩ = some (.string x.s) ∧ w'.ownsMap Try.prog 9 (plainElem Try.prog 3) W0.heap.size fs.length (PD fs fs.length) ∧ RowsIn w' w1.heap.size)) (by kernel_rfl) (unhide HS0) (fun hHeld => ?_)
            refine wpAnyH_take (i := 0) (oi := { dst := some 38, op := Go.Op.fieldAddr 54 (Go.Operand.tmp 4) 1, type := 0, pos := "l6_graph.go:83", after := #[], guard := none }) (v := ?v5_0) rfl (by kernel_rfl) (by kernel_rfl) (by kernel_rfl) (fun _ _ _ h => h) (Or.inl ⟨by rfl, ?y5_0⟩) (by assumption) ?r5_0
            case y5_0 => (intro w hSw; (try dsimp only at hSw); go_simp; try (with_reducible rfl))
            try simp only [Act.put, List.setIfInBounds_toArray, List.set_cons_zero, List.set_cons_succ]
            refine wpAnyH_take (i := 1) (oi := { dst := some 39, op := Go.Op.load 52 (Go.Operand.tmp 38), type := 52, pos := "l6_graph.go:83", after := #[{ on := 0, ground := Go.Ground.data }], guard := none }) (v := ?v8_1) rfl (by kernel_rfl) (by kernel_rfl) (by kernel_rfl) (fun _ _ _ h => h) (Or.inl ⟨by rfl, ?y8_1⟩) (by assumption) ?r8_1
            case y8_1 => (intro w hSw; (try dsimp only at hSw); go_simp; try (with_reducible rfl))
            try simp only [Act.put, List.setIfInBounds_toArray, List.set_cons_zero, List.set_cons_succ]
            refine wpAnyH_take (i := 2) (oi := { dst := some 40, op := Go.Op.move (Go.Operand.tmp 5), type := 3, pos := "l6_graph.go:83", after := #[], guard := none }) (v := ?v11_2) rfl (by kernel_rfl) (by kernel_rfl) (by kernel_rfl) (fun _ _ _ h => h) (Or.inl ⟨by rfl, ?y11_2⟩) (by assumption) ?r11_2
            case y11_2 => (intro w hSw; (try dsimp only at hSw); go_simp; try (with_reducible rfl))
            try simp only [Act.put, List.setIfInBounds_toArray, List.set_cons_zero, List.set_cons_succ]
            refine wpAnyH_take (i := 3) (oi := { dst := some 41, op := Go.Op.fieldAddr 54 (Go.Operand.tmp 4) 1, type := 0, pos := "l6_graph.go:83", after := #[], guard := none }) (v := ?v14_3) rfl (by kernel_rfl) (by kernel_rfl) (by kernel_rfl) (fun _ _ _ h => h) (Or.inl ⟨by rfl, ?y14_3⟩) (by assumption) ?r14_3
            case y14_3 => (intro w hSw; (try dsimp only at hSw); go_simp; try (with_reducible rfl))
            try simp only [Act.put, List.setIfInBounds_toArray, List.set_cons_zero, List.set_cons_succ]
            refine wpAnyH_take (i := 4) (oi := { dst := some 42, op := Go.Op.load 52 (Go.Operand.tmp 41), type := 52, pos := "l6_graph.go:83", after := #[{ on := 3, ground := Go.Ground.data }], guard := none }) (v := ?v17_4) rfl (by kernel_rfl) (by kernel_rfl) (by kernel_rfl) (fun _ _ _ h => h) (Or.inl ⟨by rfl, ?y17_4⟩) (by assumption) ?r17_4
            case y17_4 => (intro w hSw; (try dsimp only at hSw); go_simp; try (with_reducible rfl))
            try simp only [Act.put, List.setIfInBounds_toArray, List.set_cons_zero, List.set_cons_succ]
            refine wpAnyH_take (i := 5) (oi := { dst := some 43, op := Go.Op.move (Go.Operand.tmp 5), type := 3, pos := "l6_graph.go:83", after := #[], guard := none }) (v := ?v20_5) rfl (by kernel_rfl) (by kernel_rfl) (by kernel_rfl) (fun _ _ _ h => h) (Or.inl ⟨by rfl, ?y20_5⟩) (by assumption) ?r20_5
            case y20_5 => (intro w hSw; (try dsimp only at hSw); go_simp; try (with_reducible rfl))
            try simp only [Act.put, List.setIfInBounds_toArray, List.set_cons_zero, List.set_cons_succ]
            refine wpAnyH_take (i := 6) (oi := { dst := some 44, op := Go.Op.indexAddr 52 (Go.Operand.tmp 42) (Go.Operand.tmp 43), type := 0, pos := "l6_graph.go:83", after := #[{ on := 4, ground := Go.Ground.data }, { on := 5, ground := Go.Ground.data }], guard := none }) (v := ?v23_6) rfl (by kernel_rfl) (by kernel_rfl) (by kernel_rfl) (fun _ _ _ h => h) (Or.inl ⟨by rfl, ?y23_6⟩) (by assumption) ?r23_6
            case y23_6 => (intro w hSw; (try dsimp only at hSw); go_simp; try (with_reducible rfl))
            try simp only [Act.put, List.setIfInBounds_toArray, List.set_cons_zero, List.set_cons_succ]
            refine wpAnyH_take (i := 8) (oi := { dst := some 46, op := Go.Op.move (Go.Operand.tmp 3), type := 45, pos := "l6_graph.go:83", after := #[], guard := none }) (v := ?v26_8) rfl (by kernel_rfl) (by kernel_rfl) (by kernel_rfl) (fun _ _ _ h => h) (Or.inl ⟨by rfl, ?y26_8⟩) (by assumption) ?r26_8
            case y26_8 => (intro w hSw; (try dsimp only at hSw); go_simp; try (with_reducible rfl))
            try simp only [Act.put, List.setIfInBounds_toArray, List.set_cons_zero, List.set_cons_succ]
            refine wpAnyH_take (i := 9) (oi := { dst := some 47, op := Go.Op.fieldAddr 28 (Go.Operand.tmp 8) 2, type := 0, pos := "l6_graph.go:83", after := #[], guard := none }) (v := ?v29_9) rfl (by kernel_rfl) (by kernel_rfl) (by kernel_rfl) (fun _ _ _ h => h) (Or.inl ⟨by rfl, ?y29_9⟩) (by assumption) ?r29_9
            case y29_9 => (intro w hSw; (try dsimp only at hSw); go_simp; try (with_reducible rfl))
            try simp only [Act.put, List.setIfInBounds_toArray, List.set_cons_zero, List.set_cons_succ]
            refine wpAnyH_take (i := 10) (oi := { dst := some 48, op := Go.Op.load 9 (Go.Operand.tmp 47), type := 9, pos := "l6_graph.go:83", after := #[{ on := 9, ground := Go.Ground.data }], guard := none }) (v := ?v32_10) rfl (by kernel_rfl) (by kernel_rfl) (by kernel_rfl) (fun _ _ _ h => h) (Or.inl ⟨by rfl, ?y32_10⟩) (by assumption) ?r32_10
            case y32_10 => (intro w hSw; (try dsimp only at hSw); go_simp; try (with_reducible rfl))
            try simp only [Act.put, List.setIfInBounds_toArray, List.set_cons_zero, List.set_cons_succ]
            refine wpAnyH_take (i := 11) (oi := { dst := some 49, op := Go.Op.lookup 45 (Go.Operand.tmp 46) (Go.Operand.tmp 48) false, type := 3, pos := "l6_graph.go:83", after := #[{ on := 8, ground := Go.Ground.data }, { on := 10, ground := Go.Ground.data }], guard := none }) (v := ?v35_11) rfl (by kernel_rfl) (by kernel_rfl) (by kernel_rfl) (fun _ _ _ h => h) (Or.inl ⟨by rfl, ?y35_11⟩) (by assumption) ?r35_11
            case y35_11 => (intro w hSw; (try dsimp only at hSw); have hlk := look_place hSw.2.2.2.1 hxs h0f (unhide HT).symm; go_simp; try (with_reducible rfl))
            try simp only [Act.put, List.setIfInBounds_toArray, List.set_cons_zero, List.set_cons_succ]
            refine wpAnyH_take (i := 12) (oi := { dst := some 50, op := Go.Op.fieldAddr 28 (Go.Operand.tmp 8) 0, type := 0, pos := "l6_graph.go:83", after := #[], guard := none }) (v := ?v38_12) rfl (by kernel_rfl) (by kernel_rfl) (by kernel_rfl) (fun _ _ _ h => h) (Or.inl ⟨by rfl, ?y38_12⟩) (by assumption) ?r38_12
            case y38_12 => (intro w hSw; (try dsimp only at hSw); go_simp; try (with_reducible rfl))
            try simp only [Act.put, List.setIfInBounds_toArray, List.set_cons_zero, List.set_cons_succ]
            refine wpAnyH_take (i := 13) (oi := { dst := some 51, op := Go.Op.load 3 (Go.Operand.tmp 50), type := 3, pos := "l6_graph.go:83", after := #[{ on := 12, ground := Go.Ground.data }], guard := none }) (v := ?v41_13) rfl (by kernel_rfl) (by kernel_rfl) (by kernel_rfl) (fun _ _ _ h => h) (Or.inl ⟨by rfl, ?y41_13⟩) (by assumption) ?r41_13
            case y41_13 => (intro w hSw; (try dsimp only at hSw); go_simp; try (with_reducible rfl))
            try simp only [Act.put, List.setIfInBounds_toArray, List.set_cons_zero, List.set_cons_succ]
            refine wpAnyH_take (i := 14) (oi := { dst := some 52, op := Go.Op.binOp Go.BinOp.eql 3 (Go.Operand.tmp 51) (Go.Operand.const (Go.Value.int Go.IntKind.i64 3)) 3, type := 4, pos := "l6_graph.go:83", after := #[{ on := 13, ground := Go.Ground.data }], guard := none }) (v := ?v44_14) rfl (by kernel_rfl) (by kernel_rfl) (by kernel_rfl) (fun _ _ _ h => h) (Or.inl ⟨by rfl, ?y44_14⟩) (by assumption) ?r44_14
            case y44_14 => (intro w hSw; (try dsimp only at hSw); go_simp; try (with_reducible rfl))
            try simp only [Act.put, List.setIfInBounds_toArray, List.set_cons_zero, List.set_cons_succ]
            refine wpAnyH_take (i := 15) (oi := { dst := some 53, op := Go.Op.build 59 #[(0, Go.Operand.tmp 49), (1, Go.Operand.tmp 52)], type := 59, pos := "l6_graph.go:83", after := #[{ on := 11, ground := Go.Ground.data }, { on := 14, ground := Go.Ground.data }], guard := none }) (v := ?v47_15) rfl (by kernel_rfl) (by kernel_rfl) (by kernel_rfl) (fun _ _ _ h => h) (Or.inl ⟨by rfl, ?y47_15⟩) (by assumption) ?r47_15
            case y47_15 => (intro w hSw; (try dsimp only at hSw); go_simp; try (with_reducible rfl))
            try simp only [Act.put, List.setIfInBounds_toArray, List.set_cons_zero, List.set_cons_succ]
            refine wpAnyH_ready (rs := [7, 16]) (by kernel_rfl) (by simp) ?_
            refine AllReadyH.cons (o := { dst := some 45, op := Go.Op.load 57 (Go.Operand.tmp 44), type := 57, pos := "l6_graph.go:83", after := #[{ on := 6, ground := Go.Ground.data }], guard := none }) rfl (fun K hK => ?_) ?_
            · skip
              go_simp
              refine hK.out _ _ hHeld (fun _ => ?_)
              clear hK K
              try simp only [Act.put, List.setIfInBounds_toArray, List.set_cons_zero, List.set_cons_succ]
              refine wpAnyH_ready (rs := [16]) (by kernel_rfl) (by simp) ?_
              refine AllReadyH.cons (o := { dst := some 54, op := Go.Op.buildSlice 57 1 #[(0, Go.Operand.tmp 53)], type := 57, pos := "l6_graph.go:83", after := #[{ on := 15, ground := Go.Ground.data }], guard := none }) rfl (fun K hK => ?_) AllReadyH.nil
              go_simp
              replace hHeld := (unhide HSA).alloc hHeld (.cells #[.int .i64 (t : Int), .bool (x.o == 3)] 59)
              replace hsk := (Stable.cell ⟨w1.heap.size, k, none⟩ (.slice a5 (stpL fs (xs.take j)).length c5)).alloc hsk (.cells #[.int .i64 (t : Int), .bool (x.o == 3)] 59)
              refine hK.out _ _ hHeld (fun _ => ?_)
              clear hK K
              try simp only [Act.put, List.setIfInBounds_toArray, List.set_cons_zero, List.set_cons_succ]
              refine wpAnyH_ready (rs := [17]) (by kernel_rfl) (by simp) ?_
              refine AllReadyH.cons (o := { dst := some 55, op := Go.Op.call { callee := Go.Callee.builtin Go.Builtin.append, args := #[Go.Operand.tmp 45, Go.Operand.tmp 54], argTypes := #[57, 57] }, type := 57, pos := "l6_graph.go:83", after := #[{ on := 7, ground := Go.Ground.data }, { on := 16, ground := Go.Ground.data }], guard := none }) rfl (fun K hK => ?_) AllReadyH.nil
              refine step_run rfl (.tmp 45) (.tmp 54) 57 57 rfl _ _ _ (by simp [Act.eval]) (by simp [Act.eval]) (unhide HRUN) ?_
              have hk6 := unhide HS6
              clear hHeld
              have hHeld := hk6
              clear hk6
              refine hK.out _ _ hHeld (fun _ => ?_)
              clear hK K
              try simp only [Act.put, List.setIfInBounds_toArray, List.set_cons_zero, List.set_cons_succ]
              refine wpAnyH_take (i := 18) (oi := { dst := some 56, op := Go.Op.indexAddr 52 (Go.Operand.tmp 39) (Go.Operand.tmp 40), type := 0, pos := "l6_graph.go:83", after := #[{ on := 1, ground := Go.Ground.data }, { on := 2, ground := Go.Ground.data }, { on := 0, ground := Go.Ground.phase }, { on := 1, ground := Go.Ground.phase }, { on := 2, ground := Go.Ground.phase }, { on := 3, ground := Go.Ground.phase }, { on := 4, ground := Go.Ground.phase }, { on := 5, ground := Go.Ground.phase }, { on := 6, ground := Go.Ground.phase }, { on := 7, ground := Go.Ground.phase }, { on := 8, ground := Go.Ground.phase }, { on := 9, ground := Go.Ground.phase }, { on := 10, ground := Go.Ground.phase }, { on := 11, ground := Go.Ground.phase }, { on := 12, ground := Go.Ground.phase }, { on := 13, ground := Go.Ground.phase }, { on := 14, ground := Go.Ground.phase }, { on := 15, ground := Go.Ground.phase }, { on := 16, ground := Go.Ground.phase }, { on := 17, ground := Go.Ground.phase }], guard := none }) (v := ?v75_18) rfl (by kernel_rfl) (by kernel_rfl) (by kernel_rfl) (fun _ _ _ h => h) (Or.inl ⟨by rfl, ?y75_18⟩) (by assumption) ?r75_18
              case y75_18 => (intro w hSw; (try dsimp only at hSw); go_simp; try (with_reducible rfl))
              try simp only [Act.put, List.setIfInBounds_toArray, List.set_cons_zero, List.set_cons_succ]
              refine wpAnyH_ready (rs := [19]) (by kernel_rfl) (by simp) ?_
              refine AllReadyH.cons (o := { dst := none, op := Go.Op.store 57 (Go.Operand.tmp 56) (Go.Operand.tmp 55), type := 0, pos := "l6_graph.go:83", after := #[{ on := 18, ground := Go.Ground.data }, { on := 17, ground := Go.Ground.data }, { on := 17, ground := Go.Ground.chain }, { on := 0, ground := Go.Ground.phase }, { on := 1, ground := Go.Ground.phase }, { on := 2, ground := Go.Ground.phase }, { on := 3, ground := Go.Ground.phase }, { on := 4, ground := Go.Ground.phase }, { on := 5, ground := Go.Ground.phase }, { on := 6, ground := Go.Ground.phase }, { on := 7, ground := Go.Ground.phase }, { on := 8, ground := Go.Ground.phase }, { on := 9, ground := Go.Ground.phase }, { on := 10, ground := Go.Ground.phase }, { on := 11, ground := Go.Ground.phase }, { on := 12, ground := Go.Ground.phase }, { on := 13, ground := Go.Ground.phase }, { on := 14, ground := Go.Ground.phase }, { on := 15, ground := Go.Ground.phase }, { on := 16, ground := Go.Ground.phase }, { on := 17, ground := Go.Ground.phase }], guard := none }) rfl (fun K hK => ?_) AllReadyH.nil
              obtain ⟨C7, hC7⟩ := hHeld.2.2.2.2
              have hz7 := unfrozen_of_block hC7 k
              have hk7 := unhide HK6
              go_simp
              refine hK.out _ _ (unhide HS7) (fun _ => ?_)
              clear hK K hHeld
              try simp only [Act.put, List.setIfInBounds_toArray, List.set_cons_zero, List.set_cons_succ]
              refine wpAnyH_done (by kernel_rfl) ?_ _
              clear hz7 hk7 hC7
              go_wp2_with fail
              exact ⟨⟨j + 1, a6, c6, by omega, by go_num, unhide HRS6⟩, by simp [intOf]; omega⟩
            refine AllReadyH.cons (o := { dst := some 54, op := Go.Op.buildSlice 57 1 #[(0, Go.Operand.tmp 53)], type := 57, pos := "l6_graph.go:83", after := #[{ on := 15, ground := Go.Ground.data }], guard := none }) rfl (fun K hK => ?_) AllReadyH.nil
            go_simp
            replace hHeld := (unhide HSA).alloc hHeld (.cells #[.int .i64 (t : Int), .bool (x.o == 3)] 59)
            replace hsk := (Stable.cell ⟨w1.heap.size, k, none⟩ (.slice a5 (stpL fs (xs.take j)).length c5)).alloc hsk (.cells #[.int .i64 (t : Int), .bool (x.o == 3)] 59)
            refine hK.out _ _ hHeld (fun _ => ?_)
            clear hK K
            try simp only [Act.put, List.setIfInBounds_toArray, List.set_cons_zero, List.set_cons_succ]
            refine wpAnyH_ready (rs := [7]) (by kernel_rfl) (by simp) ?_
            refine AllReadyH.cons (o := { dst := some 45, op := Go.Op.load 57 (Go.Operand.tmp 44), type := 57, pos := "l6_graph.go:83", after := #[{ on := 6, ground := Go.Ground.data }], guard := none }) rfl (fun K hK => ?_) AllReadyH.nil
            go_simp
            refine hK.out _ _ hHeld (fun _ => ?_)
            clear hK K
            try simp only [Act.put, List.setIfInBounds_toArray, List.set_cons_zero, List.set_cons_succ]
            refine wpAnyH_ready (rs := [17]) (by kernel_rfl) (by simp) ?_
            refine AllReadyH.cons (o := { dst := some 55, op := Go.Op.call { callee := Go.Callee.builtin Go.Builtin.append, args := #[Go.Operand.tmp 45, Go.Operand.tmp 54], argTypes := #[57, 57] }, type := 57, pos := "l6_graph.go:83", after := #[{ on := 7, ground := Go.Ground.data }, { on := 16, ground := Go.Ground.data }], guard := none }) rfl (fun K hK => ?_) AllReadyH.nil
            refine step_run rfl (.tmp 45) (.tmp 54) 57 57 rfl _ _ _ (by simp [Act.eval]) (by simp [Act.eval]) (unhide HRUN) ?_
            have hk6 := unhide HS6
            clear hHeld
            have hHeld := hk6
            clear hk6
            refine hK.out _ _ hHeld (fun _ => ?_)
            clear hK K
            try simp only [Act.put, List.setIfInBounds_toArray, List.set_cons_zero, List.set_cons_succ]
            refine wpAnyH_take (i := 18) (oi := { dst := some 56, op := Go.Op.indexAddr 52 (Go.Operand.tmp 39) (Go.Operand.tmp 40), type := 0, pos := "l6_graph.go:83", after := #[{ on := 1, ground := Go.Ground.data }, { on := 2, ground := Go.Ground.data }, { on := 0, ground := Go.Ground.phase }, { on := 1, ground := Go.Ground.phase }, { on := 2, ground := Go.Ground.phase }, { on := 3, ground := Go.Ground.phase }, { on := 4, ground := Go.Ground.phase }, { on := 5, ground := Go.Ground.phase }, { on := 6, ground := Go.Ground.phase }, { on := 7, ground := Go.Ground.phase }, { on := 8, ground := Go.Ground.phase }, { on := 9, ground := Go.Ground.phase }, { on := 10, ground := Go.Ground.phase }, { on := 11, ground := Go.Ground.phase }, { on := 12, ground := Go.Ground.phase }, { on := 13, ground := Go.Ground.phase }, { on := 14, ground := Go.Ground.phase }, { on := 15, ground := Go.Ground.phase }, { on := 16, ground := Go.Ground.phase }, { on := 17, ground := Go.Ground.phase }], guard := none }) (v := ?v114_18) rfl (by kernel_rfl) (by kernel_rfl) (by kernel_rfl) (fun _ _ _ h => h) (Or.inl ⟨by rfl, ?y114_18⟩) (by assumption) ?r114_18
            case y114_18 => (intro w hSw; (try dsimp only at hSw); go_simp; try (with_reducible rfl))
            try simp only [Act.put, List.setIfInBounds_toArray, List.set_cons_zero, List.set_cons_succ]
            refine wpAnyH_ready (rs := [19]) (by kernel_rfl) (by simp) ?_
            refine AllReadyH.cons (o := { dst := none, op := Go.Op.store 57 (Go.Operand.tmp 56) (Go.Operand.tmp 55), type := 0, pos := "l6_graph.go:83", after := #[{ on := 18, ground := Go.Ground.data }, { on := 17, ground := Go.Ground.data }, { on := 17, ground := Go.Ground.chain }, { on := 0, ground := Go.Ground.phase }, { on := 1, ground := Go.Ground.phase }, { on := 2, ground := Go.Ground.phase }, { on := 3, ground := Go.Ground.phase }, { on := 4, ground := Go.Ground.phase }, { on := 5, ground := Go.Ground.phase }, { on := 6, ground := Go.Ground.phase }, { on := 7, ground := Go.Ground.phase }, { on := 8, ground := Go.Ground.phase }, { on := 9, ground := Go.Ground.phase }, { on := 10, ground := Go.Ground.phase }, { on := 11, ground := Go.Ground.phase }, { on := 12, ground := Go.Ground.phase }, { on := 13, ground := Go.Ground.phase }, { on := 14, ground := Go.Ground.phase }, { on := 15, ground := Go.Ground.phase }, { on := 16, ground := Go.Ground.phase }, { on := 17, ground := Go.Ground.phase }], guard := none }) rfl (fun K hK => ?_) AllReadyH.nil
            obtain ⟨C7, hC7⟩ := hHeld.2.2.2.2
            have hz7 := unfrozen_of_block hC7 k
            have hk7 := unhide HK6
            go_simp
            refine hK.out _ _ (unhide HS7) (fun _ => ?_)
            clear hK K hHeld
            try simp only [Act.put, List.setIfInBounds_toArray, List.set_cons_zero, List.set_cons_succ]
            refine wpAnyH_done (by kernel_rfl) ?_ _
            clear hz7 hk7 hC7
            go_wp2_with fail
            exact ⟨⟨j + 1, a6, c6, by omega, by go_num, unhide HRS6⟩, by simp [intOf]; omega⟩
        · have hjl' : ¬ (j : Int) < (xs.length : Int) := by omega
          have hje : j = xs.length := by omega
          rw [hje] at HRS
          have HE := hide (unhide HGRr _ _ _ (unhide HRS))
          clear HRS hRS
          go_wp2_with fail
          exact ⟨⟨k + 1, _, a4, c4, by omega, by go_num, unhide HE⟩, by simp [intOf]; omega⟩
    · have hkl' : ¬ (k : Int) < (fs.length : Int) := by omega
      have hke : k = fs.length := by omega
      rw [hke] at hG
      have hnl := nmsK_len (Nat.le_refl fs.length)
      have hwz : w.heap.size < W0.heap.size := by have := unhide HZ; omega
      obtain ⟨nb, e0, n1, n2, _, _⟩ := hG.done (R := w.heap.size) (by omega) (But.refl _ _) (by omega) (by omega)
      subst e0
      have HG1 := hide hG
      have g0 : wr.cell? ⟨w1.heap.size + 1, 0, none⟩ = some (.slice (some ⟨nb, 0, none⟩) fs.length nc) := by
        have e : wr.cell? ⟨w1.heap.size + 1, 0, none⟩ = some (.slice (some ⟨nb, 0, none⟩) (nmsK fs fs.length).length nc) := by rw [cell_of_block hG.g]; rfl
        rw [e, hnl]
      have g1 : wr.cell? ⟨w1.heap.size + 1, 1, none⟩ = some (.slice (some ⟨w1.heap.size, 0, none⟩) fs.length fs.length) := by rw [cell_of_block hG.g]; rfl
      have hr1 : wr.heap[w.heap.size]? = some (.cells #[.slice none 0 0, .slice none 0 0] 54) := box_below hr0 hG.below
      have q0 : wr.cell? ⟨w.heap.size, 0, none⟩ = some (.slice none 0 0) := by rw [cell_of_block hr1]; rfl
      have q1 : wr.cell? ⟨w.heap.size, 1, none⟩ = some (.slice none 0 0) := by rw [cell_of_block hr1]; rfl
      have z0 := unfrozen_of_block hr1 0
      have z1 := unfrozen_of_block hr1 1
      have HBE := hide (bl_trans hb0 hG.below)
      clear hnl hG HG hke
      go_wp2_with fail
      obtain ⟨nb', e1, _, _, m1, m2⟩ := (unhide HG1).done (R := w.heap.size) (by omega) (((But.refl _ wr).set 0 (.slice (some ⟨nb, 0, none⟩) fs.length nc)).set 1 (.slice (some ⟨w1.heap.size, 0, none⟩) fs.length fs.length)) (by omega) (by omega)
      cases e1
      refine bodyPost_ret (v := .agg #[.slice (some ⟨nb, 0, none⟩) fs.length nc, .slice (some ⟨w1.heap.size, 0, none⟩) fs.length fs.length]) (by simp [results, Try.results36, go_sem, q0, q1]) rfl ⟨nb, 0, nc, w1.heap.size, rfl, n1, n2, m1, m2, ?_⟩
      exact But.down (unhide HBE) (((But.refl _ wr).set 0 (.slice (some ⟨nb, 0, none⟩) fs.length nc)).set 1 (.slice (some ⟨w1.heap.size, 0, none⟩) fs.length fs.length)) (Nat.le_refl _)
end Go.Proofs.Ytnmgeaonhbhbkaa.GraphJ
