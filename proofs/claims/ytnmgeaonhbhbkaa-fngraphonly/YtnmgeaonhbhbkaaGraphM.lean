/- The contracts of the program's walkFrom and GraphBack. -/
import Derived.Test.YtnmgeaonhbhbkaaGraphL
import Derived.Test.YtnmgeaonhbhbkaaWalkD
namespace Go.Proofs.Ytnmgeaonhbhbkaa.GraphM
open Go.ChangeShapes Go.WideShapes Go.ChangeAt Go.RowKit Go.Joins Go.WideMaps Go.Maps Go.Sort Go.Shelf Go.Deep
open Go.Proofs.Ytnmgeaonhbhbkaa.Base Go.Proofs.Ytnmgeaonhbhbkaa.InsA Go.Proofs.Ytnmgeaonhbhbkaa.InsB Go.Proofs.Ytnmgeaonhbhbkaa.Funs Go.Proofs.Ytnmgeaonhbhbkaa.Open Go.Proofs.Ytnmgeaonhbhbkaa.FunS Go.Proofs.Ytnmgeaonhbhbkaa.Keep Go.Proofs.Ytnmgeaonhbhbkaa.UnitS Go.Proofs.Ytnmgeaonhbhbkaa.UnitM Go.Proofs.Ytnmgeaonhbhbkaa.Refs Go.Proofs.Ytnmgeaonhbhbkaa.Mark Go.Proofs.Ytnmgeaonhbhbkaa.PickD Go.Proofs.Ytnmgeaonhbhbkaa.WantsS Go.Proofs.Ytnmgeaonhbhbkaa.WantsL Go.Proofs.Ytnmgeaonhbhbkaa.WantsI Go.Proofs.Ytnmgeaonhbhbkaa.KeepC Go.Proofs.Ytnmgeaonhbhbkaa.KeepD Go.Proofs.Ytnmgeaonhbhbkaa.KeepA Go.Proofs.Ytnmgeaonhbhbkaa.KeepR Go.Proofs.Ytnmgeaonhbhbkaa.KeepI Go.Proofs.Ytnmgeaonhbhbkaa.WayD Go.Proofs.Ytnmgeaonhbhbkaa.GraphD Go.Proofs.Ytnmgeaonhbhbkaa.GraphI Go.Proofs.Ytnmgeaonhbhbkaa.GraphJ Go.Proofs.Ytnmgeaonhbhbkaa.GraphS Go.Proofs.Ytnmgeaonhbhbkaa.GraphK Go.Proofs.Ytnmgeaonhbhbkaa.GraphL Go.Proofs.Ytnmgeaonhbhbkaa.WalkD
set_option linter.unusedVariables false
set_option maxRecDepth 100000

/-- A stack of places in a row of its own. -/
def StOwn (w : World) (B : Nat) (v : Value) (st : List Nat) : Prop := w.ownsRow B 3 1 v st.length (st.map fun (u : Nat) => Value.int .i64 (u : Int))
theorem StOwn.below {w w' : World} {B : Nat} {v : Value} {st : List Nat} (h : StOwn w B v st) (hb : Below w.heap.size w w') : StOwn w' B v st := row_below h hb
theorem st_top {w : World} {B : Nat} {v : Value} {l : List Nat} {x : Nat} (h : StOwn w B v (l ++ [x])) : ∃ g c, v = .slice (some ⟨g, 0, none⟩) (l.length + 1) c ∧ l.length + 1 ≤ c ∧ c ≤ maxLen ∧ w.cell? ⟨g, l.length, none⟩ = some (.int .i64 (x : Int)) ∧ StOwn w B (.slice (some ⟨g, 0, none⟩) l.length c) l ∧ B ≤ g := by
  obtain ⟨h0, ⟨_, hz⟩ | ⟨g, cap, cur, rfl, hB, hg, hn, hm, hsz, ht⟩⟩ := h
  · simp at hz
  · rw [List.length_append, List.length_singleton] at hn ht ⊢
    refine ⟨g, cap, rfl, hn, hm, ?_, ⟨by simp, .inr ⟨g, cap, cur, rfl, hB, hg, by omega, hm, hsz, ?_⟩⟩, hB⟩
    · rw [cell_of_block hg]
      have e : (cur.toList.take ((l.length + 1) * 1))[l.length]? = some (.int .i64 (x : Int)) := by rw [ht]; simp
      rw [List.getElem?_take_of_lt (by omega)] at e
      simpa using e
    · have h1 : cur.toList.take (l.length * 1) = (cur.toList.take ((l.length + 1) * 1)).take l.length := by rw [List.take_take]; congr 1; omega
      rw [h1, ht]; simp
theorem st_snoc {w : World} {B : Nat} {v : Value} {st : List Nat} {x : Nat} (h : w.ownsRow B 3 1 v (st.length + 1) (st.map (fun (u : Nat) => Value.int .i64 (u : Int)) ++ [.int .i64 (x : Int)])) : StOwn w B v (st ++ [x]) := by
  unfold StOwn
  simpa using h
theorem st_one (w : World) (x : Nat) : StOwn (w.alloc (.cells #[.int .i64 (x : Int)] 3)) w.heap.size (.slice (some ⟨w.heap.size, 0, none⟩) 1 1) [x] :=
  ⟨by simp, .inr ⟨w.heap.size, 1, #[.int .i64 (x : Int)], rfl, Nat.le_refl _, new_block w _, Nat.le_refl _, by unfold maxLen; omega, rfl, rfl⟩⟩
theorem StOwn.form {w : World} {B : Nat} {v : Value} {st : List Nat} (h : StOwn w B v st) : ∃ a c, v = .slice a st.length c := KeepW.row_form h
theorem infoInt : (Try.prog.info? 3).map (fun i => (i.zero, i.size, i.bytes)) = some (some (.int .i64 0), 1, 8) := by kernel_rfl
def cntW (w : World) (M n : Nat) : Nat := sumTo (fun u => match w.cell? ⟨M, u, none⟩ with | some (.bool true) => 0 | _ => 1) n
theorem cntW_is {w : World} {M n : Nat} {bs : Nat → Bool} (h : MarksAt w M n bs) : ∀ k, k ≤ n → cntW w M k = cnt bs k
  | 0, _ => rfl
  | k + 1, hk => by
    have h1 := cntW_is h k (by omega)
    have h2 := h.cell (u := k) (by omega)
    show cntW w M k + (match w.cell? ⟨M, k, none⟩ with | some (.bool true) => 0 | _ => 1) = cnt bs k + (if bs k then 0 else 1)
    rw [h1, h2]
    cases bs k <;> rfl
theorem nil_or_snoc (st : List Nat) : st = [] ∨ ∃ l x, st = l ++ [x] := by
  rcases List.eq_nil_or_concat st with h | ⟨l, x, h⟩
  · exact .inl h
  · exact .inr ⟨l, x, by rw [h, List.concat_eq_append]⟩
def lenOf : Value → Nat
  | .slice _ n _ => n
  | _ => 0
/-- What stands along the way. -/
structure WSt (W0 w' : World) (n : Nat) (bs : Nat → Bool) (v : Value) (st : List Nat) : Prop where
  m : MarksAt w' W0.heap.size n bs
  s : StOwn w' (W0.heap.size + 1) v st
  b : Below W0.heap.size W0 w'
theorem WSt.below {W0 w' w3 : World} {n : Nat} {bs : Nat → Bool} {v : Value} {st : List Nat} (h : WSt W0 w' n bs v st) (hb : Below w'.heap.size w' w3) : WSt W0 w3 n bs v st := ⟨h.m.below hb, h.s.below hb, bl_trans h.b hb⟩
theorem WSt.meas {W0 w' : World} {n : Nat} {bs : Nat → Bool} {v : Value} {st : List Nat} (h : WSt W0 w' n bs v st) : 2 * cntW w' W0.heap.size n + lenOf v = 2 * cnt bs n + st.length := by
  obtain ⟨a, c, rfl⟩ := h.s.form
  rw [cntW_is h.m n (Nat.le_refl _)]
  rfl
theorem WSt.mark {W0 w' : World} {n t : Nat} {bs : Nat → Bool} {v : Value} {st : List Nat} (h : WSt W0 w' n bs v st) (ht : t < n) : WSt W0 (w'.setCell ⟨W0.heap.size, t, none⟩ (.bool true)) n (setM bs t) v st :=
  ⟨(h.m.set ht true).congr (fun u _ => rfl), World.ownsRow.kept h.s ((But.refl _ w').set t (.bool true)) (.inr (fun e => by have := (World.ownsRow.lt h.s _ e).1; omega)), But.down h.b ((But.refl _ w').set t (.bool true)) (Nat.le_refl _)⟩
theorem WSt.push {W0 w w4 : World} {n t : Nat} {bs : Nat → Bool} {v v4 : Value} {st : List Nat} (h : WSt W0 w n bs v st) (hg : w.grownBy w4 v.ownBlock) (ho : StOwn w4 (W0.heap.size + 1) v4 (st ++ [t])) : WSt W0 w4 n bs v4 (st ++ [t]) := by
  have hlo : ∀ j, v.ownBlock = some j → W0.heap.size + 1 ≤ j := fun j hj => (World.ownsRow.lt h.s j hj).1
  obtain ⟨C, h1, h2⟩ := h.m
  refine ⟨⟨C, ?_, h2⟩, ho, h.b.grown hg h.b.size (fun j hj => by have := hlo j hj; omega)⟩
  rw [hg.block _ (Array.getElem?_eq_some_iff.1 h1).1 (fun e => by have := hlo _ e.symm; omega)]
  exact h1
/-- What a call of walkFrom leaves. -/
def Walked (w : World) (fs : List FunD) (x : Nat) (e : Ending) (w' : World) : Prop := ∃ M bs, e = .returned (.slice (some ⟨M, 0, none⟩) fs.length fs.length) ∧ MarksAt w' M fs.length bs ∧ (∀ v, v < fs.length → (bs v = true ↔ Rch (steps fs) x v)) ∧ Below w.heap.size w w'

set_option maxHeartbeats 4000000 in
theorem walkFrom_any (nb no nc S : Nat) (fs : List FunD) (x : Nat) (w : World) (hx : x < fs.length) (hn : fs.length ≤ 40) (hst : ∀ u, u < fs.length → ∀ s ∈ steps fs u, s.1 < fs.length) (hS : StepsAt w S fs.length (steps fs)) :
    Calls Try.prog 42 #[.agg #[.slice (some ⟨nb, no, none⟩) fs.length nc, .slice (some ⟨S, 0, none⟩) fs.length fs.length], .int .i64 x] w (Walked w fs x) := by
  obtain ⟨i0, hi, hz0, hz1, hz2⟩ := info_parts infoInt
  obtain ⟨W0, hW0⟩ : ∃ W0, W0 = w.alloc (.cells #[.slice (some ⟨nb, no, none⟩) fs.length nc, .slice (some ⟨S, 0, none⟩) fs.length fs.length] 54) := ⟨_, rfl⟩
  have hb0 : Below w.heap.size w W0 := by rw [hW0]; exact below_alloc1 _ _
  have HZ : Hid (W0.heap.size = w.heap.size + 1) := by show _ = _; rw [hW0]; simp
  have hG : W0.heap[w.heap.size]? = some (.cells #[.slice (some ⟨nb, no, none⟩) fs.length nc, .slice (some ⟨S, 0, none⟩) fs.length fs.length] 54) := by rw [hW0]; exact new_block w _
  have HG := hide hG
  have HS := hide (hS.below hb0)
  have HLT := hide hst
  have g0 : W0.cell? ⟨w.heap.size, 0, none⟩ = some (.slice (some ⟨nb, no, none⟩) fs.length nc) := by rw [cell_of_block hG]; rfl
  have hmk := makeBools fs.length (by omega)
  have hlen : (fs.length : Int) ≤ 9223372036854775807 := by omega
  have HW0 : Hid (WSt W0 ((W0.alloc (.cells (madeCells #[.bool false] fs.length) 4)).alloc (.cells #[.int .i64 (x : Int)] 3)) fs.length (fun _ => false) (.slice (some ⟨W0.heap.size + 1, 0, none⟩) 1 1) [x]) := by
    have h1 := st_one (W0.alloc (.cells (madeCells #[.bool false] fs.length) 4)) x
    rw [World.size_alloc] at h1
    exact ⟨((marks_made W0 fs.length (fun _ => false)).below (below_alloc1 _ _)).congr (fun u _ => by unfold bsTo; split <;> rfl), h1, below_alloc2 _ _ _⟩
  have HI0 := hide (winv_start (E := steps fs) hx)
  have HDONE := hide (fun bs => winv_done (bs := bs) hst hx)
  clear hG hS hst
  go_enter Try.func42, Try.ntmps42
  go_wp2_with fail
  rw [← hW0]
  clear hW0
  try rw [show w.heap.size + 1 = W0.heap.size from (unhide HZ).symm]
  clear hmk g0
  go_loopw [6] (fun v w' => ∃ (st : List Nat) (bs : Nat → Bool), WSt W0 w' fs.length bs v st ∧ Hid (WInv (steps fs) fs.length x bs st)) (fun v w' => 2 * cntW w' W0.heap.size fs.length + lenOf v)
  case atStart => exact ⟨[x], _, unhide HW0, unhide HI0⟩
  case round =>
    obtain ⟨st, bs, hW, HI⟩ := hrel
    clear HW0 HI0
    rcases nil_or_snoc st with rfl | ⟨l, top, rfl⟩
    · obtain ⟨ra, rc, rfl⟩ := hW.s.form
      have HMF := hide hW.m
      have hB := bl_trans hb0 hW.b
      have HD := hide (unhide HDONE bs (unhide HI))
      clear hW HI
      go_wp2_with fail
      go_ret
      exact ⟨_, bs, rfl, unhide HMF, unhide HD, hB⟩
    · have hmeas := hW.meas
      obtain ⟨g, c, rfl, hc1, hc2, t0, hS1, hgB⟩ := st_top hW.s
      have HT := hide (winv_take (unhide HI))
      obtain ⟨htn, hti⟩ := (unhide HI).inst top (List.mem_append_right _ (List.mem_singleton.2 rfl))
      have hfew := (unhide HT).few
      have HW : Hid (WSt W0 wr fs.length bs (.slice (some ⟨g, 0, none⟩) l.length c) l) := ⟨hW.m, hS1, hW.b⟩
      have hbx := box_below (unhide HG) hW.b
      have b1 : wr.cell? ⟨w.heap.size, 1, none⟩ = some (.slice (some ⟨S, 0, none⟩) fs.length fs.length) := by rw [cell_of_block hbx]; rfl
      obtain ⟨v, s00, hst⟩ := (unhide HS) top htn
      have HST := hide hst
      obtain ⟨ra, rc, rfl, hr1, hr2, hr3⟩ := hst
      have s0 := (Stable.cell _ _).1 _ _ hW.b s00
      have HTO := hide (unhide HLT top htn)
      unfold maxLen at hc2
      have htn' : (top : Int) < (fs.length : Int) := by omega
      have hl1 : ((l.length + 1 : Nat) : Int) - 1 = (l.length : Int) := by omega
      rw [List.length_append, List.length_singleton] at hmeas
      have HMS : Hid (2 * cntW wr W0.heap.size fs.length + (l.length + 1) = 2 * cnt bs fs.length + (l.length + 1)) := hmeas
      have HME := hide (fun j bs st => wmid_end (E := steps fs) (n := fs.length) (x := x) (top := top) (j := j) (bs := bs) (st := st))
      have HSK := hide (fun j bs st => wmid_skip (E := steps fs) (n := fs.length) (x := x) (top := top) (j := j) (bs := bs) (st := st))
      have HPU := hide (fun j bs st => wmid_push (E := steps fs) (n := fs.length) (x := x) (top := top) (j := j) (bs := bs) (st := st))
      have HFW := hide (fun j bs st (h : WMid (steps fs) fs.length x top j bs st) => h.few)
      clear hr3 s00 hbx hS1 hW HI hmeas hti
      obtain ⟨K0, hK0⟩ : ∃ K0, K0 = 2 * cnt bs fs.length + l.length := ⟨_, rfl⟩
      have HK0 := hide hK0
      have hk0 : 2 * cnt bs fs.length + l.length ≤ K0 := by omega
      clear hK0
      generalize htse : steps fs top = ts at *
      have HTS := hide htse
      clear htse
      unfold maxLen at hr2
      have htl : (ts.length : Int) ≤ 9223372036854775807 := by omega
      go_wp2_with fail
      go_loopw [6, 36] (fun v i w' => ∃ (j : Nat) (st : List Nat) (bs : Nat → Bool), j ≤ ts.length ∧ i = .int .i64 j ∧ WSt W0 w' fs.length bs v st ∧ Hid (WMid (steps fs) fs.length x top j bs st) ∧ 2 * cnt bs fs.length + st.length ≤ K0) (fun _ i _ => ts.length - (intOf i).toNat)
      case atStart => exact ⟨0, l, bs, Nat.zero_le _, rfl, unhide HW, unhide HT, hk0⟩
      case round =>
        obtain ⟨j, st, bs', hj, rfl, hW, HI, hk1⟩ := hrel
        clear HW HT s0 b1 t0 hk0
        by_cases hjl : j < ts.length
        · have hjl' : (j : Int) < (ts.length : Int) := by omega
          obtain ⟨tb, to, rfl, hc⟩ := step_read ((unhide HST).below hW.b) rfl (by omega)
          obtain ⟨d0, d1⟩ := hc j hjl
          have htn2 := unhide HTO ts[j] (List.getElem_mem _)
          obtain ⟨va, vc, rfl⟩ := hW.s.form
          have HSKJ := hide (unhide HSK j bs' st (unhide HI) hjl)
          have HPUJ := hide (unhide HPU j bs' st (unhide HI) hjl htn2)
          have hfw := unhide HFW j bs' st (unhide HI)
          have hMlt := hW.m.lt
          have HW := hide hW
          clear hc hW HI HSK HPU HME HFW
          generalize ts[j] = tj at *
          obtain ⟨t1, t2⟩ := tj
          simp only at d0 d1 htn2
          have htn3 : (t1 : Int) < (fs.length : Int) := by omega
          have HWA := hide ((unhide HW).below (below_alloc1 wr (.cells #[.int .i64 (t1 : Int), .bool t2] 59)))
          have m1 := (unhide HWA).m.cell htn2
          have z1 := (unhide HWA).m.thaw t1
          cases hb : bs' t1
          · have HX := hide (unhide HPUJ hb)
            have hcn := cnt_set htn2 hb
            have HWM := hide (((unhide HW).mark htn2).below (below_alloc2 _ (.cells #[.int .i64 (t1 : Int), .bool t2] 59) (.cells #[.int .i64 (t1 : Int)] 3)))
            have HL : Hid (∀ j u, [Value.int .i64 (t1 : Int)][j]? = some u → (((wr.setCell ⟨W0.heap.size, t1, none⟩ (.bool true)).alloc (.cells #[.int .i64 (t1 : Int), .bool t2] 59)).alloc (.cells #[.int .i64 (t1 : Int)] 3)).cell? ((⟨wr.heap.size + 1, 0, none⟩ : Addr).add j) = some u) := by
              have h1 := cell_two (wr.setCell ⟨W0.heap.size, t1, none⟩ (.bool true)) (.cells #[.int .i64 (t1 : Int), .bool t2] 59) (.int .i64 (t1 : Int)) 3
              rw [World.size_setCell] at h1
              exact h1
            rw [hb] at m1
            clear HSKJ HPUJ HW HWA hb
            go_wp2_with (first
              | (at_builtin; refine wpList_append_own _ rfl _ _ 66 rfl (W0.heap.size + 1) 3 i0 (.int .i64 0) 1 8 Try.underlying66 hi hz0 hz1 hz2 rfl (by decide) _ st.length (st.map fun (u : Nat) => Value.int .i64 (u : Int)) rfl (unhide HWM).s ⟨wr.heap.size + 1, 0, none⟩ 1 1 [.int .i64 (t1 : Int)] rfl rfl (unhide HL) (by simp [Value.oneCell']) (by unfold maxLen; omega) (by omega) (by simp; omega) ?_; intro v4 w4 hown4 hgrow4 _))
            have HW4 := (unhide HWM).push hgrow4 (st_snoc hown4)
            exact ⟨⟨j + 1, st ++ [t1], _, by omega, by go_num, HW4, unhide HX, by rw [List.length_append, List.length_singleton]; omega⟩, by simp [intOf]; omega⟩
          · have HX := hide (unhide HSKJ hb)
            rw [hb] at m1
            clear HSKJ HPUJ hb
            go_wp2_with fail
            exact ⟨⟨j + 1, st, bs', by omega, by go_num, unhide HWA, unhide HX, hk1⟩, by simp [intOf]; omega⟩
        · have hjl' : ¬ (j : Int) < (ts.length : Int) := by omega
          have HX := hide (unhide HME j bs' st (unhide HI) (by omega))
          have hme := hW.meas
          have hms := unhide HMS
          have hk00 := unhide HK0
          clear HI
          go_wp2_with fail
          refine ⟨⟨st, bs', hW, unhide HX⟩, ?_⟩
          simp only [lenOf] at *
          omega

theorem back_bits (fs : List FunD) : ∃ p : Nat → Bool, ∀ u, p u = true ↔ Rch (steps fs) u u :=
  ⟨fun u => @decide (Rch (steps fs) u u) (Classical.propDecidable _), fun u => @decide_eq_true_iff _ (Classical.propDecidable _)⟩
theorem back_bit {E : StepF} {k : Nat} {b : Bool} {p : Nat → Bool} (hp : ∀ u, p u = true ↔ Rch E u u) (h : b = true ↔ Rch E k k) : b = p k := by
  have h1 := hp k
  cases hb : p k <;> cases hb' : b <;> simp_all
theorem back_mark {fs : List FunD} {p : Nat → Bool} (hp : ∀ u, p u = true ↔ Rch (steps fs) u u) (hok : keepOkB fs = true) {u : Nat} (hu : u < fs.length) : bsTo p fs.length u = true ↔ BackP fs fs[u] := by
  rw [bsTo_all hu, back_iff hok hu, hp]
  rfl
set_option maxHeartbeats 4000000 in
theorem implBack_any (a : Option Addr) (cap : Nat) (fs : List FunD) (w : World) (hcap : fs.length ≤ cap) (hcm : cap ≤ maxLen) (hR : FunRow w a fs) :
    Calls Try.prog 19 #[.slice a fs.length cap] w (NTold w fs (BackP fs)) := by
  have HR := hide hR
  clear hR
  cases hok : keepOkB fs
  · have HE := hide (fun w' => told_nil (w := w) (w' := w') (P := (BackP fs)) hok)
    go_enter Try.func19, Try.ntmps19
    go_wp2_with fail
    refine (implKeepOk_any a cap fs _ hcap hcm (unhide HR)).mono ?_
    rintro e w1 ⟨rfl, hb1⟩
    rw [hok]
    go_wp2_with fail
    go_ret
    exact unhide HE _ hb1
  have h40 := (keep_parts hok).2.1
  have HOK := hide hok
  obtain ⟨p, hp⟩ := back_bits fs
  have HP := hide hp
  have HE : Hid (∀ W w' e, Below w.heap.size w W → Marked W fs (bsTo p fs.length) e w' → NTold w fs (BackP fs) e w') := fun W w' e h1 h2 => told_marked hok (fun u hu => back_mark hp hok hu) h2 h1
  have HLT := hide (steps_lt hok)
  clear hp
  have hmk := makeBools fs.length (by omega)
  go_enter Try.func19, Try.ntmps19
  go_wp2_with fail
  refine (implKeepOk_any a cap fs _ hcap hcm (unhide HR)).mono ?_
  rintro e w1 ⟨rfl, hb1⟩
  rw [hok]
  have HR1 := hide ((unhide HR).below hb1)
  clear hok
  go_wp2_with fail
  refine (graphOf_any a cap fs _ (unhide HOK) hcap hcm (unhide HR1)).mono ?_
  rintro e w2 ⟨nb, no, nc, S, rfl, hnc, hncm, hN, hS, hb2⟩
  have HN := hide hN
  have HS := hide hS
  have hB2 := bl_trans hb1 hb2
  have HM0 := hide (MSt.start w2 nb no nc S fs.length p)
  clear hN hS hb2 hb1 HR1
  go_wp2_with fail
  go_loopw [16] (fun i w' => ∃ (k : Nat), k ≤ fs.length ∧ i = .int .i64 k ∧ MSt w2 w' nb no nc S fs.length (bsTo p k)) (fun i _ => fs.length - (intOf i).toNat)
  case atStart => exact ⟨0, Nat.zero_le _, rfl, unhide HM0⟩
  case round =>
    obtain ⟨k, hk, rfl, hM⟩ := hrel
    have HM := hide hM
    clear HM0
    by_cases hkl : k < fs.length
    · have hkl' : (k : Int) < (fs.length : Int) := by omega
      have HSB := hide ((unhide HS).below hM.b)
      obtain ⟨g0, g1⟩ := hM.cells
      clear hM
      go_wp2_with fail
      refine (walkFrom_any nb no nc S fs k _ hkl h40 (unhide HLT) (unhide HSB)).mono ?_
      rintro e w3 ⟨M, bs, rfl, hMk, hbs, hb3⟩
      have HM3 := hide ((unhide HM).below hb3)
      have m0 := hMk.cell hkl
      have m1 := (unhide HM3).m.cell hkl
      have z1 := (unhide HM3).m.thaw k
      have HX := hide ((unhide HM3).next hkl (b := bs k) (back_bit (unhide HP) (hbs k hkl)))
      clear HM hMk hbs hb3 HSB g0 g1
      generalize bs k = bb at *
      go_wp2_with fail
      exact ⟨⟨k + 1, by omega, by go_num, unhide HX⟩, by simp [intOf]; omega⟩
    · have hkl' : ¬ (k : Int) < (fs.length : Int) := by omega
      have hke : k = fs.length := by omega
      rw [hke] at hM
      obtain ⟨g0, g1⟩ := hM.cells
      have HM1 := hide hM.m
      have HN1 := hide ((unhide HN).below hM.b)
      have HB := hide (bl_trans hB2 hM.b)
      clear hM HM hke
      go_wp2_with fail
      refine (marked_any nb no nc S _ fs _ _ h40 hnc hncm (unhide HN1) (unhide HM1)).mono ?_
      intro e w3 hmk3
      have HF := hide (unhide HE _ _ _ (unhide HB) hmk3)
      clear hmk3
      obtain ⟨v, out, rfl, h1, h2, h3, h4⟩ := unhide HF
      go_wp2_with fail
      go_ret
      exact ⟨v, out, rfl, h1, h2, h3, h4⟩
end Go.Proofs.Ytnmgeaonhbhbkaa.GraphM
