/- The contracts of the program's GraphDeep and of what it calls. -/
import Derived.Test.YtnmgeaonhbhbkaaGraphL
import Derived.Test.YtnmgeaonhbhbkaaPk143f984e
import Derived.Deep.RegionHeld3
namespace Go.Proofs.Ytnmgeaonhbhbkaa.GraphO
open Go.ChangeShapes Go.WideShapes Go.ChangeAt Go.RowKit Go.Joins Go.WideMaps Go.Maps Go.Sort Go.Shelf Go.Deep
open Go.Proofs.Ytnmgeaonhbhbkaa.Base Go.Proofs.Ytnmgeaonhbhbkaa.InsA Go.Proofs.Ytnmgeaonhbhbkaa.InsB Go.Proofs.Ytnmgeaonhbhbkaa.Funs Go.Proofs.Ytnmgeaonhbhbkaa.Open Go.Proofs.Ytnmgeaonhbhbkaa.FunS Go.Proofs.Ytnmgeaonhbhbkaa.Keep Go.Proofs.Ytnmgeaonhbhbkaa.UnitS Go.Proofs.Ytnmgeaonhbhbkaa.UnitM Go.Proofs.Ytnmgeaonhbhbkaa.Refs Go.Proofs.Ytnmgeaonhbhbkaa.Mark Go.Proofs.Ytnmgeaonhbhbkaa.PickD Go.Proofs.Ytnmgeaonhbhbkaa.WantsS Go.Proofs.Ytnmgeaonhbhbkaa.WantsL Go.Proofs.Ytnmgeaonhbhbkaa.WantsI Go.Proofs.Ytnmgeaonhbhbkaa.KeepC Go.Proofs.Ytnmgeaonhbhbkaa.KeepD Go.Proofs.Ytnmgeaonhbhbkaa.KeepA Go.Proofs.Ytnmgeaonhbhbkaa.KeepR Go.Proofs.Ytnmgeaonhbhbkaa.KeepI Go.Proofs.Ytnmgeaonhbhbkaa.WayD Go.Proofs.Ytnmgeaonhbhbkaa.GraphD Go.Proofs.Ytnmgeaonhbhbkaa.GraphI Go.Proofs.Ytnmgeaonhbhbkaa.GraphJ Go.Proofs.Ytnmgeaonhbhbkaa.GraphS Go.Proofs.Ytnmgeaonhbhbkaa.GraphK Go.Proofs.Ytnmgeaonhbhbkaa.GraphL Go.Proofs.Ytnmgeaonhbhbkaa.GraphN Go.Proofs.Ytnmgeaonhbhbkaa.DeepD
set_option linter.unusedVariables false
set_option maxRecDepth 100000

def MaxEnd (w : World) (n : Nat) (A : Nat → Int) (e : Ending) (w' : World) : Prop := ∃ z : Int, e = .returned (.int .i64 z) ∧ (∃ u, u < n ∧ A u = z) ∧ (∀ u, u < n → A u ≤ z) ∧ Below w.heap.size w w'
set_option maxHeartbeats 1000000 in
theorem max_any (M n : Nat) (A : Nat → Int) (w : World) (h1 : 1 ≤ n) (hn : n ≤ 1000) (hA : NumsAt w M n A) :
    Calls Try.prog 47 #[.slice (some ⟨M, 0, none⟩) n n] w (MaxEnd w n A) := by
  have HA := hide hA
  have a0 := hA.cell (u := 0) (by omega)
  have HS : Hid ((∃ u, u < n ∧ A u = A 0) ∧ ∀ u, u < 1 → A u ≤ A 0) := ⟨⟨0, by omega, rfl⟩, fun u hu => by rw [show u = 0 by omega]; exact Int.le_refl _⟩
  clear hA
  have h1' : ¬ (n : Int) < 1 := by omega
  have h0' : (0 : Int) < (n : Int) := by omega
  generalize A 0 = a00 at *
  go_enter Try.func47, Try.ntmps47
  go_wp2_with fail
  go_loopw [3, 4] (fun m i w' => ∃ (k : Nat) (z : Int), 1 ≤ k ∧ k ≤ n ∧ i = .int .i64 k ∧ m = .int .i64 z ∧ Hid ((∃ u, u < n ∧ A u = z) ∧ ∀ u, u < k → A u ≤ z) ∧ Below w.heap.size w w') (fun _ i _ => n - (intOf i).toNat)
  case atStart => exact ⟨1, a00, Nat.le_refl _, h1, rfl, rfl, unhide HS, Below.refl _ _⟩
  case round =>
    obtain ⟨k, z, hk1, hk, rfl, rfl, HZ, hb⟩ := hrel
    clear HS a0
    by_cases hkl : k < n
    · have hkl' : (k : Int) < (n : Int) := by omega
      have a1 := ((unhide HA).below hb).cell hkl
      have HX : Hid ((∃ u, u < n ∧ A u = max z (A k)) ∧ ∀ u, u < k + 1 → A u ≤ max z (A k)) := by
        obtain ⟨⟨u, hu, e⟩, h2⟩ := unhide HZ
        refine ⟨?_, fun v hv => ?_⟩
        · rcases Int.le_total z (A k) with h | h
          · exact ⟨k, hkl, by omega⟩
          · exact ⟨u, hu, by omega⟩
        · by_cases e : v = k
          · rw [e]; omega
          · have := h2 v (by omega); omega
      generalize A k = y at *
      go_wp2_with fail
      exact ⟨⟨k + 1, max z y, by omega, by omega, by go_num, rfl, unhide HX, hb⟩, by simp [intOf]; omega⟩
    · have hkl' : ¬ (k : Int) < (n : Int) := by omega
      have HX : Hid ((∃ u, u < n ∧ A u = z) ∧ ∀ u, u < n → A u ≤ z) := ⟨(unhide HZ).1, fun u hu => (unhide HZ).2 u (by omega)⟩
      go_wp2_with fail
      go_ret
      exact ⟨z, rfl, (unhide HX).1, (unhide HX).2, hb⟩
theorem after_any (t : Nat) (b : Bool) (c : Int) (w : World) (hc : -1 ≤ c) (hc2 : c ≤ 1000000) : Calls Try.prog 68 #[.agg #[.int .i64 (t : Int), .bool b], .int .i64 c] w fun e w' => e = .returned (.int .i64 (c + wt b)) ∧ Below w.heap.size w w' := by
  cases b
  · go_enter Try.func68, Try.ntmps68
    go_wp2_with fail
    go_ret
    exact ⟨by simp [wt], below_alloc1 _ _⟩
  · go_enter Try.func68, Try.ntmps68
    go_wp2_with fail
    go_ret
    exact ⟨by simp [wt], below_alloc1 _ _⟩
/-- The first k of calls that are set. -/
def firstK (k u : Nat) : Int := if u < k then -1 else 0
set_option maxHeartbeats 1000000 in
theorem first_any (n : Nat) (w : World) (h1 : 1 ≤ n) (hn : n ≤ 1000) :
    Calls Try.prog 45 #[.int .i64 (n : Int)] w fun e w' => e = .returned (.slice (some ⟨w.heap.size, 0, none⟩) n n) ∧ NumsAt w' w.heap.size n first0 ∧ Below w.heap.size w w' := by
  have hmk := makeInts n (by omega)
  have HM0 : Hid (NumsAt (w.alloc (.cells (madeCells #[.int .i64 0] n) 3)) w.heap.size n (firstK 0)) := (nums_made w n).congr (fun u _ => by unfold firstK; rw [if_neg (by omega)])
  have h0' : (0 : Int) < (n : Int) := by omega
  go_enter Try.func45, Try.ntmps45
  go_wp2_with fail
  clear hmk
  go_loopw [9] (fun i w' => ∃ k : Nat, k ≤ n ∧ i = .int .i64 k ∧ NumsAt w' w.heap.size n (firstK k) ∧ Below w.heap.size w w') (fun i _ => n - (intOf i).toNat)
  case atStart => exact ⟨0, Nat.zero_le _, rfl, unhide HM0, below_alloc1 _ _⟩
  case round =>
    obtain ⟨k, hk, rfl, hM, hb⟩ := hrel
    clear HM0
    by_cases hkl : k < n
    · have hkl' : (k : Int) < (n : Int) := by omega
      have m0 := hM.cell hkl
      have z0 := hM.thaw k
      have HX : Hid (NumsAt (wr.setCell ⟨w.heap.size, k, none⟩ (.int .i64 (-1))) w.heap.size n (firstK (k + 1)) ∧ Below w.heap.size w (wr.setCell ⟨w.heap.size, k, none⟩ (.int .i64 (-1)))) := ⟨(hM.set hkl (-1)).congr (fun u _ => by
        unfold setD firstK
        by_cases e : u = k
        · rw [if_pos e, if_pos (by omega)]
        · rw [if_neg e]
          by_cases h : u < k
          · rw [if_pos h, if_pos (by omega)]
          · rw [if_neg h, if_neg (by omega)]), But.down hb ((But.refl _ wr).set k _) (Nat.le_refl _)⟩
      clear hM
      go_wp2_with fail
      exact ⟨⟨k + 1, by omega, by go_num, (unhide HX).1, (unhide HX).2⟩, by simp [intOf]; omega⟩
    · have hkl' : ¬ (k : Int) < (n : Int) := by omega
      have m0 := hM.cell (u := 0) (by omega)
      have z0 := hM.thaw 0
      have HX : Hid (NumsAt (wr.setCell ⟨w.heap.size, 0, none⟩ (.int .i64 0)) w.heap.size n first0 ∧ Below w.heap.size w (wr.setCell ⟨w.heap.size, 0, none⟩ (.int .i64 0))) := ⟨(hM.set (by omega) 0).congr (fun u hu => by
        unfold setD firstK first0
        by_cases e : u = 0
        · rw [if_pos e, if_pos e]
        · rw [if_neg e, if_neg e, if_pos (by omega)]), But.down hb ((But.refl _ wr).set 0 _) (Nat.le_refl _)⟩
      clear hM
      go_wp2_with fail
      go_ret
      exact ⟨rfl, (unhide HX).1, (unhide HX).2⟩

/-- What stands along a turn: the box of the graph, the calls, and all else. -/
structure DSt (w w' : World) (M n : Nat) (gv : Array Value) (C : Nat → Int) : Prop where
  c : NumsAt w' M n C
  g : w'.heap[w.heap.size]? = some (.cells gv 54)
  b : But M w w'
theorem DSt.below {w w' w3 : World} {M n : Nat} {gv : Array Value} {C : Nat → Int} (h : DSt w w' M n gv C) (hb : Below w'.heap.size w' w3) : DSt w w3 M n gv C := ⟨h.c.below hb, box_below h.g hb, h.b.below hb⟩
theorem DSt.put {w w' : World} {M n t : Nat} {gv : Array Value} {C : Nat → Int} {z : Int} (h : DSt w w' M n gv C) (ht : t < n) (hM : M < w.heap.size) : DSt w (w'.setCell ⟨M, t, none⟩ (.int .i64 z)) M n gv (setZ C t z) :=
  ⟨(h.c.set ht z).congr (fun u _ => rfl), ((But.refl M w').set t (.int .i64 z)).box h.g (by omega), h.b.set t (.int .i64 z)⟩
theorem Stable.dst (w : World) (M n : Nat) (gv : Array Value) (C : Nat → Int) : Stable (fun w' => DSt w w' M n gv C) := ⟨fun w1 w2 hb h => h.below hb, fun w1 h => h.below (Below.refl _ _).drew⟩
theorem step_but {w w' : World} {v : Value} {ss : List (Nat × Bool)} {g : Nat} (h : StepAt w v ss) (hb : But g w w') (hg : ss = [] ∨ v.ownBlock ≠ some g) : StepAt w' v ss := by
  obtain ⟨a, c, hv, h1, h2, h3 | ⟨b, off, ha, h3⟩⟩ := h
  · exact ⟨a, c, hv, h1, h2, .inl h3⟩
  rcases hg with hg | hg
  · exact ⟨a, c, hv, h1, h2, .inl hg⟩
  · refine ⟨a, c, hv, h1, h2, .inr ⟨b, off, ha, fun j hj => ?_⟩⟩
    have hne : some b ≠ some g := by rw [hv, ha] at hg; exact hg
    obtain ⟨c0, c1⟩ := h3 j hj
    exact ⟨by rw [World.cell?_of_block (a := ⟨b, off + j * 2, none⟩) (hb.block b (World.block_lt_of_cell? w _ c0) hne)]; exact c0, by rw [World.cell?_of_block (a := ⟨b, off + j * 2 + 1, none⟩) (hb.block b (World.block_lt_of_cell? w _ c1) hne)]; exact c1⟩
/-- The rows of steps lie ahead of M. -/
def StepsLow (w : World) (S n : Nat) (E : StepF) (M : Nat) : Prop := ∀ u, u < n → ∃ v, w.cell? ⟨S, u, none⟩ = some v ∧ StepAt w v (E u) ∧ S ≠ M ∧ (E u = [] ∨ v.ownBlock ≠ some M)
theorem StepsLow.but {w w' : World} {S n M : Nat} {E : StepF} (h : StepsLow w S n E M) (hb : But M w w') : ∀ u, u < n → ∃ v, w'.cell? ⟨S, u, none⟩ = some v ∧ StepAt w' v (E u) := fun u hu => by
  obtain ⟨v, h1, h2, h3, h4⟩ := h u hu
  refine ⟨v, ?_, step_but h2 hb h4⟩
  rw [World.cell?_of_block (a := ⟨S, u, none⟩) (hb.block S (World.block_lt_of_cell? w _ h1) (fun e => h3 (by cases e; rfl)))]
  exact h1
def DeepenEnd (w : World) (M n : Nat) (E : StepF) (B : Int) (C0 : Nat → Int) (e : Ending) (w' : World) : Prop := ∃ more C, e = .returned (.bool more) ∧ NumsAt w' M n C ∧ Hid (DInv E n B C0 C more n 0) ∧ But M w w'
def DOut (w : World) (M n : Nat) (gv : Array Value) (E : StepF) (B : Int) (C0 : Nat → Int) (m i : Value) (w' : World) : Prop := ∃ (k : Nat) (C : Nat → Int) (mo : Bool), k ≤ n ∧ i = .int .i64 k ∧ m = .bool mo ∧ DSt w w' M n gv C ∧ Hid (DInv E n B C0 C mo k 0)
def DIn (w : World) (M n : Nat) (gv : Array Value) (E : StepF) (B : Int) (C0 : Nat → Int) (k lim : Nat) (m i : Value) (w' : World) : Prop := ∃ (j : Nat) (C : Nat → Int) (mo : Bool), j ≤ lim ∧ i = .int .i64 j ∧ m = .bool mo ∧ 0 ≤ C k ∧ DSt w w' M n gv C ∧ Hid (DInv E n B C0 C mo k j)
set_option maxHeartbeats 4000000 in
theorem deepen_any (nb no nc S M : Nat) (fs : List FunD) (B : Int) (C0 : Nat → Int) (w : World) (hn : fs.length ≤ 40) (hst : ∀ u, u < fs.length → ∀ s ∈ steps fs u, s.1 < fs.length) (h10 : ∀ u, u < fs.length → (steps fs u).length ≤ 10) (hS : StepsLow w S fs.length (steps fs) M) (hM : NumsAt w M fs.length C0) (hg : ∀ u, u < fs.length → Got (steps fs) C0 u) (hB : ∀ u, u < fs.length → C0 u ≤ B) (hB1 : B ≤ 1000) :
    Calls Try.prog 46 #[.agg #[.slice (some ⟨nb, no, none⟩) fs.length nc, .slice (some ⟨S, 0, none⟩) fs.length fs.length], .slice (some ⟨M, 0, none⟩) fs.length fs.length] w (DeepenEnd w M fs.length (steps fs) B C0) := by
  have hMw := hM.lt
  have HD0 : Hid (DSt w (w.alloc (.cells #[.slice (some ⟨nb, no, none⟩) fs.length nc, .slice (some ⟨S, 0, none⟩) fs.length fs.length] 54)) M fs.length #[.slice (some ⟨nb, no, none⟩) fs.length nc, .slice (some ⟨S, 0, none⟩) fs.length fs.length] C0) := ⟨hM.below (below_alloc1 _ _), new_block w _, (But.refl M w).below (below_alloc1 _ _)⟩
  have HI0 := hide (dinv_start hg hB)
  have HS := hide hS
  have HLT := hide hst
  have H10 := hide h10
  clear hS hM hg hB hst h10
  go_enter Try.func46, Try.ntmps46
  go_wp2_with fail
  go_loopw [5, 14] (fun m i w' => DOut w M fs.length #[.slice (some ⟨nb, no, none⟩) fs.length nc, .slice (some ⟨S, 0, none⟩) fs.length fs.length] (steps fs) B C0 m i w') (fun _ i _ => fs.length - (intOf i).toNat)
  case atStart => exact ⟨0, C0, false, Nat.zero_le _, rfl, rfl, unhide HD0, unhide HI0⟩
  case round =>
    obtain ⟨k, C, more, hk, rfl, rfl, hD, HI⟩ := hrel
    clear HD0 HI0
    by_cases hkl : k < fs.length
    · have hkl' : (k : Int) < (fs.length : Int) := by omega
      obtain ⟨v, s0, hst⟩ := (unhide HS).but hD.b k hkl
      have hfew := (unhide HI).few k hkl
      have hc0 := hD.c.cell hkl
      have hl10 := unhide H10 k hkl
      obtain ⟨ra, rc, rfl, hr1, hr2, hr3⟩ := hst
      clear hr3
      by_cases hm1 : C k = -1
      · have HX := hide (dinv_skip (unhide HI) hkl hm1)
        rw [hm1] at hc0
        have HD := hide hD
        generalize (steps fs k).length = nn at *
        clear hm1 hfew hD HI
        go_wp2_with fail
        exact ⟨⟨k + 1, C, more, by omega, by go_num, rfl, unhide HD, unhide HX⟩, by simp [intOf]; omega⟩
      · have hck : 0 ≤ C k := by
          rcases (unhide HI).got k hkl with h | ⟨h, _⟩
          · exact absurd h hm1
          · exact h
        have HROW : Hid (∀ w', But M w w' → StepAt w' (.slice ra (steps fs k).length rc) (steps fs k)) := fun w' hb => by
          obtain ⟨v', s', h'⟩ := (unhide HS).but hb k hkl
          obtain ⟨v0, q1, q2, q3, q4⟩ := (unhide HS) k hkl
          have e1 : wr.cell? ⟨S, k, none⟩ = some v0 := by
            rw [World.cell?_of_block (a := ⟨S, k, none⟩) (hD.b.block S (World.block_lt_of_cell? w _ q1) (fun e => q3 (by cases e; rfl)))]; exact q1
          have e2 : w'.cell? ⟨S, k, none⟩ = some v0 := by
            rw [World.cell?_of_block (a := ⟨S, k, none⟩) (hb.block S (World.block_lt_of_cell? w _ q1) (fun e => q3 (by cases e; rfl)))]; exact q1
          rw [s0] at e1
          rw [s'] at e2
          cases e1
          cases e2
          exact h'
        have HTO := hide (unhide HLT k hkl)
        have HI1 := hide (unhide HI)
        have HEND := hide (fun C' more j => dinv_row (E := steps fs) (n := fs.length) (B := B) (C0 := C0) (C := C') (more := more) (k := k) (j := j))
        have HSTAY := hide (fun C' more j => dinv_stay (E := steps fs) (n := fs.length) (B := B) (C0 := C0) (C := C') (more := more) (k := k) (j := j))
        have HMORE := hide (fun C' more j => dinv_more (E := steps fs) (n := fs.length) (B := B) (C0 := C0) (C := C') (more := more) (k := k) (j := j))
        have HFEW : Hid (∀ C' more j, DInv (steps fs) fs.length B C0 C' more k j → ∀ u, u < fs.length → C' u ≤ B + (10 * k + j : Nat)) := fun C' more j h => h.few
        have HD := hide hD
        clear hD HI
        generalize hts : steps fs k = ts at *
        have HTS := hide hts
        clear hts
        unfold maxLen at hr2
        have htl : (ts.length : Int) ≤ 9223372036854775807 := by omega
        have hne : ¬ C k = -1 := hm1
        have hbq : (C k == -1) = false := beq_eq_false_iff_ne.2 hm1
        go_wp2_with fail
        try rw [hbq]
        clear hbq
        go_loopw [5, 26] (fun m i w' => DIn w M fs.length #[.slice (some ⟨nb, no, none⟩) fs.length nc, .slice (some ⟨S, 0, none⟩) fs.length fs.length] (steps fs) B C0 k ts.length m i w') (fun _ i _ => ts.length - (intOf i).toNat)
        case atStart => exact ⟨0, C, more, Nat.zero_le _, rfl, rfl, hck, unhide HD, unhide HI1⟩
        case round =>
          obtain ⟨j, C', more', hj, rfl, rfl, hck', hD, HI⟩ := hrel
          clear HD HI1 s0 hc0 hfew hm1 hck hne
          by_cases hjl : j < ts.length
          · have hjl' : (j : Int) < (ts.length : Int) := by omega
            obtain ⟨tb, to, rfl, hc⟩ := step_read (unhide HROW _ hD.b) rfl (by omega)
            obtain ⟨d0, d1⟩ := hc j hjl
            have htn2 := unhide HTO ts[j] (List.getElem_mem _)
            have hfk := unhide HFEW C' more' j (unhide HI) k hkl
            have HST2 := hide (unhide HSTAY C' more' j (unhide HI) hkl hjl htn2)
            have HMO2 := hide (unhide HMORE C' more' j (unhide HI) hkl hjl htn2 hck')
            have m0 := hD.c.cell hkl
            have HD := hide hD
            clear hc hD HI HSTAY HMORE HEND HFEW
            generalize ts[j] = tj at *
            obtain ⟨t1, t2⟩ := tj
            simp only at d0 d1 htn2
            obtain ⟨ck, hckk⟩ : ∃ ck, C' k = ck := ⟨_, rfl⟩
            rw [hckk] at m0 hfk hck'
            have HCK := hide hckk
            clear hckk
            have htn3 : (t1 : Int) < (fs.length : Int) := by omega
            have hwt := wt_le t2
            have hkk : k ≤ 40 := by omega
            have HDA := hide ((unhide HD).below (below_alloc1 wr (.cells #[.int .i64 (t1 : Int), .bool t2] 59)))
            have hbx := new_block wr (.cells #[.int .i64 (t1 : Int), .bool t2] 59)
            have b0 : (wr.alloc (.cells #[.int .i64 (t1 : Int), .bool t2] 59)).cell? ⟨wr.heap.size, 0, none⟩ = some (.int .i64 (t1 : Int)) := by rw [cell_of_block hbx]; rfl
            have b1 : (wr.alloc (.cells #[.int .i64 (t1 : Int), .bool t2] 59)).cell? ⟨wr.heap.size, 1, none⟩ = some (.bool t2) := by rw [cell_of_block hbx]; rfl
            have m1 := (Stable.cell _ _).1 _ _ (below_alloc1 wr (.cells #[.int .i64 (t1 : Int), .bool t2] 59)) m0
            have HST : Hid (Stable (fun w' => w'.cell? ⟨wr.heap.size, 0, none⟩ = some (.int .i64 (t1 : Int)) ∧ w'.cell? ⟨wr.heap.size, 1, none⟩ = some (.bool t2) ∧ w'.cell? ⟨M, k, none⟩ = some (.int .i64 ck) ∧ DSt w w' M fs.length #[.slice (some ⟨nb, no, none⟩) fs.length nc, .slice (some ⟨S, 0, none⟩) fs.length fs.length] C')) := (Stable.cell _ _).and ((Stable.cell _ _).and ((Stable.cell _ _).and (Stable.dst _ _ _ _ _)))
            have hS0 := And.intro b0 (And.intro b1 (And.intro m1 (unhide HDA)))
            clear hbx b0 b1 m1 HDA m0 HD
            go_wp2_with fail
            go_region_held3 (fun w' => w'.cell? ⟨wr.heap.size, 0, none⟩ = some (.int .i64 (t1 : Int)) ∧ w'.cell? ⟨wr.heap.size, 1, none⟩ = some (.bool t2) ∧ w'.cell? ⟨M, k, none⟩ = some (.int .i64 ck) ∧ DSt w w' M fs.length #[.slice (some ⟨nb, no, none⟩) fs.length nc, .slice (some ⟨S, 0, none⟩) fs.length fs.length] C') (first | assumption | (refine (unhide HST).1 _ _ hbk ?_; assumption) | (refine (unhide HST).2 _ ?_; assumption))
              (first
                | (go_at_call 68; refine (after_any t1 t2 ck _ (by omega) (by omega)).mono ?_; rintro e wk ⟨rfl, hbk⟩))
            have hS1 : (fun w' => w'.cell? ⟨wr.heap.size, 0, none⟩ = some (.int .i64 (t1 : Int)) ∧ w'.cell? ⟨wr.heap.size, 1, none⟩ = some (.bool t2) ∧ w'.cell? ⟨M, k, none⟩ = some (.int .i64 ck) ∧ DSt w w' M fs.length #[.slice (some ⟨nb, no, none⟩) fs.length nc, .slice (some ⟨S, 0, none⟩) fs.length fs.length] C') wk := by assumption
            obtain ⟨b0, b1, m1, hD1⟩ := hS1
            clear hS0 b1 m1
            have m2 := hD1.c.cell htn2
            have z2 := hD1.c.thaw t1
            obtain ⟨cc, hcc⟩ : ∃ cc : Int, ck + (wt t2 : Int) = cc := ⟨_, rfl⟩
            have HCC := hide hcc
            try rw [hcc]
            by_cases hlt : C' t1 < cc
            · have HX := hide (unhide HMO2 (by rw [unhide HCK]; omega))
              have HPUT := hide (hD1.put (z := cc) htn2 hMw)
              rw [unhide HCK, hcc] at HX
              have hkk2 : 0 ≤ setZ C' t1 cc k := set_kept (by rw [unhide HCK]; exact hck') (by omega)
              clear HMO2 HST2 hD1 hcc
              generalize C' t1 = c1 at *
              go_wp2_with fail
              exact ⟨⟨j + 1, _, true, by omega, by go_num, rfl, hkk2, unhide HPUT, unhide HX⟩, by simp [intOf]; omega⟩
            · have HX := hide (unhide HST2 (by rw [unhide HCK]; omega))
              have hkk2 : 0 ≤ C' k := by rw [unhide HCK]; exact hck'
              have HD2 := hide hD1
              clear HMO2 HST2 hD1 hcc
              generalize hc1 : C' t1 = c1 at *
              have HC1 := hide hc1
              clear hc1
              go_wp2_with fail
              exact ⟨⟨j + 1, C', more', by omega, by go_num, rfl, hkk2, unhide HD2, unhide HX⟩, by simp [intOf]; omega⟩
          · have hjl' : ¬ (j : Int) < (ts.length : Int) := by omega
            have HX := hide (unhide HEND C' more' j (unhide HI) (by omega) hl10)
            have HD := hide hD
            clear hD HI
            go_wp2_with fail
            exact ⟨⟨k + 1, C', more', by omega, by go_num, rfl, unhide HD, unhide HX⟩, by simp [intOf]; omega⟩
    · have hkl' : ¬ (k : Int) < (fs.length : Int) := by omega
      have hke : k = fs.length := by omega
      rw [hke] at HI
      clear hke
      go_wp2_with fail
      go_ret
      exact ⟨more, C, rfl, hD.c, HI, hD.b⟩

theorem nums_but {w w' : World} {M M' n : Nat} {D : Nat → Int} (h : NumsAt w M n D) (hb : But M' w w') (hne : M ≠ M') : NumsAt w' M n D := by
  obtain ⟨C, h1, h2⟩ := h
  exact ⟨C, hb.box h1 hne, h2⟩
theorem low_of {w w' : World} {S n M : Nat} {E : StepF} (h : StepsAt w S n E) (hb : Below w.heap.size w w') (hM : w.heap.size ≤ M) : StepsLow w' S n E M := fun u hu => by
  obtain ⟨v, h1, h2⟩ := h u hu
  have hS := World.block_lt_of_cell? w _ h1
  have hS' : S < w.heap.size := hS
  refine ⟨v, (Stable.cell _ _).1 _ _ hb h1, h2.below hb, by omega, ?_⟩
  obtain ⟨a, c, rfl, _, _, h3 | ⟨b, off, rfl, h3⟩⟩ := h2
  · exact .inl h3
  · by_cases h0 : E u = []
    · exact .inl h0
    · have hl : 0 < (E u).length := List.length_pos_iff.2 h0
      have hb0 : b < w.heap.size := World.block_lt_of_cell? w _ (h3 0 hl).1
      refine .inr fun e => ?_
      have e' : some b = some M := e
      cases e'
      omega
def roomW (w : World) (M n : Nat) : Nat := sumTo (fun u => match w.cell? ⟨M, u, none⟩ with | some (.int _ z) => ((n : Int) - z).toNat | _ => 0) n
theorem sum_congr {f g : Nat → Nat} : ∀ {n : Nat}, (∀ u, u < n → f u = g u) → sumTo f n = sumTo g n
  | 0, _ => rfl
  | n + 1, h => by
    show sumTo f n + f n = sumTo g n + g n
    rw [sum_congr (fun u hu => h u (by omega)), h n (by omega)]
theorem roomW_is {w : World} {M n : Nat} {C : Nat → Int} (h : NumsAt w M n C) : roomW w M n = room C n := by
  unfold roomW room
  refine sum_congr fun u hu => ?_
  simp only [h.cell hu]
set_option maxHeartbeats 4000000 in
theorem implDeep_any (a : Option Addr) (cap : Nat) (fs : List FunD) (w : World) (hcap : fs.length ≤ cap) (hcm : cap ≤ maxLen) (hR : FunRow w a fs) :
    Calls Try.prog 23 #[.slice a fs.length cap] w (DeepEnd w fs) := by
  have HR := hide hR
  clear hR
  cases hok : keepOkB fs
  · have HE : Hid (DeepR fs (-1)) := .inl ⟨hok, rfl⟩
    go_enter Try.func23, Try.ntmps23
    go_wp2_with fail
    refine (implKeepOk_any a cap fs _ hcap hcm (unhide HR)).mono ?_
    rintro e w1 ⟨rfl, hb1⟩
    rw [hok]
    go_wp2_with fail
    go_ret
    exact ⟨-1, rfl, unhide HE, hb1⟩
  have h40 := (keep_parts hok).2.1
  have h1 := (keep_parts hok).1
  have HOK := hide hok
  have HC := hide (steps_lt hok)
  have H10 : Hid (∀ u, u < fs.length → (steps fs u).length ≤ 10) := fun u hu => by
    rw [steps_at hu]
    exact Nat.le_trans (stpL_len fs _) (fun_le ((keep_parts hok).2.2.1 _ (List.getElem_mem hu)))
  go_enter Try.func23, Try.ntmps23
  go_wp2_with fail
  refine (implKeepOk_any a cap fs _ hcap hcm (unhide HR)).mono ?_
  rintro e w1 ⟨rfl, hb1⟩
  rw [hok]
  have HR1 := hide ((unhide HR).below hb1)
  clear hok
  go_wp2_with fail
  refine (graphOf_any a cap fs _ (unhide HOK) hcap hcm (unhide HR1)).mono ?_
  rintro e w2 ⟨nb, no, nc, S, rfl, hnc, hncm, hN, hS, hb2⟩
  have HS := hide hS
  have hB2 := bl_trans hb1 hb2
  clear hN hS hb2 hb1 HR1
  go_wp2_with fail
  refine (first_any fs.length _ h1 (by omega)).mono ?_
  rintro e w3 ⟨rfl, hM3, hb3⟩
  have hMs : w2.heap.size + 1 = (w2.alloc (.cells #[.slice (some ⟨nb, no, none⟩) fs.length nc, .slice (some ⟨S, 0, none⟩) fs.length fs.length] 54)).heap.size := by simp
  obtain ⟨M, hM⟩ : ∃ M, M = (w2.alloc (.cells #[.slice (some ⟨nb, no, none⟩) fs.length nc, .slice (some ⟨S, 0, none⟩) fs.length fs.length] 54)).heap.size := ⟨_, rfl⟩
  have hM2 : M = w2.heap.size + 1 := by rw [hM, hMs]
  have HB3 := hide (bl_trans (below_alloc1 w2 (.cells #[.slice (some ⟨nb, no, none⟩) fs.length nc, .slice (some ⟨S, 0, none⟩) fs.length fs.length] 54)) hb3)
  have HL : Hid (∀ w', Below w2.heap.size w2 w' → StepsLow w' S fs.length (steps fs) M) := fun w' hb => low_of (unhide HS) hb (by omega)
  have HG3 := hide (box_below (new_block w2 (.cells #[.slice (some ⟨nb, no, none⟩) fs.length nc, .slice (some ⟨S, 0, none⟩) fs.length fs.length] 54)) hb3)
  rw [← hM] at hM3
  have HM3 := hide hM3
  try rw [← hM]
  try rw [← hM2]
  clear hM3 hb3 hMs hM
  subst hM2
  go_wp2_with fail
  go_loopw [] (fun w' => ∃ C, NumsAt w' (w2.heap.size + 1) fs.length C ∧ Hid ((∀ u, u < fs.length → Got (steps fs) C u) ∧ (∀ u, u < fs.length → C u < fs.length) ∧ 0 ≤ C 0) ∧ w'.heap[w2.heap.size]? = some (.cells #[.slice (some ⟨nb, no, none⟩) fs.length nc, .slice (some ⟨S, 0, none⟩) fs.length fs.length] 54) ∧ Below w2.heap.size w2 w') (fun w' => roomW w' (w2.heap.size + 1) fs.length)
  case atStart => exact ⟨first0, unhide HM3, ⟨fun u _ => got_first _ u, fun u _ => by unfold first0; split <;> omega, by unfold first0; rw [if_pos rfl]; exact Int.le_refl _⟩, unhide HG3, unhide HB3⟩
  case round =>
    obtain ⟨C, hC, HI, hg, hb⟩ := hrel
    clear HM3 HG3 HB3
    have g0 : wr.cell? ⟨w2.heap.size, 0, none⟩ = some (.slice (some ⟨nb, no, none⟩) fs.length nc) := by rw [cell_of_block hg]; rfl
    have g1 : wr.cell? ⟨w2.heap.size, 1, none⟩ = some (.slice (some ⟨S, 0, none⟩) fs.length fs.length) := by rw [cell_of_block hg]; rfl
    have HLW := hide (unhide HL _ hb)
    have HCW := hide hC
    have HGW := hide hg
    have hroom := roomW_is hC
    have HRM : Hid (roomW wr (w2.heap.size + 1) fs.length = room C fs.length) := hroom
    clear hC hg hroom
    go_wp2_with fail
    refine (deepen_any nb no nc S (w2.heap.size + 1) fs (fs.length : Int) C _ h40 (unhide HC) (unhide H10) (unhide HLW) (unhide HCW) (unhide HI).1 (fun u hu => by have := (unhide HI).2.1 u hu; omega) (by omega)).mono ?_
    rintro e w4 ⟨more, C', rfl, hC4, HD4, hb4⟩
    have HC4 := hide hC4
    have HG4 := hide (hb4.box (unhide HGW) (by omega))
    have hB4 := But.down hb hb4 (by omega)
    clear hC4 hb4 HLW HCW HGW g0 g1
    cases more
    · go_wp2_with fail
      refine (max_any (w2.heap.size + 1) fs.length C' _ h1 (by omega) (unhide HC4)).mono ?_
      rintro e w5 ⟨z, rfl, ⟨u, hu, hz⟩, hle, hb5⟩
      have HE : Hid (DeepR fs z) := .inr ⟨unhide HOK, dinv_calls (unhide HC) (by omega) (unhide HD4) (unhide HI).2.2 hu hz hle⟩
      have hB5 := bl_trans hB2 (bl_trans hB4 hb5)
      clear hb5 hle hz
      go_wp2_with fail
      go_ret
      exact ⟨z, rfl, unhide HE, hB5⟩
    · go_wp2_with fail
      refine (max_any (w2.heap.size + 1) fs.length C' _ h1 (by omega) (unhide HC4)).mono ?_
      rintro e w5 ⟨z, rfl, ⟨u, hu, hz⟩, hle, hb5⟩
      have HZ : Hid (C' u = z) := hz
      have HLE := hide hle
      have HC5 := hide ((unhide HC4).below hb5)
      have HG5 := hide (box_below (unhide HG4) hb5)
      have hB5 := bl_trans hB4 hb5
      clear hb5 hle hz HC4 HG4 hB4
      by_cases hzn : (fs.length : Int) ≤ z
      · have HE : Hid (DeepR fs (-1)) := .inr ⟨unhide HOK, dinv_far (unhide HC) (by omega) (unhide HD4) hu (by rw [unhide HZ]; exact hzn)⟩
        go_wp2_with fail
        go_ret
        exact ⟨-1, rfl, unhide HE, bl_trans hB2 hB5⟩
      · have hlt : ∀ v, v < fs.length → C' v < fs.length := fun v hv => by have := unhide HLE v hv; omega
        have hroom := room_less (unhide HD4).ge ((unhide HD4).grew rfl) hlt
        have hr5 := roomW_is (unhide HC5)
        have HN : Hid ((∀ u, u < fs.length → Got (steps fs) C' u) ∧ (∀ u, u < fs.length → C' u < fs.length) ∧ 0 ≤ C' 0) := ⟨(unhide HD4).got, hlt, Int.le_trans (unhide HI).2.2 ((unhide HD4).ge 0 (by omega))⟩
        have HMS : Hid (roomW w5 (w2.heap.size + 1) fs.length < roomW wr (w2.heap.size + 1) fs.length) := by
          show _ < _
          rw [hr5, unhide HRM]; exact hroom
        clear hlt hroom hr5
        go_wp2_with fail
        exact ⟨⟨C', unhide HC5, unhide HN, unhide HG5, hB5⟩, unhide HMS⟩
end Go.Proofs.Ytnmgeaonhbhbkaa.GraphO
