/- The contracts of the program's GraphLeaf and GraphBy. -/
import Derived.Test.YtnmgeaonhbhbkaaGraphK
namespace Go.Proofs.Ytnmgeaonhbhbkaa.GraphL
open Go.ChangeShapes Go.WideShapes Go.ChangeAt Go.RowKit Go.Joins Go.WideMaps Go.Maps Go.Sort Go.Shelf Go.Deep
open Go.Proofs.Ytnmgeaonhbhbkaa.Base Go.Proofs.Ytnmgeaonhbhbkaa.InsA Go.Proofs.Ytnmgeaonhbhbkaa.InsB Go.Proofs.Ytnmgeaonhbhbkaa.Funs Go.Proofs.Ytnmgeaonhbhbkaa.Open Go.Proofs.Ytnmgeaonhbhbkaa.FunS Go.Proofs.Ytnmgeaonhbhbkaa.Keep Go.Proofs.Ytnmgeaonhbhbkaa.UnitS Go.Proofs.Ytnmgeaonhbhbkaa.UnitM Go.Proofs.Ytnmgeaonhbhbkaa.Refs Go.Proofs.Ytnmgeaonhbhbkaa.Mark Go.Proofs.Ytnmgeaonhbhbkaa.PickD Go.Proofs.Ytnmgeaonhbhbkaa.WantsS Go.Proofs.Ytnmgeaonhbhbkaa.WantsL Go.Proofs.Ytnmgeaonhbhbkaa.WantsI Go.Proofs.Ytnmgeaonhbhbkaa.KeepC Go.Proofs.Ytnmgeaonhbhbkaa.KeepD Go.Proofs.Ytnmgeaonhbhbkaa.KeepA Go.Proofs.Ytnmgeaonhbhbkaa.KeepR Go.Proofs.Ytnmgeaonhbhbkaa.KeepI Go.Proofs.Ytnmgeaonhbhbkaa.WayD Go.Proofs.Ytnmgeaonhbhbkaa.GraphD Go.Proofs.Ytnmgeaonhbhbkaa.GraphI Go.Proofs.Ytnmgeaonhbhbkaa.GraphJ Go.Proofs.Ytnmgeaonhbhbkaa.GraphS Go.Proofs.Ytnmgeaonhbhbkaa.GraphK
set_option linter.unusedVariables false
set_option maxRecDepth 100000

theorem told_marked {w W w' : World} {fs : List FunD} {bs : Nat → Bool} {P : FunD → Prop} {e : Ending} (hok : keepOkB fs = true) (hiff : ∀ u (hu : u < fs.length), bs u = true ↔ P fs[u]) (h : Marked W fs bs e w') (hB : Below w.heap.size w W) : NTold w fs P e w' := by
  obtain ⟨v, rfl, hO, hb⟩ := h
  refine ⟨v, _, rfl, marks_gn hok hiff, ?_, hO.base hB.size, bl_trans hB hb⟩
  rw [sorted_len, List.length_map]
  exact Nat.le_trans (mkF_len fs bs _) (keep_parts hok).2.1
def leafB (fs : List FunD) (u : Nat) : Bool := decide ((steps fs u).length = 0)
theorem leaf_iff {fs : List FunD} {u : Nat} (hu : u < fs.length) : bsTo (leafB fs) fs.length u = true ↔ LeafP fs[u] := by
  rw [bsTo_all hu]
  unfold leafB LeafP
  rw [decide_eq_true_iff, steps_at hu]
  exact stp_empty
/-- What stands along the way: marks, the box of the graph, and all that stood ahead. -/
structure MSt (w2 w' : World) (nb no nc S n : Nat) (bs : Nat → Bool) : Prop where
  m : MarksAt w' (w2.heap.size + 1) n bs
  g : w'.heap[w2.heap.size]? = some (.cells #[.slice (some ⟨nb, no, none⟩) n nc, .slice (some ⟨S, 0, none⟩) n n] 54)
  b : Below w2.heap.size w2 w'
theorem MSt.start (w2 : World) (nb no nc S n : Nat) (p : Nat → Bool) : MSt w2 ((w2.alloc (.cells #[.slice (some ⟨nb, no, none⟩) n nc, .slice (some ⟨S, 0, none⟩) n n] 54)).alloc (.cells (madeCells #[.bool false] n) 4)) nb no nc S n (bsTo p 0) := by
  have := marks_made (w2.alloc (.cells #[.slice (some ⟨nb, no, none⟩) n nc, .slice (some ⟨S, 0, none⟩) n n] 54)) n p
  rw [World.size_alloc] at this
  exact ⟨this, box_below (new_block w2 _) (below_alloc1 _ _), below_alloc2 _ _ _⟩
theorem MSt.next {w2 w' : World} {nb no nc S n k : Nat} {p : Nat → Bool} {b : Bool} (h : MSt w2 w' nb no nc S n (bsTo p k)) (hk : k < n) (hb : b = p k) : MSt w2 (w'.setCell ⟨w2.heap.size + 1, k, none⟩ (.bool b)) nb no nc S n (bsTo p (k + 1)) :=
  ⟨h.m.next hk hb, ((But.refl _ w').set k (.bool b)).box h.g (by omega), But.down h.b ((But.refl _ w').set k (.bool b)) (by omega)⟩
theorem MSt.below {w2 w' w3 : World} {nb no nc S n : Nat} {bs : Nat → Bool} (h : MSt w2 w' nb no nc S n bs) (hb : Below w'.heap.size w' w3) : MSt w2 w3 nb no nc S n bs :=
  ⟨h.m.below hb, box_below h.g hb, bl_trans h.b hb⟩
theorem MSt.cells {w2 w' : World} {nb no nc S n : Nat} {bs : Nat → Bool} (h : MSt w2 w' nb no nc S n bs) : w'.cell? ⟨w2.heap.size, 0, none⟩ = some (.slice (some ⟨nb, no, none⟩) n nc) ∧ w'.cell? ⟨w2.heap.size, 1, none⟩ = some (.slice (some ⟨S, 0, none⟩) n n) :=
  ⟨by rw [cell_of_block h.g]; rfl, by rw [cell_of_block h.g]; rfl⟩
theorem told_nil {w w' : World} {fs : List FunD} {P : FunD → Prop} (hok : keepOkB fs = false) (hb : Below w.heap.size w w') : NTold w fs P (.returned (.slice none 0 0)) w' := ⟨_, [], rfl, gn_bad hok, by simp, World.ownsRow_nil _ _ _ _, hb⟩

set_option maxHeartbeats 4000000 in
theorem implLeaf_any (a : Option Addr) (cap : Nat) (fs : List FunD) (w : World) (hcap : fs.length ≤ cap) (hcm : cap ≤ maxLen) (hR : FunRow w a fs) :
    Calls Try.prog 15 #[.slice a fs.length cap] w (NTold w fs LeafP) := by
  have HR := hide hR
  clear hR
  cases hok : keepOkB fs
  · have HE := hide (fun w' => told_nil (w := w) (w' := w') (P := LeafP) hok)
    go_enter Try.func15, Try.ntmps15
    go_wp2_with fail
    refine (implKeepOk_any a cap fs _ hcap hcm (unhide HR)).mono ?_
    rintro e w1 ⟨rfl, hb1⟩
    rw [hok]
    go_wp2_with fail
    go_ret
    exact unhide HE _ hb1
  have h40 := (keep_parts hok).2.1
  have HOK := hide hok
  have HE : Hid (∀ W w' e, Below w.heap.size w W → Marked W fs (bsTo (leafB fs) fs.length) e w' → NTold w fs LeafP e w') := fun W w' e h1 h2 => told_marked hok (fun u hu => leaf_iff hu) h2 h1
  have hmk := makeBools fs.length (by omega)
  go_enter Try.func15, Try.ntmps15
  go_wp2_with fail
  refine (implKeepOk_any a cap fs _ hcap hcm (unhide HR)).mono ?_
  rintro e w1 ⟨rfl, hb1⟩
  rw [hok]
  have HR1 := hide ((unhide HR).below hb1)
  clear hok
  go_wp2_with fail
  refine (graphOf_any a cap fs _ (unhide HOK) hcap hcm (unhide HR1)).mono ?_
  rintro e w2 ⟨nb, no, nc, S, rfl, hnc, hncm, hN, hS, hb2⟩
  have HN := hide hN
  have HS := hide hS
  have hB2 := bl_trans hb1 hb2
  have HM0 := hide (MSt.start w2 nb no nc S fs.length (leafB fs))
  clear hN hS hb2 hb1 HR1
  go_wp2_with fail
  go_loopw [18] (fun i w' => ∃ (k : Nat), k ≤ fs.length ∧ i = .int .i64 k ∧ MSt w2 w' nb no nc S fs.length (bsTo (leafB fs) k)) (fun i _ => fs.length - (intOf i).toNat)
  case atStart => exact ⟨0, Nat.zero_le _, rfl, unhide HM0⟩
  case round =>
    obtain ⟨k, hk, rfl, hM⟩ := hrel
    have HM := hide hM
    clear HM0
    by_cases hkl : k < fs.length
    · have hkl' : (k : Int) < (fs.length : Int) := by omega
      obtain ⟨v, s0, ra, rc, rfl, hr1, hr2, hr3⟩ := ((unhide HS).below hM.b) k hkl
      clear hr3
      have m0 := hM.m.cell hkl
      have z0 := hM.m.thaw k
      have HNX := hide (fun b (e : b = leafB fs k) => hM.next hkl e)
      clear hM HM
      have hll : (steps fs k).length = 0 ∧ leafB fs k = true ∨ ¬ ((steps fs k).length : Int) = 0 ∧ leafB fs k = false := by
        unfold leafB
        by_cases h : (steps fs k).length = 0
        · exact .inl ⟨h, by simp [h]⟩
        · exact .inr ⟨by omega, by simp [h]⟩
      rcases hll with ⟨h0, h1⟩ | ⟨h0, h1⟩
      · have HX := hide (unhide HNX true h1.symm)
        rw [h0] at s0 hr1
        clear HNX h0
        go_wp2_with fail
        exact ⟨⟨k + 1, by omega, by go_num, unhide HX⟩, by simp [intOf]; omega⟩
      · have HX := hide (unhide HNX (((steps fs k).length : Int) == 0) (by rw [h1, beq_eq_false_iff_ne]; exact h0))
        clear HNX h1
        generalize (steps fs k).length = nn at s0 hr1 h0 HX ⊢
        go_wp2_with fail
        exact ⟨⟨k + 1, by omega, by go_num, unhide HX⟩, by simp [intOf]; omega⟩
    · have hkl' : ¬ (k : Int) < (fs.length : Int) := by omega
      have hke : k = fs.length := by omega
      rw [hke] at hM
      obtain ⟨g0, g1⟩ := hM.cells
      have HM1 := hide hM.m
      have HN1 := hide ((unhide HN).below hM.b)
      have HB := hide (bl_trans hB2 hM.b)
      clear hM HM hke
      go_wp2_with fail
      refine (marked_any nb no nc S _ fs _ _ h40 hnc hncm (unhide HN1) (unhide HM1)).mono ?_
      intro e w3 hmk3
      have HF := hide (unhide HE _ _ _ (unhide HB) hmk3)
      clear hmk3
      obtain ⟨v, out, rfl, h1, h2, h3, h4⟩ := unhide HF
      go_wp2_with fail
      go_ret
      exact ⟨v, out, rfl, h1, h2, h3, h4⟩

theorem step_read {w : World} {v : Value} {ss : List (Nat × Bool)} {a : Option Addr} {n c : Nat} (h : StepAt w v ss) (e : v = .slice a n c) (h0 : 0 < ss.length) : ∃ b o, a = some ⟨b, o, none⟩ ∧ ∀ j (hj : j < ss.length), w.cell? ⟨b, o + j * 2, none⟩ = some (.int .i64 (ss[j].1 : Int)) ∧ w.cell? ⟨b, o + j * 2 + 1, none⟩ = some (.bool ss[j].2) := by
  obtain ⟨a', c', e', _, _, hc⟩ := h
  rw [e] at e'
  cases e'
  rcases hc with hc | ⟨b, o, ha, hc⟩
  · rw [hc] at h0; simp at h0
  · exact ⟨b, o, ha, hc⟩
/-- Whether a step leads to a name. -/
def nmB (fs : List FunD) (s : ByteArray) (t : Nat × Bool) : Bool := (fs.getD t.1 default).nm.toList == s.toList
/-- The marks of those that name a name. -/
def byB (fs : List FunD) (s : ByteArray) (u : Nat) : Bool := (steps fs u).any fun t => nmB fs s t
theorem by_mark {fs : List FunD} {s : ByteArray} (hok : keepOkB fs = true) {u : Nat} (hu : u < fs.length) : bsTo (byB fs s) fs.length u = true ↔ ByP s fs[u] := by
  rw [bsTo_all hu, by_iff hok (List.getElem_mem hu)]
  unfold byB
  rw [List.any_eq_true, steps_at hu]
  constructor
  · rintro ⟨t, h1, h2⟩; exact ⟨t, h1, ba_inj (beq_iff_eq.1 h2)⟩
  · rintro ⟨t, h1, h2⟩; exact ⟨t, h1, by unfold nmB; rw [h2]; exact beq_self_eq_true _⟩
/-- .. of the first k, and of the first j steps of the next one. -/
def byK (fs : List FunD) (s : ByteArray) (k j u : Nat) : Bool := if u = k then ((steps fs k).take j).any fun t => nmB fs s t else bsTo (byB fs s) k u
theorem byK_zero {fs : List FunD} {s : ByteArray} {k u : Nat} : bsTo (byB fs s) k u = byK fs s k 0 u := by
  unfold byK
  split
  · rename_i h; subst h; simp [bsTo]
  · rfl
theorem byK_end {fs : List FunD} {s : ByteArray} {k j u : Nat} (hj : j = (steps fs k).length) : byK fs s k j u = bsTo (byB fs s) (k + 1) u := by
  subst hj
  unfold byK
  rw [List.take_length]
  split
  · rename_i h; subst h; unfold bsTo; rw [if_pos (by omega)]; rfl
  · rename_i h; unfold bsTo
    by_cases h1 : u < k
    · rw [if_pos h1, if_pos (by omega)]
    · rw [if_neg h1, if_neg (by omega)]
theorem byK_hit {fs : List FunD} {s : ByteArray} {k j u : Nat} (hj : j < (steps fs k).length) (h : nmB fs s (steps fs k)[j] = true) : setB (byK fs s k j) k true u = byK fs s k (j + 1) u := by
  unfold setB byK
  split
  · rename_i e
    rw [List.take_succ_eq_append_getElem hj, List.any_append]
    simp [h]
  · rfl
theorem byK_miss {fs : List FunD} {s : ByteArray} {k j u : Nat} (hj : j < (steps fs k).length) (h : nmB fs s (steps fs k)[j] = false) : byK fs s k j u = byK fs s k (j + 1) u := by
  unfold byK
  split
  · rw [List.take_succ_eq_append_getElem hj, List.any_append]
    simp [h]
  · rfl
theorem MSt.congr {w2 w' : World} {nb no nc S n : Nat} {bs bs' : Nat → Bool} (h : MSt w2 w' nb no nc S n bs) (e : ∀ u, bs u = bs' u) : MSt w2 w' nb no nc S n bs' := ⟨h.m.congr (fun u _ => e u), h.g, h.b⟩
theorem MSt.put {w2 w' : World} {nb no nc S n k : Nat} {bs : Nat → Bool} {b : Bool} (h : MSt w2 w' nb no nc S n bs) (hk : k < n) : MSt w2 (w'.setCell ⟨w2.heap.size + 1, k, none⟩ (.bool b)) nb no nc S n (setB bs k b) :=
  ⟨h.m.set hk b, ((But.refl _ w').set k (.bool b)).box h.g (by omega), But.down h.b ((But.refl _ w').set k (.bool b)) (by omega)⟩
set_option maxHeartbeats 4000000 in
theorem implBy_any (a : Option Addr) (cap : Nat) (fs : List FunD) (s : ByteArray) (w : World) (hcap : fs.length ≤ cap) (hcm : cap ≤ maxLen) (hR : FunRow w a fs) :
    Calls Try.prog 13 #[.slice a fs.length cap, .string s] w (NTold w fs (ByP s)) := by
  have HR := hide hR
  clear hR
  cases hok : keepOkB fs
  · have HE := hide (fun w' => told_nil (w := w) (w' := w') (P := ByP s) hok)
    go_enter Try.func13, Try.ntmps13
    go_wp2_with fail
    refine (implKeepOk_any a cap fs _ hcap hcm (unhide HR)).mono ?_
    rintro e w1 ⟨rfl, hb1⟩
    rw [hok]
    go_wp2_with fail
    go_ret
    exact unhide HE _ hb1
  have h40 := (keep_parts hok).2.1
  have HOK := hide hok
  have HE : Hid (∀ W w' e, Below w.heap.size w W → Marked W fs (bsTo (byB fs s) fs.length) e w' → NTold w fs (ByP s) e w') := fun W w' e h1 h2 => told_marked hok (fun u hu => by_mark hok hu) h2 h1
  have HLT := hide (steps_lt hok)
  have hmk := makeBools fs.length (by omega)
  go_enter Try.func13, Try.ntmps13
  go_wp2_with fail
  refine (implKeepOk_any a cap fs _ hcap hcm (unhide HR)).mono ?_
  rintro e w1 ⟨rfl, hb1⟩
  rw [hok]
  have HR1 := hide ((unhide HR).below hb1)
  clear hok
  go_wp2_with fail
  refine (graphOf_any a cap fs _ (unhide HOK) hcap hcm (unhide HR1)).mono ?_
  rintro e w2 ⟨nb, no, nc, S, rfl, hnc, hncm, hN, hS, hb2⟩
  have HN := hide hN
  have HS := hide hS
  have hB2 := bl_trans hb1 hb2
  have HM0 := hide (MSt.start w2 nb no nc S fs.length (byB fs s))
  clear hN hS hb2 hb1 HR1
  go_wp2_with fail
  clear hmk
  go_loopw [20] (fun i w' => ∃ (k : Nat), k ≤ fs.length ∧ i = .int .i64 k ∧ MSt w2 w' nb no nc S fs.length (bsTo (byB fs s) k)) (fun i _ => fs.length - (intOf i).toNat)
  case atStart => exact ⟨0, Nat.zero_le _, rfl, unhide HM0⟩
  case round =>
    obtain ⟨k, hk, rfl, hM⟩ := hrel
    have HM := hide hM
    clear HM0
    by_cases hkl : k < fs.length
    · have hkl' : (k : Int) < (fs.length : Int) := by omega
      obtain ⟨v, s00, hst⟩ := (unhide HS) k hkl
      have HST := hide hst
      obtain ⟨ra, rc, rfl, hr1, hr2, hr3⟩ := hst
      clear hr3
      have s0 := (Stable.cell _ _).1 _ _ hM.b s00
      obtain ⟨_, c1⟩ := hM.cells
      have HMK := hide (hM.congr (fun u => byK_zero (fs := fs) (s := s) (k := k) (u := u)))
      have HTO := hide (unhide HLT k hkl)
      have HEND := hide (fun j (u : Nat) => byK_end (fs := fs) (s := s) (k := k) (j := j) (u := u))
      have HHIT := hide (fun j (u : Nat) => byK_hit (fs := fs) (s := s) (k := k) (j := j) (u := u))
      have HMIS := hide (fun j (u : Nat) => byK_miss (fs := fs) (s := s) (k := k) (j := j) (u := u))
      clear hM HM s00
      generalize steps fs k = ts at *
      have hr1' := hr1
      unfold maxLen at hr2
      have htl : (ts.length : Int) ≤ 9223372036854775807 := by omega
      go_wp2_with fail
      go_loopw [29] (fun i w' => ∃ (j : Nat), j ≤ ts.length ∧ i = .int .i64 j ∧ MSt w2 w' nb no nc S fs.length (byK fs s k j)) (fun i _ => ts.length - (intOf i).toNat)
      case atStart => exact ⟨0, Nat.zero_le _, rfl, unhide HMK⟩
      case round =>
        obtain ⟨j, hj, rfl, hM⟩ := hrel
        clear HMK s0 c1
        by_cases hjl : j < ts.length
        · have hjl' : (j : Int) < (ts.length : Int) := by omega
          obtain ⟨tb, to, rfl, hc⟩ := step_read ((unhide HST).below hM.b) rfl (by omega)
          obtain ⟨d0, d1⟩ := hc j hjl
          have htn := unhide HTO ts[j] (List.getElem_mem _)
          have n0 := ((unhide HN).below hM.b) ts[j].1 htn
          obtain ⟨c0, _⟩ := hM.cells
          have HMA := hide (fun o => hM.below (below_alloc1 wr o))
          have HM := hide hM
          have z0 := hM.m.thaw k
          have hMlt := hM.m.lt
          have HH := hide (unhide HHIT j · hjl)
          have HI := hide (unhide HMIS j · hjl)
          have HNM : Hid (nmB fs s ts[j] = (fs[ts[j].1].nm.toList == s.toList)) := by
            show _ = _
            unfold nmB
            rw [show fs.getD ts[j].1 default = fs[ts[j].1] by simp [List.getD, List.getElem?_eq_getElem htn]]
          clear hc hM
          generalize hnm : fs[ts[j].1].nm = nm at *
          generalize ts[j] = tj at *
          clear hnm
          obtain ⟨t1, t2⟩ := tj
          simp only at n0 d0 d1 htn
          have htn' : (t1 : Int) < (fs.length : Int) := by omega
          have n1 := (Stable.cell _ _).1 _ _ (below_alloc1 wr (.cells #[.int .i64 (t1 : Int), .bool t2] 59)) n0
          have c1 := (Stable.cell _ _).1 _ _ (below_alloc1 wr (.cells #[.int .i64 (t1 : Int), .bool t2] 59)) c0
          have z1 := (unhide HMA (.cells #[.int .i64 (t1 : Int), .bool t2] 59)).m.thaw k
          have m1 := (unhide HMA (.cells #[.int .i64 (t1 : Int), .bool t2] 59)).m.cell hkl
          cases hq : (nm.toList == s.toList)
          · have HX := hide (fun o => (unhide HMA o).congr (fun u => unhide HI u ((unhide HNM).trans hq)))
            clear HH HI HMA HNM HM
            go_wp2_with fail
            exact ⟨⟨j + 1, by omega, by go_num, unhide HX _⟩, by simp [intOf]; omega⟩
          · have HX := hide (fun o => (((unhide HM).put (b := true) hkl).below (below_alloc1 _ o)).congr (fun u => unhide HH u ((unhide HNM).trans hq)))
            clear HH HI HMA HNM HM
            go_wp2_with fail
            exact ⟨⟨j + 1, by omega, by go_num, unhide HX _⟩, by simp [intOf]; omega⟩
        · have hjl' : ¬ (j : Int) < (ts.length : Int) := by omega
          have HX := hide (hM.congr (fun u => unhide HEND j u (by omega)))
          go_wp2_with fail
          exact ⟨⟨k + 1, by omega, by go_num, unhide HX⟩, by simp [intOf]; omega⟩
    · have hkl' : ¬ (k : Int) < (fs.length : Int) := by omega
      have hke : k = fs.length := by omega
      rw [hke] at hM
      obtain ⟨g0, g1⟩ := hM.cells
      have HM1 := hide hM.m
      have HN1 := hide ((unhide HN).below hM.b)
      have HB := hide (bl_trans hB2 hM.b)
      clear hM HM hke
      go_wp2_with fail
      refine (marked_any nb no nc S _ fs _ _ h40 hnc hncm (unhide HN1) (unhide HM1)).mono ?_
      intro e w3 hmk3
      have HF := hide (unhide HE _ _ _ (unhide HB) hmk3)
      clear hmk3
      obtain ⟨v, out, rfl, h1, h2, h3, h4⟩ := unhide HF
      go_wp2_with fail
      go_ret
      exact ⟨v, out, rfl, h1, h2, h3, h4⟩
end Go.Proofs.Ytnmgeaonhbhbkaa.GraphL
