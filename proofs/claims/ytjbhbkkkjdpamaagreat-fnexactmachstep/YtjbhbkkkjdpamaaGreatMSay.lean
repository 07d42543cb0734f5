/- The contract of the program's instruction that says the number that is held. -/
import Derived.Test.YtjbhbkkkjdpamaaGreatMDeed
namespace Go.Proofs.YtjbhbkkkjdpamaaGreat.MSay
open Go.ChangeShapes Go.WideShapes Go.ChangeAt Go.RowKit Go.Joins Go.WideMaps Go.Maps
open Go.Proofs.YtjbhbkkkjdpamaaGreat.Base Go.Proofs.YtjbhbkkkjdpamaaGreat.InsA Go.Proofs.YtjbhbkkkjdpamaaGreat.Funs Go.Proofs.YtjbhbkkkjdpamaaGreat.Open Go.Proofs.YtjbhbkkkjdpamaaGreat.Keep Go.Proofs.YtjbhbkkkjdpamaaGreat.UnitS Go.Proofs.YtjbhbkkkjdpamaaGreat.UnitM Go.Proofs.YtjbhbkkkjdpamaaGreat.WantsI Go.Proofs.YtjbhbkkkjdpamaaGreat.Mach Go.Proofs.YtjbhbkkkjdpamaaGreat.Mark Go.Proofs.YtjbhbkkkjdpamaaGreat.Sum Go.Proofs.YtjbhbkkkjdpamaaGreat.MOk Go.Proofs.YtjbhbkkkjdpamaaGreat.MD Go.Proofs.YtjbhbkkkjdpamaaGreat.MRun Go.Proofs.YtjbhbkkkjdpamaaGreat.MDeed
set_option linter.unusedVariables false
set_option maxRecDepth 100000

theorem grown_box {w w' : World} {row : Option Nat} {N : Nat} {o : Obj} (h : w.grownBy w' row) (hb : w.heap[N]? = some o) (hne : row ≠ some N) : w'.heap[N]? = some o := (h.block N (Array.getElem?_eq_some_iff.1 hb).1 (Ne.symm hne)).trans hb
theorem grown_map {w w' : World} {P : Program} {k b n : Nat} {row : Option Nat} {R : Value → Option (DataW Unit × List MemPlace)} {D : DataW Unit} (h : w.ownsMap P k R b n D) (hb : w.grownBy w' row) (hne : row ≠ some b) : w'.ownsMap P k R b n D := by
  obtain ⟨es, clock, hh, F, hs, hD⟩ := h
  exact ⟨es, clock, grown_box hb hh hne, F, hs, hD⟩
theorem num_map {w : World} {P : Program} {k b n B : Nat} {R : Value → Option (DataW Unit × List MemPlace)} {D : DataW Unit} {v : Value} {os : List Int} (h : w.ownsMap P k R b n D) (ho : NumOwn w B v os) : v.ownBlock ≠ some b := by
  obtain ⟨es, clock, hh, _⟩ := h
  obtain ⟨_, ⟨rfl, _⟩ | ⟨g, cap, cur, rfl, _, hg, _⟩⟩ := ho
  · exact fun e => by cases e
  · intro e
    have e' : g = b := by simpa [Value.ownBlock] using e
    subst e'
    rw [hg] at hh
    cases hh
theorem set_outs {w : World} {R : Nat} {pv : Value} {mb : Nat} {f p c : Int} {xs : List SpotD} {n : Nat} {ov : Value} {d : Int} (h : RunBox w R pv mb f p c xs n ov d) (v : Value) : RunBox (w.setCell ⟨R, 16, none⟩ v) R pv mb f p c xs n v d := by
  obtain ⟨x0, x1, x2, x3, x4, rfl⟩ := five h.1
  exact ⟨h.1, eq_cells (block_setCell h.2 _) rfl⟩
/-- One number more, behind those that were said. -/
theorem say_put {W0 w : World} {R mb : Nat} {pv ov : Value} {fs : List FunD} {m : MD} {xs : List SpotD} (h1 : RunBox w R pv mb m.f m.p m.c xs m.st.length ov m.d) (h2 : xs.take m.st.length = m.st) (h3 : m.st.length ≤ 5) (h4 : W0.heap.size ≤ R) (h5 : NumOwn w W0.heap.size ov m.os) (h6 : w.ownsMap Tryz.prog 9 (plainElem Tryz.prog 3) mb fs.length (PD fs fs.length)) (h7 : W0.heap.size ≤ mb) (h8 : Below W0.heap.size W0 w) (hl : m.os.length ≤ 30) (ty : TypeId) :
    ∃ v' w', (∃ a' c', v' = Value.slice a' (m.os.length + 1) c') ∧ (Builtin.append_ #[24, 24] ty #[ov, .slice (some ⟨w.heap.size, 0, none⟩) 1 1]).run Tryz.prog (w.alloc (.cells #[.int .i64 m.c] 3)) = .ok v' w' ∧ RunBox w' R pv mb m.f m.p m.c xs m.st.length ov m.d ∧ RunIs W0 (w'.setCell ⟨R, 16, none⟩ v') R mb pv fs { m with os := m.os ++ [m.c] } ∧ ∀ (N : Nat) (C : Array Value), w.heap[N]? = some (Obj.cells C 31) → w'.heap[N]? = some (Obj.cells C 31) := by
  obtain ⟨i0, hi, hz0, hz1, hz2⟩ := infoIntP
  have ha := below_alloc1 w (.cells #[.int .i64 m.c] 3)
  have k5 := num_below h5 ha
  have k6 := map_below h6 ha
  have k1 := h1.below ha
  have k8 := bl_trans h8 ha
  obtain ⟨v', w', hrun, hown, hgrow, _, _⟩ := run_append_own_at (P := Tryz.prog) (w.alloc (.cells #[.int .i64 m.c] 3)) W0.heap.size 24 ty 3 i0 _ 1 8 Tryz.underlying24 hi hz0 hz1 hz2 rfl (by decide) ov m.os.length (m.os.map (Value.int .i64)) k5 ⟨w.heap.size, 0, none⟩ 1 1 [.int .i64 m.c] rfl (cell_one_new w _ _) (by simp [Value.oneCell']) (by unfold maxLen; omega) (by omega) k8.size
  have g1 : RunBox w' R pv mb m.f m.p m.c xs m.st.length ov m.d := ⟨k1.1, grown_box hgrow k1.2 (num_ne k5 k1.2)⟩
  have g5 : NumOwn w' W0.heap.size v' (m.os ++ [m.c]) := by
    show World.ownsRow _ _ _ _ _ _ _
    rw [List.length_append, List.map_append]; exact hown
  have g6 := grown_map k6 hgrow (num_map k6 k5)
  have g8 : Below W0.heap.size W0 w' := k8.grown hgrow k8.size (fun j hj => (World.ownsRow.lt k5 j hj).1)
  have gf : ∃ a' c', v' = Value.slice a' (m.os.length + 1) c' := by
    obtain ⟨_, ⟨rfl, e⟩ | ⟨g, cap, cur, rfl, _⟩⟩ := hown
    · omega
    · exact ⟨_, _, rfl⟩
  refine ⟨v', w', gf, hrun, g1, ⟨xs, v', set_outs g1 v', h2, h3, h4, num_but g5 ((But.refl R w').set _ _) (num_ne g5 g1.2), map_but g6 ((But.refl R w').set _ _) (map_ne g6 g1.2), h7, But.down g8 ((But.refl R w').set _ _) h4⟩, fun N C hN => ?_⟩
  have kN := box_below hN ha
  exact grown_box hgrow kN (num_ne2 k5 kN)

set_option maxHeartbeats 4000000 in
theorem say_any (W0 : World) (R mb : Nat) (pv : Value) (fs : List FunD) (m : MD) (w : World) (hd : m.d = 0) (hp : 0 ≤ m.p) (hp2 : m.p ≤ 100) (hl : m.os.length ≤ 30) (h : RunIs W0 w R mb pv fs m) :
    Calls Tryz.prog 200 #[.agg #[], .pointer (some ⟨R, 0, none⟩)] w fun e w' => e = .returned (tellM (sayM m)) ∧ RunIs W0 w' R mb pv fs (holdM m (sayM m)) := by
  have HI := hide h
  have HN := hide (ans2 w (.cells #[] 171) (.int .i64 0) (.int .i64 0) 31)
  have hsz := h.size
  obtain ⟨xs, ov, h1, h2, h3, h4, h5, h6, h7, h8⟩ := h
  have hR : R < w.heap.size := (Array.getElem?_eq_some_iff.1 h1.2).1
  have hof : ∃ oa oc, ov = .slice oa m.os.length oc := by
    obtain ⟨_, ⟨rfl, e⟩ | ⟨g, cap, cur, rfl, _⟩⟩ := h5
    · exact ⟨none, 0, by rw [e]⟩
    · exact ⟨_, _, rfl⟩
  obtain ⟨oa, oc, rfl⟩ := hof
  have q2 := h1.cell 2 rfl
  have q3 := h1.cell 3 rfl
  have q4 := h1.cell 4 rfl
  have q16 := h1.cell 16 (spots_at h1.1 _ _ _ _ _ _ _ _).2.1
  have z16 := h1.thaw 16
  by_cases h30 : m.os.length = 30
  · have HT : Hid (tellM (sayM m) = .tuple #[.agg #[.int .i64 m.f, .int .i64 m.p], .int .i64 4]) := by show _ = _; simp [tellM, sayM, h30]
    have HH : Hid (holdM m (sayM m) = m) := by show _ = _; simp [holdM, sayM, h30]
    have h30' : (m.os.length : Int) = 30 := by omega
    clear h30 h1 h2 h5 h6 h7 h8 hd
    go_enter Tryz.func200, Tryz.ntmps200
    go_wp2_with fail
    refine bodyPost_ret (v := tellM (sayM m)) (by rw [unhide HT]; simp [results, Tryz.results200, go_sem]) rfl ⟨rfl, ?_⟩
    rw [unhide HH]
    exact (unhide HI).below (below_alloc2 _ _ _)
  · have HT : Hid (tellM (sayM m) = .tuple #[.agg #[.int .i64 m.f, .int .i64 (m.p + 1)], .int .i64 0]) := by show _ = _; simp [tellM, sayM, hd, show ¬ 30 ≤ m.os.length by omega]
    have HH : Hid (holdM m (sayM m) = { m with os := m.os ++ [m.c] }) := by show _ = _; simp [holdM, sayM, show ¬ 30 ≤ m.os.length by omega]
    have hne : ¬ (m.os.length : Int) = 30 := by omega
    have ha2 := below_alloc2 w (.cells #[] 171) (.cells #[.int .i64 0, .int .i64 0] 31)
    have hdr : Below ((w.alloc (.cells #[] 171)).alloc (.cells #[.int .i64 0, .int .i64 0] 31)).heap.size ((w.alloc (.cells #[] 171)).alloc (.cells #[.int .i64 0, .int .i64 0] 31)) ((w.alloc (.cells #[] 171)).alloc (.cells #[.int .i64 0, .int .i64 0] 31)).drew := (Below.refl _ _).drew
    obtain ⟨v1, w1, ⟨a1, c1, rfl⟩, hrun, hB1, hI1, hS1⟩ := say_put ((h1.below ha2).below hdr) h2 h3 h4 (num_below (num_below h5 ha2) hdr) (map_below (map_below h6 ha2) hdr) h7 (bl_trans (bl_trans h8 ha2) hdr) hl 24
    have HN1 := hide (hS1 _ _ (box_drew (unhide HN)))
    have q16c := (Stable.cell ⟨R, 16, none⟩ (.slice oa m.os.length oc)).alloc ((Stable.cell ⟨R, 16, none⟩ (.slice oa m.os.length oc)).alloc ((Stable.cell ⟨R, 16, none⟩ (.slice oa m.os.length oc)).alloc q16 (.cells #[] 171)) (.cells #[.int .i64 0, .int .i64 0] 31)) (.cells #[.int .i64 m.c] 3)
    have r16 := hB1.cell 16 (spots_at hB1.1 _ _ _ _ _ _ _ _).2.1
    have y16 := hB1.thaw 16
    have HI1 := hide hI1
    have HRUN := hide hrun
    clear h1 h2 h5 h6 h7 h8 hB1 hI1 hrun hS1 ha2 hdr HI h30 hd
    go_enter Tryz.func200, Tryz.ntmps200
    go_wp2_with fail
    go_region_law (refine step_run rfl (.tmp 20) (.tmp 25) 24 24 rfl _ _ _ (by simp [Act.eval]) (by simp [Act.eval]) (unhide HRUN) ?_)
    all_goals
      go_wp2_with fail
      obtain ⟨xs2, ov2, g1, _⟩ := unhide HI1
      refine (next_any R pv mb m.f m.p m.c xs2 _ ov2 m.d _ hp hp2 g1).mono ?_
      rintro e w2 ⟨rfl, hb2⟩
      have HI2 := hide ((unhide HI1).below hb2)
      have HN2 := hide (box_below (set_other (unhide HN1) (show R ≠ w.heap.size + 1 by omega)) hb2)
      have hn := box2 (unhide HN2)
      clear g1 hb2 HI1 HN1 q2 q3 q4 q16 q16c z16 r16 y16
      go_wp2_with fail
      refine bodyPost_ret (v := tellM (sayM m)) (by rw [unhide HT]; simp [results, Tryz.results200, go_sem, hn]) rfl ⟨rfl, ?_⟩
      rw [unhide HH]
      exact (unhide HI2).other (unhide HN2) (by omega) (((But.refl _ w2).set _ _).set _ _)
end Go.Proofs.YtjbhbkkkjdpamaaGreat.MSay
