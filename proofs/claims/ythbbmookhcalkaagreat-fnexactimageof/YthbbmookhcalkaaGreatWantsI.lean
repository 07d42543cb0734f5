/- The contracts of the program's set of names: put, and what functions want. -/
import Derived.Test.YthbbmookhcalkaaGreatUnitM
import Derived.Test.YthbbmookhcalkaaGreatRefs
namespace Go.Proofs.YthbbmookhcalkaaGreat.WantsI
open Go.ChangeShapes Go.WideShapes Go.ChangeAt Go.RowKit Go.Joins Go.WideMaps Go.Maps
open Go.Proofs.YthbbmookhcalkaaGreat.Base Go.Proofs.YthbbmookhcalkaaGreat.InsA Go.Proofs.YthbbmookhcalkaaGreat.InsB Go.Proofs.YthbbmookhcalkaaGreat.Funs Go.Proofs.YthbbmookhcalkaaGreat.Open Go.Proofs.YthbbmookhcalkaaGreat.FunS Go.Proofs.YthbbmookhcalkaaGreat.Keep Go.Proofs.YthbbmookhcalkaaGreat.UnitS Go.Proofs.YthbbmookhcalkaaGreat.UnitM Go.Proofs.YthbbmookhcalkaaGreat.Refs
set_option linter.unusedVariables false
set_option maxRecDepth 100000

/-- A set of texts in block b. -/
def SetAt (w : World) (b n : Nat) (ls : List Lit) : Prop := w.ownsMap Tryz.prog 9 (unitElem (H := Unit)) b n (setOf (.agg []) ls)
theorem map_below {w w' : World} {P : Program} {k b n : Nat} {R : Value → Option (DataW Unit × List MemPlace)} {D : DataW Unit} (h : w.ownsMap P k R b n D) (hb : Below w.heap.size w w') : w'.ownsMap P k R b n D := by
  obtain ⟨es, clock, hh, F, hs, hD⟩ := h
  exact ⟨es, clock, box_below hh hb, F, hs, hD⟩
theorem set_cell {w w' : World} {b n : Nat} {D : DataW Unit} {R : Value → Option (DataW Unit × List MemPlace)} {p : Addr} {v : Value} (h : w.ownsMap Tryz.prog 9 R b n D) (hg : w.grownBy w' (some b)) (hc : w.cell? p = some v) : w'.cell? p = some v := by
  refine hg.cell hc (fun e => ?_)
  obtain ⟨es, clock, hb, _⟩ := h
  have e' : p.block = b := by simpa using e
  unfold World.cell? at hc
  rw [e', hb] at hc
  cases hc
theorem strAt_set {w w' : World} {b n : Nat} {D : DataW Unit} {R : Value → Option (DataW Unit × List MemPlace)} {v : Value} {ss : List ByteArray} (h : StrAt w v ss) (hm : w.ownsMap Tryz.prog 9 R b n D) (hg : w.grownBy w' (some b)) : StrAt w' v ss := by
  obtain ⟨a, cap, rfl, h1, h2, h3⟩ := h
  refine ⟨a, cap, rfl, h1, h2, ?_⟩
  rcases h3 with h3 | ⟨b', off, ha, h3⟩
  · exact .inl h3
  · exact .inr ⟨b', off, ha, fun i hi => set_cell hm hg (h3 i hi)⟩

set_option maxHeartbeats 2000000 in
theorem put_any (b n : Nat) (ls : List Lit) (v : Value) (ss : List ByteArray) (w : World) (hn : n + ss.length ≤ 1000000) (hsz : ∀ s ∈ ss, s.size ≤ maxLen) (hM : SetAt w b n ls) (hS : StrAt w v ss) :
    Calls Tryz.prog 79 #[.map (some b), v] w fun e w' => e = .returned (.tuple #[]) ∧ SetAt w' b (n + ss.length) (ls ++ ss.map keyS) ∧ w.grownBy w' (some b) := by
  have HM := hide hM
  have HS := hide hS
  have HZ := hide hsz
  obtain ⟨a, cap, rfl, hcap, hcm, _⟩ := hS
  clear hM hsz
  go_enter Tryz.func79, Tryz.ntmps79
  go_wp2_with fail
  go_loopw [8] (fun i w' => ∃ k : Nat, k ≤ ss.length ∧ i = .int .i64 k ∧ SetAt w' b (n + k) (ls ++ (ss.take k).map keyS) ∧ StrAt w' (.slice a ss.length cap) ss ∧ w.grownBy w' (some b)) (fun i _ => ss.length - (intOf i).toNat)
  case atStart => exact ⟨0, Nat.zero_le _, rfl, by simpa using unhide HM, unhide HS, World.grownBy.refl _ _⟩
  case round =>
    obtain ⟨k, hk, rfl, hown, hst, hg⟩ := hrel
    have HO := hide hown
    have HT := hide hst
    have HG := hide hg
    clear hown hst hg HM HS
    by_cases hkl : k < ss.length
    · obtain ⟨a', cap', e1, _, _, hcc⟩ := unhide HT
      obtain ⟨rfl, rfl⟩ : a = a' ∧ cap = cap' := by simpa using e1
      obtain h0 | ⟨g1, o1, rfl, hg1⟩ := hcc
      · rw [h0] at hkl; simp at hkl
      have r0 := hg1 k hkl
      have hkl' : (k : Int) < (ss.length : Int) := by omega
      have hkey : keyOf Tryz.prog 9 (.string ss[k]) = some (keyS ss[k]) := keyOf_string_mk Tryz.underlying9 (unhide HZ _ (List.getElem_mem _))
      have HTK : Hid (ls ++ (ss.take (k + 1)).map keyS = (ls ++ (ss.take k).map keyS) ++ [keyS ss[k]]) := by
        show _ = _
        rw [List.take_succ_eq_append_getElem hkl, List.map_append, ← List.append_assoc]
        rfl
      clear hg1 e1
      generalize ss[k] = t at *
      generalize ls ++ (ss.take k).map keyS = ks at *
      go_wp2_with (first
        | (at_mapUpdate; refine wpList_mapUpdate_own _ rfl _ _ _ 114 rfl 9 120 lawS Tryz.underlying114 _ b (n + k) _ rfl (unhide HO) (by unfold maxLen; omega) _ _ _ rfl rfl hkey (.agg []) [] unitElem_mk ?_; intro w1 hown1 hgrow1)
        | go_in)
      exact ⟨⟨k + 1, by omega, by go_num, by rw [unhide HTK]; unfold SetAt; rw [setOf_snoc]; exact hown1, strAt_set (unhide HT) (unhide HO) hgrow1, (unhide HG).trans hgrow1⟩, by simp [intOf]; omega⟩
    · have hke : k = ss.length := by omega
      subst hke
      rw [List.take_length] at HO
      go_wp2_with fail
      go_end0
      exact ⟨rfl, unhide HO, unhide HG⟩

/-- What the first k functions name, one behind the other. -/
def refsTo (fs : List FunD) (k : Nat) : List ByteArray := (fs.take k).flatMap fun f => funRefs f.nm f.body
theorem refsTo_succ {fs : List FunD} {k : Nat} (hk : k < fs.length) : refsTo fs (k + 1) = refsTo fs k ++ funRefs fs[k].nm fs[k].body := by
  unfold refsTo
  rw [List.take_succ_eq_append_getElem hk, List.flatMap_append]
  simp
/-- The set without the names of the first k functions. -/
def delTo (D : DataW Unit) (fs : List FunD) : Nat → DataW Unit
  | 0 => D
  | k + 1 => (delTo D fs k).del (keyS (fs.getD k default).nm)
theorem funRefs_le (nm : ByteArray) (xs : List InsD) : (funRefs nm xs).length ≤ 10 := by
  unfold funRefs
  cases h : funOkB nm xs
  · simp
  · exact Nat.le_trans (refs_len xs) (fun_le h)
theorem funRefs_size {nm : ByteArray} {xs : List InsD} (h : ∀ x ∈ xs, x.s.size ≤ maxLen) : ∀ s ∈ funRefs nm xs, s.size ≤ maxLen := by
  have : ∀ (ys : List InsD) (acc : List ByteArray), (∀ x ∈ ys, x.s.size ≤ maxLen) → (∀ s ∈ acc, s.size ≤ maxLen) → ∀ s ∈ ys.foldl refStep acc, s.size ≤ maxLen := by
    intro ys
    induction ys with
    | nil => intro acc _ h s hs; exact h s hs
    | cons y r ih =>
      intro acc hy ha
      refine ih _ (fun x hx => hy x (List.mem_cons_of_mem _ hx)) ?_
      unfold refStep
      split
      · intro s hs
        rcases List.mem_append.1 hs with hs | hs
        · exact ha s hs
        · rw [List.mem_singleton.1 hs]; exact hy y (List.mem_cons_self ..)
      · exact ha
  unfold funRefs
  split
  · exact this xs [] h (fun s hs => by cases hs)
  · intro s hs; cases hs

set_option maxHeartbeats 2000000 in
/-- The two loops of wantsOf: what is left is told by inOrder, whose contract is handed in. -/
theorem wantsOf_any (Q : Value → World → Prop) (a : Option Addr) (cap : Nat) (fs : List FunD) (w : World) (hcap : fs.length ≤ cap) (hcm : cap ≤ maxLen) (h5 : fs.length ≤ 40) (hR : FunRow w a fs)
    (hin : ∀ w1, w1.ownsMap Tryz.prog 9 (unitElem (H := Unit)) w.heap.size 400 (delTo (setOf (.agg []) ((refsTo fs fs.length).map keyS)) fs fs.length) → Below w.heap.size w w1 → Calls Tryz.prog 81 #[.map (some w.heap.size)] w1 fun e w' => ∃ v, e = .returned v ∧ Q v w') :
    Calls Tryz.prog 69 #[.slice a fs.length cap] w fun e w' => ∃ v, e = .returned v ∧ Q v w' := by
  have HR := hide hR
  have HIN := hide hin
  clear hR hin
  have hmm := @run_makeMap Tryz.prog
  go_enter Tryz.func69, Tryz.ntmps69
  go_wp2_with fail
  clear hmm
  go_loopw [11] (fun i w' => ∃ k : Nat, k ≤ fs.length ∧ i = .int .i64 k ∧ SetAt w' w.heap.size (k * 10) ((refsTo fs k).map keyS) ∧ Below w.heap.size w w') (fun i _ => fs.length - (intOf i).toNat)
  case atStart => exact ⟨0, Nat.zero_le _, rfl, World.ownsMap_made _ _ _ _, (Below.refl _ _).alloc (Nat.le_refl _) _⟩
  case round =>
    obtain ⟨k, hk, rfl, hown, hB⟩ := hrel
    have HO := hide hown
    clear hown
    by_cases hkl : k < fs.length
    · obtain ⟨b, off, rfl⟩ := (unhide HR).get (by omega)
      obtain ⟨ai, ci, c0, c1, c2, hn, h4, h5', h6⟩ := ((unhide HR).below hB).at hkl
      have H6 := hide h6
      have HZ := hide (funRefs_size (nm := fs[k].nm) h6.sizes)
      have hkl' : (k : Int) < (fs.length : Int) := by omega
      have HS1 := hide (refsTo_succ hkl)
      have hle := funRefs_le fs[k].nm fs[k].body
      clear h6
      generalize fs[k] = f at *
      go_wp2_with fail
      refine (implFunRefs_any f.nm f.wk ai ci f.body _ hn h4 h5' ((unhide H6).below (below_alloc1 _ _))).mono ?_
      rintro e w1 ⟨v, rfl, hV, hb1⟩
      have hB1 := bl_trans (bl_alloc hB _) hb1
      have HO1 := hide (map_below (World.ownsMap.alloc (unhide HO) (.cells #[.string f.nm, .bool f.wk, .slice ai f.body.length ci] 51)) hb1)
      have HV := hide hV.at
      clear hV hb1 HO c0 c1 c2
      go_wp2_with fail
      refine (put_any w.heap.size (k * 10) _ v _ _ (by omega) (unhide HZ) (unhide HO1) (unhide HV)).mono ?_
      rintro e w2 ⟨rfl, hM2, hg2⟩
      have HM2 : Hid (SetAt w2 w.heap.size ((k + 1) * 10) ((refsTo fs (k + 1)).map keyS)) := by
        show SetAt _ _ _ _
        rw [unhide HS1, List.map_append]
        exact ownsMap_mono hM2 (by omega)
      have hB2 := hB1.grown hg2 hB1.size (fun j hj => by cases hj; exact Nat.le_refl _)
      clear hM2 hg2 HO1 HV
      go_wp2_with fail
      exact ⟨⟨k + 1, by omega, by go_num, unhide HM2, hB2⟩, by simp [intOf]; omega⟩
    · have hke : k = fs.length := by omega
      subst hke
      have HO' : Hid (wr.ownsMap Tryz.prog 9 (unitElem (H := Unit)) w.heap.size 400 (delTo (setOf (.agg []) ((refsTo fs fs.length).map keyS)) fs 0)) := ownsMap_mono (unhide HO) (by omega)
      clear HO
      generalize setOf (.agg []) ((refsTo fs fs.length).map keyS) = D0 at *
      go_wp2_with fail
      go_loopw [22] (fun i w' => ∃ k : Nat, k ≤ fs.length ∧ i = .int .i64 k ∧ w'.ownsMap Tryz.prog 9 (unitElem (H := Unit)) w.heap.size 400 (delTo D0 fs k) ∧ Below w.heap.size w w') (fun i _ => fs.length - (intOf i).toNat)
      case atStart => exact ⟨0, Nat.zero_le _, rfl, unhide HO', hB⟩
      case round =>
        obtain ⟨k, hk, rfl, hown, hB⟩ := hrel
        have HO := hide hown
        clear hown HO'
        by_cases hkl : k < fs.length
        · obtain ⟨b, off, rfl⟩ := (unhide HR).get (by omega)
          obtain ⟨ai, ci, c0, c1, c2, hn, h4, h5', h6⟩ := ((unhide HR).below hB).at hkl
          have hkl' : (k : Int) < (fs.length : Int) := by omega
          have hkey : keyOf Tryz.prog 9 (.string fs[k].nm) = some (keyS fs[k].nm) := keyOf_string_mk Tryz.underlying9 hn
          have HD : Hid (delTo D0 fs (k + 1) = (delTo D0 fs k).del (keyS fs[k].nm)) := by
            show _ = _
            have e : fs.getD k default = fs[k] := by simp [List.getD, List.getElem?_eq_getElem hkl]
            rw [delTo, e]
          clear h6
          generalize fs[k] = f at *
          go_wp2_with (first
            | (at_delete; refine wpList_delete_own _ rfl _ _ 114 9 rfl 120 lawS Tryz.underlying114 _ w.heap.size 400 _ rfl (World.ownsMap.alloc (unhide HO) _) _ _ rfl hkey ?_; intro w1 hown1 hturn1)
            | go_in)
          have hB1 := (bl_alloc hB _).grown hturn1.grown (bl_alloc hB _).size (fun j hj => by cases hj; exact Nat.le_refl _)
          exact ⟨⟨k + 1, by omega, by go_num, by rw [unhide HD]; exact hown1, hB1⟩, by simp [intOf]; omega⟩
        · have hke : k = fs.length := by omega
          subst hke
          go_wp2_with fail
          refine (unhide HIN _ (unhide HO) hB).mono ?_
          rintro e w1 ⟨v, rfl, hQ⟩
          have HQ := hide hQ
          clear hQ
          go_wp2_with fail
          go_ret
          exact ⟨v, rfl, unhide HQ⟩
end Go.Proofs.YthbbmookhcalkaaGreat.WantsI
