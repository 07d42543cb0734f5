/- The contracts of the specification's GraphLeaf, GraphBy and GraphBack. -/
import Derived.Test.YtnmgeaonhbhbkaaGraphD
import Derived.Deep.RegionHeld3
namespace Go.Proofs.Ytnmgeaonhbhbkaa.GraphS
open Go.ChangeShapes Go.WideShapes Go.ChangeAt Go.RowKit Go.Joins Go.WideMaps Go.Maps Go.Deep
open Go.Proofs.Ytnmgeaonhbhbkaa.Base Go.Proofs.Ytnmgeaonhbhbkaa.InsA Go.Proofs.Ytnmgeaonhbhbkaa.Funs Go.Proofs.Ytnmgeaonhbhbkaa.Open Go.Proofs.Ytnmgeaonhbhbkaa.FunS Go.Proofs.Ytnmgeaonhbhbkaa.Keep Go.Proofs.Ytnmgeaonhbhbkaa.UnitS Go.Proofs.Ytnmgeaonhbhbkaa.Refs Go.Proofs.Ytnmgeaonhbhbkaa.Mark Go.Proofs.Ytnmgeaonhbhbkaa.UU Go.Proofs.Ytnmgeaonhbhbkaa.WantsS Go.Proofs.Ytnmgeaonhbhbkaa.WantsL Go.Proofs.Ytnmgeaonhbhbkaa.KeepC Go.Proofs.Ytnmgeaonhbhbkaa.KeepD Go.Proofs.Ytnmgeaonhbhbkaa.KeepA Go.Proofs.Ytnmgeaonhbhbkaa.KeepW Go.Proofs.Ytnmgeaonhbhbkaa.KeepR Go.Proofs.Ytnmgeaonhbhbkaa.KeepT Go.Proofs.Ytnmgeaonhbhbkaa.GraphD
set_option linter.unusedVariables false
set_option maxRecDepth 100000

/-- What a call leaves that tells names. -/
def NTold (w : World) (fs : List FunD) (P : FunD → Prop) (e : Ending) (w' : World) : Prop := ∃ v out, e = .returned v ∧ GN fs P out ∧ out.length ≤ 40 ∧ StrOwn w' w.heap.size v out ∧ Below w.heap.size w w'
/-- The names of those of the first k of which it is so. -/
def PTake (fs : List FunD) (P : FunD → Prop) (k : Nat) (out : List ByteArray) : Prop := srt (bl out) ∧ ∀ x, x ∈ bl out ↔ ∃ f ∈ fs.take k, P f ∧ f.nm.toList = x
theorem pt_zero (fs : List FunD) (P : FunD → Prop) : PTake fs P 0 [] := ⟨List.Pairwise.nil, fun x => by simp [bl]⟩
theorem pt_skip {fs : List FunD} {P : FunD → Prop} {k : Nat} {ss : List ByteArray} (hk : k < fs.length) (h : PTake fs P k ss) (hp : ¬ P fs[k]) : PTake fs P (k + 1) ss := by
  refine ⟨h.1, fun x => (h.2 x).trans ?_⟩
  rw [List.take_succ_eq_append_getElem hk]
  constructor
  · rintro ⟨f, hf, h1, e⟩
    exact ⟨f, List.mem_append_left _ hf, h1, e⟩
  · rintro ⟨f, hf, h1, e⟩
    rcases List.mem_append.1 hf with hf | hf
    · exact ⟨f, hf, h1, e⟩
    · rw [List.mem_singleton.1 hf] at h1; exact absurd h1 hp
theorem pt_put {fs : List FunD} {P : FunD → Prop} {k : Nat} {ss out : List ByteArray} (hk : k < fs.length) (h : PTake fs P k ss) (hp : P fs[k]) (hu : Put ss fs[k].nm out) : PTake fs P (k + 1) out := by
  obtain ⟨h1, h2⟩ := put_srt h.1 hu
  refine ⟨h1, fun x => ?_⟩
  rw [h2, h.2, List.take_succ_eq_append_getElem hk]
  constructor
  · rintro (⟨f, hf, h3, e⟩ | rfl)
    · exact ⟨f, List.mem_append_left _ hf, h3, e⟩
    · exact ⟨fs[k], List.mem_append_right _ (List.mem_singleton.2 rfl), hp, rfl⟩
  · rintro ⟨f, hf, h3, rfl⟩
    rcases List.mem_append.1 hf with hf | hf
    · exact .inl ⟨f, hf, h3, rfl⟩
    · rw [List.mem_singleton.1 hf]; exact .inr rfl
theorem pt_gn {fs : List FunD} {P : FunD → Prop} {k : Nat} {out : List ByteArray} (hok : keepOkB fs = true) (hk : k = fs.length) (h : PTake fs P k out) : GN fs P out := by
  subst hk
  refine ⟨h.1, fun x => (h.2 x).trans ?_⟩
  rw [List.take_length, hok]
  simp
theorem leaf_len {f : FunD} {rs : List ByteArray} (h : refsOf f.body = rs) : LeafP f ↔ rs.length = 0 := by
  unfold LeafP
  rw [h, List.length_eq_zero_iff]
theorem by_has {f : FunD} {s : ByteArray} : ByP s f ↔ hasB (refsOf f.body) s = true := has_mem.symm
/-- What stands along the way. -/
def SLoop (w : World) (fs : List FunD) (P : FunD → Prop) (v i : Value) (w' : World) : Prop := ∃ (k g c : Nat) (out : List ByteArray), k ≤ fs.length ∧ Hid (keepOkB fs = false → k = 0) ∧ i = .int .i64 k ∧ v = .slice (some ⟨g, 0, none⟩) out.length c ∧ out.length ≤ k ∧ Hid (PTake fs P k out) ∧ StrOwn w' w.heap.size (.slice (some ⟨g, 0, none⟩) out.length c) out ∧ Below w.heap.size w w'
theorem sl_start (w : World) (fs : List FunD) (P : FunD → Prop) : SLoop w fs P (.slice (some ⟨w.heap.size, 0, none⟩) 0 0) (.int .i64 0) (w.alloc (.cells #[] 9)) :=
  ⟨0, w.heap.size, 0, [], Nat.zero_le _, fun _ => rfl, rfl, rfl, Nat.le_refl _, pt_zero fs P, str_made w, below_alloc1 _ _⟩
theorem told_bad {w w' : World} {fs : List FunD} {P : FunD → Prop} {g c k : Nat} {out : List ByteArray} (hok : keepOkB fs = false) (hk : k = 0) (hl : out.length ≤ k) (hO : StrOwn w' w.heap.size (.slice (some ⟨g, 0, none⟩) out.length c) out) (hB : Below w.heap.size w w') : NTold w fs P (.returned (.slice (some ⟨g, 0, none⟩) out.length c)) w' := by
  have : out = [] := List.length_eq_zero_iff.1 (by omega)
  subst this
  exact ⟨_, [], rfl, gn_bad hok, Nat.zero_le _, hO, hB⟩

set_option maxHeartbeats 4000000 in
theorem specLeaf_any (a : Option Addr) (cap : Nat) (fs : List FunD) (w : World) (hcap : fs.length ≤ cap) (hcm : cap ≤ maxLen) (hR : FunRow w a fs) :
    Calls Try.prog 16 #[.slice a fs.length cap] w (NTold w fs LeafP) := by
  have HR := hide hR
  clear hR
  have hcm' := hcm
  unfold maxLen at hcm
  have hlen : (fs.length : Int) ≤ 9223372036854775807 := by omega
  go_enter Try.func16, Try.ntmps16
  go_wp2_with fail
  go_loopw [3, 4] (fun v i w' => SLoop w fs LeafP v i w') (fun _ i _ => fs.length - (intOf i).toNat)
  case atStart => exact sl_start w fs LeafP
  case round =>
    obtain ⟨k, g, c, out, hk, HK0, rfl, rfl, hol, HP, hO, hB⟩ := hrel
    have HO := hide hO
    clear hO
    by_cases hkl : k < fs.length
    · have hkl' : (k : Int) < (fs.length : Int) := by omega
      cases hok : keepOkB fs
      · have hk0 := unhide HK0 hok
        go_wp2_with fail
        refine (specKeepOk_any a cap fs _ hcap hcm' ((unhide HR).below hB)).mono ?_
        rintro e w1 ⟨rfl, hb1⟩
        rw [hok]
        have HE := hide (told_bad (P := LeafP) hok hk0 hol ((unhide HO).below hb1) (bl_trans hB hb1))
        go_wp2_with fail
        go_ret
        exact unhide HE
      · have h40 := (keep_parts hok).2.1
        have HFL := hide (fun_le ((keep_parts hok).2.2.1 fs[k] (List.getElem_mem hkl)))
        have HS := hide (pt_skip hkl (unhide HP))
        have HU := hide (fun o => pt_put (out := o) hkl (unhide HP))
        obtain ⟨b, off, rfl⟩ := (unhide HR).get (by omega)
        have hsB := hB.size
        go_wp2_with fail
        refine (specKeepOk_any _ cap fs _ hcap hcm' ((unhide HR).below hB)).mono ?_
        rintro e w1 ⟨rfl, hb1⟩
        rw [hok]
        have hB1 := bl_trans hB hb1
        have HO1 := hide ((unhide HO).below hb1)
        have hs1 := hb1.size
        obtain ⟨ai, ci, c0, c1, c2, hn, h4, h5, h6⟩ := ((unhide HR).below hB1).at hkl
        have H6 := hide h6
        have hbl : fs[k].body.length ≤ 1048576 := by have := unhide HFL; omega
        clear h6 hb1 hB HO HP HFL
        generalize fs[k] = f at *
        go_wp2_with fail
        refine (specRefsOf_any ai ci f.body _ hbl h4 h5 (unhide H6)).mono ?_
        rintro e w2 ⟨v, rfl, hV, hb2⟩
        obtain ⟨av, cv, rfl, hvx⟩ := hV.at
        clear hvx
        have hB2 := bl_trans hB1 hb2
        have HO2 := hide ((unhide HO1).below hb2)
        have d0 := (Stable.cell ⟨b, off + k * 3, none⟩ (.string f.nm)).1 _ _ hb2 c0
        have hs2 := hb2.size
        clear hV hb2 HO1 c0 c1 c2 H6
        by_cases hl0 : (refsOf f.body).length = 0
        · have HL := hide (unhide HU · ((leaf_len rfl).2 hl0))
          rw [hl0]
          clear HU HS
          go_wp2_with fail
          refine (specPut_any w.heap.size g c out f.nm _ (by omega) (by omega) (unhide HO2)).mono ?_
          rintro e w4 ⟨g4, c4, out4, hP4, _, rfl, hO4, hbut⟩
          have HO4 := hide hO4
          have HP4 := hide (unhide HL out4 hP4)
          have hl4 := put_len hP4
          have hB4 := But.down hB2 hbut (World.ownsRow.lt (unhide HO2) g rfl).1
          have HOK : Hid (keepOkB fs = false → k + 1 = 0) := fun h => by rw [hok] at h; cases h
          clear hP4 hO4 hbut HO2 HL d0 hok
          go_wp2_with fail
          exact ⟨⟨k + 1, g4, c4, out4, by omega, unhide HOK, by go_num, rfl, by omega, unhide HP4, unhide HO4, hB4⟩, by simp [intOf]; omega⟩
        · have hl0' : ¬ ((refsOf f.body).length : Int) = 0 := by omega
          have HL := hide (unhide HS (fun h => hl0 ((leaf_len rfl).1 h)))
          have HOK : Hid (keepOkB fs = false → k + 1 = 0) := fun h => by rw [hok] at h; cases h
          clear HU HS hok
          generalize (refsOf f.body).length = nn at hl0 hl0' ⊢
          go_wp2_with fail
          exact ⟨⟨k + 1, g, c, out, by omega, unhide HOK, by go_num, rfl, by omega, unhide HL, unhide HO2, hB2⟩, by simp [intOf]; omega⟩
    · have hkl' : ¬ (k : Int) < (fs.length : Int) := by omega
      have HE : Hid (NTold w fs LeafP (.returned (.slice (some ⟨g, 0, none⟩) out.length c)) wr) := by
        cases hok : keepOkB fs
        · exact told_bad hok (unhide HK0 hok) hol (unhide HO) hB
        · have h40 := (keep_parts hok).2.1
          exact ⟨_, out, rfl, pt_gn hok (by omega) (unhide HP), by omega, unhide HO, hB⟩
      clear HP HO
      go_wp2_with fail
      go_ret
      exact unhide HE
set_option maxHeartbeats 4000000 in
theorem specBy_any (a : Option Addr) (cap : Nat) (fs : List FunD) (s : ByteArray) (w : World) (hcap : fs.length ≤ cap) (hcm : cap ≤ maxLen) (hR : FunRow w a fs) :
    Calls Try.prog 14 #[.slice a fs.length cap, .string s] w (NTold w fs (ByP s)) := by
  have HR := hide hR
  clear hR
  have hcm' := hcm
  unfold maxLen at hcm
  have hlen : (fs.length : Int) ≤ 9223372036854775807 := by omega
  go_enter Try.func14, Try.ntmps14
  go_wp2_with fail
  go_loopw [5, 6] (fun v i w' => SLoop w fs (ByP s) v i w') (fun _ i _ => fs.length - (intOf i).toNat)
  case atStart => exact sl_start w fs (ByP s)
  case round =>
    obtain ⟨k, g, c, out, hk, HK0, rfl, rfl, hol, HP, hO, hB⟩ := hrel
    have HO := hide hO
    clear hO
    by_cases hkl : k < fs.length
    · have hkl' : (k : Int) < (fs.length : Int) := by omega
      cases hok : keepOkB fs
      · have hk0 := unhide HK0 hok
        go_wp2_with fail
        refine (specKeepOk_any a cap fs _ hcap hcm' ((unhide HR).below hB)).mono ?_
        rintro e w1 ⟨rfl, hb1⟩
        rw [hok]
        have HE := hide (told_bad (P := (ByP s)) hok hk0 hol ((unhide HO).below hb1) (bl_trans hB hb1))
        go_wp2_with fail
        go_ret
        exact unhide HE
      · have h40 := (keep_parts hok).2.1
        have HFL := hide (fun_le ((keep_parts hok).2.2.1 fs[k] (List.getElem_mem hkl)))
        have HS := hide (pt_skip hkl (unhide HP))
        have HU := hide (fun o => pt_put (out := o) hkl (unhide HP))
        obtain ⟨b, off, rfl⟩ := (unhide HR).get (by omega)
        have hsB := hB.size
        go_wp2_with fail
        refine (specKeepOk_any _ cap fs _ hcap hcm' ((unhide HR).below hB)).mono ?_
        rintro e w1 ⟨rfl, hb1⟩
        rw [hok]
        have hB1 := bl_trans hB hb1
        have HO1 := hide ((unhide HO).below hb1)
        have hs1 := hb1.size
        obtain ⟨ai, ci, c0, c1, c2, hn, h4, h5, h6⟩ := ((unhide HR).below hB1).at hkl
        have H6 := hide h6
        have hbl : fs[k].body.length ≤ 1048576 := by have := unhide HFL; omega
        clear h6 hb1 hB HO HP HFL
        generalize fs[k] = f at *
        go_wp2_with fail
        refine (specRefsOf_any ai ci f.body _ hbl h4 h5 (unhide H6)).mono ?_
        rintro e w2 ⟨v, rfl, hV, hb2⟩
        have HV := hide hV.at
        have hB2 := bl_trans hB1 hb2
        have HO2 := hide ((unhide HO1).below hb2)
        have d0 := (Stable.cell ⟨b, off + k * 3, none⟩ (.string f.nm)).1 _ _ hb2 c0
        have hs2 := hb2.size
        clear hV hb2 HO1 c0 c1 c2 H6
        have HBY := hide (by_has (f := f) (s := s))
        have HOK : Hid (keepOkB fs = false → k + 1 = 0) := fun h => by rw [hok] at h; cases h
        clear hok
        generalize refsOf f.body = rs at *
        cases hh : hasB rs s
        · have HL := hide (unhide HS (fun h => by have := (unhide HBY).1 h; rw [hh] at this; cases this))
          clear HU HS HBY
          go_wp2_with fail
          refine (specHas_any v rs s _ (unhide HV)).mono ?_
          rintro e w3 ⟨rfl, hb3⟩
          rw [hh]
          have hB3 := bl_trans hB2 hb3
          have HO3 := hide ((unhide HO2).below hb3)
          clear hb3 hB2 HO2 HV d0
          go_wp2_with fail
          exact ⟨⟨k + 1, g, c, out, by omega, unhide HOK, by go_num, rfl, by omega, unhide HL, unhide HO3, hB3⟩, by simp [intOf]; omega⟩
        · have HL := hide (unhide HU · ((unhide HBY).2 hh))
          clear HU HS HBY
          go_wp2_with fail
          refine (specHas_any v rs s _ (unhide HV)).mono ?_
          rintro e w3 ⟨rfl, hb3⟩
          rw [hh]
          have hB3 := bl_trans hB2 hb3
          have HO3 := hide ((unhide HO2).below hb3)
          have d1 := (Stable.cell ⟨b, off + k * 3, none⟩ (.string f.nm)).1 _ _ hb3 d0
          have hs3 := hb3.size
          clear hb3 hB2 HO2 HV d0
          go_wp2_with fail
          refine (specPut_any w.heap.size g c out f.nm _ (by omega) (by omega) (unhide HO3)).mono ?_
          rintro e w4 ⟨g4, c4, out4, hP4, _, rfl, hO4, hbut⟩
          have HO4 := hide hO4
          have HP4 := hide (unhide HL out4 hP4)
          have hl4 := put_len hP4
          have hB4 := But.down hB3 hbut (World.ownsRow.lt (unhide HO3) g rfl).1
          clear hP4 hO4 hbut HO3 HL d1
          go_wp2_with fail
          exact ⟨⟨k + 1, g4, c4, out4, by omega, unhide HOK, by go_num, rfl, by omega, unhide HP4, unhide HO4, hB4⟩, by simp [intOf]; omega⟩
    · have hkl' : ¬ (k : Int) < (fs.length : Int) := by omega
      have HE : Hid (NTold w fs (ByP s) (.returned (.slice (some ⟨g, 0, none⟩) out.length c)) wr) := by
        cases hok : keepOkB fs
        · exact told_bad hok (unhide HK0 hok) hol (unhide HO) hB
        · have h40 := (keep_parts hok).2.1
          exact ⟨_, out, rfl, pt_gn hok (by omega) (unhide HP), by omega, unhide HO, hB⟩
      clear HP HO
      go_wp2_with fail
      go_ret
      exact unhide HE

end Go.Proofs.Ytnmgeaonhbhbkaa.GraphS
