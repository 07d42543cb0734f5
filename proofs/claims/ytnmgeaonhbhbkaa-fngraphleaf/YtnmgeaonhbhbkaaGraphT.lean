/- The contracts of the specification's l6Behind and GraphBack. -/
import Derived.Test.YtnmgeaonhbhbkaaGraphS
import Derived.Deep.RegionHeld3
namespace Go.Proofs.Ytnmgeaonhbhbkaa.GraphT
open Go.ChangeShapes Go.WideShapes Go.ChangeAt Go.RowKit Go.Joins Go.WideMaps Go.Maps Go.Deep
open Go.Proofs.Ytnmgeaonhbhbkaa.Base Go.Proofs.Ytnmgeaonhbhbkaa.InsA Go.Proofs.Ytnmgeaonhbhbkaa.Funs Go.Proofs.Ytnmgeaonhbhbkaa.Open Go.Proofs.Ytnmgeaonhbhbkaa.FunS Go.Proofs.Ytnmgeaonhbhbkaa.Keep Go.Proofs.Ytnmgeaonhbhbkaa.UnitS Go.Proofs.Ytnmgeaonhbhbkaa.Refs Go.Proofs.Ytnmgeaonhbhbkaa.Mark Go.Proofs.Ytnmgeaonhbhbkaa.UU Go.Proofs.Ytnmgeaonhbhbkaa.WantsS Go.Proofs.Ytnmgeaonhbhbkaa.WantsL Go.Proofs.Ytnmgeaonhbhbkaa.KeepC Go.Proofs.Ytnmgeaonhbhbkaa.KeepD Go.Proofs.Ytnmgeaonhbhbkaa.KeepA Go.Proofs.Ytnmgeaonhbhbkaa.KeepW Go.Proofs.Ytnmgeaonhbhbkaa.KeepR Go.Proofs.Ytnmgeaonhbhbkaa.KeepT Go.Proofs.Ytnmgeaonhbhbkaa.GraphD Go.Proofs.Ytnmgeaonhbhbkaa.GraphS
set_option linter.unusedVariables false
set_option maxRecDepth 100000

theorem str_read {w : World} {v : Value} {ss : List ByteArray} {a : Option Addr} {n c : Nat} (h : StrAt w v ss) (e : v = .slice a n c) (h0 : 0 < ss.length) : ∃ b o, a = some ⟨b, o, none⟩ ∧ ∀ i (hi : i < ss.length), w.cell? ⟨b, o + i, none⟩ = some (.string ss[i]) := by
  obtain ⟨a', c', e', _, _, hc⟩ := h
  rw [e] at e'
  cases e'
  rcases hc with hc | ⟨b, o, ha, hc⟩
  · rw [hc] at h0; simp at h0
  · exact ⟨b, o, ha, hc⟩
/-- Where the names of a row of functions lie. -/
def NmAt (w : World) (la : Option Addr) (lo hi : Nat) (lst : List FunD) : Prop := lst = [] ∨ ∃ lb, la = some ⟨lb, 0, none⟩ ∧ lo ≤ lb ∧ lb < hi ∧ lb < w.heap.size ∧ ∀ j (h : j < lst.length), w.cell? ⟨lb, j * 3, none⟩ = some (.string lst[j].nm)
theorem walked_names {w w' : World} {o : Option (List FunD)} {v : Value} {ok : Bool} (h : Walked w w' o v ok) (hb : Below w.heap.size w w') : ∃ a c, v = .slice a (o.getD []).length c ∧ (o.getD []).length ≤ c ∧ c ≤ maxLen ∧ NmAt w' a w.heap.size w'.heap.size (o.getD []) := by
  obtain ⟨a, c, rfl, h1, h2, hr⟩ := walked_row h hb
  refine ⟨a, c, rfl, h1, h2, ?_⟩
  cases o with
  | none => exact .inl rfl
  | some out =>
    obtain ⟨_, vs, e, _, _, ⟨e2, h0⟩ | ⟨g, cap, cur, e2, hB, hg, _⟩⟩ := h
    · refine .inl (List.length_eq_zero_iff.1 ?_)
      show out.length = 0
      rw [← e, List.length_map]; exact h0
    · by_cases hz : out.length = 0
      · exact .inl (List.length_eq_zero_iff.1 hz)
      · simp only [Value.slice.injEq] at e2
        obtain ⟨rfl, _, _⟩ := e2
        refine .inr ⟨g, rfl, hB, (Array.getElem?_eq_some_iff.1 hg).1, (Array.getElem?_eq_some_iff.1 hg).1, fun j hj => ?_⟩
        obtain ⟨_, _, c0, _⟩ := hr.at hj
        simpa using c0
theorem NmAt.but {w w' : World} {la : Option Addr} {lo hi g : Nat} {lst : List FunD} (h : NmAt w la lo hi lst) (hb : But g w w') (hg : g < lo ∨ hi ≤ g) : NmAt w' la lo hi lst := by
  obtain h | ⟨lb, rfl, h1, h2, h3, h4⟩ := h
  · exact .inl h
  · refine .inr ⟨lb, rfl, h1, h2, Nat.lt_of_lt_of_le h3 hb.size, fun j hj => ?_⟩
    rw [World.cell?_of_block (a := ⟨lb, j * 3, none⟩) (hb.block lb h3 (fun e => by cases e; omega))]
    exact h4 j hj
/-- What is reached from the first i of some names. -/
def BQ (fs : List FunD) (rs : List ByteArray) (i : Nat) (x : List UInt8) : Prop := ∃ r ∈ rs.take i, x ∈ reachS fs r
theorem bq_step {fs : List FunD} {rs : List ByteArray} {i : Nat} (hi : i < rs.length) (x : List UInt8) : (BQ fs rs i x ∨ ∃ f ∈ (keepList fs rs[i]).take (keepList fs rs[i]).length, f.nm.toList = x) ↔ BQ fs rs (i + 1) x := by
  unfold BQ
  rw [List.take_length, List.take_succ_eq_append_getElem hi]
  constructor
  · rintro (⟨r, hr, h⟩ | ⟨f, hf, h⟩)
    · exact ⟨r, List.mem_append_left _ hr, h⟩
    · exact ⟨rs[i], List.mem_append_right _ (List.mem_singleton.2 rfl), List.mem_map.2 ⟨f, hf, h⟩⟩
  · rintro ⟨r, hr, h⟩
    rcases List.mem_append.1 hr with hr | hr
    · exact .inl ⟨r, hr, h⟩
    · rw [List.mem_singleton.1 hr] at h
      obtain ⟨f, hf, e⟩ := List.mem_map.1 h
      exact .inr ⟨f, hf, e⟩
/-- .. and the first j of those of the next. -/
def BL (fs : List FunD) (rs : List ByteArray) (i : Nat) (l : List FunD) (j : Nat) (out : List ByteArray) : Prop := srt (bl out) ∧ ∀ x, x ∈ bl out ↔ BQ fs rs i x ∨ ∃ f ∈ l.take j, f.nm.toList = x
theorem bl_zero {fs : List FunD} {rs : List ByteArray} : BL fs rs 0 [] 0 [] := ⟨List.Pairwise.nil, fun x => by simp [bl, BQ]⟩
theorem bl_next {fs : List FunD} {rs : List ByteArray} {i : Nat} {l : List FunD} {j : Nat} {ss out : List ByteArray} (hj : j < l.length) (h : BL fs rs i l j ss) (hu : Put ss l[j].nm out) : BL fs rs i l (j + 1) out := by
  obtain ⟨h1, h2⟩ := put_srt h.1 hu
  refine ⟨h1, fun x => ?_⟩
  rw [h2, h.2, List.take_succ_eq_append_getElem hj, or_assoc]
  refine or_congr Iff.rfl ?_
  constructor
  · rintro (⟨f, hf, e⟩ | rfl)
    · exact ⟨f, List.mem_append_left _ hf, e⟩
    · exact ⟨l[j], List.mem_append_right _ (List.mem_singleton.2 rfl), rfl⟩
  · rintro ⟨f, hf, rfl⟩
    rcases List.mem_append.1 hf with hf | hf
    · exact .inl ⟨f, hf, rfl⟩
    · rw [List.mem_singleton.1 hf]; exact .inr rfl
theorem bl_turn {fs : List FunD} {rs : List ByteArray} {i : Nat} (hi : i < rs.length) {out : List ByteArray} {j : Nat} (hj : j = (keepList fs rs[i]).length) (h : BL fs rs i (keepList fs rs[i]) j out) (l : List FunD) : BL fs rs (i + 1) l 0 out := by
  subst hj
  refine ⟨h.1, fun x => (h.2 x).trans ((bq_step hi x).trans ?_)⟩
  simp
theorem bl_other {fs : List FunD} {rs : List ByteArray} {i : Nat} {l l' : List FunD} {out : List ByteArray} (h : BL fs rs i l 0 out) : BL fs rs i l' 0 out := ⟨h.1, fun x => (h.2 x).trans (by simp)⟩
/-- What a call of l6Behind leaves. -/
def Behind (w : World) (fs : List FunD) (rs : List ByteArray) (e : Ending) (w' : World) : Prop := ∃ v out, e = .returned v ∧ (∀ x, x ∈ bl out ↔ ∃ r ∈ rs, x ∈ reachS fs r) ∧ StrOwn w' w.heap.size v out ∧ Below w.heap.size w w'
theorem behind_all {fs : List FunD} {rs : List ByteArray} {i : Nat} {l : List FunD} {out : List ByteArray} (hi : i = rs.length) (h : BL fs rs i l 0 out) : ∀ x, x ∈ bl out ↔ ∃ r ∈ rs, x ∈ reachS fs r := fun x => by
  subst hi
  rw [h.2 x]
  unfold BQ
  rw [List.take_length]
  simp
/-- What stands along the way. -/
def BLoop (w w2 : World) (fs : List FunD) (vr : Value) (rs : List ByteArray) (i : Nat) (l : List FunD) (m : Nat) (j : Nat) (v : Value) (w' : World) : Prop := ∃ (g c : Nat) (out : List ByteArray), v = .slice (some ⟨g, 0, none⟩) out.length c ∧ out.length ≤ m + j ∧ (g = w.heap.size ∨ w2.heap.size ≤ g) ∧ g < w'.heap.size ∧ Hid (BL fs rs i l j out) ∧ StrOwn w' w.heap.size (.slice (some ⟨g, 0, none⟩) out.length c) out ∧ StrOwn w' w.heap.size vr rs ∧ Below w.heap.size w w' ∧ w2.heap.size ≤ w'.heap.size

/-- .. and apart from the row that was told last. -/
def GApart (w w3 : World) (v : Value) (w' : World) : Prop := ∃ g n c, v = .slice (some ⟨g, 0, none⟩) n c ∧ (g < w.heap.size + 1 ∨ w3.heap.size ≤ g) ∧ w3.heap.size ≤ w'.heap.size

set_option maxHeartbeats 4000000 in
theorem specBehind_any (a : Option Addr) (cap : Nat) (fs : List FunD) (n : Nat) (f : FunD) (w : World) (hok : keepOkB fs = true) (hn : n < fs.length) (hf : fs[n] = f) (hcap : fs.length ≤ cap) (hcm : cap ≤ maxLen) (hR : FunRow w a fs) :
    Calls Try.prog 43 #[.slice a fs.length cap, .int .i64 n] w (Behind w fs (refsOf f.body)) := by
  subst hf
  obtain ⟨rs, hrs⟩ : ∃ rs, refsOf fs[n].body = rs := ⟨_, rfl⟩
  rw [hrs]
  have HR := hide hR
  have HSM := hide (keep_small hok hR)
  have HRS : Hid (∀ r ∈ rs, 0 ≤ findI fs r ∧ r.size ≤ maxLen) := fun r hr => by
    rw [← hrs] at hr
    exact ⟨(keep_parts hok).2.2.2.2 _ (List.getElem_mem hn) r hr, refs_sized (hR.sizes _ (List.getElem_mem hn)).2.2 r hr⟩
  have HLO : Hid (∀ s, keepList fs s = (walkB [fs] s).getD [] ∧ (keepList fs s).length ≤ 40) := fun s => ⟨list_ok hok, (list_facts hok).1⟩
  have HFL := hide (fun_le ((keep_parts hok).2.2.1 fs[n] (List.getElem_mem hn)))
  have hrl := refs_len fs[n].body
  have hcm' := hcm
  clear hR hok
  unfold maxLen at hcm
  have hlen : (fs.length : Int) ≤ 9223372036854775807 := by omega
  have hn' : (n : Int) < (fs.length : Int) := by omega
  obtain ⟨b, off, rfl⟩ := (unhide HR).get (by omega)
  have HR0 := hide ((unhide HR).below (below_alloc1 w (.cells #[] 9)))
  obtain ⟨ai, ci, c0, c1, c2, hnm, h4, h5, h6⟩ := (unhide HR0).at hn
  have H6 := hide h6
  have hbl : fs[n].body.length ≤ 1048576 := by have := unhide HFL; omega
  have hrl10 : rs.length ≤ 10 := by have := unhide HFL; rw [hrs] at hrl; omega
  have HRSE := hide hrs
  clear hrs
  clear h6 HFL hrl
  go_enter Try.func43, Try.ntmps43
  go_wp2_with fail
  refine (specRefsOf_any ai ci fs[n].body _ hbl h4 h5 (unhide H6)).mono ?_
  rintro e w2 ⟨vr, rfl, hV, hb2⟩
  rw [unhide HRSE] at hV
  have hB2 : Below w.heap.size w w2 := bl_trans (below_alloc1 _ _) hb2
  have HN : Hid (∀ q, vr.ownBlock = some q → w.heap.size + 1 ≤ q ∧ q < w2.heap.size) := fun q hq => by
    have := World.ownsRow.lt hV q hq
    simpa using this
  have hz2 := hb2.size
  rw [World.size_alloc] at hz2
  have HV : Hid (StrOwn w2 w.heap.size vr rs) := hV.base (by simp)
  have HO : Hid (StrOwn w2 w.heap.size (.slice (some ⟨w.heap.size, 0, none⟩) 0 0) []) := (str_made w).below hb2
  obtain ⟨ra, rc, rfl, hrc, hrm, _⟩ := hV.at
  clear hV hb2 c0 c1 c2 H6 HR0 hbl
  go_wp2_with fail
  go_loopw [5, 7] (fun v i w' => ∃ (k : Nat), k ≤ rs.length ∧ i = .int .i64 k ∧ BLoop w w2 fs (.slice ra rs.length rc) rs k [] (k * 40) 0 v w') (fun _ i _ => rs.length - (intOf i).toNat)
  case atStart => exact ⟨0, Nat.zero_le _, rfl, w.heap.size, 0, [], rfl, Nat.zero_le _, .inl rfl, by omega, bl_zero, unhide HO, unhide HV, hB2, Nat.le_refl _⟩
  case round =>
    obtain ⟨k, hk, rfl, g, c, out, rfl, hol, hg, hgw, HP, hO, hV, hB, hz⟩ := hrel
    clear HO HV
    have HO := hide hO
    have HV := hide hV
    clear hO hV
    by_cases hkl : k < rs.length
    · have hkl' : (k : Int) < (rs.length : Int) := by omega
      obtain ⟨rb, ro, rfl, hcc⟩ := str_read (unhide HV).at rfl (by omega)
      have r0 := (Stable.cell ⟨rb, ro + k, none⟩ (.string rs[k])).1 _ _ (below_alloc1 wr (.cells #[.slice (some ⟨b, off, none⟩) fs.length cap] 23)) (hcc k hkl)
      obtain ⟨hf0, hrs⟩ := unhide HRS rs[k] (List.getElem_mem _)
      obtain ⟨hlo, hl40⟩ := unhide HLO rs[k]
      have HT := hide (fun o j (h : j = (keepList fs rs[k]).length) (h' : BL fs rs k (keepList fs rs[k]) j o) => bl_turn hkl h h' [])
      have HU := hide (one_unit hcap hcm' ((unhide HR).below hB))
      clear hcc
      generalize rs[k] = r at *
      have HLR := hide hlo
      clear hlo
      go_wp2_with fail
      refine (specWalk_any _ 1 [fs] r _ hrs (Nat.le_refl _) (by unfold maxLen; omega) (unhide HSM) (unhide HU)).mono ?_
      rintro e w3 ⟨v, ok, rfl, hWk, hb3⟩
      have hbk := bl_trans (below_alloc1 wr (.cells #[.slice (some ⟨b, off, none⟩) fs.length cap] 23)) hb3
      have hB3 := bl_trans hB hbk
      have HO3 := hide ((unhide HO).below hbk)
      have HV3 := hide ((unhide HV).below hbk)
      have hz3 := Nat.le_trans hz hbk.size
      obtain ⟨la, lc, rfl, hlc, hlcm, hrow⟩ := walked_names hWk hb3
      have HRW := hide hrow
      have hzw := hb3.size
      rw [World.size_alloc] at HRW hzw
      rw [← unhide HLR] at HRW hlc
      rw [← unhide HLR]
      clear hWk hb3 hrow HU hbk HO HV hB r0 HLR
      have HP0 := hide (bl_other (l' := keepList fs r) (unhide HP))
      clear HP
      generalize keepList fs r = lst at *
      have hws := hB3.size
      go_wp2_with fail
      go_loopw [5, 10] (fun v i w' => ∃ (j : Nat), j ≤ lst.length ∧ i = .int .i64 j ∧ BLoop w w2 fs (.slice (some ⟨rb, ro, none⟩) rs.length rc) rs k lst (k * 40) j v w' ∧ NmAt w' la (wr.heap.size + 1) w3.heap.size lst ∧ GApart wr w3 v w') (fun _ i _ => lst.length - (intOf i).toNat)
      case atStart => exact ⟨0, Nat.zero_le _, rfl, ⟨g, c, out, rfl, hol, hg, by omega, unhide HP0, unhide HO3, unhide HV3, hB3, hz3⟩, unhide HRW, g, _, _, rfl, .inl (by omega), Nat.le_refl _⟩
      case round =>
        obtain ⟨j, hj, rfl, ⟨g, c, out, rfl, hol, hg, hgw, HP, hO, hV, hB, hz⟩, hRW, g', _, _, e', hga, hwz⟩ := hrel
        simp only [Value.slice.injEq, Option.some.injEq, Addr.mk.injEq, and_true] at e'
        obtain ⟨rfl, e1', e2'⟩ := e'
        clear e1' e2'
        clear HO3 HV3 HP0 HRW
        have HO := hide hO
        have HV := hide hV
        have HRW := hide hRW
        clear hO hV hRW
        by_cases hjl : j < lst.length
        · have hjl' : (j : Int) < (lst.length : Int) := by omega
          obtain h0 | ⟨lb, rfl, hlb1, hlb2, hlb3, hcc⟩ := unhide HRW
          · rw [h0] at hjl; simp at hjl
          have d0 := hcc j hjl
          clear hcc
          have HPT := hide (fun o => bl_next (out := o) hjl (unhide HP))
          have HSZ := hide hB.size
          generalize lst[j] = f at *
          go_wp2_with fail
          refine (specPut_any w.heap.size g c out f.nm _ (by omega) (unhide HSZ) (unhide HO)).mono ?_
          rintro e w4 ⟨g4, c4, out4, hP4, hg4, rfl, hO4, hbut⟩
          have HO4 := hide hO4
          have HP4 := hide (unhide HPT out4 hP4)
          have hl4 := put_len hP4
          have hgl := World.ownsRow.lt (unhide HO) g rfl
          have hB4 := But.down hB hbut hgl.1
          have HV4 : Hid (StrOwn w4 w.heap.size (.slice (some ⟨rb, ro, none⟩) rs.length rc) rs) := hbut.strOwn (unhide HV) (fun e => by have := unhide HN g e; omega)
          have hz4 := Nat.le_trans hz hbut.size
          have hz5 := Nat.le_trans hwz hbut.size
          have hg4w := (World.ownsRow.lt hO4 g4 rfl).2
          have HRW4 := hide ((unhide HRW).but hbut (by omega))
          clear hP4 hO4 hbut HO HV HP HPT HRW hB d0
          go_wp2_with fail
          exact ⟨⟨j + 1, by omega, by go_num, ⟨g4, c4, out4, rfl, by omega, by omega, by omega, unhide HP4, unhide HO4, unhide HV4, hB4, hz4⟩, unhide HRW4, g4, _, _, rfl, by omega, hz5⟩, by simp [intOf]; omega⟩
        · have hjl' : ¬ (j : Int) < (lst.length : Int) := by omega
          have HE := hide (unhide HT out j (by omega) (unhide HP))
          clear HP HT HRW
          go_wp2_with fail
          exact ⟨⟨k + 1, by omega, by go_num, g, c, out, rfl, by omega, hg, hgw, unhide HE, unhide HO, unhide HV, hB, hz⟩, by simp [intOf]; omega⟩
    · have hkl' : ¬ (k : Int) < (rs.length : Int) := by omega
      have HE := hide (behind_all (by omega) (unhide HP))
      clear HP
      go_wp2_with fail
      go_ret
      exact ⟨_, out, rfl, unhide HE, unhide HO, hB⟩

theorem back_has {fs : List FunD} {f : FunD} {ob : List ByteArray} (h : ∀ x, x ∈ bl ob ↔ ∃ r ∈ refsOf f.body, x ∈ reachS fs r) : hasB ob f.nm = true ↔ BackP fs f := by
  unfold BackP
  rw [← h, has_mem]
  constructor
  · intro hm; exact List.mem_map.2 ⟨_, hm, rfl⟩
  · intro hm
    obtain ⟨y, hy, e⟩ := List.mem_map.1 hm
    rw [← ba_inj e]; exact hy
theorem q4 {w w' : World} {p : Addr} {v u : Value} {a : Option Addr} {fs : List FunD} {B : Nat} {ss : List ByteArray} (h : w'.cell? p = some v ∧ FunRow w' a fs ∧ StrOwn w' B u ss ∧ Below w.heap.size w w') : FunRow w' a fs := h.2.1
set_option maxHeartbeats 4000000 in
theorem specBack_any (a : Option Addr) (cap : Nat) (fs : List FunD) (w : World) (hcap : fs.length ≤ cap) (hcm : cap ≤ maxLen) (hR : FunRow w a fs) :
    Calls Try.prog 20 #[.slice a fs.length cap] w (NTold w fs (BackP fs)) := by
  have HR := hide hR
  clear hR
  have hcm' := hcm
  unfold maxLen at hcm
  have hlen : (fs.length : Int) ≤ 9223372036854775807 := by omega
  go_enter Try.func20, Try.ntmps20
  go_wp2_with fail
  go_loopw [3, 4] (fun v i w' => SLoop w fs (BackP fs) v i w') (fun _ i _ => fs.length - (intOf i).toNat)
  case atStart => exact sl_start w fs (BackP fs)
  case round =>
    obtain ⟨k, g, c, out, hk, HK0, rfl, rfl, hol, HP, hO, hB⟩ := hrel
    have HO := hide hO
    clear hO
    by_cases hkl : k < fs.length
    · have hkl' : (k : Int) < (fs.length : Int) := by omega
      cases hok : keepOkB fs
      · have hk0 := unhide HK0 hok
        go_wp2_with fail
        refine (specKeepOk_any a cap fs _ hcap hcm' ((unhide HR).below hB)).mono ?_
        rintro e w1 ⟨rfl, hb1⟩
        rw [hok]
        have HE := hide (told_bad (P := BackP fs) hok hk0 hol ((unhide HO).below hb1) (bl_trans hB hb1))
        go_wp2_with fail
        go_ret
        exact unhide HE
      · have h40 := (keep_parts hok).2.1
        have HS := hide (pt_skip hkl (unhide HP))
        have HU := hide (fun o => pt_put (out := o) hkl (unhide HP))
        obtain ⟨b, off, rfl⟩ := (unhide HR).get (by omega)
        have hsB := hB.size
        go_wp2_with fail
        refine (specKeepOk_any _ cap fs _ hcap hcm' ((unhide HR).below hB)).mono ?_
        rintro e w1 ⟨rfl, hb1⟩
        rw [hok]
        have HOKB := hide hok
        have HOK : Hid (keepOkB fs = false → k + 1 = 0) := fun h => by rw [hok] at h; cases h
        have hB1 := bl_trans hB hb1
        have HO1 := hide ((unhide HO).below hb1)
        have HR1 := hide ((unhide HR).below hB1)
        obtain ⟨ai, ci, c0, c1, c2, hn, h4, h5, _⟩ := (unhide HR1).at hkl
        generalize hf : fs[k] = f at *
        have HF := hide hf
        have HST : Hid (Stable (fun w' => w'.cell? ⟨b, off + k * 3, none⟩ = some (.string f.nm) ∧ FunRow w' (some ⟨b, off, none⟩) fs ∧ StrOwn w' w.heap.size (.slice (some ⟨g, 0, none⟩) out.length c) out ∧ Below w.heap.size w w')) := (Stable.cell _ _).and ((Stable.frow _ _).and ((Stable.strOwn _ _ _).and (Stable.below w)))
        have hS0 := And.intro c0 (And.intro (unhide HR1) (And.intro (unhide HO1) hB1))
        clear hb1 hB HO HP hf c0 c1 c2 hok HR1 HO1 hB1 h4 h5
        go_wp2_with fail
        go_region_held3 (fun w' => w'.cell? ⟨b, off + k * 3, none⟩ = some (.string f.nm) ∧ FunRow w' (some ⟨b, off, none⟩) fs ∧ StrOwn w' w.heap.size (.slice (some ⟨g, 0, none⟩) out.length c) out ∧ Below w.heap.size w w') (first | assumption | (refine (unhide HST).1 _ _ hbk ?_; assumption) | (refine (unhide HST).2 _ ?_; assumption))
          (first
            | (go_at_call 43; refine (specBehind_any _ cap fs k f _ (unhide HOKB) hkl (unhide HF) hcap hcm' (q4 (by assumption))).mono ?_; rintro e wk1 ⟨vb, ob, rfl, hob, hVb, hbk⟩; have HOB := hide (back_has hob); have hV1 := StrOwn.at hVb; clear hob hVb)
            | (go_at_call 38; refine (specHas_any _ ob f.nm _ (by exact hV1)).mono ?_; rintro e wk2 ⟨rfl, hbk⟩))
        have hS1 : (fun w' => w'.cell? ⟨b, off + k * 3, none⟩ = some (.string f.nm) ∧ FunRow w' (some ⟨b, off, none⟩) fs ∧ StrOwn w' w.heap.size (.slice (some ⟨g, 0, none⟩) out.length c) out ∧ Below w.heap.size w w') wk2 := by assumption
        obtain ⟨c0, _, hO2, hB2⟩ := hS1
        have HO2 := hide hO2
        have hsw := hB2.size
        clear hS0 hO2
        cases hh : hasB ob f.nm
        · have HL := hide (unhide HS (fun h => by have := (unhide HOB).2 h; rw [hh] at this; cases this))
          clear HU HS HOB
          try rw [hh]
          go_wp2_with fail
          exact ⟨⟨k + 1, g, c, out, by omega, unhide HOK, by go_num, rfl, by omega, unhide HL, unhide HO2, hB2⟩, by simp [intOf]; omega⟩
        · have HL := hide (unhide HU · ((unhide HOB).1 hh))
          clear HU HS HOB
          try rw [hh]
          go_wp2_with fail
          refine (specPut_any w.heap.size g c out f.nm _ (by omega) (by omega) (unhide HO2)).mono ?_
          rintro e w4 ⟨g4, c4, out4, hP4, _, rfl, hO4, hbut⟩
          have HO4 := hide hO4
          have HP4 := hide (unhide HL out4 hP4)
          have hl4 := put_len hP4
          have hB4 := But.down hB2 hbut (World.ownsRow.lt (unhide HO2) g rfl).1
          clear hP4 hO4 hbut HO2 HL c0
          go_wp2_with fail
          exact ⟨⟨k + 1, g4, c4, out4, by omega, unhide HOK, by go_num, rfl, by omega, unhide HP4, unhide HO4, hB4⟩, by simp [intOf]; omega⟩
    · have hkl' : ¬ (k : Int) < (fs.length : Int) := by omega
      have HE : Hid (NTold w fs (BackP fs) (.returned (.slice (some ⟨g, 0, none⟩) out.length c)) wr) := by
        cases hok : keepOkB fs
        · exact told_bad hok (unhide HK0 hok) hol (unhide HO) hB
        · have h40 := (keep_parts hok).2.1
          exact ⟨_, out, rfl, pt_gn hok (by omega) (unhide HP), by omega, unhide HO, hB⟩
      clear HP HO
      go_wp2_with fail
      go_ret
      exact unhide HE
end Go.Proofs.Ytnmgeaonhbhbkaa.GraphT
