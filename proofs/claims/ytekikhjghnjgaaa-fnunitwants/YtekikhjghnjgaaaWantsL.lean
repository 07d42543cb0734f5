/- Texts in order, each once; and the contracts of the specification's l2Wants and UnitWants. -/
import Derived.Test.YtekikhjghnjgaaaWantsS
import Derived.Test.YtekikhjghnjgaaaWantsI
import Derived.Sort.Walk0
import Derived.Sort.KeysCollected
namespace Go.Proofs.Ytekikhjghnjgaaa.WantsL
open Go.ChangeShapes Go.WideShapes Go.ChangeAt Go.RowKit Go.Joins
open Go.Proofs.Ytekikhjghnjgaaa.Base Go.Proofs.Ytekikhjghnjgaaa.InsA Go.Proofs.Ytekikhjghnjgaaa.InsB Go.Proofs.Ytekikhjghnjgaaa.Funs Go.Proofs.Ytekikhjghnjgaaa.Open Go.Proofs.Ytekikhjghnjgaaa.FunS Go.Proofs.Ytekikhjghnjgaaa.Keep Go.Proofs.Ytekikhjghnjgaaa.UnitS Go.Proofs.Ytekikhjghnjgaaa.Refs Go.Proofs.Ytekikhjghnjgaaa.Mark Go.Proofs.Ytekikhjghnjgaaa.WantsS Go.Proofs.Ytekikhjghnjgaaa.WantsI
set_option linter.unusedVariables false
set_option maxRecDepth 100000

def bl (ss : List ByteArray) : List (List UInt8) := ss.map ByteArray.toList
/-- In order, each once. -/
def srt (l : List (List UInt8)) : Prop := l.Pairwise (fun a b => a < b)
theorem lt_of {a b : List UInt8} (h : ¬ a < b) (hne : a ≠ b) : b < a := by
  rcases Classical.em (b < a) with h' | h'
  · exact h'
  · exact absurd (List.le_antisymm (List.not_lt.1 h') (List.not_lt.1 h)) hne
theorem ltS_iff {a b : ByteArray} : ltS a b = true ↔ a.toList < b.toList := by unfold ltS; rw [Go.Proofs.bytesLess_eq]; simp
theorem srt_nodup {l : List (List UInt8)} (h : srt l) : l.Nodup := h.imp fun {a b} hab e => by rw [e] at hab; exact List.lt_irrefl _ hab
theorem srt_ext {l l' : List (List UInt8)} (h : srt l) (h' : srt l') (hm : ∀ x, x ∈ l ↔ x ∈ l') : l = l' :=
  List.Perm.eq_of_pairwise (le := fun a b => a < b) (fun a b _ _ h1 h2 => absurd (List.lt_trans h1 h2) (List.lt_irrefl _)) h h' ((List.perm_ext_iff_of_nodup (srt_nodup h) (srt_nodup h')).2 hm)
theorem put_srt {ss out : List ByteArray} {s : ByteArray} (h : srt (bl ss)) (hp : Put ss s out) : srt (bl out) ∧ ∀ x, x ∈ bl out ↔ x ∈ bl ss ∨ x = s.toList := by
  obtain ⟨k, hk, hlt, ⟨hk', he, rfl⟩ | ⟨hl, rfl⟩⟩ := hp
  · refine ⟨h, fun x => ⟨.inl, fun hx => ?_⟩⟩
    rcases hx with hx | rfl
    · exact hx
    · rw [← he]; exact List.mem_map.2 ⟨_, List.getElem_mem hk', rfl⟩
  · have e : bl (putAt ss s k) = (bl ss).take k ++ [s.toList] ++ (bl ss).drop k := by simp [bl, putAt, List.map_take, List.map_drop]
    have hmem : ∀ x, x ∈ bl (putAt ss s k) ↔ x ∈ bl ss ∨ x = s.toList := fun x => by
      rw [e]
      have := List.take_append_drop k (bl ss)
      simp only [List.mem_append, List.mem_singleton]
      constructor
      · rintro ((hx | hx) | hx)
        · exact .inl (List.mem_of_mem_take hx)
        · exact .inr hx
        · exact .inl (List.mem_of_mem_drop hx)
      · rintro (hx | hx)
        · rw [← this] at hx
          rcases List.mem_append.1 hx with hx | hx
          · exact .inl (.inl hx)
          · exact .inr hx
        · exact .inl (.inr hx)
    refine ⟨?_, hmem⟩
    rw [e]
    have hs := h
    unfold srt at hs ⊢
    have h1 : ∀ x ∈ (bl ss).take k, x < s.toList := fun x hx => by
      obtain ⟨i, hi, rfl⟩ := List.getElem_of_mem hx
      have hi' : i < k ∧ i < ss.length := by simp [bl] at hi; omega
      simp only [bl, List.getElem_take, List.getElem_map]
      exact ltS_iff.1 (hlt i hi'.2 hi'.1)
    have h2 : ∀ x ∈ (bl ss).drop k, s.toList < x := fun x hx => by
      obtain ⟨i, hi, rfl⟩ := List.getElem_of_mem hx
      have hi' : k + i < ss.length := by simp [bl] at hi; omega
      have hk' : k < ss.length := by omega
      obtain ⟨ha, hb⟩ := hl hk'
      have hsk : s.toList < ss[k].toList := lt_of (fun hc => by rw [ltS_iff.2 hc] at ha; cases ha) hb
      simp only [bl, List.getElem_drop, List.getElem_map]
      by_cases hi0 : i = 0
      · subst hi0; simpa using hsk
      · have := List.pairwise_iff_getElem.1 hs k (k + i) (by simpa [bl] using hk') (by simpa [bl] using hi') (by omega)
        simp only [bl, List.getElem_map] at this
        exact List.lt_trans hsk this
    rw [List.pairwise_append, List.pairwise_append]
    refine ⟨⟨hs.sublist (List.take_sublist _ _), List.pairwise_singleton _ _, fun x hx y hy => ?_⟩, hs.sublist (List.drop_sublist _ _), fun x hx y hy => ?_⟩
    · rw [List.mem_singleton.1 hy]; exact h1 x hx
    · rcases List.mem_append.1 hx with hx | hx
      · exact List.lt_trans (h1 x hx) (h2 y hy)
      · rw [List.mem_singleton.1 hx]; exact h2 y hy

/-- A unit's wants: in order, each once, what is named and none of them is. -/
def Wants (fs : List FunD) (names : List ByteArray) (out : List ByteArray) : Prop := srt (bl out) ∧ ∀ x, x ∈ bl out ↔ ∃ t ∈ names, t.toList = x ∧ findI fs t < 0
theorem bl_inj {a b : List ByteArray} (h : bl a = bl b) : a = b := by
  refine List.map_inj_right (fun x y e => ?_) |>.1 h
  obtain ⟨⟨x⟩⟩ := x
  obtain ⟨⟨y⟩⟩ := y
  rw [ByteArray.toList_eq, ByteArray.toList_eq] at e
  simpa using e
theorem wants_one {fs : List FunD} {names out out' : List ByteArray} (h : Wants fs names out) (h' : Wants fs names out') : out = out' := bl_inj (srt_ext h.1 h'.1 (fun x => (h.2 x).trans (h'.2 x).symm))
theorem wants_skip {fs : List FunD} {names out : List ByteArray} {s : ByteArray} (h : Wants fs names out) (hs : ¬ findI fs s < 0) : Wants fs (names ++ [s]) out := by
  refine ⟨h.1, fun x => (h.2 x).trans ⟨fun ⟨t, h1, h2⟩ => ⟨t, List.mem_append_left _ h1, h2⟩, fun ⟨t, h1, h2, h3⟩ => ?_⟩⟩
  rcases List.mem_append.1 h1 with h1 | h1
  · exact ⟨t, h1, h2, h3⟩
  · rw [List.mem_singleton.1 h1] at h3; exact absurd h3 hs
theorem wants_put {fs : List FunD} {names out out' : List ByteArray} {s : ByteArray} (h : Wants fs names out) (hs : findI fs s < 0) (hp : Put out s out') : Wants fs (names ++ [s]) out' := by
  obtain ⟨h1, h2⟩ := put_srt h.1 hp
  refine ⟨h1, fun x => (h2 x).trans ⟨fun hx => ?_, fun ⟨t, ht, e, hf⟩ => ?_⟩⟩
  · rcases hx with hx | rfl
    · obtain ⟨t, ht, e⟩ := (h.2 x).1 hx
      exact ⟨t, List.mem_append_left _ ht, e⟩
    · exact ⟨s, List.mem_append_right _ (List.mem_singleton.2 rfl), rfl, hs⟩
  · rcases List.mem_append.1 ht with ht | ht
    · exact .inl ((h.2 x).2 ⟨t, ht, e, hf⟩)
    · rw [List.mem_singleton.1 ht] at e; exact .inr e.symm
theorem put_len {ss out : List ByteArray} {s : ByteArray} (h : Put ss s out) : out.length ≤ ss.length + 1 := by
  obtain ⟨k, hk, _, ⟨_, _, rfl⟩ | ⟨_, rfl⟩⟩ := h
  · omega
  · rw [putAt_len _ _ hk]; exact Nat.le_refl _
theorem refsOf_size {xs : List InsD} (h : ∀ x ∈ xs, x.s.size ≤ maxLen) : ∀ s ∈ refsOf xs, s.size ≤ maxLen := by
  have : ∀ (ys : List InsD) (acc : List ByteArray), (∀ x ∈ ys, x.s.size ≤ maxLen) → (∀ s ∈ acc, s.size ≤ maxLen) → ∀ s ∈ ys.foldl refStep acc, s.size ≤ maxLen := by
    intro ys
    induction ys with
    | nil => intro acc _ h s hs; exact h s hs
    | cons y r ih =>
      intro acc hy ha
      refine ih _ (fun x hx => hy x (List.mem_cons_of_mem _ hx)) ?_
      unfold refStep
      split
      · intro s hs
        rcases List.mem_append.1 hs with hs | hs
        · exact ha s hs
        · rw [List.mem_singleton.1 hs]; exact hy y (List.mem_cons_self ..)
      · exact ha
  exact this xs [] h (fun s hs => by cases hs)
/-- What the first k bodies name. -/
def bodyRefs (fs : List FunD) (k : Nat) : List ByteArray := (fs.take k).flatMap fun f => refsOf f.body
theorem bodyRefs_succ {fs : List FunD} {k : Nat} (hk : k < fs.length) : bodyRefs fs (k + 1) = bodyRefs fs k ++ refsOf fs[k].body := by
  unfold bodyRefs
  rw [List.take_succ_eq_append_getElem hk, List.flatMap_append]
  simp

theorem strOwn_but {w w' : World} {B C g : Nat} {v : Value} {ss : List ByteArray} (h : StrOwn w C v ss) (hb : But g w w') (hne : v.ownBlock ≠ some g) : StrOwn w' C v ss := hb.strOwn h hne

set_option maxHeartbeats 4000000 in
theorem specWantsOf_any (a : Option Addr) (cap : Nat) (fs : List FunD) (w : World) (hcap : fs.length ≤ cap) (hcm : cap ≤ maxLen) (h5 : fs.length ≤ 5) (hb10 : ∀ f ∈ fs, f.body.length ≤ 10) (hR : FunRow w a fs) :
    Calls Try.prog 31 #[.slice a fs.length cap] w fun e w' => ∃ v out, e = .returned v ∧ Wants fs (bodyRefs fs fs.length) out ∧ out.length ≤ 50 ∧ StrOwn w' w.heap.size v out ∧ Below w.heap.size w w' := by
  have HR := hide hR
  have H10 := hide hb10
  clear hR hb10
  go_enter Try.func31, Try.ntmps31
  go_wp2_with fail
  go_loopw [3, 4] (fun v i w' => ∃ (k g c : Nat) (out : List ByteArray), k ≤ fs.length ∧ i = .int .i64 k ∧ v = .slice (some ⟨g, 0, none⟩) out.length c ∧ out.length ≤ k * 10 ∧ Wants fs (bodyRefs fs k) out ∧ StrOwn w' w.heap.size (.slice (some ⟨g, 0, none⟩) out.length c) out ∧ Below w.heap.size w w') (fun _ i _ => fs.length - (intOf i).toNat)
  case atStart => exact ⟨0, w.heap.size, 0, [], Nat.zero_le _, rfl, rfl, by simp, ⟨List.Pairwise.nil, fun x => by simp [bl, bodyRefs]⟩, str_made w, below_alloc1 _ _⟩
  case round =>
    obtain ⟨k, g, c, out, hk, rfl, rfl, hol, hW, hO, hB⟩ := hrel
    have HW := hide hW
    have HO := hide hO
    clear hW hO
    by_cases hkl : k < fs.length
    · obtain ⟨b, off, rfl⟩ := (unhide HR).get (by omega)
      obtain ⟨ai, ci, c0, c1, c2, hn, h4, h5', h6⟩ := ((unhide HR).below hB).at hkl
      have hkl' : (k : Int) < (fs.length : Int) := by omega
      have h10 := unhide H10 fs[k] (List.getElem_mem _)
      have HZ : Hid (∀ s ∈ refsOf fs[k].body, s.size ≤ maxLen) := refsOf_size h6.sizes
      have HS1 := hide (bodyRefs_succ hkl)
      have hrl := refs_len fs[k].body
      have H6 := hide h6
      clear h6
      generalize fs[k] = f at *
      go_wp2_with fail
      refine (specRefsOf_any ai ci f.body _ (by omega) h4 h5' (unhide H6)).mono ?_
      rintro e w1 ⟨rv, rfl, hV, hb1⟩
      have HO1 := hide ((unhide HO).below hb1)
      have hB1 := bl_trans hB hb1
      have HV := hide hV
      have hgw := (World.ownsRow.lt (unhide HO) g rfl).2
      obtain ⟨ra, rcap, rfl, hr1, hr2, _⟩ := hV.at
      clear hV hb1 c0 c1 c2 HO
      generalize hrs : refsOf f.body = rs at *
      clear hrs
      go_wp2_with fail
      go_loopw [3, 6] (fun v j w' => ∃ (q g' c' : Nat) (out' : List ByteArray), q ≤ rs.length ∧ j = .int .i64 q ∧ v = .slice (some ⟨g', 0, none⟩) out'.length c' ∧ out'.length ≤ k * 10 + q ∧ Wants fs (bodyRefs fs k ++ rs.take q) out' ∧ StrOwn w' w.heap.size (.slice (some ⟨g', 0, none⟩) out'.length c') out' ∧ StrOwn w' wr.heap.size (.slice ra rs.length rcap) rs ∧ (Value.slice ra rs.length rcap).ownBlock ≠ some g' ∧ Below w.heap.size w w') (fun _ j _ => rs.length - (intOf j).toNat)
      case atStart => exact ⟨0, g, c, out, Nat.zero_le _, rfl, rfl, by omega, by simpa using unhide HW, unhide HO1, unhide HV, (fun e => by have := (World.ownsRow.lt (unhide HV) g e).1; omega), hB1⟩
      case round =>
        obtain ⟨q, g', c', out', hq, rfl, rfl, hol', hW', hO', hV', hne', hB'⟩ := hrel
        have HW' := hide hW'
        have HO' := hide hO'
        have HV' := hide hV'
        clear hW' hO' hV' HO1 HV HW
        by_cases hql : q < rs.length
        · obtain ⟨ra', rcap', e1, _, _, hcc⟩ := (unhide HV').at
          obtain ⟨rfl, rfl⟩ : ra = ra' ∧ rcap = rcap' := by simpa using e1
          obtain h0 | ⟨gr, orr, rfl, hg1⟩ := hcc
          · rw [h0] at hql; simp at hql
          have r0 := hg1 q hql
          have hql' : (q : Int) < (rs.length : Int) := by omega
          have hsz := unhide HZ _ (List.getElem_mem hql)
          have HTK : Hid (bodyRefs fs k ++ rs.take (q + 1) = (bodyRefs fs k ++ rs.take q) ++ [rs[q]]) := by
            show _ = _
            rw [List.take_succ_eq_append_getElem hql, ← List.append_assoc]
          clear hg1 e1
          generalize rs[q] = s at *
          by_cases hf : findI fs s < 0
          · go_wp2_with fail
            refine (specFind_any _ cap fs s _ hsz hcap hcm ((unhide HR).below hB')).mono ?_
            rintro e w2 ⟨rfl, hb2⟩
            have HF := hide hf
            replace r0 := (Stable.cell ⟨gr, orr + q, none⟩ (.string s)).1 _ _ hb2 r0
            have HO2 := hide ((unhide HO').below hb2)
            have HV2 := hide ((unhide HV').below hb2)
            have hB2 := bl_trans hB' hb2
            have hs2 := hB2.size
            clear HO' HV' hb2
            generalize findI fs s = fi at hf ⊢
            go_wp2_with fail
            refine (specPut_any w.heap.size g' c' out' s _ (by omega) hs2 (unhide HO2)).mono ?_
            rintro e w3 ⟨g3, c3, out3, hP, hg3, rfl, hO3, hbut⟩
            have HW3 := hide (wants_put (unhide HW') (unhide HF) hP)
            have hl3 := put_len hP
            have HV3 := hide (hbut.strOwn (unhide HV2) hne')
            have hB3 := But.down hB2 hbut (World.ownsRow.lt (unhide HO2) g' rfl).1
            have hne3 : (Value.slice (some ⟨gr, orr, none⟩) rs.length rcap).ownBlock ≠ some g3 := fun e => by
              rcases hg3 with h | h
              · rw [h] at e; exact hne' e
              · have := (World.ownsRow.lt (unhide HV2) g3 e).2; omega
            have HO3 := hide hO3
            clear hP hO3 hbut HO2 HV2 HW' r0
            go_wp2_with fail
            exact ⟨⟨q + 1, g3, c3, out3, by omega, by go_num, rfl, by omega, by rw [unhide HTK]; exact unhide HW3, unhide HO3, unhide HV3, hne3, hB3⟩, by simp [intOf]; omega⟩
          · go_wp2_with fail
            refine (specFind_any _ cap fs s _ hsz hcap hcm ((unhide HR).below hB')).mono ?_
            rintro e w2 ⟨rfl, hb2⟩
            have HW3 := hide (wants_skip (s := s) (unhide HW') (by omega))
            generalize findI fs s = fi at hf ⊢
            have HO2 := hide ((unhide HO').below hb2)
            have HV2 := hide ((unhide HV').below hb2)
            have hB2 := bl_trans hB' hb2
            clear HO' HV' hb2 HW' r0
            go_wp2_with fail
            exact ⟨⟨q + 1, g', c', out', by omega, by go_num, rfl, by omega, by rw [unhide HTK]; exact unhide HW3, unhide HO2, unhide HV2, hne', hB2⟩, by simp [intOf]; omega⟩
        · have hqe : q = rs.length := by omega
          subst hqe
          rw [List.take_length] at HW'
          have HW2 : Hid (Wants fs (bodyRefs fs (k + 1)) out') := by show Wants _ _ _; rw [unhide HS1]; exact unhide HW'
          go_wp2_with fail
          exact ⟨⟨k + 1, g', c', out', by omega, by go_num, rfl, by omega, unhide HW2, unhide HO', hB'⟩, by simp [intOf]; omega⟩
    · have hke : k = fs.length := by omega
      subst hke
      go_wp2_with fail
      go_ret
      exact ⟨_, out, rfl, unhide HW, by omega, unhide HO, hB⟩

/-- The wants of whatever functions: none of what is no unit. -/
def UWants (fs : List FunD) (out : List ByteArray) : Prop := if unitOkB fs then Wants fs (bodyRefs fs fs.length) out else out = []
theorem uwants_one {fs : List FunD} {o o' : List ByteArray} (h : UWants fs o) (h' : UWants fs o') : o = o' := by
  unfold UWants at h h'
  cases hu : unitOkB fs
  · rw [hu] at h h'; simp at h h'; rw [h, h']
  · rw [hu] at h h'; simp at h h'; exact wants_one h h'
theorem unit_bodies {fs : List FunD} (h : unitOkB fs = true) : fs.length ≤ 5 ∧ (∀ f ∈ fs, f.body.length ≤ 10) ∧ ∀ f ∈ fs, funOkB f.nm f.body = true := by
  unfold unitOkB at h
  simp only [Bool.and_eq_true, decide_eq_true_iff, List.all_eq_true] at h
  exact ⟨h.1.1, fun f hf => fun_le (nm := f.nm) (h.1.2 f hf), fun f hf => h.1.2 f hf⟩

set_option maxHeartbeats 1000000 in
theorem specUWants_any (a : Option Addr) (cap : Nat) (fs : List FunD) (w : World) (hcap : fs.length ≤ cap) (hcm : cap ≤ maxLen) (hR : FunRow w a fs) :
    Calls Try.prog 17 #[.slice a fs.length cap] w fun e w' => ∃ v out, e = .returned v ∧ UWants fs out ∧ out.length ≤ 50 ∧ StrOwn w' w.heap.size v out ∧ Below w.heap.size w w' := by
  have HR := hide hR
  clear hR
  cases hu : unitOkB fs
  · go_enter Try.func17, Try.ntmps17
    go_wp2_with fail
    refine (specUnitOk_any a cap fs _ hcap hcm (unhide HR)).mono ?_
    rintro e w1 ⟨rfl, hb1⟩
    rw [hu]
    go_wp2_with fail
    go_ret
    exact ⟨_, [], rfl, by simp [UWants, hu], by simp, (str_made w1).base hb1.size, bl_alloc hb1 _⟩
  · obtain ⟨h5, h10, _⟩ := unit_bodies hu
    have H10 := hide h10
    clear h10
    go_enter Try.func17, Try.ntmps17
    go_wp2_with fail
    refine (specUnitOk_any a cap fs _ hcap hcm (unhide HR)).mono ?_
    rintro e w1 ⟨rfl, hb1⟩
    rw [hu]
    go_wp2_with fail
    refine (specWantsOf_any a cap fs _ hcap hcm h5 (unhide H10) ((unhide HR).below hb1)).mono ?_
    rintro e w2 ⟨v, out, rfl, hW, hl, hO, hb2⟩
    have HW := hide hW
    have HO := hide hO
    clear hW hO
    go_wp2_with fail
    go_ret
    exact ⟨v, out, rfl, by simp [UWants, hu]; exact unhide HW, hl, (unhide HO).base hb1.size, bl_trans hb1 hb2⟩
end Go.Proofs.Ytekikhjghnjgaaa.WantsL
