/- The contracts of PickWants of both sides: what units name and none has. -/
import Derived.Test.YtekikhjghnjgaatPWants
import Derived.Test.YtekikhjghnjgaatPickM
import Derived.Test.YtekikhjghnjgaatConcat
import Derived.Test.YtekikhjghnjgaatWantsM
namespace Go.Proofs.Ytekikhjghnjgaat.PWantsI
open Go.ChangeShapes Go.WideShapes Go.ChangeAt Go.RowKit Go.Joins Go.Maps Go.Sort Go.Shelf
open Go.Proofs.Ytekikhjghnjgaat.Base Go.Proofs.Ytekikhjghnjgaat.InsA Go.Proofs.Ytekikhjghnjgaat.InsB Go.Proofs.Ytekikhjghnjgaat.Funs Go.Proofs.Ytekikhjghnjgaat.Open Go.Proofs.Ytekikhjghnjgaat.FunS Go.Proofs.Ytekikhjghnjgaat.Keep Go.Proofs.Ytekikhjghnjgaat.UnitS Go.Proofs.Ytekikhjghnjgaat.UnitM Go.Proofs.Ytekikhjghnjgaat.Refs Go.Proofs.Ytekikhjghnjgaat.Mark Go.Proofs.Ytekikhjghnjgaat.WantsS Go.Proofs.Ytekikhjghnjgaat.WantsI Go.Proofs.Ytekikhjghnjgaat.WantsL Go.Proofs.Ytekikhjghnjgaat.WantsK Go.Proofs.Ytekikhjghnjgaat.WantsM Go.Proofs.Ytekikhjghnjgaat.UU Go.Proofs.Ytekikhjghnjgaat.PickD Go.Proofs.Ytekikhjghnjgaat.PickS Go.Proofs.Ytekikhjghnjgaat.PickM Go.Proofs.Ytekikhjghnjgaat.PWants Go.Proofs.Ytekikhjghnjgaat.Concat
set_option linter.unusedVariables false
set_option maxRecDepth 100000

theorem hits_nil {us : List (List FunD)} {s : ByteArray} : ∀ n, n ≤ us.length → (hitsTo us s n = [] ↔ ∀ u ∈ us.take n, findI u s < 0)
  | 0, _ => by simp [hitsTo]
  | n + 1, hn => by
    have ih := hits_nil (us := us) (s := s) n (by omega)
    rw [hitsTo, List.append_eq_nil_iff, ih, List.take_succ_eq_append_getElem (by omega), getD_at (show n < us.length by omega)]
    have e : hitU s us[n] n = [] ↔ findI us[n] s < 0 := by
      unfold hitU
      by_cases h : findI us[n] s < 0
      · rw [if_pos h]; simp [h]
      · rw [if_neg h]; simp [h]
    rw [e]
    constructor
    · rintro ⟨h1, h2⟩ u hu
      rcases List.mem_append.1 hu with hu | hu
      · exact h1 u hu
      · rw [List.mem_singleton.1 hu]; exact h2
    · intro h
      exact ⟨fun u hu => h u (List.mem_append_left _ hu), h _ (List.mem_append_right _ (List.mem_singleton.2 rfl))⟩
theorem best_none {l : List Ent} : bestOf l = none ↔ l = [] := by
  unfold bestOf
  rw [Option.or_eq_none_iff, List.head?_eq_none_iff, List.head?_eq_none_iff]
  exact ⟨fun h => h.2, fun h => by subst h; exact ⟨rfl, rfl⟩⟩
theorem at_found {us : List (List FunD)} {s : ByteArray} : (pickAt us s).2.2 = false ↔ ∀ u ∈ us, findI u s < 0 := by
  have h := hits_nil (us := us) (s := s) us.length (Nat.le_refl _)
  rw [List.take_length] at h
  rw [← h, pickAt, ← hits]
  cases hb : bestOf (hits us s) with
  | none => rw [best_none] at hb; rw [hb]; simp [atOf]
  | some x =>
    have : hits us s ≠ [] := fun e => by rw [best_none.2 e] at hb; cases hb
    simp [atOf, this]
theorem lack_iff {us : List (List FunD)} {s : ByteArray} : lackB us s = true ↔ findI us.flatten s < 0 := by
  unfold lackB
  rw [Bool.not_eq_true', at_found, find_neg]
  constructor
  · intro h f hf
    obtain ⟨u, hu, hf⟩ := List.mem_flatten.1 hf
    exact find_neg.1 (h u hu) f hf
  · intro h u hu
    exact find_neg.2 fun f hf => h f (List.mem_flatten.2 ⟨u, hu, hf⟩)
theorem refs_flatten (us : List (List FunD)) : bodyRefs us.flatten us.flatten.length = unitRefs us us.length := by
  unfold bodyRefs unitRefs
  rw [List.take_length, List.take_length]
  have : ∀ l : List (List FunD), (l.flatten.flatMap fun f => refsOf f.body) = l.flatMap fun u => bodyRefs u u.length := by
    intro l
    induction l with
    | nil => rfl
    | cons u r ih =>
      rw [List.flatten_cons, List.flatMap_append, ih, List.flatMap_cons]
      congr 1
      unfold bodyRefs
      rw [List.take_length]
  exact this us
theorem lwants_of {us : List (List FunD)} {out : List ByteArray} (h : Wants us.flatten (bodyRefs us.flatten us.flatten.length) out) : LWants us (unitRefs us us.length) out := by
  refine ⟨h.1, fun x => (h.2 x).trans ?_⟩
  rw [refs_flatten]
  constructor
  · rintro ⟨t, h1, h2, h3⟩; exact ⟨t, h1, h2, lack_iff.2 h3⟩
  · rintro ⟨t, h1, h2, h3⟩; exact ⟨t, h1, h2, lack_iff.1 h3⟩
/-- What units want: none of what is not right. -/
def PWB (us : List (List FunD)) (out : List ByteArray) : Prop := if unitsOkB us 8 then LWants us (unitRefs us us.length) out else out = []
theorem pwb_one {us : List (List FunD)} {o o' : List ByteArray} (h : PWB us o) (h' : PWB us o') : o = o' := by
  unfold PWB at h h'
  cases hu : unitsOkB us 8
  · rw [hu] at h h'; simp at h h'; rw [h, h']
  · rw [hu] at h h'; simp at h h'; exact lwants_one h h'
theorem units_bodies {us : List (List FunD)} {m : Nat} (h : unitsOkB us m = true) : ∀ u ∈ us, ∀ f ∈ u, f.body.length ≤ 10 := fun u hu => (unit_bodies (units_each h u hu)).2.1
theorem units_funs {us : List (List FunD)} {m : Nat} (h : unitsOkB us m = true) : ∀ f ∈ us.flatten, funOkB f.nm f.body = true := fun f hf => by
  obtain ⟨u, hu, hf⟩ := List.mem_flatten.1 hf
  exact (unit_bodies (units_each h u hu)).2.2 f hf

theorem entN_nil : entN ⟨#[]⟩ = [] := by unfold entN; rw [ByteArray.toList_eq]; rfl
set_option maxHeartbeats 1000000 in
theorem specPickWants_any (a : Option Addr) (cap : Nat) (us : List (List FunD)) (w : World) (hcap : us.length ≤ cap) (hcm : cap ≤ maxLen) (hR : UnitRow w a us) :
    Calls Try.prog 9 #[.slice a us.length cap] w fun e w' => ∃ v out, e = .returned v ∧ PWB us out ∧ out.length ≤ 401 ∧ StrOwn w' w.heap.size v out ∧ Below w.heap.size w w' := by
  have HR := hide hR
  clear hR
  cases hu : unitsOkB us 8
  · go_enter Try.func9, Try.ntmps9
    go_wp2_with fail
    refine (specUnitsOk_any a cap us 8 _ (by omega) hcap hcm (unhide HR)).mono ?_
    rintro e w1 ⟨rfl, hb1⟩
    rw [hu]
    go_wp2_with fail
    go_ret
    exact ⟨_, [], rfl, by simp [PWB, hu], by simp, (str_made w1).base hb1.size, bl_alloc hb1 _⟩
  · go_enter Try.func9, Try.ntmps9
    go_wp2_with fail
    refine (specUnitsOk_any a cap us 8 _ (by omega) hcap hcm (unhide HR)).mono ?_
    rintro e w1 ⟨rfl, hb1⟩
    rw [hu]
    go_wp2_with fail
    refine (specLWants_any a cap us ⟨#[]⟩ _ (Nat.zero_le _) hcap hcm (units_len hu) (ok_five hu) (units_bodies hu) ((unhide HR).below hb1)).mono ?_
    rintro e w2 ⟨v, out, rfl, hW, hl, _, hO, hb2⟩
    rw [entN_nil, List.nil_append] at hW
    have HW := hide hW
    have HO := hide hO
    clear hW hO
    go_wp2_with fail
    go_ret
    exact ⟨v, out, rfl, by simp [PWB, hu]; exact unhide HW, hl, (unhide HO).base hb1.size, bl_trans hb1 hb2⟩

set_option maxHeartbeats 1000000 in
theorem implPickWants_any (a : Option Addr) (cap : Nat) (us : List (List FunD)) (w : World) (hcap : us.length ≤ cap) (hcm : cap ≤ maxLen) (hR : UnitRow w a us) :
    Calls Try.prog 11 #[.slice a us.length cap] w fun e w' => ∃ v out, e = .returned v ∧ PWB us out ∧ StrOwn w' w.heap.size v out ∧ Below w.heap.size w w' := by
  have HR := hide hR
  clear hR
  cases hu : unitsOkB us 8
  · go_enter Try.func11, Try.ntmps11
    go_wp2_with fail
    refine (implUnitsOk_any a cap us 8 _ (by omega) hcap hcm (unhide HR)).mono ?_
    rintro e w1 ⟨rfl, hb1⟩
    rw [hu]
    go_wp2_with fail
    go_ret
    exact ⟨_, [], rfl, by simp [PWB, hu], World.ownsRow_nil _ _ _ _, hb1⟩
  · have h8 := units_len hu
    have H5 := hide (ok_five hu)
    have hfl : us.flatten.length ≤ 40 := by
      have := flatten_le (unhide H5) us.length (Nat.le_refl _)
      rw [List.take_length] at this
      omega
    have HOK := hide (units_funs hu)
    go_enter Try.func11, Try.ntmps11
    go_wp2_with fail
    refine (implUnitsOk_any a cap us 8 _ (by omega) hcap hcm (unhide HR)).mono ?_
    rintro e w1 ⟨rfl, hb1⟩
    rw [hu]
    go_wp2_with fail
    refine (concat_any a cap us _ hcap hcm h8 (unhide H5) ((unhide HR).below hb1)).mono ?_
    rintro e w2 ⟨a2, c2, rfl, hl2, hc2, hr2, hb2⟩
    have HLW := hide (fun out => lwants_of (us := us) (out := out))
    have hB2 := bl_trans hb1 hb2
    have HR2 := hide hr2
    clear hr2 hb1 hb2
    generalize us.flatten = fs at *
    go_wp2_with fail
    refine (wantsOf_any (fun v w' => ∃ out, Wants fs (bodyRefs fs fs.length) out ∧ StrOwn w' w2.heap.size v out ∧ Below w2.heap.size w2 w') a2 c2 fs _ hl2 hc2 hfl (unhide HR2) (fun w3 hown hb3 => (inOrder_any _ _ _ _ hown (Nat.le_trans (map_size hown) (by omega))).mono ?_)).mono ?_
    · rintro e w4 ⟨v, ss, rfl, hS, hrow, hb4⟩
      refine ⟨v, rfl, _, keys_wants (unhide HOK) hown hS, ?_, bl_trans hb3 hb4⟩
      unfold StrOwn
      rw [← enc_mk, List.length_map, (List.mergeSort_perm ss leB).length_eq]
      exact ownsRow_base_a hrow hb3.size
    · rintro e w4 ⟨v, rfl, out, hW, hO, hb4⟩
      have HW := hide (unhide HLW out hW)
      have HO := hide hO
      clear hW hO
      go_wp2_with fail
      go_ret
      exact ⟨v, out, rfl, by simp [PWB, hu]; exact unhide HW, (unhide HO).base hB2.size, bl_trans hB2 hb4⟩
end Go.Proofs.Ytekikhjghnjgaat.PWantsI
