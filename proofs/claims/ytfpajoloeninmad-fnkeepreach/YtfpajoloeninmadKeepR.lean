/- The contracts of KeepReach of both sides: the names that are reached, in order. -/
import Derived.Test.YtfpajoloeninmadKeepX
import Derived.Test.YtfpajoloeninmadKeepA
namespace Go.Proofs.Ytfpajoloeninmad.KeepR
open Go.ChangeShapes Go.WideShapes Go.ChangeAt Go.RowKit Go.Joins Go.WideMaps Go.Maps Go.Sort Go.Shelf Go.Deep
open Go.Proofs.Ytfpajoloeninmad.Base Go.Proofs.Ytfpajoloeninmad.InsA Go.Proofs.Ytfpajoloeninmad.InsB Go.Proofs.Ytfpajoloeninmad.Funs Go.Proofs.Ytfpajoloeninmad.Open Go.Proofs.Ytfpajoloeninmad.FunS Go.Proofs.Ytfpajoloeninmad.Keep Go.Proofs.Ytfpajoloeninmad.UnitS Go.Proofs.Ytfpajoloeninmad.UnitM Go.Proofs.Ytfpajoloeninmad.Refs Go.Proofs.Ytfpajoloeninmad.Mark Go.Proofs.Ytfpajoloeninmad.UU Go.Proofs.Ytfpajoloeninmad.PickD Go.Proofs.Ytfpajoloeninmad.WantsS Go.Proofs.Ytfpajoloeninmad.WantsL Go.Proofs.Ytfpajoloeninmad.WantsI Go.Proofs.Ytfpajoloeninmad.WantsM Go.Proofs.Ytfpajoloeninmad.Concat Go.Proofs.Ytfpajoloeninmad.KeepC Go.Proofs.Ytfpajoloeninmad.KeepD Go.Proofs.Ytfpajoloeninmad.KeepA Go.Proofs.Ytfpajoloeninmad.KeepW Go.Proofs.Ytfpajoloeninmad.KeepX
set_option linter.unusedVariables false
set_option maxRecDepth 100000

/-- What is reached in a program that is right. -/
def keepList (fs : List FunD) (s : ByteArray) : List FunD := if keepOkB fs then (walkB [fs] s).getD [] else []
/-- Its names, in order, each once. -/
def RN (fs : List FunD) (s : ByteArray) (out : List ByteArray) : Prop := srt (bl out) ∧ ∀ x, x ∈ bl out ↔ ∃ f ∈ keepList fs s, f.nm.toList = x
theorem rn_one {fs : List FunD} {s : ByteArray} {o o' : List ByteArray} (h : RN fs s o) (h' : RN fs s o') : o = o' := bl_inj (srt_ext h.1 h'.1 (fun x => (h.2 x).trans (h'.2 x).symm))
theorem walk_facts {us : List (List FunD)} {s : ByteArray} {out : List FunD} (h : walkB us s = some out) : out.length ≤ flen us ∧ (out.map fun f => f.nm.toList).Nodup ∧ ∀ f ∈ out, f ∈ us.flatten := by
  unfold walkB resK at h
  have hi := stK_inv us s (us.flatten.length + 1)
  have hb := stK_bound us s (us.flatten.length + 1)
  by_cases e : (stK us s (us.flatten.length + 1)).1.length = (stK us s (us.flatten.length + 1)).2.length
  · rw [if_pos e] at h
    cases h
    refine ⟨hb, ?_, hi.mem⟩
    rw [hi.same]
    exact hi.nodup.sublist (List.Sublist.map _ (List.take_sublist _ _))
  · rw [if_neg e] at h; cases h
theorem list_facts {fs : List FunD} {s : ByteArray} (h : keepOkB fs = true) : (keepList fs s).length ≤ 40 ∧ ((keepList fs s).map fun f => f.nm.toList).Nodup ∧ ∀ f ∈ keepList fs s, f ∈ fs := by
  unfold keepList
  rw [h, if_pos rfl]
  cases hw : walkB [fs] s with
  | none => exact ⟨Nat.zero_le _, List.nodup_nil, (fun f hf => by cases hf)⟩
  | some out =>
    obtain ⟨h1, h2, h3⟩ := walk_facts hw
    have := (keep_parts h).2.1
    refine ⟨?_, h2, fun f hf => by have := h3 f hf; simpa using this⟩
    unfold flen at h1
    have e : ([fs] : List (List FunD)).flatten.length = fs.length := by simp
    simp only [Option.getD_some]
    omega
theorem keep_small {fs : List FunD} (h : keepOkB fs = true) {w : World} {a : Option Addr} (hr : FunRow w a fs) : Small [fs] := by
  obtain ⟨h1, h2, h3, h4, h5⟩ := keep_parts h
  refine ⟨?_, fun f hf => ?_, fun f hf => ?_⟩
  · have e : ([fs] : List (List FunD)).flatten.length = fs.length := by simp
    unfold flen; omega
  · have hf' : f ∈ fs := by simpa using hf
    have := fun_le (h3 f hf'); omega
  · have hf' : f ∈ fs := by simpa using hf
    exact (hr.sizes f hf').2.2
theorem one_unit {w : World} {a : Option Addr} {cap : Nat} {fs : List FunD} (hl : fs.length ≤ cap) (hm : cap ≤ maxLen) (hr : FunRow w a fs) : UnitRow (w.alloc (.cells #[.slice a fs.length cap] 26)) (some ⟨w.heap.size, 0, none⟩) [fs] := by
  refine .inr ⟨w.heap.size, 0, rfl, fun i hi => ?_⟩
  have hi0 : i = 0 := by simpa using hi
  subst hi0
  exact ⟨a, cap, by rw [cell_of_block (new_block w _)]; rfl, hl, hm, hr.below (below_alloc1 _ _)⟩
theorem walked_row {w w' : World} {o : Option (List FunD)} {v : Value} {ok : Bool} (h : Walked w w' o v ok) (hb : Below w.heap.size w w') : ∃ a c, v = .slice a (o.getD []).length c ∧ (o.getD []).length ≤ c ∧ c ≤ maxLen ∧ FunRow w' a (o.getD []) := by
  cases o with
  | none =>
    obtain ⟨_, rfl⟩ := h
    exact ⟨none, 0, rfl, Nat.le_refl _, Nat.zero_le _, .inl rfl⟩
  | some out =>
    obtain ⟨_, vs, rfl, hbd, hO⟩ := h
    exact vals_row hO (fun u hu => (hbd u hu).below hb)
theorem names_srt {l : List FunD} {out : List ByteArray} (hs : srt (bl out)) (hm : ∀ x, x ∈ bl out ↔ ∃ f ∈ l.take l.length, f.nm.toList = x) : srt (bl out) ∧ ∀ x, x ∈ bl out ↔ ∃ f ∈ l, f.nm.toList = x := by
  rw [List.take_length] at hm
  exact ⟨hs, hm⟩
theorem rn_nil {fs : List FunD} {s : ByteArray} (h : keepList fs s = []) : RN fs s [] := ⟨List.Pairwise.nil, fun x => by rw [h]; simp [bl]⟩
theorem list_bad {fs : List FunD} {s : ByteArray} (h : keepOkB fs = false) : keepList fs s = [] := by unfold keepList; rw [h]; rfl
theorem best_miss {fs : List FunD} {s : ByteArray} (h : findI fs s < 0) : bestE [fs] s = none := by
  unfold bestE hits
  show bestOf (hitsTo [fs] s (0 + 1)) = none
  rw [hits_miss (us := [fs]) (n := 0) (by simp) h]
  rfl
theorem list_miss {fs : List FunD} {s : ByteArray} (h : findI fs s < 0) : keepList fs s = [] := by
  unfold keepList
  have : walkB [fs] s = none := walk_stuck (n := 0) (ns := [s]) (fs := []) rfl rfl rfl (best_miss h)
  rw [this]
  split <;> rfl
theorem list_ok {fs : List FunD} {s : ByteArray} (h : keepOkB fs = true) : keepList fs s = (walkB [fs] s).getD [] := by unfold keepList; rw [h, if_pos rfl]
/-- One name more, put in its place. -/
theorem put_take {l : List FunD} {ss out : List ByteArray} {k : Nat} (hk : k < l.length) (h : srt (bl ss) ∧ ∀ x, x ∈ bl ss ↔ ∃ f ∈ l.take k, f.nm.toList = x) (hp : Put ss l[k].nm out) : srt (bl out) ∧ ∀ x, x ∈ bl out ↔ ∃ f ∈ l.take (k + 1), f.nm.toList = x := by
  obtain ⟨h1, h2⟩ := put_srt h.1 hp
  refine ⟨h1, fun x => ?_⟩
  rw [h2, h.2, List.take_succ_eq_append_getElem hk]
  constructor
  · rintro (⟨f, hf, e⟩ | rfl)
    · exact ⟨f, List.mem_append_left _ hf, e⟩
    · exact ⟨l[k], List.mem_append_right _ (List.mem_singleton.2 rfl), rfl⟩
  · rintro ⟨f, hf, rfl⟩
    rcases List.mem_append.1 hf with hf | hf
    · exact .inl ⟨f, hf, rfl⟩
    · rw [List.mem_singleton.1 hf]; exact .inr rfl
/-- What a call of KeepReach leaves. -/
def Reached (w : World) (fs : List FunD) (s : ByteArray) (e : Ending) (w' : World) : Prop := ∃ v out, e = .returned v ∧ RN fs s out ∧ out.length ≤ 40 ∧ StrOwn w' w.heap.size v out ∧ Below w.heap.size w w'

set_option maxHeartbeats 4000000 in
theorem specKeepReach_any (a : Option Addr) (cap : Nat) (fs : List FunD) (s : ByteArray) (w : World) (hs : s.size ≤ maxLen) (hcap : fs.length ≤ cap) (hcm : cap ≤ maxLen) (hR : FunRow w a fs) :
    Calls Try.prog 20 #[.slice a fs.length cap, .string s] w (Reached w fs s) := by
  have HR := hide hR
  clear hR
  cases hok : keepOkB fs
  · go_enter Try.func20, Try.ntmps20
    go_wp2_with fail
    refine (specKeepOk_any a cap fs _ hcap hcm (unhide HR)).mono ?_
    rintro e w1 ⟨rfl, hb1⟩
    rw [hok]
    go_wp2_with fail
    go_ret
    exact ⟨_, [], rfl, rn_nil (list_bad hok), by simp, (str_made w1).base hb1.size, bl_alloc hb1 _⟩
  by_cases hf : findI fs s < 0
  · go_enter Try.func20, Try.ntmps20
    go_wp2_with fail
    refine (specKeepOk_any a cap fs _ hcap hcm (unhide HR)).mono ?_
    rintro e w1 ⟨rfl, hb1⟩
    rw [hok]
    go_wp2_with fail
    refine (specFind_any a cap fs s _ hs hcap hcm ((unhide HR).below hb1)).mono ?_
    rintro e w2 ⟨rfl, hb2⟩
    have HL := hide (list_miss hf)
    go_wp2_with fail
    go_ret
    exact ⟨_, [], rfl, rn_nil (unhide HL), by simp, (str_made w2).base (Nat.le_trans hb1.size hb2.size), bl_alloc (bl_trans hb1 hb2) _⟩
  have HSM := hide (keep_small hok (unhide HR))
  have HLO := hide (list_ok (s := s) hok)
  obtain ⟨hl40, _, hlm⟩ := list_facts (s := s) hok
  have HLZ : Hid (∀ f ∈ keepList fs s, f.nm.size ≤ maxLen) := fun f hf => ((unhide HR).sizes f (hlm f hf)).1
  clear hlm
  go_enter Try.func20, Try.ntmps20
  go_wp2_with fail
  refine (specKeepOk_any a cap fs _ hcap hcm (unhide HR)).mono ?_
  rintro e w1 ⟨rfl, hb1⟩
  rw [hok]
  go_wp2_with fail
  refine (specFind_any a cap fs s _ hs hcap hcm ((unhide HR).below hb1)).mono ?_
  rintro e w2 ⟨rfl, hb2⟩
  have hB2 := bl_trans hb1 hb2
  have HU := hide (one_unit hcap hcm ((unhide HR).below hB2))
  go_wp2_with fail
  refine (specWalk_any _ 1 [fs] s _ hs (Nat.le_refl _) (by unfold maxLen; omega) (unhide HSM) (unhide HU)).mono ?_
  rintro e w3 ⟨v, ok, rfl, hWk, hb3⟩
  have hB3 := bl_trans (bl_alloc hB2 _) hb3
  obtain ⟨la, lc, rfl, hlc, hlcm, hrow⟩ := walked_row hWk hb3
  have HRW := hide hrow
  rw [← unhide HLO] at HRW hlc
  rw [← unhide HLO]
  clear hWk hb3 hrow HU HSM HLO hB2 hb1 hb2 hok
  generalize hkl : keepList fs s = lst at *
  have HKL := hide hkl
  clear hkl
  go_wp2_with fail
  go_loopw [7, 8] (fun v i w' => ∃ (k g c : Nat) (out : List ByteArray), k ≤ lst.length ∧ i = .int .i64 k ∧ v = .slice (some ⟨g, 0, none⟩) out.length c ∧ out.length ≤ k ∧ Hid (srt (bl out) ∧ ∀ x, x ∈ bl out ↔ ∃ f ∈ lst.take k, f.nm.toList = x) ∧ StrOwn w' w3.heap.size (.slice (some ⟨g, 0, none⟩) out.length c) out ∧ Below w3.heap.size w3 w') (fun _ i _ => lst.length - (intOf i).toNat)
  case atStart => exact ⟨0, w3.heap.size, 0, [], Nat.zero_le _, rfl, rfl, Nat.le_refl _, ⟨List.Pairwise.nil, fun x => by simp [bl]⟩, str_made w3, below_alloc1 _ _⟩
  case round =>
    obtain ⟨k, g, c, out, hk, rfl, rfl, hol, HP, hO, hB⟩ := hrel
    have HO := hide hO
    clear hO
    by_cases hkl : k < lst.length
    · have hkl' : (k : Int) < (lst.length : Int) := by omega
      obtain ⟨b, off, rfl⟩ := (unhide HRW).get (by omega)
      obtain ⟨ai, ci, c0, c1, c2, hn, _⟩ := ((unhide HRW).below hB).at hkl
      have HPT := hide (fun out' => put_take (out := out') hkl (unhide HP))
      generalize lst[k] = f at *
      go_wp2_with fail
      refine (specPut_any w3.heap.size g c out f.nm _ (by omega) hB.size (unhide HO)).mono ?_
      rintro e w4 ⟨g4, c4, out4, hP4, _, rfl, hO4, hbut⟩
      have HO4 := hide hO4
      have HP4 := hide (unhide HPT out4 hP4)
      have hl4 := put_len hP4
      have hB4 := But.down hB hbut (World.ownsRow.lt (unhide HO) g rfl).1
      clear hP4 hO4 hbut HO HP HPT hB c0 c1 c2
      go_wp2_with fail
      exact ⟨⟨k + 1, g4, c4, out4, by omega, by go_num, rfl, by omega, unhide HP4, unhide HO4, hB4⟩, by simp [intOf]; omega⟩
    · have hkl' : ¬ (k : Int) < (lst.length : Int) := by omega
      have hke : k = lst.length := by omega
      have HE : Hid (RN fs s out) := by
        have h := unhide HP
        rw [hke] at h
        have h2 := names_srt h.1 h.2
        show RN _ _ _
        unfold RN
        rw [unhide HKL]; exact h2
      clear HP
      go_wp2_with fail
      go_ret
      exact ⟨_, out, rfl, unhide HE, by omega, (unhide HO).base hB3.size, bl_trans hB3 hB⟩
end Go.Proofs.Ytfpajoloeninmad.KeepR
