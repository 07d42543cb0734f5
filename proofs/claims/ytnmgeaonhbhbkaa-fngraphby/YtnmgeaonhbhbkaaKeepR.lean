/- The contracts of KeepReach of both sides: the names that are reached, in order. -/
import Derived.Test.YtnmgeaonhbhbkaaKeepX
import Derived.Test.YtnmgeaonhbhbkaaKeepA
namespace Go.Proofs.Ytnmgeaonhbhbkaa.KeepR
open Go.ChangeShapes Go.WideShapes Go.ChangeAt Go.RowKit Go.Joins Go.WideMaps Go.Maps Go.Sort Go.Shelf Go.Deep
open Go.Proofs.Ytnmgeaonhbhbkaa.Base Go.Proofs.Ytnmgeaonhbhbkaa.InsA Go.Proofs.Ytnmgeaonhbhbkaa.InsB Go.Proofs.Ytnmgeaonhbhbkaa.Funs Go.Proofs.Ytnmgeaonhbhbkaa.Open Go.Proofs.Ytnmgeaonhbhbkaa.FunS Go.Proofs.Ytnmgeaonhbhbkaa.Keep Go.Proofs.Ytnmgeaonhbhbkaa.UnitS Go.Proofs.Ytnmgeaonhbhbkaa.UnitM Go.Proofs.Ytnmgeaonhbhbkaa.Refs Go.Proofs.Ytnmgeaonhbhbkaa.Mark Go.Proofs.Ytnmgeaonhbhbkaa.UU Go.Proofs.Ytnmgeaonhbhbkaa.PickD Go.Proofs.Ytnmgeaonhbhbkaa.WantsS Go.Proofs.Ytnmgeaonhbhbkaa.WantsL Go.Proofs.Ytnmgeaonhbhbkaa.WantsI Go.Proofs.Ytnmgeaonhbhbkaa.WantsM Go.Proofs.Ytnmgeaonhbhbkaa.Concat Go.Proofs.Ytnmgeaonhbhbkaa.KeepC Go.Proofs.Ytnmgeaonhbhbkaa.KeepD Go.Proofs.Ytnmgeaonhbhbkaa.KeepA Go.Proofs.Ytnmgeaonhbhbkaa.KeepW Go.Proofs.Ytnmgeaonhbhbkaa.KeepX
set_option linter.unusedVariables false
set_option maxRecDepth 100000

/-- What is reached in a program that is right. -/
def keepList (fs : List FunD) (s : ByteArray) : List FunD := if keepOkB fs then (walkB [fs] s).getD [] else []
/-- Its names, in order, each once. -/
def RN (fs : List FunD) (s : ByteArray) (out : List ByteArray) : Prop := srt (bl out) ∧ ∀ x, x ∈ bl out ↔ ∃ f ∈ keepList fs s, f.nm.toList = x
theorem rn_one {fs : List FunD} {s : ByteArray} {o o' : List ByteArray} (h : RN fs s o) (h' : RN fs s o') : o = o' := bl_inj (srt_ext h.1 h'.1 (fun x => (h.2 x).trans (h'.2 x).symm))
theorem walk_facts {us : List (List FunD)} {s : ByteArray} {out : List FunD} (h : walkB us s = some out) : out.length ≤ flen us ∧ (out.map fun f => f.nm.toList).Nodup ∧ ∀ f ∈ out, f ∈ us.flatten := by
  unfold walkB resK at h
  have hi := stK_inv us s (us.flatten.length + 1)
  have hb := stK_bound us s (us.flatten.length + 1)
  by_cases e : (stK us s (us.flatten.length + 1)).1.length = (stK us s (us.flatten.length + 1)).2.length
  · rw [if_pos e] at h
    cases h
    refine ⟨hb, ?_, hi.mem⟩
    rw [hi.same]
    exact hi.nodup.sublist (List.Sublist.map _ (List.take_sublist _ _))
  · rw [if_neg e] at h; cases h
theorem list_facts {fs : List FunD} {s : ByteArray} (h : keepOkB fs = true) : (keepList fs s).length ≤ 40 ∧ ((keepList fs s).map fun f => f.nm.toList).Nodup ∧ ∀ f ∈ keepList fs s, f ∈ fs := by
  unfold keepList
  rw [h, if_pos rfl]
  cases hw : walkB [fs] s with
  | none => exact ⟨Nat.zero_le _, List.nodup_nil, (fun f hf => by cases hf)⟩
  | some out =>
    obtain ⟨h1, h2, h3⟩ := walk_facts hw
    have := (keep_parts h).2.1
    refine ⟨?_, h2, fun f hf => by have := h3 f hf; simpa using this⟩
    unfold flen at h1
    have e : ([fs] : List (List FunD)).flatten.length = fs.length := by simp
    simp only [Option.getD_some]
    omega
theorem keep_small {fs : List FunD} (h : keepOkB fs = true) {w : World} {a : Option Addr} (hr : FunRow w a fs) : Small [fs] := by
  obtain ⟨h1, h2, h3, h4, h5⟩ := keep_parts h
  refine ⟨?_, fun f hf => ?_, fun f hf => ?_⟩
  · have e : ([fs] : List (List FunD)).flatten.length = fs.length := by simp
    unfold flen; omega
  · have hf' : f ∈ fs := by simpa using hf
    have := fun_le (h3 f hf'); omega
  · have hf' : f ∈ fs := by simpa using hf
    exact (hr.sizes f hf').2.2
theorem one_unit {w : World} {a : Option Addr} {cap : Nat} {fs : List FunD} (hl : fs.length ≤ cap) (hm : cap ≤ maxLen) (hr : FunRow w a fs) : UnitRow (w.alloc (.cells #[.slice a fs.length cap] 23)) (some ⟨w.heap.size, 0, none⟩) [fs] := by
  refine .inr ⟨w.heap.size, 0, rfl, fun i hi => ?_⟩
  have hi0 : i = 0 := by simpa using hi
  subst hi0
  exact ⟨a, cap, by rw [cell_of_block (new_block w _)]; rfl, hl, hm, hr.below (below_alloc1 _ _)⟩
theorem walked_row {w w' : World} {o : Option (List FunD)} {v : Value} {ok : Bool} (h : Walked w w' o v ok) (hb : Below w.heap.size w w') : ∃ a c, v = .slice a (o.getD []).length c ∧ (o.getD []).length ≤ c ∧ c ≤ maxLen ∧ FunRow w' a (o.getD []) := by
  cases o with
  | none =>
    obtain ⟨_, rfl⟩ := h
    exact ⟨none, 0, rfl, Nat.le_refl _, Nat.zero_le _, .inl rfl⟩
  | some out =>
    obtain ⟨_, vs, rfl, hbd, hO⟩ := h
    exact vals_row hO (fun u hu => (hbd u hu).below hb)
theorem names_srt {l : List FunD} {out : List ByteArray} (hs : srt (bl out)) (hm : ∀ x, x ∈ bl out ↔ ∃ f ∈ l.take l.length, f.nm.toList = x) : srt (bl out) ∧ ∀ x, x ∈ bl out ↔ ∃ f ∈ l, f.nm.toList = x := by
  rw [List.take_length] at hm
  exact ⟨hs, hm⟩
theorem rn_nil {fs : List FunD} {s : ByteArray} (h : keepList fs s = []) : RN fs s [] := ⟨List.Pairwise.nil, fun x => by rw [h]; simp [bl]⟩
theorem list_bad {fs : List FunD} {s : ByteArray} (h : keepOkB fs = false) : keepList fs s = [] := by unfold keepList; rw [h]; rfl
theorem best_miss {fs : List FunD} {s : ByteArray} (h : findI fs s < 0) : bestE [fs] s = none := by
  unfold bestE hits
  show bestOf (hitsTo [fs] s (0 + 1)) = none
  rw [hits_miss (us := [fs]) (n := 0) (by simp) h]
  rfl
theorem list_miss {fs : List FunD} {s : ByteArray} (h : findI fs s < 0) : keepList fs s = [] := by
  unfold keepList
  have : walkB [fs] s = none := walk_stuck (n := 0) (ns := [s]) (fs := []) rfl rfl rfl (best_miss h)
  rw [this]
  split <;> rfl
theorem list_ok {fs : List FunD} {s : ByteArray} (h : keepOkB fs = true) : keepList fs s = (walkB [fs] s).getD [] := by unfold keepList; rw [h, if_pos rfl]
/-- One name more, put in its place. -/
theorem put_take {l : List FunD} {ss out : List ByteArray} {k : Nat} (hk : k < l.length) (h : srt (bl ss) ∧ ∀ x, x ∈ bl ss ↔ ∃ f ∈ l.take k, f.nm.toList = x) (hp : Put ss l[k].nm out) : srt (bl out) ∧ ∀ x, x ∈ bl out ↔ ∃ f ∈ l.take (k + 1), f.nm.toList = x := by
  obtain ⟨h1, h2⟩ := put_srt h.1 hp
  refine ⟨h1, fun x => ?_⟩
  rw [h2, h.2, List.take_succ_eq_append_getElem hk]
  constructor
  · rintro (⟨f, hf, e⟩ | rfl)
    · exact ⟨f, List.mem_append_left _ hf, e⟩
    · exact ⟨l[k], List.mem_append_right _ (List.mem_singleton.2 rfl), rfl⟩
  · rintro ⟨f, hf, rfl⟩
    rcases List.mem_append.1 hf with hf | hf
    · exact .inl ⟨f, hf, rfl⟩
    · rw [List.mem_singleton.1 hf]; exact .inr rfl
/-- What a call of KeepReach leaves. -/
def Reached (w : World) (fs : List FunD) (s : ByteArray) (e : Ending) (w' : World) : Prop := ∃ v out, e = .returned v ∧ RN fs s out ∧ out.length ≤ 40 ∧ StrOwn w' w.heap.size v out ∧ Below w.heap.size w w'

end Go.Proofs.Ytnmgeaonhbhbkaa.KeepR
