/- Plain facts on one unit more behind the others. -/
import Derived.Test.YtekikhjghnjgaacPickP
namespace Go.Proofs.Ytekikhjghnjgaac.PickQ
open Go.Proofs.Ytekikhjghnjgaac.Funs Go.Proofs.Ytekikhjghnjgaac.Open Go.Proofs.Ytekikhjghnjgaac.FunS Go.Proofs.Ytekikhjghnjgaac.InsB Go.Proofs.Ytekikhjghnjgaac.InsA Go.Proofs.Ytekikhjghnjgaac.UnitS Go.Proofs.Ytekikhjghnjgaac.PickD Go.Proofs.Ytekikhjghnjgaac.PickS Go.Proofs.Ytekikhjghnjgaac.PickP
open Go.Proofs.Ytekikhjghnjgaac.Name (nameB)
set_option linter.unusedVariables false
set_option maxRecDepth 100000

/-- A unit of one function that returns at once. -/
def soloF (x : ByteArray) (wk : Bool) : List FunD := [⟨x, wk, [⟨6, 0, ⟨#[]⟩⟩]⟩]
theorem lone_ok {x : ByteArray} (h : nameB x = true) (wk : Bool) : unitOkB (soloF x wk) = true := by
  have h1 : funOkB x [⟨6, 0, ⟨#[]⟩⟩] = true := by
    rw [fun_eq h (by simp) (by simp)]
    simp [lastD, lastB, allOk, insOkD, insOkB, ByteArray.toList_eq]
  simp [unitOkB, soloF, okD, h1, apartF]
theorem lone_find (x : ByteArray) (wk : Bool) : findI (soloF x wk) x = 0 := by
  have h := find_name (u := soloF x wk) (s := x) (k := 0) (by simp [soloF, apartF]) (by simp [soloF]) (by simp [soloF, isNm])
  simpa using h
theorem hits_pre {us : List (List FunD)} {u : List FunD} {s : ByteArray} : ∀ n, n ≤ us.length → hitsTo (us ++ [u]) s n = hitsTo us s n
  | 0, _ => rfl
  | n + 1, hn => by
    rw [hitsTo, hitsTo, hits_pre n (by omega), getD_at (by simp; omega), getD_at (by omega), List.getElem_append_left (by omega)]
theorem hits_more (us : List (List FunD)) (x : ByteArray) (wk : Bool) : hits (us ++ [soloF x wk]) x = hits us x ++ [(us.length, 0, ⟨x, wk, [⟨6, 0, ⟨#[]⟩⟩]⟩)] := by
  unfold hits
  have e : (us ++ [soloF x wk]).length = us.length + 1 := by simp
  rw [e, hitsTo, hits_pre _ (Nat.le_refl _), getD_at (by simp)]
  congr 1
  have e2 : (us ++ [soloF x wk])[us.length]'(by simp) = soloF x wk := by simp
  rw [e2, hitU, lone_find]
  rfl
theorem best_weak {l : List Ent} {e : Ent} (hw : e.2.2.wk = true) : bestOf (l ++ [e]) = (bestOf l).or (some e) := by
  unfold bestOf
  rw [strong_append, strong_none hw, List.append_nil]
  cases strong l with
  | nil => cases l <;> rfl
  | cons y t => rfl
theorem best_strong {l : List Ent} {e : Ent} (hw : e.2.2.wk = false) : bestOf (l ++ [e]) = ((strong l).head?).or (some e) := by
  unfold bestOf
  rw [strong_append, strong_one hw]
  cases strong l with
  | nil => rfl
  | cons y t => rfl
theorem more_ok {us : List (List FunD)} {x : ByteArray} (wk : Bool) (h : unitsOkB us 8 = true) (h4 : us.length ≤ 4) (hx : nameB x = true) : unitsOkB (us ++ [soloF x wk]) 8 = true := by
  unfold unitsOkB at *
  simp only [Bool.and_eq_true, List.all_eq_true, decide_eq_true_iff] at *
  refine ⟨fun u hu => ?_, by simp; omega⟩
  rcases List.mem_append.1 hu with hu | hu
  · exact h.1 u hu
  · rw [List.mem_singleton.1 hu]; exact lone_ok hx wk
/-- Where the name is with a weak one, and with a strong one, behind all. -/
theorem strong_law {us : List (List FunD)} {x : ByteArray} (h : unitsOkB us 8 = true) (h4 : us.length ≤ 4) (hx : nameB x = true) :
    ((pickAtB us x).2.2 = true → ∃ b : Ent, pickAtB us x = ((b.1 : Int), (b.2.1 : Int), true) ∧ bestOf (hits us x) = some b ∧ pickAtB (us ++ [soloF x true]) x = ((b.1 : Int), (b.2.1 : Int), true) ∧ (b.2.2.wk = false → ∃ k, pickAtB (us ++ [soloF x false]) x = ((b.1 : Int), k, true)) ∧ (b.2.2.wk = true → ∃ k, pickAtB (us ++ [soloF x false]) x = ((us.length : Int), k, true))) ∧
    ((pickAtB us x).2.2 = false → (∃ k, pickAtB (us ++ [soloF x true]) x = ((us.length : Int), k, true)) ∧ ∃ k, pickAtB (us ++ [soloF x false]) x = ((us.length : Int), k, true)) := by
  have e1 : pickAtB (us ++ [soloF x true]) x = atOf ((bestOf (hits us x)).or (some (us.length, 0, ⟨x, true, [⟨6, 0, ⟨#[]⟩⟩]⟩))) := by
    rw [pickAtB, more_ok true h h4 hx, if_pos rfl, pickAt, hits_more, best_weak rfl]
  have e2 : pickAtB (us ++ [soloF x false]) x = atOf (((strong (hits us x)).head?).or (some (us.length, 0, ⟨x, false, [⟨6, 0, ⟨#[]⟩⟩]⟩))) := by
    rw [pickAtB, more_ok false h h4 hx, if_pos rfl, pickAt, hits_more, best_strong rfl]
  refine ⟨fun ht => ?_, fun hf => ?_⟩
  · obtain ⟨_, b, hb1, hb2⟩ := at_is ht
    refine ⟨b, hb1, hb2, by rw [e1, hb2]; rfl, fun hw => ?_, fun hw => ?_⟩
    · rw [e2]
      cases hs : (strong (hits us x)).head? with
      | some c =>
        have : c = b := by unfold bestOf at hb2; rw [hs] at hb2; simpa using hb2
        subst this
        exact ⟨_, rfl⟩
      | none =>
        exfalso
        have hh : (hits us x).head? = some b := by unfold bestOf at hb2; rw [hs] at hb2; simpa using hb2
        have : b ∈ strong (hits us x) := List.mem_filter.2 ⟨List.mem_of_mem_head? (by rw [hh]; rfl), by simp [hw]⟩
        rw [List.head?_eq_none_iff.1 hs] at this
        cases this
    · rw [e2]
      cases hs : (strong (hits us x)).head? with
      | some c =>
        exfalso
        have : c = b := by unfold bestOf at hb2; rw [hs] at hb2; simpa using hb2
        subst this
        have hm : c ∈ strong (hits us x) := List.mem_of_mem_head? (by rw [hs]; rfl)
        have := (List.mem_filter.1 hm).2
        rw [hw] at this
        cases this
      | none => exact ⟨_, rfl⟩
  · have hb : bestOf (hits us x) = none := by
      cases hb : bestOf (hits us x) with
      | none => rfl
      | some b => rw [pickAtB, h, if_pos rfl, pickAt, hb] at hf; simp [atOf] at hf
    have hs : (strong (hits us x)).head? = none := by unfold bestOf at hb; rw [Option.or_eq_none_iff] at hb; exact hb.1
    rw [e1, e2, hb, hs]
    exact ⟨⟨_, rfl⟩, ⟨_, rfl⟩⟩
end Go.Proofs.Ytekikhjghnjgaac.PickQ
