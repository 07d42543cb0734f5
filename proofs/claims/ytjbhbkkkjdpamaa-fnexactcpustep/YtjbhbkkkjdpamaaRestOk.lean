/- The contract of the program's restOk (all but the places of a machine). -/
import Derived.Test.YtjbhbkkkjdpamaaLayN
import Derived.Test.YtjbhbkkkjdpamaaSum
import Derived.Deep.QuietTactic
import Derived.BigQuiet
namespace Go.Proofs.Ytjbhbkkkjdpamaa.RestOk
open Go.ChangeShapes Go.WideShapes Go.ChangeAt Go.RowKit Go.Joins
open Go.Proofs.Ytjbhbkkkjdpamaa.Base Go.Proofs.Ytjbhbkkkjdpamaa.Keep Go.Proofs.Ytjbhbkkkjdpamaa.LayN Go.Proofs.Ytjbhbkkkjdpamaa.Sum
set_option linter.unusedVariables false
set_option maxRecDepth 100000

/-- Whether all but the places is within its bounds. -/
def restB (c n : Int) (os : List Int) (d : Int) : Bool := decide (n ≤ 5) && decide (os.length ≤ 30) && os.all (fun n => cut n == n) && (cut c == c) && decide (0 ≤ d) && decide (d ≤ 5)
theorem rest_n {c n d : Int} {os : List Int} (h : 5 < n) : false = restB c n os d := by unfold restB; rw [decide_eq_false (by omega)]; rfl
theorem rest_o {c n d : Int} {os : List Int} (h : 30 < os.length) : false = restB c n os d := by unfold restB; rw [decide_eq_false (show ¬ os.length ≤ 30 by omega)]; simp
theorem rest_k {c n d : Int} {os : List Int} {k : Nat} (hk : k < os.length) (h : ¬ cut os[k] = os[k]) : false = restB c n os d := by
  have : os.all (fun n => cut n == n) = false := List.all_eq_false.2 ⟨os[k], List.getElem_mem _, by simpa using h⟩
  unfold restB; rw [this]; simp
def CutTo (os : List Int) (k : Nat) : Prop := ∀ i (h : i < os.length), i < k → cut os[i] = os[i]
theorem CutTo.zero (os : List Int) : CutTo os 0 := fun i _ h => by omega
theorem CutTo.step {os : List Int} {k : Nat} (h : CutTo os k) (hk : k < os.length) (e : cut os[k] = os[k]) : CutTo os (k + 1) := fun i hi hlt => by
  by_cases he : i = k
  · subst he; exact e
  · exact h i hi (by omega)
theorem CutTo.all {os : List Int} (h : CutTo os os.length) : os.all (fun n => cut n == n) = true := List.all_eq_true.2 fun s hs => by
  obtain ⟨i, hi, rfl⟩ := List.getElem_of_mem hs
  simpa using h i hi hi
theorem rest_end {c n d : Int} {os : List Int} (h1 : n ≤ 5) (h2 : os.length ≤ 30) (h3 : CutTo os os.length) : restB c n os d = ((cut c == c) && decide (0 ≤ d) && decide (d ≤ 5)) := by
  unfold restB; rw [decide_eq_true h1, decide_eq_true h2, h3.all]; simp
theorem rest_parts {c n d : Int} {os : List Int} (h : restB c n os d = true) : n ≤ 5 ∧ os.length ≤ 30 ∧ (∀ x ∈ os, cut x = x) ∧ cut c = c ∧ 0 ≤ d ∧ d ≤ 5 := by
  unfold restB at h
  simp only [Bool.and_eq_true, decide_eq_true_iff, List.all_eq_true, beq_iff_eq] at h
  exact ⟨h.1.1.1.1.1, h.1.1.1.1.2, h.1.1.1.2, h.1.1.2, h.1.2, h.2⟩
set_option maxHeartbeats 4000000 in
theorem restOk_any (c n d : Int) (oa : Option Addr) (oc : Nat) (os : List Int) (w : World) (h3 : os.length ≤ oc) (h4 : oc ≤ maxLen) (ho : NumRow w oa os) :
    Calls Try.prog 114 #[.int .i64 c, .int .i64 n, .slice oa os.length oc, .int .i64 d] w fun e w' => e = .returned (.bool (restB c n os d)) ∧ Below w.heap.size w w' := by
  have HO := hide ho
  clear ho
  unfold maxLen at h4
  have hol : (os.length : Int) ≤ 9223372036854775807 := by omega
  by_cases h5 : 5 < n
  · have HE : Hid (false = restB c n os d) := rest_n h5
    go_enter Try.func114, Try.ntmps114
    go_wp2_with fail
    go_ret
    exact ⟨ret_bool (unhide HE), Below.refl _ _⟩
  by_cases h30 : (30 : Int) < (os.length : Int)
  · have HE : Hid (false = restB c n os d) := rest_o (by omega)
    go_enter Try.func114, Try.ntmps114
    go_wp2_with fail
    go_ret
    exact ⟨ret_bool (unhide HE), Below.refl _ _⟩
  go_enter Try.func114, Try.ntmps114
  go_wp2_with fail
  go_loopw [20] (fun i w' => ∃ k : Nat, k ≤ os.length ∧ i = .int .i64 k ∧ Hid (CutTo os k) ∧ Below w.heap.size w w') (fun i _ => os.length - (intOf i).toNat)
  case atStart => exact ⟨0, Nat.zero_le _, rfl, CutTo.zero _, Below.refl _ _⟩
  case round =>
    obtain ⟨k, hk, rfl, HA, hB⟩ := hrel
    by_cases hkl : k < os.length
    · obtain ⟨b, off, rfl⟩ := (unhide HO).get (by omega)
      have c0 := ((unhide HO).below hB).cells hkl
      have hkl' : (k : Int) < (os.length : Int) := by omega
      have hk0 : (0 : Int) ≤ (k : Int) := by omega
      by_cases hsk : cut os[k] = os[k]
      · have HA2 : Hid (CutTo os (k + 1)) := (unhide HA).step hkl hsk
        have HSK := hide hsk
        clear hsk
        generalize os[k] = x at *
        go_wp2_with fail
        refine (cutNumber_any x _).mono ?_
        rw [unhide HSK]
        rintro e wk2 ⟨rfl, rfl⟩
        go_wp2_with fail
        exact ⟨⟨k + 1, by omega, by go_num, HA2, hB⟩, by simp [intOf]; omega⟩
      · have HF : Hid (false = restB c n os d) := rest_k hkl hsk
        generalize os[k] = x at *
        obtain ⟨x1, hx1⟩ : ∃ x1, cut x = x1 := ⟨_, rfl⟩
        rw [hx1] at hsk
        have HSK := hide hx1
        have hsk' : ¬ x = x1 := fun e => hsk e.symm
        clear hx1
        go_wp2_with fail
        refine (cutNumber_any x _).mono ?_
        rw [unhide HSK]
        rintro e wk2 ⟨rfl, rfl⟩
        go_wp2_with fail
        go_ret
        exact ⟨ret_bool (unhide HF), hB⟩
    · have hke : k = os.length := by omega
      have HE : Hid (restB c n os d = ((cut c == c) && decide (0 ≤ d) && decide (d ≤ 5))) := rest_end (by omega) (by omega) (hke ▸ unhide HA)
      have hkl2 : ¬ (k : Int) < (os.length : Int) := by omega
      clear hke HA
      by_cases hcu : cut c = c
      · have HCU := hide hcu
        clear hcu
        by_cases hd0 : 0 ≤ d
        · go_wp2_with fail
          refine (cutNumber_any c _).mono ?_
          rw [unhide HCU]
          rintro e wk2 ⟨rfl, rfl⟩
          go_wp2_with fail
          go_ret
          exact ⟨ret_bool (by rw [unhide HE, unhide HCU, decide_eq_true hd0]; simp), hB⟩
        · have HF : Hid (false = restB c n os d) := by show _ = _; rw [unhide HE, decide_eq_false hd0]; simp
          go_wp2_with fail
          refine (cutNumber_any c _).mono ?_
          rw [unhide HCU]
          rintro e wk2 ⟨rfl, rfl⟩
          go_wp2_with fail
          go_ret
          exact ⟨ret_bool (unhide HF), hB⟩
      · have HF : Hid (false = restB c n os d) := by show _ = _; rw [unhide HE, show (cut c == c) = false by simpa using hcu]; rfl
        obtain ⟨c1, hc1⟩ : ∃ c1, cut c = c1 := ⟨_, rfl⟩
        rw [hc1] at hcu
        have HCU := hide hc1
        have hcu' : ¬ c = c1 := fun e => hcu e.symm
        clear hc1
        go_wp2_with fail
        refine (cutNumber_any c _).mono ?_
        rw [unhide HCU]
        rintro e wk2 ⟨rfl, rfl⟩
        go_wp2_with fail
        go_ret
        exact ⟨ret_bool (unhide HF), hB⟩
end Go.Proofs.Ytjbhbkkkjdpamaa.RestOk
