/- The contract of the program's MachOk. -/
import Derived.Test.YtjbhbkkkjdpamaaGreatMOk
import Derived.Test.YtjbhbkkkjdpamaaGreatRestOk
import Derived.Deep.RegionHeld3
import Derived.Deep.QuietTactic
import Derived.BigQuiet
namespace Go.Proofs.YtjbhbkkkjdpamaaGreat.MOkI
open Go.ChangeShapes Go.WideShapes Go.ChangeAt Go.RowKit Go.Joins Go.Deep
open Go.Proofs.YtjbhbkkkjdpamaaGreat.Base Go.Proofs.YtjbhbkkkjdpamaaGreat.InsA Go.Proofs.YtjbhbkkkjdpamaaGreat.Funs Go.Proofs.YtjbhbkkkjdpamaaGreat.Open Go.Proofs.YtjbhbkkkjdpamaaGreat.Keep Go.Proofs.YtjbhbkkkjdpamaaGreat.Mach Go.Proofs.YtjbhbkkkjdpamaaGreat.KeepA Go.Proofs.YtjbhbkkkjdpamaaGreat.KeepD Go.Proofs.YtjbhbkkkjdpamaaGreat.Sum Go.Proofs.YtjbhbkkkjdpamaaGreat.MOk
open Go.Proofs.YtjbhbkkkjdpamaaGreat.RestOk (restB restOk_any)
set_option linter.unusedVariables false
set_option maxRecDepth 100000

theorem spots_all {fs : List FunD} {st : List SpotD} (h : ∀ i (hi : i < st.length), i < st.length → spotB fs st[i].f st[i].p = true) : st.all (fun s => spotB fs s.f s.p) = true := List.all_eq_true.2 fun s hs => by
  obtain ⟨i, hi, rfl⟩ := List.getElem_of_mem hs
  exact h i hi hi
theorem spots_not {fs : List FunD} {st : List SpotD} {k : Nat} (hk : k < st.length) (h : spotB fs st[k].f st[k].p = false) : st.all (fun s => spotB fs s.f s.p) = false := List.all_eq_false.2 ⟨st[k], List.getElem_mem _, by simp [h]⟩
theorem nums_all {os : List Int} (h : ∀ i (hi : i < os.length), i < os.length → cut os[i] = os[i]) : os.all (fun n => cut n == n) = true := List.all_eq_true.2 fun s hs => by
  obtain ⟨i, hi, rfl⟩ := List.getElem_of_mem hs
  simpa using h i hi hi
theorem nums_not {os : List Int} {k : Nat} (hk : k < os.length) (h : ¬ cut os[k] = os[k]) : os.all (fun n => cut n == n) = false := List.all_eq_false.2 ⟨os[k], List.getElem_mem _, by simpa using h⟩
theorem ok_split (fs : List FunD) (f p c d : Int) (st : List SpotD) (os : List Int) : machOkB fs f p c d st os = (keepOkB fs && decide (st.length ≤ 5) && decide (os.length ≤ 30) && st.all (fun s => spotB fs s.f s.p) && os.all (fun n => cut n == n) && (spotB fs f p && (c == cut c) && decide (0 ≤ d) && decide (d ≤ 5))) := by
  unfold machOkB
  rw [BEq.comm (a := c)]
  generalize keepOkB fs = b0
  generalize spotB fs f p = b1
  generalize (cut c == c) = b2
  generalize decide (st.length ≤ 5) = b3
  generalize decide (os.length ≤ 30) = b4
  generalize decide (0 ≤ d) = b5
  generalize decide (d ≤ 5) = b6
  generalize st.all (fun s => spotB fs s.f s.p) = b7
  generalize os.all (fun n => cut n == n) = b8
  cases b0 <;> cases b1 <;> cases b2 <;> cases b3 <;> cases b4 <;> cases b5 <;> cases b6 <;> cases b7 <;> cases b8 <;> rfl
theorem rest_split (fs : List FunD) (f p c d : Int) (st : List SpotD) (os : List Int) : machOkB fs f p c d st os = (keepOkB fs && restB c (st.length : Int) os d && st.all (fun s => spotB fs s.f s.p) && spotB fs f p) := by
  unfold machOkB restB
  rw [show decide ((st.length : Int) ≤ 5) = decide (st.length ≤ 5) from decide_eq_decide.2 (by omega)]
  generalize keepOkB fs = b0
  generalize spotB fs f p = b1
  generalize (cut c == c) = b2
  generalize decide (st.length ≤ 5) = b3
  generalize decide (os.length ≤ 30) = b4
  generalize decide (0 ≤ d) = b5
  generalize decide (d ≤ 5) = b6
  generalize st.all (fun s => spotB fs s.f s.p) = b7
  generalize os.all (fun n => cut n == n) = b8
  cases b0 <;> cases b1 <;> cases b2 <;> cases b3 <;> cases b4 <;> cases b5 <;> cases b6 <;> cases b7 <;> cases b8 <;> rfl
set_option maxHeartbeats 8000000 in
theorem implMachOk_any (a : Option Addr) (cap : Nat) (fs : List FunD) (f p c d : Int) (sa oa : Option Addr) (sc oc : Nat) (st : List SpotD) (os : List Int) (w : World) (hcap : fs.length ≤ cap) (hcm : cap ≤ maxLen) (hR : FunRow w a fs) (h1 : st.length ≤ sc) (h2 : sc ≤ maxLen) (h3 : os.length ≤ oc) (h4 : oc ≤ maxLen) (hs : SpotRow w sa st) (ho : NumRow w oa os) :
    Calls Tryz.prog 50 #[.slice a fs.length cap, .agg #[.int .i64 f, .int .i64 p, .int .i64 c, .slice sa st.length sc, .slice oa os.length oc, .int .i64 d]] w fun e w' => e = .returned (.bool (machOkB fs f p c d st os)) ∧ Below w.heap.size w w' := by
  have HSA : Hid (Stable (fun w' => w'.cell? ⟨w.heap.size, 0, none⟩ = some (.int .i64 f) ∧ w'.cell? ⟨w.heap.size, 1, none⟩ = some (.int .i64 p) ∧ w'.cell? ⟨w.heap.size, 2, none⟩ = some (.int .i64 c) ∧ w'.cell? ⟨w.heap.size, 3, none⟩ = some (.slice sa st.length sc) ∧ w'.cell? ⟨w.heap.size, 4, none⟩ = some (.slice oa os.length oc) ∧ w'.cell? ⟨w.heap.size, 5, none⟩ = some (.int .i64 d) ∧ FunRow w' a fs ∧ Below w.heap.size w w')) := (Stable.cell _ _).and ((Stable.cell _ _).and ((Stable.cell _ _).and ((Stable.cell _ _).and ((Stable.cell _ _).and ((Stable.cell _ _).and ((Stable.frow _ _).and (Stable.below w)))))))
  have HS0 : Hid ((fun w' => w'.cell? ⟨w.heap.size, 0, none⟩ = some (.int .i64 f) ∧ w'.cell? ⟨w.heap.size, 1, none⟩ = some (.int .i64 p) ∧ w'.cell? ⟨w.heap.size, 2, none⟩ = some (.int .i64 c) ∧ w'.cell? ⟨w.heap.size, 3, none⟩ = some (.slice sa st.length sc) ∧ w'.cell? ⟨w.heap.size, 4, none⟩ = some (.slice oa os.length oc) ∧ w'.cell? ⟨w.heap.size, 5, none⟩ = some (.int .i64 d) ∧ FunRow w' a fs ∧ Below w.heap.size w w') (w.alloc (.cells #[.int .i64 f, .int .i64 p, .int .i64 c, .slice sa st.length sc, .slice oa os.length oc, .int .i64 d] 47))) := by
    have n := (box6 (new_block w (.cells #[.int .i64 f, .int .i64 p, .int .i64 c, .slice sa st.length sc, .slice oa os.length oc, .int .i64 d] 47))).1
    exact ⟨n.1, n.2.1, n.2.2.1, n.2.2.2.1, n.2.2.2.2.1, n.2.2.2.2.2, hR.below (below_alloc1 _ _), below_alloc1 _ _⟩
  have HX := hide (And.intro hs ho)
  clear hR hs ho
  have h2' := h2
  unfold maxLen at h2'
  have hsl : (st.length : Int) ≤ 9223372036854775807 := by omega
  go_enter Tryz.func50, Tryz.ntmps50
  go_wp2_with fail
  refine (implKeepOk_any a cap fs _ hcap hcm (unhide HS0).2.2.2.2.2.2.1).mono ?_
  cases hok : keepOkB fs
  · have HF : Hid (false = machOkB fs f p c d st os) := by show _ = _; rw [rest_split, hok]; rfl
    clear hok
    rintro e w1 ⟨rfl, hb1⟩
    have hB := bl_trans (unhide HS0).2.2.2.2.2.2.2 hb1
    clear HS0 hb1
    go_wp2_with fail
    go_ret
    exact ⟨ret_bool (unhide HF), hB⟩
  have HOK := hide hok
  clear hok
  rintro e w1 ⟨rfl, hb1⟩
  have HS1 := hide ((unhide HSA).1 _ _ hb1 (unhide HS0))
  clear HS0 hb1
  have hS := unhide HS1
  obtain ⟨q0, q1, q2, q3, q4, q5, _, hB⟩ := hS
  go_wp2_with fail
  refine (restOk_any c _ d oa oc os _ h3 h4 (by exact (unhide HX).2.below hB)).mono ?_
  cases hre : restB c (st.length : Int) os d
  · have HF : Hid (false = machOkB fs f p c d st os) := by show _ = _; rw [rest_split, hre]; simp
    clear hre
    rintro e w2 ⟨rfl, hb2⟩
    have hB2 := bl_trans hB hb2
    clear HS1 hb2 hB q0 q1 q2 q3 q4 q5
    go_wp2_with fail
    go_ret
    exact ⟨ret_bool (unhide HF), hB2⟩
  have HE : Hid (machOkB fs f p c d st os = (st.all (fun s => spotB fs s.f s.p) && spotB fs f p)) := by show _ = _; rw [rest_split, unhide HOK, hre]; simp
  clear hre
  rintro e w2 ⟨rfl, hb2⟩
  have HS2 := hide ((unhide HSA).1 _ _ hb2 (unhide HS1))
  clear HS1 hb2 hB q0 q1 q2 q3 q4 q5
  have hS := unhide HS2
  obtain ⟨q0, q1, q2, q3, q4, q5, _, hB⟩ := hS
  go_wp2_with fail
  clear q0 q1 q2 q3 q4 q5 hB
  go_loopw [26] (fun i w' => ∃ k : Nat, k ≤ st.length ∧ i = .int .i64 k ∧ Hid (∀ i (hi : i < st.length), i < k → spotB fs st[i].f st[i].p = true) ∧ Hid ((fun w' => w'.cell? ⟨w.heap.size, 0, none⟩ = some (.int .i64 f) ∧ w'.cell? ⟨w.heap.size, 1, none⟩ = some (.int .i64 p) ∧ w'.cell? ⟨w.heap.size, 2, none⟩ = some (.int .i64 c) ∧ w'.cell? ⟨w.heap.size, 3, none⟩ = some (.slice sa st.length sc) ∧ w'.cell? ⟨w.heap.size, 4, none⟩ = some (.slice oa os.length oc) ∧ w'.cell? ⟨w.heap.size, 5, none⟩ = some (.int .i64 d) ∧ FunRow w' a fs ∧ Below w.heap.size w w') w')) (fun i _ => st.length - (intOf i).toNat)
  case atStart => exact ⟨0, Nat.zero_le _, rfl, fun i h h0 => by omega, unhide HS2⟩
  case round =>
    obtain ⟨k, hk, rfl, HA, HS⟩ := hrel
    clear HS2
    have hS := unhide HS
    obtain ⟨q0, q1, q2, q3, q4, q5, hF, hB⟩ := hS
    have HFr := hide hF
    clear hF
    by_cases hkl : k < st.length
    · have HW : Hid ((fun w' => w'.cell? ⟨w.heap.size, 0, none⟩ = some (.int .i64 f) ∧ w'.cell? ⟨w.heap.size, 1, none⟩ = some (.int .i64 p) ∧ w'.cell? ⟨w.heap.size, 2, none⟩ = some (.int .i64 c) ∧ w'.cell? ⟨w.heap.size, 3, none⟩ = some (.slice sa st.length sc) ∧ w'.cell? ⟨w.heap.size, 4, none⟩ = some (.slice oa os.length oc) ∧ w'.cell? ⟨w.heap.size, 5, none⟩ = some (.int .i64 d) ∧ FunRow w' a fs ∧ Below w.heap.size w w') (wr.alloc (.cells #[.int .i64 st[k].f, .int .i64 st[k].p] 31))) := (unhide HSA).alloc (unhide HS) _
      obtain ⟨b, off, rfl⟩ := (unhide HX).1.get (by omega)
      obtain ⟨c0, c1⟩ := ((unhide HX).1.below hB).cells hkl
      have hkl' : (k : Int) < (st.length : Int) := by omega
      cases hsk : spotB fs st[k].f st[k].p
      · have HF : Hid (false = machOkB fs f p c d st os) := by show _ = _; rw [unhide HE, spots_not hkl hsk]; rfl
        generalize st[k] = x at *
        go_wp2_with fail
        refine (spotI_any a cap fs x.f x.p _ hcap hcm (unhide HW).2.2.2.2.2.2.1).mono ?_
        rw [hsk]
        rintro e wk ⟨rfl, hbk⟩
        have hB2 := bl_trans (unhide HW).2.2.2.2.2.2.2 hbk
        clear hB hbk HS HFr HW
        go_wp2_with fail
        go_ret
        exact ⟨ret_bool (unhide HF), hB2⟩
      · have HA2 : Hid (∀ i (hi : i < st.length), i < k + 1 → spotB fs st[i].f st[i].p = true) := fun i hi hlt => by
          by_cases e : i = k
          · subst e; exact hsk
          · exact unhide HA i hi (by omega)
        generalize st[k] = x at *
        go_wp2_with fail
        refine (spotI_any a cap fs x.f x.p _ hcap hcm (unhide HW).2.2.2.2.2.2.1).mono ?_
        rw [hsk]
        rintro e wk ⟨rfl, hbk⟩
        have HS3 := hide ((unhide HSA).1 _ _ hbk (unhide HW))
        clear hB hbk HS HFr HW q0 q1 q2 q3 q4 q5 c0 c1
        go_wp2_with fail
        exact ⟨⟨k + 1, by omega, by go_num, unhide HA2, unhide HS3⟩, by simp [intOf]; omega⟩
    · have hke : k = st.length := by omega
      have HF : Hid (spotB fs f p = machOkB fs f p c d st os) := by show _ = _; rw [unhide HE, spots_all (fun i hi _ => unhide HA i hi (by omega))]; rfl
      have hkl2 : ¬ (k : Int) < (st.length : Int) := by omega
      clear HA hke
      go_wp2_with fail
      refine (spotI_any a cap fs f p _ hcap hcm (unhide HFr)).mono ?_
      rw [unhide HF]
      rintro e wk ⟨rfl, hbk⟩
      have hB2 := bl_trans hB hbk
      clear hB hbk HS HFr q0 q1 q2 q3 q4 q5
      go_wp2_with fail
      go_ret
      exact ⟨rfl, hB2⟩
end Go.Proofs.YtjbhbkkkjdpamaaGreat.MOkI
