/- The contract of the program's CpuOk. -/
import Derived.Test.YtjbhbkkkjdpamaaCOkS
namespace Go.Proofs.Ytjbhbkkkjdpamaa.COkI
open Go.ChangeShapes Go.WideShapes Go.ChangeAt Go.RowKit Go.Joins Go.Deep
open Go.Proofs.Ytjbhbkkkjdpamaa.Base Go.Proofs.Ytjbhbkkkjdpamaa.InsA Go.Proofs.Ytjbhbkkkjdpamaa.Funs Go.Proofs.Ytjbhbkkkjdpamaa.Open Go.Proofs.Ytjbhbkkkjdpamaa.Keep Go.Proofs.Ytjbhbkkkjdpamaa.LayN Go.Proofs.Ytjbhbkkkjdpamaa.CellA Go.Proofs.Ytjbhbkkkjdpamaa.Sum Go.Proofs.Ytjbhbkkkjdpamaa.ImgD Go.Proofs.Ytjbhbkkkjdpamaa.ImgOk Go.Proofs.Ytjbhbkkkjdpamaa.RestOk Go.Proofs.Ytjbhbkkkjdpamaa.COkS
set_option linter.unusedVariables false
set_option maxRecDepth 100000

set_option maxHeartbeats 8000000 in
theorem implCpuOk_any (a : Option Addr) (cap : Nat) (l : List CellD) (p c d : Int) (sa oa : Option Addr) (sc oc : Nat) (st os : List Int) (w : World) (hcap : l.length ≤ cap) (hcm : cap ≤ maxLen) (hR : CellRow w a l) (h1 : st.length ≤ sc) (h2 : sc ≤ maxLen) (h3 : os.length ≤ oc) (h4 : oc ≤ maxLen) (hs : NumRow w sa st) (ho : NumRow w oa os) :
    Calls Try.prog 73 #[.slice a l.length cap, .agg #[.int .i64 p, .int .i64 c, .slice sa st.length sc, .slice oa os.length oc, .int .i64 d]] w fun e w' => e = .returned (.bool (cpuOkB l p c d st os)) ∧ Below w.heap.size w w' := by
  have HSA : Hid (Stable (fun w' => w'.cell? ⟨w.heap.size, 0, none⟩ = some (.int .i64 p) ∧ w'.cell? ⟨w.heap.size, 1, none⟩ = some (.int .i64 c) ∧ w'.cell? ⟨w.heap.size, 2, none⟩ = some (.slice sa st.length sc) ∧ w'.cell? ⟨w.heap.size, 3, none⟩ = some (.slice oa os.length oc) ∧ w'.cell? ⟨w.heap.size, 4, none⟩ = some (.int .i64 d) ∧ CellRow w' a l ∧ Below w.heap.size w w')) := (Stable.cell _ _).and ((Stable.cell _ _).and ((Stable.cell _ _).and ((Stable.cell _ _).and ((Stable.cell _ _).and ((Stable.crow _ _).and (Stable.below w))))))
  have HS0 : Hid ((fun w' => w'.cell? ⟨w.heap.size, 0, none⟩ = some (.int .i64 p) ∧ w'.cell? ⟨w.heap.size, 1, none⟩ = some (.int .i64 c) ∧ w'.cell? ⟨w.heap.size, 2, none⟩ = some (.slice sa st.length sc) ∧ w'.cell? ⟨w.heap.size, 3, none⟩ = some (.slice oa os.length oc) ∧ w'.cell? ⟨w.heap.size, 4, none⟩ = some (.int .i64 d) ∧ CellRow w' a l ∧ Below w.heap.size w w') (w.alloc (.cells #[.int .i64 p, .int .i64 c, .slice sa st.length sc, .slice oa os.length oc, .int .i64 d] 60))) := by
    have n := (box5 (new_block w (.cells #[.int .i64 p, .int .i64 c, .slice sa st.length sc, .slice oa os.length oc, .int .i64 d] 60))).1
    exact ⟨n.1, n.2.1, n.2.2.1, n.2.2.2.1, n.2.2.2.2, hR.below (below_alloc1 _ _), below_alloc1 _ _⟩
  have HX := hide (And.intro hs ho)
  clear hR hs ho
  have hcm' := hcm
  have h2' := h2
  unfold maxLen at h2' hcm'
  have hll : (l.length : Int) ≤ 9223372036854775807 := by omega
  have hsl : (st.length : Int) ≤ 9223372036854775807 := by omega
  go_enter Try.func73, Try.ntmps73
  go_wp2_with fail
  refine (implImageOk_any a cap l 100 _ hcap hcm (unhide HS0).2.2.2.2.2.1).mono ?_
  cases hok : imageB l 100
  · have HF : Hid (false = cpuOkB l p c d st os) := by show _ = _; unfold cpuOkB; rw [hok]; rfl
    clear hok
    rintro e w1 ⟨rfl, hb1⟩
    have hB := bl_trans (unhide HS0).2.2.2.2.2.2 hb1
    clear HS0 hb1
    go_wp2_with fail
    go_ret
    exact ⟨ret_bool (unhide HF), hB⟩
  have HOK := hide hok
  clear hok
  rintro e w1 ⟨rfl, hb1⟩
  have HS1 := hide ((unhide HSA).1 _ _ hb1 (unhide HS0))
  clear HS0 hb1
  have hS := unhide HS1
  obtain ⟨q0, q1, q2, q3, q4, _, hB⟩ := hS
  go_wp2_with fail
  refine (restOk_any c _ d oa oc os _ h3 h4 ((unhide HX).2.below hB)).mono ?_
  cases hre : restB c (st.length : Int) os d
  · have HF : Hid (false = cpuOkB l p c d st os) := by show _ = _; unfold cpuOkB; rw [hre]; simp
    clear hre
    rintro e w2 ⟨rfl, hb2⟩
    have hB2 := bl_trans hB hb2
    clear HS1 hb2 hB q0 q1 q2 q3 q4
    go_wp2_with fail
    go_ret
    exact ⟨ret_bool (unhide HF), hB2⟩
  have HE : Hid (cpuOkB l p c d st os = (plB l.length p && st.all (fun q => plB l.length q))) := by show _ = _; unfold cpuOkB; rw [unhide HOK, hre]; simp
  clear hre
  rintro e w2 ⟨rfl, hb2⟩
  have HS2 := hide ((unhide HSA).1 _ _ hb2 (unhide HS1))
  clear HS1 hb2 hB q0 q1 q2 q3 q4
  have hS := unhide HS2
  obtain ⟨q0, q1, q2, q3, q4, _, hB⟩ := hS
  go_wp2_with fail
  go_loopw [26] (fun i w' => ∃ k : Nat, k ≤ st.length ∧ i = .int .i64 k ∧ Hid (PlTo l.length st k) ∧ w' = w2) (fun i _ => st.length - (intOf i).toNat)
  case atStart => exact ⟨0, Nat.zero_le _, rfl, PlTo.zero _ _, rfl⟩
  case round =>
    obtain ⟨k, hk, rfl, HA, rfl⟩ := hrel
    by_cases hkl : k < st.length
    · obtain ⟨b, off, rfl⟩ := (unhide HX).1.get (by omega)
      have c0 := ((unhide HX).1.below hB).cells hkl
      have hkl' : (k : Int) < (st.length : Int) := by omega
      cases hsk : plB l.length st[k]
      · have HF : Hid (false = cpuOkB l p c d st os) := by
          show _ = _
          rw [unhide HE, pl_no hkl hsk]; simp
        have HP : Hid ((decide (0 ≤ st[k]) && decide (st[k] < (l.length : Int))) = false) := hsk
        clear hsk
        generalize st[k] = x at *
        go_wp2_with fail
        refine (isPlace_any a l.length cap x _ hll).mono ?_
        rw [unhide HP]
        rintro e w3 ⟨rfl, rfl⟩
        go_wp2_with fail
        go_ret
        exact ⟨ret_bool (unhide HF), hB⟩
      · have HA2 : Hid (PlTo l.length st (k + 1)) := (unhide HA).step hkl hsk
        have HP : Hid ((decide (0 ≤ st[k]) && decide (st[k] < (l.length : Int))) = true) := hsk
        clear hsk
        generalize st[k] = x at *
        go_wp2_with fail
        refine (isPlace_any a l.length cap x _ hll).mono ?_
        rw [unhide HP]
        rintro e w3 ⟨rfl, rfl⟩
        go_wp2_with fail
        exact ⟨⟨k + 1, by omega, by go_num, HA2, by first | rfl | trivial⟩, by simp [intOf]; omega⟩
    · have hke : k = st.length := by omega
      have HF : Hid ((decide (0 ≤ p) && decide (p < (l.length : Int))) = cpuOkB l p c d st os) := by
        show _ = _
        rw [unhide HE, (hke ▸ unhide HA : PlTo l.length st st.length).all]; simp [plB]
      have hkl2 : ¬ (k : Int) < (st.length : Int) := by omega
      clear HA hke
      go_wp2_with fail
      refine (isPlace_any a l.length cap p _ hll).mono ?_
      rw [unhide HF]
      rintro e w3 ⟨rfl, rfl⟩
      go_wp2_with fail
      go_ret
      exact ⟨rfl, hB⟩
end Go.Proofs.Ytjbhbkkkjdpamaa.COkI
