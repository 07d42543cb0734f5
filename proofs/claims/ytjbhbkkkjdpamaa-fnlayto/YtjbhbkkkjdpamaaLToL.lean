/- For every slice of bytes the law FnLayTo answers true, and the bytes read afterwards as they did. No condition. -/
import Derived.Test.YtjbhbkkkjdpamaaPk3b7a8e77
import Derived.WalkKit
import Derived.ProofKit
import Derived.OpenShut
import Derived.ShutString
import Derived.ChangeOld
import Derived.Below
import Derived.Lib.SmallJoins
import Derived.Deep.DeepCutAuto
import Derived.Test.YtjbhbkkkjdpamaaFuns
import Derived.Test.YtjbhbkkkjdpamaaPkd23f725c
import Derived.Test.YtjbhbkkkjdpamaaPkbd957d2b
import Derived.Test.YtjbhbkkkjdpamaaRefs
import Derived.Test.YtjbhbkkkjdpamaaLayN
import Derived.Test.YtjbhbkkkjdpamaaLayA
import Derived.Test.YtjbhbkkkjdpamaaPk3b5fe753
import Derived.Test.YtjbhbkkkjdpamaaPkfad6cd44
import Derived.Test.YtjbhbkkkjdpamaaPkd8602864
import Derived.Test.YtjbhbkkkjdpamaaLayT
import Derived.Test.YtjbhbkkkjdpamaaLayV
import Derived.Test.YtjbhbkkkjdpamaaPk3f5361e2
import Derived.Test.YtjbhbkkkjdpamaaLayQ
import Derived.Test.YtjbhbkkkjdpamaaMapK
import Derived.Test.YtjbhbkkkjdpamaaRd
import Derived.Test.YtjbhbkkkjdpamaaPkc600f0e5
import Derived.Test.YtjbhbkkkjdpamaaDrawM
import Derived.Test.YtjbhbkkkjdpamaaDrawT
import Derived.Test.YtjbhbkkkjdpamaaDrawV
namespace Go.Proofs.Ytjbhbkkkjdpamaa.fnLayTo
open Go.ChangeShapes Go.WideShapes Go.ChangeAt Go.RowKit Go.Joins
open Go.ChangeMaps (open_string shut_string)
open Go.Proofs.Ytjbhbkkkjdpamaa.Base
open Go.Proofs.Ytjbhbkkkjdpamaa.Funs
open Go.Proofs.Ytjbhbkkkjdpamaa.Open
open Go.Proofs.Ytjbhbkkkjdpamaa.Keep
open Go.Proofs.Ytjbhbkkkjdpamaa.UnitS
open Go.Proofs.Ytjbhbkkkjdpamaa.Refs
open Go.Proofs.Ytjbhbkkkjdpamaa.LayN
open Go.Proofs.Ytjbhbkkkjdpamaa.LayA
open Go.Proofs.Ytjbhbkkkjdpamaa.KeepA
open Go.Proofs.Ytjbhbkkkjdpamaa.KeepD
open Go.Proofs.Ytjbhbkkkjdpamaa.LayD
open Go.Proofs.Ytjbhbkkkjdpamaa.LayS
open Go.Proofs.Ytjbhbkkkjdpamaa.LayT
open Go.Proofs.Ytjbhbkkkjdpamaa.LayV
open Go.Proofs.Ytjbhbkkkjdpamaa.LayO
open Go.Proofs.Ytjbhbkkkjdpamaa.LayQ
open Go.Proofs.Ytjbhbkkkjdpamaa.MapK
open Go.Proofs.Ytjbhbkkkjdpamaa.Rd
open Go.Proofs.Ytjbhbkkkjdpamaa.DrawO
open Go.Proofs.Ytjbhbkkkjdpamaa.DrawM
open Go.Proofs.Ytjbhbkkkjdpamaa.DrawT
open Go.Proofs.Ytjbhbkkkjdpamaa.DrawV
set_option linter.unusedVariables false
set_option maxRecDepth 100000
theorem own : ownKnob Try.prog.godebug = none := by kernel_rfl
theorem laidOut : laidOutB Try.prog = true := by kernel_rfl

theorem wf_small {x : Int} (h0 : -1000000000 ≤ x) (h1 : x ≤ 1000000000) : (Lit.int .i64 x).wf = true := by
  unfold Lit.wf
  rw [Bool.and_eq_true, decide_eq_true_iff, decide_eq_true_iff]
  exact ⟨by show -9223372036854775808 ≤ x; omega, by show x ≤ 9223372036854775807; omega⟩
theorem ml {n : Nat} (h : n ≤ 1048576) : n ≤ maxLen := by unfold maxLen; omega
/-- What the nearest stone is, so far. -/
def NearOk (reach p : Int) (s : ByteArray) (l : List (ByteArray × Nat)) (b : Int) : Prop :=
  (b = -1 ∧ ∀ x ∈ l, x.1.toList = s.toList → ¬ farI x.2 p ≤ reach) ∨ (0 ≤ b ∧ farI b p ≤ reach ∧ ∀ x ∈ l, x.1.toList = s.toList → farI b p ≤ farI x.2 p)
theorem near_step {reach p : Int} {s : ByteArray} {l : List (ByteArray × Nat)} {b : Int} (h : NearOk reach p s l b) (x : ByteArray × Nat) : NearOk reach p s (l ++ [x]) (nearS reach p s b x) := by
  have mem : ∀ y ∈ l ++ [x], y ∈ l ∨ y = x := fun y hy => by
    rcases List.mem_append.1 hy with hy | hy
    · exact .inl hy
    · exact .inr (List.mem_singleton.1 hy)
  unfold nearS
  split
  · rename_i hc
    obtain ⟨c1, c2, c3⟩ := hc
    refine .inr ⟨by omega, c2, fun y hy hys => ?_⟩
    rcases mem y hy with hy | rfl
    · rcases h with ⟨rfl, h⟩ | ⟨h0, h1, h2⟩
      · have := h y hy hys; omega
      · have := h2 y hy hys
        rcases c3 with c3 | c3 <;> omega
    · exact Int.le_refl _
  · rename_i hc
    rcases h with ⟨rfl, h⟩ | ⟨h0, h1, h2⟩
    · refine .inl ⟨rfl, fun y hy hys hle => ?_⟩
      rcases mem y hy with hy | rfl
      · exact h y hy hys hle
      · exact hc ⟨hys, hle, .inl (by omega)⟩
    · refine .inr ⟨h0, h1, fun y hy hys => ?_⟩
      rcases mem y hy with hy | rfl
      · exact h2 y hy hys
      · rcases Int.lt_or_le (farI y.2 p) (farI b p) with e | e
        · exact absurd ⟨hys, by omega, .inr e⟩ hc
        · exact e
theorem near_all {reach p : Int} {s : ByteArray} : ∀ (l l0 : List (ByteArray × Nat)) (b : Int), NearOk reach p s l0 b → NearOk reach p s (l0 ++ l) (l.foldl (nearS reach p s) b)
  | [], l0, b, h => by simpa using h
  | x :: r, l0, b, h => by
    have := near_all r (l0 ++ [x]) _ (near_step h x)
    simpa using this
theorem near_ok (reach p : Int) (s : ByteArray) (l : List (ByteArray × Nat)) : NearOk reach p s l (nearI reach p s l) := by
  have := near_all (reach := reach) (p := p) (s := s) l [] (-1) (.inl ⟨rfl, fun x hx => by cases hx⟩)
  simpa [nearI] using this
theorem stones_mem {fs : List FunD} {st : List (List ByteArray)} {k j : Nat} (hj : j < (stAt st k).length) : ∀ n, k < n → ((stAt st k)[j], place fs st k + lenAt fs k + j) ∈ stonesTo fs st n
  | 0, h => by omega
  | n + 1, h => by
    rw [stonesTo]
    rcases Nat.lt_or_ge k n with e | e
    · exact List.mem_append_left _ (stones_mem hj n e)
    · have : k = n := by omega
      subst this
      refine List.mem_append_right _ (List.mem_map.2 ⟨j, List.mem_range.2 hj, ?_⟩)
      simp [List.getD, List.getElem?_eq_getElem hj]
/-- What LayTo says, where it says a place. -/
theorem to_ways {fs : List FunD} {ns : List Int} {st : List (List ByteArray)} {r p : Int} {s : ByteArray} : layToI fs ns st r p s = -1 ∨ ∃ t : Nat, formB fs ns st = true ∧ 0 ≤ p ∧ p ≤ (place fs st fs.length : Int) ∧ t < fs.length ∧ findI fs s = (t : Int) ∧ 0 ≤ layToI fs ns st r p s ∧ farI (layToI fs ns st r p s) p ≤ r ∧ ((farI (place fs st t) p ≤ r ∧ layToI fs ns st r p s = (place fs st t : Int)) ∨ (¬ farI (place fs st t) p ≤ r ∧ ∀ x ∈ stonesTo fs st fs.length, x.1.toList = s.toList → farI (layToI fs ns st r p s) p ≤ farI x.2 p)) := by
  by_cases hf : formB fs ns st = true ∧ 1 ≤ r ∧ r ≤ 100 ∧ 0 ≤ p ∧ p < (place fs st fs.length : Int)
  rotate_left
  · refine .inl (layTo_no ?_)
    cases h : formB fs ns st
    · exact .inl rfl
    · refine .inr ?_
      by_cases h1 : r < 1
      · exact .inl h1
      by_cases h2 : 100 < r
      · exact .inr (.inl h2)
      by_cases h3 : p < 0
      · exact .inr (.inr (.inl h3))
      by_cases h4 : (place fs st fs.length : Int) ≤ p
      · exact .inr (.inr (.inr h4))
      · exact absurd ⟨h, by omega, by omega, by omega, by omega⟩ hf
  obtain ⟨hf, h1, h2, h3, h4⟩ := hf
  rw [layTo_yes hf h1 h2 h3 h4]
  unfold toI
  by_cases hq : findI fs s < 0
  · rw [if_pos hq]; exact .inl rfl
  rw [if_neg hq]
  obtain ⟨t, ht⟩ : ∃ t : Nat, findI fs s = (t : Int) := ⟨(findI fs s).toNat, by omega⟩
  have htl : t < fs.length := by
    unfold findI at ht
    by_cases h : fs.findIdx (isNm s) < fs.length
    · rw [if_pos h] at ht; omega
    · rw [if_neg h] at ht; omega
  rw [ht]
  simp only [Int.toNat_natCast]
  by_cases hd : farI (place fs st t) p ≤ r
  · rw [if_pos hd]
    exact .inr ⟨t, hf, h3, by omega, htl, rfl, by omega, hd, .inl ⟨hd, rfl⟩⟩
  · rw [if_neg hd]
    rcases near_ok r p s (stonesTo fs st fs.length) with ⟨e, _⟩ | ⟨e0, e1, e2⟩
    · exact .inl e
    · exact .inr ⟨t, hf, h3, by omega, htl, rfl, e0, e1, .inr ⟨hd, e2⟩⟩
/-- That name is one function's. -/
theorem find_is {fs : List FunD} {s : ByteArray} {t : Nat} (hap : apartF fs = true) (ht : findI fs s = (t : Int)) (htl : t < fs.length) {k : Nat} (hk : k < fs.length) : (fs[k].nm.toList == s.toList) = decide (k = t) := by
  have hn : fs[t].nm.toList = s.toList := by
    unfold findI at ht
    by_cases h : fs.findIdx (isNm s) < fs.length
    · rw [if_pos h] at ht
      have e : fs.findIdx (isNm s) = t := by omega
      have := List.findIdx_getElem (w := h)
      simp only [e] at this
      unfold isNm at this
      simpa using this
    · rw [if_neg h] at ht; omega
  by_cases e : k = t
  · subst e
    simp [hn]
  · rw [decide_eq_false e]
    have := (apartF_iff fs).1 hap
    rw [beq_eq_false_iff_ne]
    intro h2
    rcases Nat.lt_or_ge k t with e1 | e1
    · exact this k t hk htl e1 (h2.trans hn.symm)
    · exact this t k htl hk (by omega) (hn.trans h2.symm)
theorem far_iff {a b r : Int} : farI a b ≤ r ↔ a - b ≤ r ∧ -(a - b) ≤ r := by
  unfold farI
  split <;> omega
theorem far_low {a b : Int} (h : a - b < 0) : -(a - b) = farI a b := by
  unfold farI
  split <;> omega
theorem far_high {a b : Int} (h : ¬ a - b < 0) : a - b = farI a b := by
  unfold farI
  split <;> omega
set_option maxHeartbeats 8000000 in
theorem walk (a0 : Option Addr) (len cap0 : Nat) (bs : List Int) (W : World) (hrow : IsRow .u8 W a0 len cap0 bs) :
    Calls Try.prog 8 #[.slice a0 len cap0] W fun e w' => e = .returned (.bool true) ∧ Below W.heap.size W w' := by
  obtain ⟨hl, hm, hb⟩ := isRow_bytes hrow
  by_cases hlt : (1048576 : Int) < len
  · go_enter Try.func8, Try.ntmps8
    go_wp2
    go_ret
    exact ⟨rfl, Below.refl _ _⟩
  have Hb := hide hb
  clear hb hrow
  go_enter Try.func8, Try.ntmps8
  go_wp2_with fail
  refine (drawLayTo_any _ _ _ _ hl hm (unhide Hb)).mono ?_
  rintro e w1 ⟨a, cap, fs, na, sa, nc, sc, zs, st, rr, pp, s, rfl, q1, q2, q3, q4, hss, hM⟩
  have hbA := below_alloc1 w1 (.cells #[.slice na zs.length nc, .slice sa st.length sc] 34)
  have HST : Hid (Stable (fun w' => w'.heap[w1.heap.size]? = some (.cells #[.slice na zs.length nc, .slice sa st.length sc] 34) ∧ FunRow w' a fs ∧ NumRow w' na zs ∧ TextsRow w' sa st ∧ Below W.heap.size W w')) := ((Stable.box _ _).and ((Stable.frow _ fs).and ((Stable.nrow _ zs).and ((Stable.tsrow _ st).and (Stable.below W)))))
  have HS : Hid ((fun w' => w'.heap[w1.heap.size]? = some (.cells #[.slice na zs.length nc, .slice sa st.length sc] 34) ∧ FunRow w' a fs ∧ NumRow w' na zs ∧ TextsRow w' sa st ∧ Below W.heap.size W w') (w1.alloc (.cells #[.slice na zs.length nc, .slice sa st.length sc] 34))) := ⟨new_block w1 (.cells #[.slice na zs.length nc, .slice sa st.length sc] 34), hM.fr.below hbA, hM.nr.below hbA, hM.tr.below hbA, bl_trans hM.bw hbA⟩
  have HFT := hide hM.tm.few
  have c1 := hM.h1
  have c2 := hM.h2
  have d1 := hM.n1
  have d2 := hM.n2
  have d3 := hM.s1
  have d4 := hM.s2
  have h42 := hM.h3
  clear hM hbA
  have HIL := hide (fun (ff nn : Int) w' hf hn h1 h2 h3 => implLayStone_any a cap fs na sa nc sc zs st ff nn w' hf hn c1 c2 d1 d2 d3 d4 (unhide HFT) h1 h2 h3)
  have HIT := hide (fun w' h1 h2 h3 => implLayTo_any a cap fs na sa nc sc zs st rr pp s w' (wf_small (by omega) (by omega)) (wf_small (by omega) (by omega)) hss c1 c2 d1 d2 d3 d4 (unhide HFT) h1 h2 h3)
  have HSP := hide (fun w' h1 h2 h3 => specLayTo_any a cap fs na sa nc sc zs st rr pp s w' (wf_small (by omega) (by omega)) (wf_small (by omega) (by omega)) hss c1 c2 d1 d2 d3 d4 (unhide HFT) h1 h2 h3)
  have hTW := to_ways (fs := fs) (ns := zs) (st := st) (r := rr) (p := pp) (s := s)
  generalize layToI fs zs st rr pp s = tt at *
  have HTW := hide hTW
  clear hTW
  have hX := box2 (unhide HS).1
  go_wp2_with fail
  refine (unhide HIT _ (unhide HS).2.1 (unhide HS).2.2.1 (unhide HS).2.2.2.1).mono ?_
  rintro e w2 ⟨rfl, hb2⟩
  replace HS := hide ((unhide HST).1 _ _ hb2 (unhide HS))
  clear hX hb2 HIT
  have hX := box2 (unhide HS).1
  go_wp2_with fail
  refine (unhide HSP _ (unhide HS).2.1 (unhide HS).2.2.1 (unhide HS).2.2.2.1).mono ?_
  rintro e w3 ⟨rfl, hb3⟩
  replace HS := hide ((unhide HST).1 _ _ hb3 (unhide HS))
  clear hX hb3 HSP
  rcases unhide HTW with rfl | ⟨t, hf, hp0, hp1, htl, hft, ht0, hfar, hways⟩
  · have hB := (unhide HS).2.2.2.2
    go_wp2_with fail
    go_ret
    exact ⟨rfl, hB⟩
  have HL := hide (lying_of hf (unhide HFT))
  have HFO := hide hf
  have HNF := hide (unhide HL).len
  have HSF := hide (unhide HL).2.2.1
  have hsm := (unhide HL).small fs.length (Nat.le_refl _)
  have hfr := far_iff.1 hfar
  have htb : tt ≤ 100000000 := by omega
  have hpb : pp ≤ 50000000 := by omega
  have HAP := hide (form_names hf).2
  have HFI := hide hft
  have HWY := hide hways
  have HFR := hide hfar
  have hlf : (fs.length : Int) ≤ 9223372036854775807 := by omega
  have hln : (zs.length : Int) ≤ 9223372036854775807 := by unfold maxLen at d2; omega
  have hls : (st.length : Int) ≤ 9223372036854775807 := by unfold maxLen at d4; omega
  obtain ⟨nb, no, rfl⟩ := (unhide HS).2.2.1.get (by have := unhide HNF; omega)
  obtain ⟨sb, so, rfl⟩ := (unhide HS).2.2.2.1.get (by have := unhide HSF; omega)
  obtain ⟨fb, fo, rfl⟩ := (unhide HS).2.1.get (by omega)
  clear hf hft hfar hways HTW hsm hfr hp1
  obtain ⟨dd, hdd⟩ : ∃ dd, farI tt pp = dd := ⟨_, rfl⟩
  rw [hdd] at HFR HWY
  have HDD := hide hdd
  have hdr := unhide HFR
  clear hdd
  have HST6 : Hid (Stable (fun w' => w'.heap[w1.heap.size]? = some (.cells #[.slice (some ⟨nb, no, none⟩) zs.length nc, .slice (some ⟨sb, so, none⟩) st.length sc] 34) ∧ FunRow w' (some ⟨fb, fo, none⟩) fs ∧ NumRow w' (some ⟨nb, no, none⟩) zs ∧ TextsRow w' (some ⟨sb, so, none⟩) st ∧ Below W.heap.size W w')) := ((Stable.box _ _).and ((Stable.frow _ fs).and ((Stable.nrow _ zs).and ((Stable.tsrow _ st).and (Stable.below W)))))
  have hX := box2 (unhide HS).1
  go_upto_if 49 with fail
  go_cut [9] (fun v wx => v = .int .i64 dd ∧ (fun w' => w'.heap[w1.heap.size]? = some (.cells #[.slice (some ⟨nb, no, none⟩) zs.length nc, .slice (some ⟨sb, so, none⟩) st.length sc] 34) ∧ FunRow w' (some ⟨fb, fo, none⟩) fs ∧ NumRow w' (some ⟨nb, no, none⟩) zs ∧ TextsRow w' (some ⟨sb, so, none⟩) st ∧ Below W.heap.size W w') wx)
  case first =>
    by_cases hn : tt - pp < 0
    · have he := far_low hn
      rw [unhide HDD] at he
      go_wp2_with fail
      go_meet
      exact ⟨by first | rfl | rw [he] | (rw [← he]), unhide HS⟩
    · have he := far_high hn
      rw [unhide HDD] at he
      go_wp2_with fail
      go_meet
      exact ⟨by first | rfl | rw [he] | (rw [← he]), unhide HS⟩
  case rest =>
    obtain ⟨rfl, hS4⟩ := hcut
    replace HS := hide hS4
    clear hS4 hX
    obtain ⟨D, hD⟩ : ∃ D : Bool, decide (farI (place fs st t : Int) pp ≤ rr) = D := ⟨_, rfl⟩
    have HD := hide hD
    clear hD
    go_wp2_with fail
    go_loopw [10, 11] (fun b i w' => ∃ (k : Nat) (x : Bool), k ≤ fs.length ∧ i = .int .i64 k ∧ b = .bool x ∧ Hid (x = (decide (t < k) && D)) ∧ Hid ((fun w' => w'.heap[w1.heap.size]? = some (.cells #[.slice (some ⟨nb, no, none⟩) zs.length nc, .slice (some ⟨sb, so, none⟩) st.length sc] 34) ∧ FunRow w' (some ⟨fb, fo, none⟩) fs ∧ NumRow w' (some ⟨nb, no, none⟩) zs ∧ TextsRow w' (some ⟨sb, so, none⟩) st ∧ Below W.heap.size W w') w')) (fun _ i _ => fs.length - (intOf i).toNat)
    case atStart => exact ⟨0, false, Nat.zero_le _, rfl, rfl, by show _ = _; simp, HS⟩
    case round =>
      obtain ⟨k, x, hk, rfl, rfl, HX1, HS7⟩ := hrel
      clear HS
      have hX := box2 (unhide HS7).1
      by_cases hkl : k < fs.length
      · have hkl' : (k : Int) < (fs.length : Int) := by omega
        have hkn : k < zs.length := by have := unhide HNF; omega
        have hkn' : (k : Int) < (zs.length : Int) := by omega
        have hk0 : (0 : Int) ≤ (k : Int) := by omega
        have n0 := (unhide HS7).2.2.1.cells hkn
        rw [(unhide HL).at hkn] at n0
        obtain ⟨fi, fc, f0, f1, f2, _, f4, f5, _⟩ := (unhide HS7).2.1.at hkl
        have hpk := (unhide HL).small k (by omega)
        have heq := find_is (unhide HAP) (unhide HFI) htl hkl
        by_cases hkt : k = t
        · subst hkt
          rw [decide_eq_true rfl] at heq
          have HXN : Hid (D = (decide (k < k + 1) && D)) := by show _ = _; simp
          have hW := unhide HWY
          have HDV : Hid (D = decide ((place fs st k : Int) - pp ≤ rr ∧ -((place fs st k : Int) - pp) ≤ rr)) := by
            show _ = _
            rw [← unhide HD]
            simp only [far_iff]
          have HTP : Hid (D = true → tt = (place fs st k : Int)) := fun h => by
            rcases hW with ⟨_, h2⟩ | ⟨h1, _⟩
            · exact h2
            · have := unhide HD
              rw [h] at this
              have h9 := of_decide_eq_true this
              omega
          clear hW
          generalize fs[k].nm = nm at *
          generalize place fs st k = pk at *
          by_cases e1 : (pk : Int) - pp ≤ rr
          · by_cases e2 : -((pk : Int) - pp) ≤ rr
            · obtain rfl : D = true := by rw [unhide HDV]; exact decide_eq_true ⟨e1, e2⟩
              obtain rfl := unhide HTP rfl
              go_wp2_with fail
              exact ⟨⟨k + 1, true, by omega, by go_num, rfl, HXN, HS7⟩, by simp [intOf]; omega⟩
            · obtain rfl : D = false := by rw [unhide HDV]; exact decide_eq_false (fun h => e2 h.2)
              go_wp2_with fail
              exact ⟨⟨k + 1, false, by omega, by go_num, rfl, HXN, HS7⟩, by simp [intOf]; omega⟩
          · obtain rfl : D = false := by rw [unhide HDV]; exact decide_eq_false (fun h => e1 h.1)
            go_wp2_with fail
            exact ⟨⟨k + 1, false, by omega, by go_num, rfl, HXN, HS7⟩, by simp [intOf]; omega⟩
        · rw [decide_eq_false hkt] at heq
          have HXN : Hid (x = (decide (t < k + 1) && D)) := by
            show _ = _
            rw [unhide HX1]
            congr 1
            exact decide_eq_decide.2 ⟨fun h => by omega, fun h => by omega⟩
          generalize fs[k].nm = nm at *
          clear hkt
          go_wp2_with fail
          exact ⟨⟨k + 1, x, by omega, by go_num, rfl, HXN, HS7⟩, by simp [intOf]; omega⟩
      · have hkl' : ¬ (k : Int) < (fs.length : Int) := by omega
        have hxD : x = D := by rw [unhide HX1, decide_eq_true (show t < k by omega)]; rfl
        subst hxD
        clear HX1
        cases x
        · have HMIN : Hid (∀ y ∈ stonesTo fs st fs.length, y.1.toList = s.toList → dd ≤ farI y.2 pp) := by
            rcases unhide HWY with ⟨h1, _⟩ | ⟨_, h2⟩
            · have := unhide HD
              have h9 := of_decide_eq_false this
              omega
            · exact h2
          go_wp2_with fail
          clear hX
          go_loopw [13] (fun i w' => ∃ (k : Nat), k ≤ fs.length ∧ i = .int .i64 k ∧ Hid ((fun w' => w'.heap[w1.heap.size]? = some (.cells #[.slice (some ⟨nb, no, none⟩) zs.length nc, .slice (some ⟨sb, so, none⟩) st.length sc] 34) ∧ FunRow w' (some ⟨fb, fo, none⟩) fs ∧ NumRow w' (some ⟨nb, no, none⟩) zs ∧ TextsRow w' (some ⟨sb, so, none⟩) st ∧ Below W.heap.size W w') w')) (fun i _ => fs.length - (intOf i).toNat)
          case atStart => exact ⟨0, Nat.zero_le _, rfl, HS7⟩
          case round =>
            obtain ⟨k2, hk2, rfl, HS8⟩ := hrel
            clear HS7
            have hX := box2 (unhide HS8).1
            by_cases hkl2 : k2 < fs.length
            · have hkl2' : (k2 : Int) < (fs.length : Int) := by omega
              have hks : k2 < st.length := by have := unhide HSF; omega
              have hks' : (k2 : Int) < (st.length : Int) := by omega
              have hk20 : (0 : Int) ≤ (k2 : Int) := by omega
              have hfl : fs[k2].body.length ≤ 10 := (unhide HL).2.1 _ (List.getElem_mem _)
              have hsl := (unhide HL).2.2.2.2.2 st[k2] (List.getElem_mem _)
              have hpk := (unhide HL).small k2 (by omega)
              have HST2 : Hid (∀ j w', j < st[k2].length → FunRow w' (some ⟨fb, fo, none⟩) fs → NumRow w' (some ⟨nb, no, none⟩) zs → TextsRow w' (some ⟨sb, so, none⟩) st → Calls Try.prog 41 #[.slice (some ⟨fb, fo, none⟩) fs.length cap, .agg #[.slice (some ⟨nb, no, none⟩) zs.length nc, .slice (some ⟨sb, so, none⟩) st.length sc], .int .i64 (k2 : Int), .int .i64 (j : Int)] w' fun e w'' => e = .returned (.int .i64 ((place fs st k2 + fs[k2].body.length + j : Nat) : Int)) ∧ Below w'.heap.size w' w'') := fun j w' hj h1 h2 h3 => by
                have h := unhide HIL (k2 : Int) (j : Int) w' (wf_small (by omega) (by omega)) (wf_small (by omega) (by omega)) h1 h2 h3
                rw [stone_yes (unhide HFO) hkl2 (by rw [stAt_is hks]; exact hj), lenAt_is hkl2] at h
                exact h
              have HMN : Hid (∀ j (hj : j < st[k2].length), st[k2][j].toList = s.toList → dd ≤ farI ((place fs st k2 + fs[k2].body.length + j : Nat) : Int) pp) := fun j hj h => by
                have hm := stones_mem (fs := fs) (st := st) (k := k2) (j := j) (by rw [stAt_is hks]; exact hj) fs.length hkl2
                have := unhide HMIN _ hm (by simp only [stAt_is hks]; exact h)
                rw [lenAt_is hkl2] at this
                exact this
              have HTA : Hid (∀ w', TextsRow w' (some ⟨sb, so, none⟩) st → ∃ ai ci, w'.cell? ⟨sb, so + k2, none⟩ = some (.slice ai st[k2].length ci) ∧ TextRow w' ai st[k2]) := fun w' h => by
                obtain ⟨ai, ci, t0, _, _, t3⟩ := h.at hks
                exact ⟨ai, ci, t0, t3⟩
              have hpkb : place fs st k2 + fs[k2].body.length ≤ 50000000 := by omega
              generalize st[k2] = ss at *
              generalize place fs st k2 + fs[k2].body.length = pk at *
              go_wp2_with fail
              clear hX
              go_loopw [14] (fun i w' => ∃ (j : Nat), j ≤ ss.length ∧ i = .int .i64 j ∧ Hid ((fun w' => w'.heap[w1.heap.size]? = some (.cells #[.slice (some ⟨nb, no, none⟩) zs.length nc, .slice (some ⟨sb, so, none⟩) st.length sc] 34) ∧ FunRow w' (some ⟨fb, fo, none⟩) fs ∧ NumRow w' (some ⟨nb, no, none⟩) zs ∧ TextsRow w' (some ⟨sb, so, none⟩) st ∧ Below W.heap.size W w') w')) (fun i _ => ss.length - (intOf i).toNat)
              case atStart => exact ⟨0, Nat.zero_le _, rfl, HS8⟩
              case round =>
                obtain ⟨j, hj, rfl, HS9⟩ := hrel
                clear HS8
                have hX := box2 (unhide HS9).1
                obtain ⟨ai, ci, t0, t3⟩ := unhide HTA _ (unhide HS9).2.2.2.1
                have hsl2 : (ss.length : Int) ≤ 9223372036854775807 := by omega
                by_cases hjl : j < ss.length
                · have hjl' : (j : Int) < (ss.length : Int) := by omega
                  have hj0 : (0 : Int) ≤ (j : Int) := by omega
                  have hMN := unhide HMN j hjl
                  obtain ⟨qq, hqq⟩ : ∃ qq : Nat, pk + j = qq := ⟨_, rfl⟩
                  have hqb : qq ≤ 100000000 := by omega
                  have hcall := unhide HST2 j
                  rw [hqq] at hMN hcall
                  have HMNJ := hide hMN
                  clear hMN hqq t3
                  go_wp2_with fail
                  refine (hcall _ hjl (unhide HS9).2.1 (unhide HS9).2.2.1 (unhide HS9).2.2.2.1).mono ?_
                  rintro e w9 ⟨rfl, hb9⟩
                  have HS10 := hide ((unhide HST6).1 _ _ hb9 (unhide HS9))
                  clear hX t0 hb9 HS9 hcall
                  have hX := box2 (unhide HS10).1
                  obtain ⟨ai, ci, t0, t3⟩ := unhide HTA _ (unhide HS10).2.2.2.1
                  obtain ⟨tb, to', rfl⟩ := t3.get (by omega)
                  have u0 := (t3.cells hjl).1
                  clear t3
                  generalize ss[j] = nm at *
                  by_cases hn : (qq : Int) - pp < 0
                  · have he := far_low hn
                    cases hq : (nm.toList == s.toList)
                    · clear he
                      go_wp2_with fail
                      exact ⟨⟨j + 1, by omega, by go_num, HS10⟩, by simp [intOf]; omega⟩
                    · have hge := unhide HMNJ (by simpa using hq)
                      have hge2 : ¬ -((qq : Int) - pp) < dd := by omega
                      clear he hge
                      go_wp2_with fail
                      exact ⟨⟨j + 1, by omega, by go_num, HS10⟩, by simp [intOf]; omega⟩
                  · have he := far_high hn
                    cases hq : (nm.toList == s.toList)
                    · clear he
                      go_wp2_with fail
                      exact ⟨⟨j + 1, by omega, by go_num, HS10⟩, by simp [intOf]; omega⟩
                    · have hge := unhide HMNJ (by simpa using hq)
                      have hge2 : ¬ (qq : Int) - pp < dd := by omega
                      clear he hge
                      go_wp2_with fail
                      exact ⟨⟨j + 1, by omega, by go_num, HS10⟩, by simp [intOf]; omega⟩
                · have hjl' : ¬ (j : Int) < (ss.length : Int) := by omega
                  clear t3
                  go_wp2_with fail
                  exact ⟨⟨k2 + 1, by omega, by go_num, HS9⟩, by simp [intOf]; omega⟩
            · have hkl2' : ¬ (k2 : Int) < (fs.length : Int) := by omega
              have hB9 := (unhide HS8).2.2.2.2
              go_wp2_with fail
              go_ret
              exact ⟨rfl, hB9⟩
        · go_wp2_with fail
          clear hX
          go_loopw [13] (fun i w' => i = .int .i64 0 ∧ Hid ((fun w' => w'.heap[w1.heap.size]? = some (.cells #[.slice (some ⟨nb, no, none⟩) zs.length nc, .slice (some ⟨sb, so, none⟩) st.length sc] 34) ∧ FunRow w' (some ⟨fb, fo, none⟩) fs ∧ NumRow w' (some ⟨nb, no, none⟩) zs ∧ TextsRow w' (some ⟨sb, so, none⟩) st ∧ Below W.heap.size W w') w')) (fun i _ => 0)
          case atStart => exact ⟨rfl, HS7⟩
          case round =>
            obtain ⟨rfl, HS8⟩ := hrel
            have hB9 := (unhide HS8).2.2.2.2
            have h00 : (0 : Int) < (fs.length : Int) := by omega
            go_wp2_with fail
            go_ret
            exact ⟨rfl, hB9⟩

set_option maxRecDepth 100000 in
theorem lifted (os : Os) (started : os.Started) (H : Type) (enc : TypeId × Value → H) :
    ReturnsInHanded {} Try.checked os 8 .any (Rows.fnLayToSpec.pre6 enc Try.prog Try.f8 Rows.fnLayToRow.domain false) (Rows.fnLayToSpec.post enc Try.prog Try.f8 false true false false) := by
  refine returnsInHanded_of_change (C := Try.checked) own started (by kernel_rfl) Try.func8
    (ChangeSpec.witness6 (enc := enc) (C := Try.checked) false ⟨#[], #[.slice none 0 0], []⟩ 8 (by kernel_rfl) (by kernel_rfl) (by kernel_rfl) (by kernel_rfl)) ?_
  intro W base args ds gs before hval0 hW hcnd _
  have hval : ∀ (j : Nat) t v, Try.f8.params[j]? = some t → args[j]? = some v → Value.okWide Try.prog W .any base t v := hval0
  have hW' := hW
  obtain ⟨p, q, hA0, hV, rfl, hfz, hnd⟩ := hW
  have hA : DataW.TrodAll enc Try.prog W 0 (fun _ => true) true Try.f8.params.toList args.toList ds p := hA0
  rw [Try.params8] at hA hval
  obtain ⟨v0, vs0, d0, ds0, p0, q0, hargs, rfl, rfl, h0, r0⟩ := trodAll_cons hA
  obtain ⟨rfl, rfl, rfl⟩ := trodAll_nil r0
  obtain rfl : args = #[v0] := by cases args; simp_all
  obtain ⟨rfl, rfl⟩ := trodVars_none hV
  have k0 := h0
  have lt0 : ∀ x ∈ p0, x.block < W.heap.size := by obtain ⟨m, hm⟩ := k0; exact DataW.trod_lt m _ _ _ hm
  obtain ⟨a0, len0, cap0, hv0⟩ := okWide_slice Try.underlying45 (hval 0 45 v0 rfl rfl)
  obtain ⟨z0, w0⟩ : ∃ zs, IsRow .u8 W a0 len0 cap0 zs := by
    subst hv0
    obtain ⟨fuel, hf⟩ := h0
    rcases open_ints Try.underlying45 Try.underlying5 (by kernel_rfl) hf with ⟨hcs, _⟩ | ⟨x, l, c, zs, hcs, _, hl, hm, hz, _, hcell, hwz⟩
    · simp [Value.cells] at hcs
      obtain ⟨rfl, rfl, rfl⟩ := hcs
      exact ⟨[], .inl ⟨rfl, rfl, rfl, rfl⟩⟩
    · simp [Value.cells] at hcs
      obtain ⟨rfl, rfl, rfl⟩ := hcs
      exact ⟨zs, .inr ⟨_, rfl, hl, hm, by simpa using hz, hcell, hwz⟩⟩
  clear hA0 hval0
  subst hv0
  refine (walk a0 len0 cap0 z0 W w0).mono fun e W' ⟨he, bel⟩ => ?_
  subst he
  exact ⟨_, rfl, _, _, _, [], _, [], hW', trodAll_mk1 (shut_bool Try.underlying4 _), (trodAll_cons_mk (Below.trod laidOut (by kernel_rfl) (of_decide_eq_true (by kernel_rfl)) k0 bel lt0) trodAll_mk0), rfl, bel.frame _, fun h => by cases h⟩

theorem proved : Rows.FnLayToSaid :=
  OpenClaim.holds_of_wide 8 Try.f8 rfl rfl rfl rfl rfl rfl rfl ⟨rfl, rfl, rfl, rfl, rfl⟩ rfl rfl rfl rfl rfl (by kernel_rfl) Try.func8 (by kernel_rfl)
    (of_decide_eq_true (by kernel_rfl)) (by unfold Func.isWrapper; first | (rw [if_pos (by decide +kernel)]; kernel_rfl) | (rw [if_neg (by decide +kernel)]; exact ⟨rfl, rfl⟩))
    (fun os started H enc _ => lifted os started H enc)
#print axioms proved
end Go.Proofs.Ytjbhbkkkjdpamaa.fnLayTo
