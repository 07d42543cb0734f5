/- For every slice of bytes the law FnMapSpot answers true, and the bytes read afterwards as they did. No condition. -/
import Derived.Test.YtjbhbkkkjdpamaaPk3b7a8e77
import Derived.WalkKit
import Derived.ProofKit
import Derived.OpenShut
import Derived.ShutString
import Derived.ChangeOld
import Derived.Below
import Derived.Lib.SmallJoins
import Derived.BigQuiet
import Derived.Deep.QuietTactic
import Derived.Laws.StructEq
import Derived.Test.YtjbhbkkkjdpamaaFuns
import Derived.Test.YtjbhbkkkjdpamaaPkd23f725c
import Derived.Test.YtjbhbkkkjdpamaaPkbd957d2b
import Derived.Test.YtjbhbkkkjdpamaaRefs
import Derived.Test.YtjbhbkkkjdpamaaLayN
import Derived.Test.YtjbhbkkkjdpamaaLayA
import Derived.Test.YtjbhbkkkjdpamaaPk3b5fe753
import Derived.Test.YtjbhbkkkjdpamaaPkfad6cd44
import Derived.Test.YtjbhbkkkjdpamaaPkd8602864
import Derived.Test.YtjbhbkkkjdpamaaLayT
import Derived.Test.YtjbhbkkkjdpamaaLayV
import Derived.Test.YtjbhbkkkjdpamaaPk3f5361e2
import Derived.Test.YtjbhbkkkjdpamaaPk6dbd2828
import Derived.Test.YtjbhbkkkjdpamaaPkd8868971
import Derived.Test.YtjbhbkkkjdpamaaMapK
import Derived.Test.YtjbhbkkkjdpamaaRd
import Derived.Test.YtjbhbkkkjdpamaaPkc600f0e5
import Derived.Test.YtjbhbkkkjdpamaaDrawM
import Derived.Test.YtjbhbkkkjdpamaaDrawT
namespace Go.Proofs.Ytjbhbkkkjdpamaa.fnMapSpot
open Go.ChangeShapes Go.WideShapes Go.ChangeAt Go.RowKit Go.Joins
open Go.ChangeMaps (open_string shut_string)
open Go.Proofs.Ytjbhbkkkjdpamaa.Base
open Go.Proofs.Ytjbhbkkkjdpamaa.Funs
open Go.Proofs.Ytjbhbkkkjdpamaa.Open
open Go.Proofs.Ytjbhbkkkjdpamaa.Keep
open Go.Proofs.Ytjbhbkkkjdpamaa.UnitS
open Go.Proofs.Ytjbhbkkkjdpamaa.Refs
open Go.Proofs.Ytjbhbkkkjdpamaa.LayN
open Go.Proofs.Ytjbhbkkkjdpamaa.LayA
open Go.Proofs.Ytjbhbkkkjdpamaa.KeepA
open Go.Proofs.Ytjbhbkkkjdpamaa.KeepD
open Go.Proofs.Ytjbhbkkkjdpamaa.LayD
open Go.Proofs.Ytjbhbkkkjdpamaa.LayS
open Go.Proofs.Ytjbhbkkkjdpamaa.LayT
open Go.Proofs.Ytjbhbkkkjdpamaa.LayV
open Go.Proofs.Ytjbhbkkkjdpamaa.LayO
open Go.Proofs.Ytjbhbkkkjdpamaa.MapD
open Go.Proofs.Ytjbhbkkkjdpamaa.MapA
open Go.Proofs.Ytjbhbkkkjdpamaa.MapS
open Go.Proofs.Ytjbhbkkkjdpamaa.MapI
open Go.Proofs.Ytjbhbkkkjdpamaa.MapJ
open Go.Proofs.Ytjbhbkkkjdpamaa.MapT
open Go.Proofs.Ytjbhbkkkjdpamaa.MapK
open Go.Proofs.Ytjbhbkkkjdpamaa.Rd
open Go.Proofs.Ytjbhbkkkjdpamaa.DrawO
open Go.Proofs.Ytjbhbkkkjdpamaa.DrawM
open Go.Proofs.Ytjbhbkkkjdpamaa.DrawT
set_option linter.unusedVariables false
set_option maxRecDepth 100000
theorem own : ownKnob Try.prog.godebug = none := by kernel_rfl
theorem laidOut : laidOutB Try.prog = true := by kernel_rfl

theorem wf_small {x : Int} (h0 : -1000000000 ≤ x) (h1 : x ≤ 1000000000) : (Lit.int .i64 x).wf = true := by
  unfold Lit.wf
  rw [Bool.and_eq_true, decide_eq_true_iff, decide_eq_true_iff]
  exact ⟨by show -9223372036854775808 ≤ x; omega, by show x ≤ 9223372036854775807; omega⟩
theorem ml {n : Nat} (h : n ≤ 1048576) : n ≤ maxLen := by unfold maxLen; omega
/-- The last of the first k functions that begins at a place or ahead of it. -/
def LastUp (fs : List FunD) (st : List (List ByteArray)) (aa : Int) (k : Nat) (q : Int) : Prop := (q = -1 ∧ ∀ j, j < k → aa < (place fs st j : Int)) ∨ ∃ m : Nat, q = (m : Int) ∧ m < k ∧ (place fs st m : Int) ≤ aa ∧ ∀ j, m < j → j < k → aa < (place fs st j : Int)
theorem lastUp_more {fs : List FunD} {st : List (List ByteArray)} {aa q : Int} {k : Nat} (h : LastUp fs st aa k q) (hp : (place fs st k : Int) ≤ aa) : LastUp fs st aa (k + 1) (k : Int) := .inr ⟨k, rfl, by omega, hp, fun j h1 h2 => by omega⟩
theorem lastUp_skip {fs : List FunD} {st : List (List ByteArray)} {aa q : Int} {k : Nat} (h : LastUp fs st aa k q) (hp : aa < (place fs st k : Int)) : LastUp fs st aa (k + 1) q := by
  rcases h with ⟨rfl, h⟩ | ⟨m, rfl, hm, h1, h2⟩
  · refine .inl ⟨rfl, fun j hj => ?_⟩
    by_cases e : j = k
    · rw [e]; exact hp
    · exact h j (by omega)
  · refine .inr ⟨m, rfl, by omega, h1, fun j hj hj2 => ?_⟩
    by_cases e : j = k
    · rw [e]; exact hp
    · exact h2 j hj (by omega)
theorem spotE_low {fs : List FunD} {ns : List Int} {st : List (List ByteArray)} {aa : Int} (h : ∀ j, j < fs.length → aa < (place fs st j : Int)) : spotE fs ns st aa = (0, 0, false) := spotE_none (spotN_none fun j hj => by
  cases e : hitB fs st aa j with
  | false => rfl
  | true => rw [hit_iff] at e; have := h j hj; omega)
set_option maxHeartbeats 8000000 in
theorem walk (a0 : Option Addr) (len cap0 : Nat) (bs : List Int) (W : World) (hrow : IsRow .u8 W a0 len cap0 bs) :
    Calls Try.prog 6 #[.slice a0 len cap0] W fun e w' => e = .returned (.bool true) ∧ Below W.heap.size W w' := by
  obtain ⟨hl, hm, hb⟩ := isRow_bytes hrow
  by_cases hlt : (1048576 : Int) < len
  · go_enter Try.func6, Try.ntmps6
    go_wp2
    go_ret
    exact ⟨rfl, Below.refl _ _⟩
  have Hb := hide hb
  clear hb hrow
  go_enter Try.func6, Try.ntmps6
  go_wp2_with fail
  refine (drawMapSpot_any _ _ _ _ hl hm (unhide Hb)).mono ?_
  rintro e w1 ⟨a, cap, fs, na, sa, nc, sc, zs, st, aa, rfl, q1, q2, hM⟩
  have hbA := below_alloc1 w1 (.cells #[.slice na zs.length nc, .slice sa st.length sc] 34)
  have HF := hide (hM.fr.below hbA)
  have HN := hide (hM.nr.below hbA)
  have HT := hide (hM.tr.below hbA)
  have hB2 := bl_trans hM.bw hbA
  have HX := hide (new_block w1 (.cells #[.slice na zs.length nc, .slice sa st.length sc] 34))
  have HFT := hide hM.tm.few
  have c1 := hM.h1
  have c2 := hM.h2
  have c3 := hM.h3
  have d1 := hM.n1
  have d2 := hM.n2
  have d3 := hM.s1
  have d4 := hM.s2
  clear hM hbA
  have hwf : (Lit.int .i64 aa).wf = true := wf_small (by omega) (by omega)
  have HIS := hide (fun w' h1 h2 h3 => implMapSpot_any a cap fs na sa nc sc zs st aa w' hwf c1 c2 d1 d2 d3 d4 (unhide HFT) h1 h2 h3)
  have HSS := hide (fun w' h1 h2 h3 => specMapSpot_any a cap fs na sa nc sc zs st aa w' hwf c1 c2 d1 d2 d3 d4 (unhide HFT) h1 h2 h3)
  have HLS := hide (fun w' h1 h2 h3 => implLaySize_any a cap fs na sa nc sc zs st w' c1 c2 d1 d2 d3 d4 (unhide HFT) h1 h2 h3)
  obtain ⟨z1, z2, z3, hz⟩ : ∃ z1 z2 z3, spotE fs zs st aa = (z1, z2, z3) := ⟨_, _, _, rfl⟩
  rw [hz] at HIS HSS
  have HZE := hide hz
  clear hz hwf
  have hX := box2 (unhide HX)
  go_wp2_with fail
  refine (unhide HIS _ (unhide HF) (unhide HN) (unhide HT)).mono ?_
  rintro e w2 ⟨rfl, hb2⟩
  have hb2' := bl_trans hb2 (below_alloc1 w2 (.cells #[.int .i64 z1, .int .i64 z2] 36))
  have HP := hide (new_block w2 (.cells #[.int .i64 z1, .int .i64 z2] 36))
  replace HF := hide ((unhide HF).below hb2')
  replace HN := hide ((unhide HN).below hb2')
  replace HT := hide ((unhide HT).below hb2')
  replace HX := hide (box_below (unhide HX) hb2')
  replace hB2 := bl_trans hB2 hb2'
  clear hX hb2 hb2' HIS
  have hX := box2 (unhide HX)
  go_wp2_with fail
  refine (unhide HSS _ (unhide HF) (unhide HN) (unhide HT)).mono ?_
  rintro e w3 ⟨rfl, hb3⟩
  have hb3' := bl_trans hb3 (below_alloc1 w3 (.cells #[.int .i64 z1, .int .i64 z2] 36))
  have HQ := hide (new_block w3 (.cells #[.int .i64 z1, .int .i64 z2] 36))
  replace HF := hide ((unhide HF).below hb3')
  replace HN := hide ((unhide HN).below hb3')
  replace HT := hide ((unhide HT).below hb3')
  replace HX := hide (box_below (unhide HX) hb3')
  replace HP := hide (box_below (unhide HP) hb3')
  replace hB2 := bl_trans hB2 hb3'
  clear hX hb3 hb3' HSS
  have hX := box2 (unhide HX)
  have hP := box2 (unhide HP)
  have hQ := box2 (unhide HQ)
  obtain ⟨zz, hzz⟩ : ∃ zz, sizeI fs zs st = zz := ⟨_, rfl⟩
  rw [hzz] at HLS
  have HZZ := hide hzz
  clear hzz
  go_wp2_with fail
  refine (unhide HLS _ (unhide HF) (unhide HN) (unhide HT)).mono ?_
  rintro e w4 ⟨rfl, hb4⟩
  replace HF := hide ((unhide HF).below hb4)
  replace HN := hide ((unhide HN).below hb4)
  replace HT := hide ((unhide HT).below hb4)
  replace HX := hide (box_below (unhide HX) hb4)
  replace HP := hide (box_below (unhide HP) hb4)
  replace HQ := hide (box_below (unhide HQ) hb4)
  replace hB2 := bl_trans hB2 hb4
  clear hX hP hQ hb4 HLS
  have hX := box2 (unhide HX)
  have hP := box2 (unhide HP)
  have hQ := box2 (unhide HQ)
  by_cases h0 : (zz == 0) = true
  · go_wp2_with fail
    go_ret
    exact ⟨rfl, hB2⟩
  have h0f : (zz == 0) = false := by simpa using h0
  have hf : formB fs zs st = true := by
    cases hf : formB fs zs st
    · rw [size_no hf] at HZZ
      have := unhide HZZ
      subst this
      exact absurd rfl h0
    · rfl
  have HL := hide (lying_of hf (unhide HFT))
  have HFO := hide hf
  have hnf : zs.length = fs.length := (unhide HL).len
  have HNF := hide hnf
  have hlf : (fs.length : Int) ≤ 9223372036854775807 := by omega
  have hln : (zs.length : Int) ≤ 9223372036854775807 := by omega
  have hn1 : 0 < zs.length := by have := (keep_parts (form_parts hf).1).1; omega
  obtain ⟨nb, no, rfl⟩ := (unhide HN).get hn1
  have HV : Hid (∀ (k : Nat) w', k < zs.length → NumRow w' (some ⟨nb, no, none⟩) zs → w'.cell? ⟨nb, no + k, none⟩ = some (.int .i64 (place fs st k : Nat))) := fun k w' hk h => by
    have n0 := h.cells hk
    rw [(unhide HL).at hk] at n0
    exact n0
  clear h0 hf hnf HZZ
  go_wp2_with fail
  clear hX hP hQ
  go_loopw [10, 11] (fun lst i w' => ∃ (k : Nat) (q : Int), k ≤ fs.length ∧ i = .int .i64 k ∧ lst = .int .i64 q ∧ -1 ≤ q ∧ q < (fs.length : Int) ∧ Hid (LastUp fs st aa k q) ∧ w'.heap[w1.heap.size]? = some (.cells #[.slice (some ⟨nb, no, none⟩) zs.length nc, .slice sa st.length sc] 34) ∧ w'.heap[w2.heap.size]? = some (.cells #[.int .i64 z1, .int .i64 z2] 36) ∧ FunRow w' a fs ∧ NumRow w' (some ⟨nb, no, none⟩) zs ∧ Below W.heap.size W w') (fun _ i _ => fs.length - (intOf i).toNat)
  case atStart => exact ⟨0, -1, Nat.zero_le _, rfl, rfl, by omega, by omega, .inl ⟨rfl, fun j h => by omega⟩, unhide HX, unhide HP, unhide HF, unhide HN, hB2⟩
  case round =>
    obtain ⟨k, q, hk, rfl, rfl, hq0, hq1, HU, hX, hP, hF, hN, hB⟩ := hrel
    clear HX HP HF HN hB2 HQ HT
    have HX := hide hX
    have HP := hide hP
    have HF := hide hF
    have HN := hide hN
    clear hX hP hF hN
    have hX := box2 (unhide HX)
    by_cases hkl : k < fs.length
    · have hkl' : (k : Int) < (fs.length : Int) := by omega
      have hkn : k < zs.length := by have := unhide HNF; omega
      have hkn' : (k : Int) < (zs.length : Int) := by omega
      have hk0 : (0 : Int) ≤ (k : Int) := by omega
      have n0 := unhide HV k _ hkn (unhide HN)
      have HMO := hide (fun h => lastUp_more (unhide HU) h)
      have HSK := hide (fun h => lastUp_skip (unhide HU) h)
      generalize place fs st k = pk at *
      by_cases hp : (pk : Int) ≤ aa
      · have HU2 := hide (unhide HMO hp)
        go_wp2_with fail
        exact ⟨⟨k + 1, k, by omega, by go_num, rfl, by omega, by omega, unhide HU2, unhide HX, unhide HP, unhide HF, unhide HN, hB⟩, by simp [intOf]; omega⟩
      · have HU2 := hide (unhide HSK (by omega))
        go_wp2_with fail
        exact ⟨⟨k + 1, q, by omega, by go_num, rfl, hq0, hq1, unhide HU2, unhide HX, unhide HP, unhide HF, unhide HN, hB⟩, by simp [intOf]; omega⟩
    · have hkl' : ¬ (k : Int) < (fs.length : Int) := by omega
      have hke : k = fs.length := by omega
      rcases unhide HU with ⟨rfl, hlow⟩ | ⟨m, rfl, hm, hm1, hm2⟩
      · have hz := spotE_low (ns := zs) (fun j hj => hlow j (by omega))
        rw [unhide HZE] at hz
        simp only [Prod.mk.injEq] at hz
        obtain ⟨rfl, rfl, rfl⟩ := hz
        clear hlow hke
        go_wp2_with fail
        go_ret
        exact ⟨rfl, hB⟩
      · have hmf : m < fs.length := by omega
        have hmn : m < zs.length := by have := unhide HNF; omega
        have hmf' : (m : Int) < (fs.length : Int) := by omega
        have hmn' : (m : Int) < (zs.length : Int) := by omega
        have hm0 : (0 : Int) ≤ (m : Int) := by omega
        have hu : UpTo fs st aa m := ⟨hm1, fun j h1 h2 => hm2 j h1 (by omega)⟩
        have n0 := unhide HV m _ hmn (unhide HN)
        obtain ⟨fb, fo, rfl⟩ := (unhide HF).get (by omega)
        obtain ⟨fi, fc, f0, f1, f2, _, f4, f5, _⟩ := (unhide HF).at hmf
        have hfl : fs[m].body.length ≤ 10 := (unhide HL).2.1 _ (List.getElem_mem _)
        have hpb := (unhide HL).small m (by omega)
        have hIN : aa - (place fs st m : Int) < (fs[m].body.length : Int) → spotE fs zs st aa = ((m : Int), aa - (place fs st m : Int), true) := fun h => spotE_some (spotN_some (unhide HFO) hmf (hit_iff.2 ⟨hm1, by rw [lenAt_is hmf]; omega⟩))
        have hNO : ¬ aa - (place fs st m : Int) < (fs[m].body.length : Int) → spotE fs zs st aa = (0, 0, false) := fun h => spotE_none (upTo_miss hu (by rw [lenAt_is hmf]; omega))
        rw [unhide HZE] at hIN hNO
        simp only [Prod.mk.injEq] at hIN hNO
        have HIN := hide hIN
        have HNO := hide hNO
        have hq3 : ¬ (m : Int) < 0 := by omega
        clear hIN hNO hu hm2 hke HU
        generalize fs[m].body.length = fl at *
        generalize place fs st m = pm at *
        have hP := box2 (unhide HP)
        obtain ⟨dd, hdd⟩ : ∃ dd : Int, aa - (pm : Int) = dd := ⟨_, rfl⟩
        have hd0 : 0 ≤ dd := by omega
        have hd1 : dd ≤ 100000000 := by omega
        have hw1 : IntKind.i64.wrap (aa - (pm : Int)) = dd := by rw [hdd, IntKind.wrap_i64]; omega
        rw [hdd] at HIN HNO
        by_cases hin : dd < (fl : Int)
        · obtain ⟨rfl, rfl, rfl⟩ := unhide HIN hin
          have e1 : decide (z2 < (fl : Int)) = true := decide_eq_true hin
          go_wp2_with fail
          go_quiet (fail)
          go_wp2_with fail
          go_quiet (fail)
          go_wp2_with fail
          go_ret
          exact ⟨rfl, by first | exact hB | exact bl_drewN hB _ | exact hB.drew | exact bl_drewN (bl_drewN hB _) _⟩
        · obtain ⟨rfl, rfl, rfl⟩ := unhide HNO hin
          have e1 : decide (dd < (fl : Int)) = false := decide_eq_false hin
          go_wp2_with fail
          go_quiet (fail)
          go_wp2_with fail
          go_quiet (fail)
          go_wp2_with fail
          go_ret
          exact ⟨rfl, by first | exact hB | exact bl_drewN hB _ | exact hB.drew | exact bl_drewN (bl_drewN hB _) _⟩

set_option maxRecDepth 100000 in
theorem lifted (os : Os) (started : os.Started) (H : Type) (enc : TypeId × Value → H) :
    ReturnsInHanded {} Try.checked os 6 .any (Rows.fnMapSpotSpec.pre6 enc Try.prog Try.f6 Rows.fnMapSpotRow.domain false) (Rows.fnMapSpotSpec.post enc Try.prog Try.f6 false true false false) := by
  refine returnsInHanded_of_change (C := Try.checked) own started (by kernel_rfl) Try.func6
    (ChangeSpec.witness6 (enc := enc) (C := Try.checked) false ⟨#[], #[.slice none 0 0], []⟩ 8 (by kernel_rfl) (by kernel_rfl) (by kernel_rfl) (by kernel_rfl)) ?_
  intro W base args ds gs before hval0 hW hcnd _
  have hval : ∀ (j : Nat) t v, Try.f6.params[j]? = some t → args[j]? = some v → Value.okWide Try.prog W .any base t v := hval0
  have hW' := hW
  obtain ⟨p, q, hA0, hV, rfl, hfz, hnd⟩ := hW
  have hA : DataW.TrodAll enc Try.prog W 0 (fun _ => true) true Try.f6.params.toList args.toList ds p := hA0
  rw [Try.params6] at hA hval
  obtain ⟨v0, vs0, d0, ds0, p0, q0, hargs, rfl, rfl, h0, r0⟩ := trodAll_cons hA
  obtain ⟨rfl, rfl, rfl⟩ := trodAll_nil r0
  obtain rfl : args = #[v0] := by cases args; simp_all
  obtain ⟨rfl, rfl⟩ := trodVars_none hV
  have k0 := h0
  have lt0 : ∀ x ∈ p0, x.block < W.heap.size := by obtain ⟨m, hm⟩ := k0; exact DataW.trod_lt m _ _ _ hm
  obtain ⟨a0, len0, cap0, hv0⟩ := okWide_slice Try.underlying45 (hval 0 45 v0 rfl rfl)
  obtain ⟨z0, w0⟩ : ∃ zs, IsRow .u8 W a0 len0 cap0 zs := by
    subst hv0
    obtain ⟨fuel, hf⟩ := h0
    rcases open_ints Try.underlying45 Try.underlying5 (by kernel_rfl) hf with ⟨hcs, _⟩ | ⟨x, l, c, zs, hcs, _, hl, hm, hz, _, hcell, hwz⟩
    · simp [Value.cells] at hcs
      obtain ⟨rfl, rfl, rfl⟩ := hcs
      exact ⟨[], .inl ⟨rfl, rfl, rfl, rfl⟩⟩
    · simp [Value.cells] at hcs
      obtain ⟨rfl, rfl, rfl⟩ := hcs
      exact ⟨zs, .inr ⟨_, rfl, hl, hm, by simpa using hz, hcell, hwz⟩⟩
  clear hA0 hval0
  subst hv0
  refine (walk a0 len0 cap0 z0 W w0).mono fun e W' ⟨he, bel⟩ => ?_
  subst he
  exact ⟨_, rfl, _, _, _, [], _, [], hW', trodAll_mk1 (shut_bool Try.underlying4 _), (trodAll_cons_mk (Below.trod laidOut (by kernel_rfl) (of_decide_eq_true (by kernel_rfl)) k0 bel lt0) trodAll_mk0), rfl, bel.frame _, fun h => by cases h⟩

theorem proved : Rows.FnMapSpotSaid :=
  OpenClaim.holds_of_wide 6 Try.f6 rfl rfl rfl rfl rfl rfl rfl ⟨rfl, rfl, rfl, rfl, rfl⟩ rfl rfl rfl rfl rfl (by kernel_rfl) Try.func6 (by kernel_rfl)
    (of_decide_eq_true (by kernel_rfl)) (by unfold Func.isWrapper; first | (rw [if_pos (by decide +kernel)]; kernel_rfl) | (rw [if_neg (by decide +kernel)]; exact ⟨rfl, rfl⟩))
    (fun os started H enc _ => lifted os started H enc)
#print axioms proved
end Go.Proofs.Ytjbhbkkkjdpamaa.fnMapSpot
