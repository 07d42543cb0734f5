/- For every slice of bytes the law FnKeepUnion answers true, and the bytes read afterwards as they did. No condition. -/
import Derived.Test.YtfpajoloeninmaeBase
import Derived.WalkKit
import Derived.ProofKit
import Derived.OpenShut
import Derived.ShutString
import Derived.ChangeOld
import Derived.Below
import Derived.Lib.SmallJoins
import Derived.Test.YtfpajoloeninmaeFuns
import Derived.Test.YtfpajoloeninmaeOpen
import Derived.Test.YtfpajoloeninmaeFunS
import Derived.Test.YtfpajoloeninmaeKeep
import Derived.Test.YtfpajoloeninmaeUnitS
import Derived.Test.YtfpajoloeninmaeRefs
import Derived.Test.YtfpajoloeninmaeWantsL
import Derived.Test.YtfpajoloeninmaeWantsI
import Derived.Test.YtfpajoloeninmaeRd
import Derived.Test.YtfpajoloeninmaeDrawIns
import Derived.Test.YtfpajoloeninmaeKeepA
import Derived.Test.YtfpajoloeninmaeKeepD
import Derived.Test.YtfpajoloeninmaeKeepR
import Derived.Test.YtfpajoloeninmaeKeepI
import Derived.Test.YtfpajoloeninmaeKeepT
import Derived.Test.YtfpajoloeninmaeKeepU
import Derived.Test.YtfpajoloeninmaeDrawP
import Derived.Test.YtfpajoloeninmaeDrawR
import Derived.Test.YtfpajoloeninmaeDrawS
namespace Go.Proofs.Ytfpajoloeninmae.fnKeepUnion
open Go.ChangeShapes Go.WideShapes Go.ChangeAt Go.RowKit Go.Joins
open Go.ChangeMaps (open_string shut_string)
open Go.Proofs.Ytfpajoloeninmae.Base
open Go.Proofs.Ytfpajoloeninmae.Funs
open Go.Proofs.Ytfpajoloeninmae.Open
open Go.Proofs.Ytfpajoloeninmae.FunS
open Go.Proofs.Ytfpajoloeninmae.Keep
open Go.Proofs.Ytfpajoloeninmae.UnitS
open Go.Proofs.Ytfpajoloeninmae.Refs
open Go.Proofs.Ytfpajoloeninmae.WantsL
open Go.Proofs.Ytfpajoloeninmae.WantsI
open Go.Proofs.Ytfpajoloeninmae.Rd
open Go.Proofs.Ytfpajoloeninmae.DrawIns
open Go.Proofs.Ytfpajoloeninmae.KeepA
open Go.Proofs.Ytfpajoloeninmae.KeepD
open Go.Proofs.Ytfpajoloeninmae.KeepR
open Go.Proofs.Ytfpajoloeninmae.KeepI
open Go.Proofs.Ytfpajoloeninmae.KeepT
open Go.Proofs.Ytfpajoloeninmae.KeepU
open Go.Proofs.Ytfpajoloeninmae.DrawP
open Go.Proofs.Ytfpajoloeninmae.DrawR
open Go.Proofs.Ytfpajoloeninmae.DrawS
set_option linter.unusedVariables false
set_option maxRecDepth 100000
theorem own : ownKnob Try.prog.godebug = none := by kernel_rfl
theorem laidOut : laidOutB Try.prog = true := by kernel_rfl

theorem one_text (w : World) (s : ByteArray) : StrOwn (w.alloc (.cells #[.string s] 9)) w.heap.size (.slice (some ⟨w.heap.size, 0, none⟩) 1 1) [s] :=
  ⟨by simp, .inr ⟨w.heap.size, 1, #[.string s], rfl, Nat.le_refl _, new_block w _, Nat.le_refl _, by unfold maxLen; omega, rfl, rfl⟩⟩
theorem own_far {w : World} {B C : Nat} {v u : Value} {ss ts : List ByteArray} (h : StrOwn w B v ss) (hC : ∀ g, u.ownBlock = some g → g < B) : u.ownBlock = none ∨ u.ownBlock ≠ v.ownBlock := by
  cases hu : u.ownBlock with
  | none => exact .inl rfl
  | some g => exact .inr (fun e => by have h1 := hC g hu; have h2 := (World.ownsRow.lt h g e.symm).1; omega)
/-- What the loop over the functions keeps. -/
def UO (W w1 : World) (fs : List FunD) (s : ByteArray) (b : Option Addr) (M : Nat) (rv : Value) (out : List ByteArray) (v i : Value) (w' : World) : Prop := ∃ (k n : Nat) (al : List ByteArray), k ≤ fs.length ∧ i = .int .i64 k ∧ al.length ≤ n ∧ n ≤ 1 + k * 500 ∧ Hid (Just al (UP fs s k)) ∧ StrOwn w' M v al ∧ Below w1.heap.size w1 w' ∧ StrOwn w' w1.heap.size rv out ∧ Below W.heap.size W w' ∧ M ≤ w'.heap.size
set_option maxHeartbeats 8000000 in
theorem walk (a : Option Addr) (len cap : Nat) (zs : List Int) (W : World) (hrow : IsRow .u8 W a len cap zs) :
    Calls Try.prog 5 #[.slice a len cap] W fun e w' => e = .returned (.bool true) ∧ Below W.heap.size W w' := by
  obtain ⟨hl, hm, hb⟩ := isRow_bytes hrow
  by_cases hlt : (1048576 : Int) < len
  · go_enter Try.func5, Try.ntmps5
    go_wp2
    go_ret
    exact ⟨rfl, Below.refl _ _⟩
  have Hb := hide hb
  clear hb hrow
  obtain ⟨i0, hi, hz0, hz1, hz2⟩ := info_parts infoStr
  go_enter Try.func5, Try.ntmps5
  go_wp2_with fail
  refine (drawKeepReach_any _ _ _ _ hl hm (unhide Hb)).mono ?_
  rintro e w1 ⟨b, c, fs, s, rfl, hs, h1, h2, h42, hrow, hb1⟩
  have HR := hide hrow
  have HRF1 := hide hrow
  have HZ := hide hrow.sizes
  have hlen : (fs.length : Int) ≤ 9223372036854775807 := by omega
  clear hrow
  go_wp2_with fail
  refine (implKeepReach_any b c fs s _ hs h1 h2 (unhide HR)).mono ?_
  rintro e w2 ⟨v5, out, rfl, hN5, hol, hO5, hb2⟩
  have HN := hide hN5
  have HO2 := hide hO5
  have hB2 := bl_trans hb1 hb2
  have hb12 := hb2
  have HR2 := hide ((unhide HR).below hb2)
  obtain ⟨ra, rc, e5, hrc, hrcm, _⟩ := hO5.at
  subst e5
  clear hN5 hO5 hb1 hb2 HR
  go_wp2_with fail
  refine (specKeepReach_any b c fs s _ hs h1 h2 (unhide HR2)).mono ?_
  rintro e w3 ⟨v6, out', rfl, hN6, _, hO6, hb3⟩
  obtain rfl := rn_one (unhide HN) hN6
  obtain ⟨sa, sc, e6, _⟩ := hO6.at
  subst e6
  have hB3 := bl_trans hB2 hb3
  have hb13 := bl_trans hb12 hb3
  have HR3 := hide ((unhide HR2).below hb3)
  have HO3 := hide ((unhide HO2).below hb3)
  clear hN6 hO6 hb3 hB2 HR2 HO2
  by_cases h0 : out.length = 0
  · have h0' : (out.length : Int) = 0 := by omega
    go_wp2_with fail
    go_ret
    exact ⟨rfl, hB3⟩
  have h0' : ¬ (out.length : Int) = 0 := by omega
  obtain ⟨hok, hfi⟩ := rn_ne (unhide HN) (fun e => h0 (by rw [e]; rfl))
  have HOK := hide hok
  have HFI := hide hfi
  have HFO := hide (keep_parts hok).2.2.1
  have HA0 := hide (one_text w3 s)
  have hB0 := bl_alloc hB3 (.cells #[.string s] 9)
  have hb10 := bl_alloc hb13 (.cells #[.string s] 9)
  have HO0 := hide ((unhide HO3).below (below_alloc1 _ (.cells #[.string s] 9)))
  have HOL : Hid (∀ g, (Value.slice ra out.length rc).ownBlock = some g → g < w3.heap.size) := fun g hg => (World.ownsRow.lt (unhide HO3) g hg).2
  have HJ0 := hide (just_one s fs)
  have hz3 : w3.heap.size ≤ w3.heap.size + 1 := by omega
  obtain ⟨M, hM⟩ : ∃ M, M = w3.heap.size := ⟨_, rfl⟩
  have HA0' : Hid (StrOwn (w3.alloc (.cells #[.string s] 9)) M (.slice (some ⟨w3.heap.size, 0, none⟩) 1 1) [s]) := by rw [hM]; exact unhide HA0
  rw [← hM] at HOL
  have hMs : M ≤ w3.heap.size + 1 := by omega
  have hWM : W.heap.size ≤ M := by rw [hM]; exact hB3.size
  have hw1M : w1.heap.size ≤ M := by rw [hM]; exact hb13.size
  clear hok hfi HR3 HO3 hB3 HA0 hz3 hM
  go_wp2_with fail
  go_loopw [6, 7] (fun v i w' => UO W w1 fs s b M (.slice ra out.length rc) out v i w') (fun _ i _ => fs.length - (intOf i).toNat)
  case atStart => exact ⟨0, 1, [s], Nat.zero_le _, rfl, by simp, by omega, unhide HJ0, unhide HA0', hb10, unhide HO0, hB0, by simpa using hMs⟩
  case round =>
    obtain ⟨k, n, al, hk, rfl, haln, hn, HJ, hA, hrow, hO, hB, hMw⟩ := hrel
    have HA := hide hA
    have hbw := hrow
    have HRW := hide ((unhide HRF1).below hrow)
    have HO := hide hO
    obtain ⟨aa, ac, ea, _⟩ := hA.at
    subst ea
    clear hA hrow hO HJ0 HA0' hb10 HO0 hB0
    by_cases hkl : k < fs.length
    · have hkl' : (k : Int) < (fs.length : Int) := by omega
      obtain ⟨g, off, rfl⟩ := (unhide HRW).get (by omega)
      obtain ⟨ai, ci, c0, c1, c2, hfn, k4, k5, k6⟩ := (unhide HRW).at hkl
      have HK6 := hide k6
      have hfo := unhide HFO fs[k] (List.getElem_mem _)
      have HRF : Hid (funRefs fs[k].nm fs[k].body = refsOf fs[k].body) := by show _ = _; simp [funRefs, hfo]
      have hrl : (refsOf fs[k].body).length ≤ 10 := Nat.le_trans (refs_len _) (fun_le hfo)
      have HXS := hide (refs_sized ((unhide HZ fs[k] (List.getElem_mem _)).2.2))
      have HSK := hide (up_skip (s := s) hkl)
      have HUE := hide (uq_end (s := s) hkl)
      clear k6
      generalize fs[k] = f at *
      cases hq : (f.nm.toList == s.toList)
      · have hne : f.nm.toList ≠ s.toList := by simpa using hq
        have HJ1 := hide ((unhide HJ).congr (unhide HSK hne))
        go_wp2_with fail
        exact ⟨⟨k + 1, n, al, by omega, by go_num, haln, by omega, unhide HJ1, unhide HA, hbw, unhide HO, hB, hMw⟩, by simp [intOf]; omega⟩
      · have heq : f.nm.toList = s.toList := by simpa using hq
        have HQ0 := hide ((unhide HJ).congr (uq_zero f))
        clear HSK HJ
        go_wp2_with fail
        refine (implFunRefs_any f.nm f.wk ai ci f.body _ hfn k4 k5 (unhide HK6)).mono ?_
        rintro e w4 ⟨rv, rfl, hRV, hb4⟩
        rw [unhide HRF] at hRV
        have HRV := hide hRV
        have HA4 := hide ((unhide HA).below hb4)
        have hbw4 := bl_trans hbw hb4
        have HO4 := hide ((unhide HO).below hb4)
        have hB4 := bl_trans hB hb4
        have hMw4 := Nat.le_trans hMw hb4.size
        have HNE : Hid (rv.ownBlock = none ∨ rv.ownBlock ≠ (Value.slice aa al.length ac).ownBlock) := by
          cases hrb : rv.ownBlock with
          | none => exact .inl rfl
          | some x => exact .inr (fun e => by have l1 := (World.ownsRow.lt hRV x hrb).1; have l2 := (World.ownsRow.lt (unhide HA) x e.symm).2; omega)
        obtain ⟨fa, fc, ef, _⟩ := hRV.at
        subst ef
        clear hRV hb4 HA HRW HO hB hMw c0 c1 c2 HK6
        generalize hrs : refsOf f.body = rs at *
        have HRS := hide hrs
        clear hrs
        go_wp2_with fail
        go_loopw [6, 9] (fun v i w' => ∃ (q m xc : Nat) (xa : Option Addr) (xl : List ByteArray), q ≤ rs.length ∧ i = .int .i64 q ∧ v = .slice xa xl.length xc ∧ xl.length ≤ m ∧ m ≤ n + q * 41 ∧ Hid (Just xl (UQ fs s k q f)) ∧ StrOwn w' M (.slice xa xl.length xc) xl ∧ StrOwn w' 0 (.slice fa rs.length fc) rs ∧ Hid ((Value.slice fa rs.length fc).ownBlock = none ∨ (Value.slice fa rs.length fc).ownBlock ≠ (Value.slice xa xl.length xc).ownBlock) ∧ Below w1.heap.size w1 w' ∧ StrOwn w' w1.heap.size (.slice ra out.length rc) out ∧ Below W.heap.size W w' ∧ M ≤ w'.heap.size) (fun _ i _ => rs.length - (intOf i).toNat)
        case atStart => exact ⟨0, n, ac, aa, al, Nat.zero_le _, rfl, rfl, haln, by omega, unhide HQ0, unhide HA4, (unhide HRV).base (Nat.zero_le _), unhide HNE, hbw4, unhide HO4, hB4, hMw4⟩
        case round =>
          obtain ⟨q, m, xc, xa, xl, hq', rfl, rfl, hxm, hmq, HJX, hX, hF, HNE2, hrow2, hO2, hB2, hM2⟩ := hrel
          have HX := hide hX
          have HF := hide hF
          have hbw2 := hrow2
          have HR2 := hide ((unhide HRF1).below hrow2)
          have HO2 := hide hO2
          obtain ⟨fa', fc', e1, _, _, hcc⟩ := hF.at
          obtain ⟨rfl, rfl⟩ : fa = fa' ∧ fc = fc' := by simpa using e1
          clear hX hF hrow2 hO2 HA4 HRV HNE hbw4 HO4 hB4 hMw4 HQ0 e1
          by_cases hql : q < rs.length
          · have hql' : (q : Int) < (rs.length : Int) := by omega
            obtain hx | ⟨fb, fo, rfl, hg5⟩ := hcc
            · rw [hx] at hql; simp at hql
            have r5 := hg5 q hql
            have hrz := unhide HXS rs[q] (List.getElem_mem _)
            have HUS : Hid (∀ o, RN fs rs[q] o → ∀ x, (UQ fs s k q f x ∨ x ∈ bl (o.take o.length)) ↔ UQ fs s k (q + 1) f x) := fun o ho => by
              have h := unhide HRS
              have hq3 : q < (refsOf f.body).length := by rw [h]; exact hql
              have e : (refsOf f.body)[q] = rs[q] := by simp [h]
              exact uq_step hq3 (by rw [e]; exact ho)
            clear hg5
            generalize rs[q] = r at *
            go_wp2_with fail
            refine (implKeepReach_any _ c fs r _ hrz h1 h2 (unhide HR2)).mono ?_
            rintro e w6 ⟨mv, o, rfl, hN6, hol6, hO6, hb6⟩
            have HUQ := hide (unhide HUS o hN6)
            have HMV := hide hO6
            have HX6 := hide ((unhide HX).below hb6)
            have HF6 := hide ((unhide HF).below hb6)
            have hbw6 := bl_trans hbw2 hb6
            have HO6 := hide ((unhide HO2).below hb6)
            have hB6 := bl_trans hB2 hb6
            have hM6 := Nat.le_trans hM2 hb6.size
            have HNM : Hid (mv.ownBlock = none ∨ mv.ownBlock ≠ (Value.slice xa xl.length xc).ownBlock) := by
              cases hmb : mv.ownBlock with
              | none => exact .inl rfl
              | some x => exact .inr (fun e => by have l1 := (World.ownsRow.lt hO6 x hmb).1; have l2 := (World.ownsRow.lt (unhide HX) x e.symm).2; omega)
            obtain ⟨ma, mc, em, _⟩ := hO6.at
            subst em
            have HJ6 : Hid (Just xl (fun x => UQ fs s k q f x ∨ x ∈ bl (o.take 0))) := (unhide HJX).congr (fun x => by simp [bl])
            clear hN6 hO6 hb6 HX HF HR2 HO2 hB2 hM2 HJX HUS r5
            generalize hQQ : UQ fs s k q f = QQ at *
            have HQQ := hide hQQ
            clear hQQ
            obtain ⟨N6, hN6⟩ : ∃ N6, N6 = w6.heap.size := ⟨_, rfl⟩
            go_wp2_with fail
            go_loopw [6, 11] (fun v i w' => ∃ (j yc : Nat) (ya : Option Addr) (yl : List ByteArray), j ≤ o.length ∧ i = .int .i64 j ∧ v = .slice ya yl.length yc ∧ yl.length ≤ m + j ∧ Hid (Just yl (fun x => QQ x ∨ x ∈ bl (o.take j))) ∧ StrOwn w' M (.slice ya yl.length yc) yl ∧ StrOwn w' 0 (.slice (some ⟨fb, fo, none⟩) rs.length fc) rs ∧ Hid ((Value.slice (some ⟨fb, fo, none⟩) rs.length fc).ownBlock = none ∨ (Value.slice (some ⟨fb, fo, none⟩) rs.length fc).ownBlock ≠ (Value.slice ya yl.length yc).ownBlock) ∧ StrOwn w' 0 (.slice ma o.length mc) o ∧ Hid ((Value.slice ma o.length mc).ownBlock = none ∨ (Value.slice ma o.length mc).ownBlock ≠ (Value.slice ya yl.length yc).ownBlock) ∧ Below w1.heap.size w1 w' ∧ StrOwn w' w1.heap.size (.slice ra out.length rc) out ∧ Below W.heap.size W w' ∧ M ≤ w'.heap.size) (fun _ i _ => o.length - (intOf i).toNat)
            case atStart => exact ⟨0, xc, xa, xl, Nat.zero_le _, rfl, rfl, by omega, unhide HJ6, unhide HX6, unhide HF6, unhide HNE2, (unhide HMV).base (Nat.zero_le _), unhide HNM, hbw6, unhide HO6, hB6, hM6⟩
            case round =>
              obtain ⟨j, yc, ya, yl, hj, rfl, rfl, hyl, HJY, hY, hF7, HNF, hMV, HNM7, hrow7, hO7, hB7, hM7⟩ := hrel
              have HY := hide hY
              have HF7 := hide hF7
              have HMV7 := hide hMV
              have hbw7 := hrow7
              have HO7 := hide hO7
              obtain ⟨ma', mc', e2, _, _, hcm⟩ := hMV.at
              obtain ⟨rfl, rfl⟩ : ma = ma' ∧ mc = mc' := by simpa using e2
              have hs7 := hB7.size
              clear hY hF7 hMV hrow7 hO7 HX6 HF6 HMV hbw6 HO6 hB6 hM6 HJ6 HNM HNE2 e2
              by_cases hjl : j < o.length
              · have hjl' : (j : Int) < (o.length : Int) := by omega
                obtain hx | ⟨mb, mo, rfl, hg8⟩ := hcm
                · rw [hx] at hjl; simp at hjl
                have r8 := hg8 j hjl
                have HBT := hide (bl_take hjl QQ)
                have HJA := hide (just_add (unhide HJY) o[j])
                clear hg8
                generalize o[j] = t at *
                cases hh : hasB yl t
                · go_wp2_with fail
                  refine (wpHas_any _ yl t _ (unhide HY).at).mono ?_
                  rintro e w8 ⟨rfl, hb8⟩
                  rw [hh]
                  have HY8 := hide ((unhide HY).below hb8)
                  have HF8 := hide ((unhide HF7).below hb8)
                  have HMV8 := hide ((unhide HMV7).below hb8)
                  have hB8 := bl_trans hB7 hb8
                  have hM8 := Nat.le_trans hM7 hb8.size
                  have HO8 := hide ((unhide HO7).below hb8)
                  have hbw8 := bl_trans hbw7 hb8
                  replace r8 := (Stable.cell ⟨mb, mo + j, none⟩ (.string t)).1 _ _ hb8 r8
                  have HJ9 : Hid (Just (yl ++ [t]) (fun x => QQ x ∨ x ∈ bl (o.take (j + 1)))) := by
                    have h := (unhide HJA).congr (unhide HBT)
                    rw [addOne_new hh] at h
                    exact h
                  clear HY HF7 HMV7 hB7 hM7 HO7 hbw7 hb8 HJA HBT HJY
                  go_wp2_with (first
                    | (at_builtin; refine wpList_append_own_at _ rfl _ _ 35 rfl M 9 i0 (.string ⟨#[]⟩) 1 16 Try.underlying35 hi hz0 hz1 hz2 rfl (by decide) _ yl.length (yl.map Value.string) rfl (World.ownsRow.alloc (unhide HY8) _) ⟨w8.heap.size, 0, none⟩ 1 1 [.string t] rfl rfl (cell_one_new _ _ _) (by simp [Value.oneCell']) (by unfold maxLen; omega) (by omega) (by simp; omega) ?_; intro v9 w9 hown9 hgrow9 _ hat9))
                  have HY9 := hide (str_snoc hown9)
                  have hB9 : Below W.heap.size W w9 := (bl_alloc hB8 _).grown hgrow9 (bl_alloc hB8 _).size (fun x hx => Nat.le_trans hWM (World.ownsRow.lt (unhide HY8) x hx).1)
                  have hb9 : Below M w8 w9 := (bl_alloc (Below.refl w8.heap.size w8) _ |>.mono hM8).grown hgrow9 (by simp; omega) (fun x hx => (World.ownsRow.lt (unhide HY8) x hx).1)
                  have HF9 : Hid (StrOwn w9 0 (.slice (some ⟨fb, fo, none⟩) rs.length fc) rs) := World.ownsRow.kept (World.ownsRow.alloc (unhide HF8) _) hgrow9 (unhide HNF)
                  have HMV9 : Hid (StrOwn w9 0 (.slice (some ⟨mb, mo, none⟩) o.length mc) o) := World.ownsRow.kept (World.ownsRow.alloc (unhide HMV8) _) hgrow9 (unhide HNM7)
                  have HO9 : Hid (StrOwn w9 w1.heap.size (.slice ra out.length rc) out) := World.ownsRow.kept (World.ownsRow.alloc (unhide HO8) _) hgrow9 (own_far (B := M) (C := 0) (ts := out) (unhide HY8) (unhide HOL))
                  have hfb : fb < w8.heap.size := (World.ownsRow.lt (unhide HF8) fb rfl).2
                  have hmb : mb < w8.heap.size := (World.ownsRow.lt (unhide HMV8) mb rfl).2
                  have HNF9 : Hid ((Value.slice (some ⟨fb, fo, none⟩) rs.length fc).ownBlock = none ∨ (Value.slice (some ⟨fb, fo, none⟩) rs.length fc).ownBlock ≠ v9.ownBlock) := by
                    rcases hat9 with e | e
                    · rw [e]; exact unhide HNF
                    · rw [e]; refine .inr (fun h => ?_); have h' : fb = w8.heap.size + 1 := by simpa [Value.ownBlock] using h
                      omega
                  have HNM9 : Hid ((Value.slice (some ⟨mb, mo, none⟩) o.length mc).ownBlock = none ∨ (Value.slice (some ⟨mb, mo, none⟩) o.length mc).ownBlock ≠ v9.ownBlock) := by
                    rcases hat9 with e | e
                    · rw [e]; exact unhide HNM7
                    · rw [e]; refine .inr (fun h => ?_); have h' : mb = w8.heap.size + 1 := by simpa [Value.ownBlock] using h
                      omega
                  have hbw9 : Below w1.heap.size w1 w9 := (bl_alloc hbw8 _).grown hgrow9 (bl_alloc hbw8 _).size (fun x hx => Nat.le_trans hw1M (World.ownsRow.lt (unhide HY8) x hx).1)
                  have hM9 : M ≤ w9.heap.size := by have := hgrow9.size; simp at this; omega
                  obtain ⟨y9, z9, e9, _⟩ := (unhide HY9).at
                  subst e9
                  exact ⟨⟨j + 1, z9, y9, yl ++ [t], by omega, by go_num, rfl, by simp; omega, unhide HJ9, unhide HY9, unhide HF9, unhide HNF9, unhide HMV9, unhide HNM9, hbw9, unhide HO9, hB9, hM9⟩, by simp [intOf]; omega⟩
                · have HJ9 : Hid (Just yl (fun x => QQ x ∨ x ∈ bl (o.take (j + 1)))) := by
                    have h := (unhide HJA).congr (unhide HBT)
                    rw [addOne_has hh] at h
                    exact h
                  go_wp2_with fail
                  refine (wpHas_any _ yl t _ (unhide HY).at).mono ?_
                  rintro e w8 ⟨rfl, hb8⟩
                  rw [hh]
                  go_wp2_with fail
                  exact ⟨⟨j + 1, yc, ya, yl, by omega, by go_num, rfl, by omega, unhide HJ9, (unhide HY).below hb8, (unhide HF7).below hb8, unhide HNF, (unhide HMV7).below hb8, unhide HNM7, bl_trans hbw7 hb8, (unhide HO7).below hb8, bl_trans hB7 hb8, Nat.le_trans hM7 hb8.size⟩, by simp [intOf]; omega⟩
              · have hjl' : ¬ (j : Int) < (o.length : Int) := by omega
                have hje : j = o.length := by omega
                have HJ9 : Hid (Just yl (UQ fs s k (q + 1) f)) := by
                  have h := unhide HJY
                  rw [hje] at h
                  exact h.congr (unhide HUQ)
                clear hje HJY
                go_wp2_with fail
                exact ⟨⟨q + 1, m + 41, yc, ya, yl, by omega, by go_num, rfl, by omega, by omega, unhide HJ9, unhide HY, unhide HF7, unhide HNF, hbw7, unhide HO7, hB7, hM7⟩, by simp [intOf]; omega⟩
          · have hql' : ¬ (q : Int) < (rs.length : Int) := by omega
            have hqe : q = rs.length := by omega
            have HJ9 : Hid (Just xl (UP fs s (k + 1))) := by
              have h := unhide HJX
              rw [hqe] at h
              exact h.congr (unhide HUE heq)
            clear hqe HJX
            go_wp2_with fail
            exact ⟨⟨k + 1, m, xl, by omega, by go_num, hxm, by omega, unhide HJ9, unhide HX, hbw2, unhide HO2, hB2, hM2⟩, by simp [intOf]; omega⟩
    · have hkl' : ¬ (k : Int) < (fs.length : Int) := by omega
      have hke : k = fs.length := by omega
      have HJE : Hid (Just al (fun x => x ∈ reachS fs s)) := (unhide HJ).congr (by rw [hke]; exact up_end (unhide HOK) (unhide HFI))
      have hal := just_len (unhide HJE) (unhide HN)
      have HHAS := hide (fun i (hi : i < out.length) => just_has (unhide HJE) (unhide HN) hi)
      have hal' : (al.length : Int) = (out.length : Int) := by omega
      clear HJ hke hal
      go_wp2_with fail
      go_loopw [12] (fun i w' => ∃ (j : Nat), j ≤ out.length ∧ i = .int .i64 j ∧ StrOwn w' M (.slice aa al.length ac) al ∧ StrOwn w' w1.heap.size (.slice ra out.length rc) out ∧ Below W.heap.size W w') (fun i _ => out.length - (intOf i).toNat)
      case atStart => exact ⟨0, Nat.zero_le _, rfl, unhide HA, unhide HO, hB⟩
      case round =>
        obtain ⟨j, hj, rfl, hA, hO, hB⟩ := hrel
        have HA9 := hide hA
        have HO9 := hide hO
        obtain ⟨ra', rc', e1, _, _, hcc⟩ := hO.at
        obtain ⟨rfl, rfl⟩ : ra = ra' ∧ rc = rc' := by simpa using e1
        clear hA hO HA HO e1
        by_cases hjl : j < out.length
        · have hjl' : (j : Int) < (out.length : Int) := by omega
          obtain hx | ⟨ob, oo, rfl, hg9⟩ := hcc
          · rw [hx] at hjl; simp at hjl
          have r9 := hg9 j hjl
          have hh := unhide HHAS j hjl
          clear hg9
          generalize out[j] = t at *
          go_wp2_with fail
          refine (wpHas_any _ al t _ (unhide HA9).at).mono ?_
          rintro e wx ⟨rfl, hbx⟩
          rw [hh]
          go_wp2_with fail
          exact ⟨⟨j + 1, by omega, by go_num, (unhide HA9).below hbx, (unhide HO9).below hbx, bl_trans hB hbx⟩, by simp [intOf]; omega⟩
        · have hjl' : ¬ (j : Int) < (out.length : Int) := by omega
          go_wp2_with fail
          go_ret
          exact ⟨rfl, hB⟩

set_option maxRecDepth 100000 in
theorem lifted (os : Os) (started : os.Started) (H : Type) (enc : TypeId × Value → H) :
    ReturnsInHanded {} Try.checked os 5 .any (Rows.fnKeepUnionSpec.pre6 enc Try.prog Try.f5 Rows.fnKeepUnionRow.domain false) (Rows.fnKeepUnionSpec.post enc Try.prog Try.f5 false true false false) := by
  refine returnsInHanded_of_change (C := Try.checked) own started (by kernel_rfl) Try.func5
    (ChangeSpec.witness6 (enc := enc) (C := Try.checked) false ⟨#[], #[.slice none 0 0], []⟩ 8 (by kernel_rfl) (by kernel_rfl) (by kernel_rfl) (by kernel_rfl)) ?_
  intro W base args ds gs before hval0 hW hcnd _
  have hval : ∀ (j : Nat) t v, Try.f5.params[j]? = some t → args[j]? = some v → Value.okWide Try.prog W .any base t v := hval0
  have hW' := hW
  obtain ⟨p, q, hA0, hV, rfl, hfz, hnd⟩ := hW
  have hA : DataW.TrodAll enc Try.prog W 0 (fun _ => true) true Try.f5.params.toList args.toList ds p := hA0
  rw [Try.params5] at hA hval
  obtain ⟨v0, vs0, d0, ds0, p0, q0, hargs, rfl, rfl, h0, r0⟩ := trodAll_cons hA
  obtain ⟨rfl, rfl, rfl⟩ := trodAll_nil r0
  obtain rfl : args = #[v0] := by cases args; simp_all
  obtain ⟨rfl, rfl⟩ := trodVars_none hV
  have k0 := h0
  have lt0 : ∀ x ∈ p0, x.block < W.heap.size := by obtain ⟨m, hm⟩ := k0; exact DataW.trod_lt m _ _ _ hm
  obtain ⟨a0, len0, cap0, hv0⟩ := okWide_slice Try.underlying22 (hval 0 22 v0 rfl rfl)
  obtain ⟨z0, w0⟩ : ∃ zs, IsRow .u8 W a0 len0 cap0 zs := by
    subst hv0
    obtain ⟨fuel, hf⟩ := h0
    rcases open_ints Try.underlying22 Try.underlying5 (by kernel_rfl) hf with ⟨hcs, _⟩ | ⟨x, l, c, zs, hcs, _, hl, hm, hz, _, hcell, hwz⟩
    · simp [Value.cells] at hcs
      obtain ⟨rfl, rfl, rfl⟩ := hcs
      exact ⟨[], .inl ⟨rfl, rfl, rfl, rfl⟩⟩
    · simp [Value.cells] at hcs
      obtain ⟨rfl, rfl, rfl⟩ := hcs
      exact ⟨zs, .inr ⟨_, rfl, hl, hm, by simpa using hz, hcell, hwz⟩⟩
  clear hA0 hval0
  subst hv0
  refine (walk a0 len0 cap0 z0 W w0).mono fun e W' ⟨he, bel⟩ => ?_
  subst he
  exact ⟨_, rfl, _, _, _, [], _, [], hW', trodAll_mk1 (shut_bool Try.underlying4 _), (trodAll_cons_mk (Below.trod laidOut (by kernel_rfl) (of_decide_eq_true (by kernel_rfl)) k0 bel lt0) trodAll_mk0), rfl, bel.frame _, fun h => by cases h⟩

theorem proved : Rows.FnKeepUnionSaid :=
  OpenClaim.holds_of_wide 5 Try.f5 rfl rfl rfl rfl rfl rfl rfl ⟨rfl, rfl, rfl, rfl, rfl⟩ rfl rfl rfl rfl rfl (by kernel_rfl) Try.func5 (by kernel_rfl)
    (of_decide_eq_true (by kernel_rfl)) (by unfold Func.isWrapper; first | (rw [if_pos (by decide +kernel)]; kernel_rfl) | (rw [if_neg (by decide +kernel)]; exact ⟨rfl, rfl⟩))
    (fun os started H enc _ => lifted os started H enc)
#print axioms proved
end Go.Proofs.Ytfpajoloeninmae.fnKeepUnion
