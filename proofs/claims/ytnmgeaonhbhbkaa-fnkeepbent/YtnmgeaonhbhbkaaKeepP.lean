/- The contracts of the program's queue of names: put and next. -/
import Derived.Test.YtnmgeaonhbhbkaaKeepQ
namespace Go.Proofs.Ytnmgeaonhbhbkaa.KeepP
open Go.ChangeShapes Go.WideShapes Go.ChangeAt Go.RowKit Go.Joins Go.WideMaps Go.Maps Go.Deep
open Go.Proofs.Ytnmgeaonhbhbkaa.Base Go.Proofs.Ytnmgeaonhbhbkaa.InsA Go.Proofs.Ytnmgeaonhbhbkaa.InsB Go.Proofs.Ytnmgeaonhbhbkaa.Funs Go.Proofs.Ytnmgeaonhbhbkaa.Open Go.Proofs.Ytnmgeaonhbhbkaa.FunS Go.Proofs.Ytnmgeaonhbhbkaa.Keep Go.Proofs.Ytnmgeaonhbhbkaa.UnitS Go.Proofs.Ytnmgeaonhbhbkaa.UnitM Go.Proofs.Ytnmgeaonhbhbkaa.Refs Go.Proofs.Ytnmgeaonhbhbkaa.WantsI Go.Proofs.Ytnmgeaonhbhbkaa.KeepD Go.Proofs.Ytnmgeaonhbhbkaa.KeepQ
set_option linter.unusedVariables false
set_option maxRecDepth 100000

set_option maxHeartbeats 4000000 in
theorem qput_any (B q m n : Nat) (wv v : Value) (ns ws rs : List ByteArray) (w : World) (hBw : B ≤ w.heap.size) (hl : ws.length ≤ 100000) (hnl : n ≤ 100000) (hrl : rs.length ≤ 1000) (hsz : ∀ s ∈ rs, s.size ≤ maxLen) (hv : v.ownBlock = none ∨ v.ownBlock ≠ wv.ownBlock) (hvl : ∀ g, v.ownBlock = some g → g < w.heap.size) (hQ : QAt w B q m wv ns ws n) (hS : StrAt w v rs) :
    Calls Try.prog 60 #[.pointer (some ⟨q, 0, none⟩), v] w fun e w' => e = .returned (.tuple #[]) ∧ QPut w w' B q m wv v ns ws rs n rs.length := by
  have HQ := hide hQ
  have HS := hide hS
  have HZ := hide hsz
  have HVL := hide hvl
  have HV := hide hv
  obtain ⟨a, cap, rfl, hcap, hcm, _⟩ := hS
  clear hQ hsz hvl hv
  go_enter Try.func60, Try.ntmps60
  go_wp2_with fail
  go_loopw [10] (fun i w' => ∃ k : Nat, k ≤ rs.length ∧ i = .int .i64 k ∧ QPut w w' B q m wv (.slice a rs.length cap) ns ws rs n k) (fun i _ => rs.length - (intOf i).toNat)
  case atStart => exact ⟨0, Nat.zero_le _, rfl, wv, [], by simp [addN], by simpa using unhide HQ, Nat.le_refl _, .inl rfl, unhide HS, QStep.refl _ _ _ _⟩
  case round =>
    obtain ⟨k, hk, rfl, hput⟩ := hrel
    have HP := hide hput
    clear hput HQ HS
    by_cases hkl : k < rs.length
    · have hkl' : (k : Int) < (rs.length : Int) := by omega
      obtain ⟨wv', t, h1, h2, h3, h4, h5, h6⟩ := unhide HP
      obtain ⟨a', cap', e1, _, _, hcc⟩ := h5
      obtain ⟨rfl, rfl⟩ : a = a' ∧ cap = cap' := by simpa using e1
      obtain h0 | ⟨g1, o1, rfl, hg1⟩ := hcc
      · rw [h0] at hkl; simp at hkl
      have r0 := hg1 k hkl
      obtain ⟨⟨c0, c1⟩, f0, f1⟩ := h2.cells
      have c1a := (Stable.cell ⟨q, 1, none⟩ (.map (some m))).alloc c1 (.cells #[] 98)
      have hqlt : q < wr.heap.size := World.block_lt_of_cell? _ _ c1
      have hs := h6.size
      have hkey : keyOf Try.prog 9 (.string rs[k]) = some (keyS rs[k]) := keyOf_string_mk Try.underlying9 (unhide HZ _ (List.getElem_mem _))
      have HSK := hide ((unhide HP).skip hkl)
      have HNX := hide (fun (w1 w2 : World) (v3 : Value) (o o2 : Obj) => QPut.next (w1 := w1) (w2 := w2) (w3 := w2) (v3 := v3) (o := o) (o2 := o2) hBw hkl (unhide HV) (unhide HVL) h1 h2 h3 h4 ⟨_, cap, e1, hcap, hcm, .inr ⟨g1, o1, rfl, hg1⟩⟩ h6)
      rw [h1] at HSK
      have HM := hide h2.2.2.2.2
      have HR := hide h2.2.2.2.1
      have HB := hide h2.1
      have HHK := hide (has_keys (ns ++ t) rs[k])
      have hwl : (ws ++ t).length ≤ 1000000 := by simp; omega
      have HQA := hide (fun (w1 : World) (o : Obj) (hg : (wr.alloc o).grownBy w1 (some m)) => q_app (s := rs[k]) h2 (by omega) hg hwl)
      clear hg1 e1 h2 h6 h4 hcap HP
      generalize hrk : rs[k] = s at *
      generalize ns ++ t = nt at *
      generalize ws ++ t = wt at *
      cases hh : hasB nt s
      · have HH : Hid (Maps.has (setOf (.agg []) (nt.map keyS) : DataW Unit) (keyS s) = false) := (unhide HHK).trans hh
        go_wp2_with (first
          | (at_lookup; refine wpList_lookup_own_unit _ rfl _ _ 76 rfl 9 98 lawS Try.underlying76 (zeroUnit _) m (n + k) _ rfl (unhide HM) _ _ rfl hkey ?_; rw [unhide HH])
          | (at_mapUpdate; refine wpList_mapUpdate_own _ rfl _ _ _ 76 rfl 9 98 lawS Try.underlying76 _ m (n + k) _ rfl (World.ownsMap.alloc (unhide HM) _) (by unfold maxLen; omega) _ _ _ rfl rfl hkey (.agg []) [] unitElem_mk ?_; intro w1 hown1 hgrow1; obtain ⟨d0, hap⟩ := unhide HQA w1 _ hgrow1; have HAP := hide hap; clear hap c0)
          | (at_builtin; obtain ⟨v3, w2, g3, o3, c3, hv3, hrun, hq3, hg3, hat3, ⟨x0, e0⟩, g0⟩ := unhide HAP _; refine Lib.wpList_append_run _ rfl _ _ _ _ rfl _ _ rfl rfl _ _ hrun ?_; have HQ3 := hide hq3; have HG3 := hide hg3; have HT3 := hide hat3; clear hq3 hg3 hat3 hrun; subst hv3))
        exact ⟨⟨k + 1, by omega, by go_num, unhide HNX w1 w2 _ _ _ hh hown1 hgrow1 (unhide HQ3) (unhide HG3) (unhide HT3)⟩, by simp [intOf]; omega⟩
      · have HH : Hid (Maps.has (setOf (.agg []) (nt.map keyS) : DataW Unit) (keyS s) = true) := (unhide HHK).trans hh
        go_wp2_with (first
          | (at_lookup; refine wpList_lookup_own_unit _ rfl _ _ 76 rfl 9 98 lawS Try.underlying76 (zeroUnit _) m (n + k) _ rfl (unhide HM) _ _ rfl hkey ?_; rw [unhide HH]))
        exact ⟨⟨k + 1, by omega, by go_num, unhide HSK hh _⟩, by simp [intOf]; omega⟩
    · have hke : k = rs.length := by omega
      subst hke
      go_wp2_with fail
      go_end0
      exact ⟨rfl, unhide HP⟩
theorem q_take {w : World} {B q m n g off cap o2 c2 : Nat} {ns t : List ByteArray} {s : ByteArray} (h : QAt w B q m (.slice (some ⟨g, off, none⟩) (t.length + 1) cap) ns (s :: t) n) (h2 : (o2 = off + 1 ∧ c2 = cap - 1) ∨ (t = [] ∧ o2 = off ∧ c2 = 0)) : QAt (w.setCell ⟨q, 0, none⟩ (.slice (some ⟨g, o2, none⟩) t.length c2)) B q m (.slice (some ⟨g, o2, none⟩) t.length c2) ns t n := by
  obtain ⟨q1, q2, q3, q4, q5⟩ := h
  obtain ⟨es, c, hmb⟩ := set_blk q5
  have hqm : q ≠ m := fun e => by rw [e, hmb] at q1; cases q1
  rcases q4 with ⟨e, _⟩ | ⟨g', off', cap', C, e, hB, hC, hn, hsz, hm, hc⟩
  · cases e
  · cases e
    have hgq : g ≠ q := fun e => by rw [e, q1] at hC; simp at hC
    refine ⟨block_setCell q1 _, q2, q3, .inr ⟨g, o2, c2, C, rfl, hB, (Below.heap_setCell w ⟨q, 0, none⟩ _ g hgq).trans hC, ?_, ?_, ?_, fun i hi => ?_⟩, set_step q5 (Below.heap_setCell w ⟨q, 0, none⟩ _ m (Ne.symm hqm))⟩
    · rcases h2 with ⟨_, rfl⟩ | ⟨rfl, _, rfl⟩
      · simp at hn; omega
      · simp
    · rcases h2 with ⟨rfl, rfl⟩ | ⟨rfl, rfl, rfl⟩
      · simp at hn; omega
      · omega
    · rcases h2 with ⟨_, rfl⟩ | ⟨_, _, rfl⟩ <;> omega
    · rcases h2 with ⟨rfl, rfl⟩ | ⟨rfl, _, _⟩
      · have := hc (i + 1) (by simpa using hi)
        rw [show off + (i + 1) = off + 1 + i by omega] at this
        simpa using this
      · simp at hi
set_option maxHeartbeats 2000000 in
theorem qnext_some (B q m n : Nat) (wv : Value) (ns t : List ByteArray) (s : ByteArray) (w : World) (hQ : QAt w B q m wv ns (s :: t) n) :
    Calls Try.prog 61 #[.pointer (some ⟨q, 0, none⟩)] w fun e w' => e = .returned (.tuple #[.string s, .bool true]) ∧ ∃ wv', QAt w' B q m wv' ns t n ∧ wv'.ownBlock = wv.ownBlock ∧ QStep q m none w w' := by
  have HQ := hide hQ
  obtain ⟨⟨c0, c1⟩, f0, f1⟩ := hQ.cells
  obtain ⟨_, _, _, q4, _⟩ := hQ
  rcases q4 with ⟨_, e⟩ | ⟨g, off, cap, C, rfl, hB, hC, hn, hsz, hm, hc⟩
  · cases e
  have d0 : w.cell? ⟨g, off, none⟩ = some (.string s) := by rw [cell_of_block hC]; have := hc 0 (by simp); simpa using this
  have hn1 : t.length + 1 ≤ cap := by simpa using hn
  have hm' : (cap : Int) ≤ 9223372036854775807 := by unfold maxLen at hm; omega
  clear hc hC hn hsz
  by_cases h1 : cap = 1
  · subst h1
    have ht : t = [] := List.length_eq_zero_iff.1 (by omega)
    subst ht
    have HT := hide (q_take (o2 := off) (c2 := 0) (unhide HQ) (.inr ⟨rfl, rfl, rfl⟩))
    clear HQ
    go_enter Try.func61, Try.ntmps61
    go_wp2_with fail
    go_ret2
    exact ⟨rfl, _, unhide HT, rfl, QStep.set _ _ _⟩
  · have hn' : ((t.length : Int) + 1) ≤ (cap : Int) := by omega
    have h1' : ¬ (cap : Int) = 1 := by omega
    have h2 : 1 < cap := by omega
    have HT := hide (q_take (o2 := off + 1) (c2 := cap - 1) (unhide HQ) (.inl ⟨rfl, rfl⟩))
    clear HQ
    go_enter Try.func61, Try.ntmps61
    go_wp2_with fail
    go_ret2
    exact ⟨rfl, _, unhide HT, rfl, QStep.set _ _ _⟩
set_option maxHeartbeats 1000000 in
theorem qnext_none (B q m n : Nat) (wv : Value) (ns : List ByteArray) (w : World) (hQ : QAt w B q m wv ns [] n) :
    Calls Try.prog 61 #[.pointer (some ⟨q, 0, none⟩)] w fun e w' => e = .returned (.tuple #[.string ⟨#[]⟩, .bool false]) ∧ w' = w := by
  obtain ⟨⟨c0, c1⟩, f0, f1⟩ := hQ.cells
  obtain ⟨_, _, _, q4, _⟩ := hQ
  obtain ⟨a, cap, rfl⟩ : ∃ a cap, wv = .slice a 0 cap := by
    rcases q4 with ⟨rfl, _⟩ | ⟨g, off, cap, C, rfl, _⟩
    · exact ⟨_, _, rfl⟩
    · exact ⟨_, _, rfl⟩
  clear q4
  go_enter Try.func61, Try.ntmps61
  go_wp2_with fail
  go_ret2
  exact ⟨rfl, rfl⟩
end Go.Proofs.Ytnmgeaonhbhbkaa.KeepP
