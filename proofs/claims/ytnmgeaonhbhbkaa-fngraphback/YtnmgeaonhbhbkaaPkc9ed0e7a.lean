/- The contracts of KeepReach of both sides: the names that are reached, in order. -/
import Derived.Test.YtnmgeaonhbhbkaaKeepX
import Derived.Test.YtnmgeaonhbhbkaaKeepA
namespace Go.Proofs.Ytnmgeaonhbhbkaa.KeepR
open Go.ChangeShapes Go.WideShapes Go.ChangeAt Go.RowKit Go.Joins Go.WideMaps Go.Maps Go.Sort Go.Shelf Go.Deep
open Go.Proofs.Ytnmgeaonhbhbkaa.Base Go.Proofs.Ytnmgeaonhbhbkaa.InsA Go.Proofs.Ytnmgeaonhbhbkaa.InsB Go.Proofs.Ytnmgeaonhbhbkaa.Funs Go.Proofs.Ytnmgeaonhbhbkaa.Open Go.Proofs.Ytnmgeaonhbhbkaa.FunS Go.Proofs.Ytnmgeaonhbhbkaa.Keep Go.Proofs.Ytnmgeaonhbhbkaa.UnitS Go.Proofs.Ytnmgeaonhbhbkaa.UnitM Go.Proofs.Ytnmgeaonhbhbkaa.Refs Go.Proofs.Ytnmgeaonhbhbkaa.Mark Go.Proofs.Ytnmgeaonhbhbkaa.UU Go.Proofs.Ytnmgeaonhbhbkaa.PickD Go.Proofs.Ytnmgeaonhbhbkaa.WantsS Go.Proofs.Ytnmgeaonhbhbkaa.WantsL Go.Proofs.Ytnmgeaonhbhbkaa.WantsI Go.Proofs.Ytnmgeaonhbhbkaa.WantsM Go.Proofs.Ytnmgeaonhbhbkaa.Concat Go.Proofs.Ytnmgeaonhbhbkaa.KeepC Go.Proofs.Ytnmgeaonhbhbkaa.KeepD Go.Proofs.Ytnmgeaonhbhbkaa.KeepA Go.Proofs.Ytnmgeaonhbhbkaa.KeepW Go.Proofs.Ytnmgeaonhbhbkaa.KeepX
set_option linter.unusedVariables false
set_option maxRecDepth 100000

/-- What is reached in a program that is right. -/
def keepList (fs : List FunD) (s : ByteArray) : List FunD := if keepOkB fs then (walkB [fs] s).getD [] else []
/-- Its names, in order, each once. -/
def RN (fs : List FunD) (s : ByteArray) (out : List ByteArray) : Prop := srt (bl out) ∧ ∀ x, x ∈ bl out ↔ ∃ f ∈ keepList fs s, f.nm.toList = x
theorem rn_one {fs : List FunD} {s : ByteArray} {o o' : List ByteArray} (h : RN fs s o) (h' : RN fs s o') : o = o' := bl_inj (srt_ext h.1 h'.1 (fun x => (h.2 x).trans (h'.2 x).symm))
theorem walk_facts {us : List (List FunD)} {s : ByteArray} {out : List FunD} (h : walkB us s = some out) : out.length ≤ flen us ∧ (out.map fun f => f.nm.toList).Nodup ∧ ∀ f ∈ out, f ∈ us.flatten := by
  unfold walkB resK at h
  have hi := stK_inv us s (us.flatten.length + 1)
  have hb := stK_bound us s (us.flatten.length + 1)
  by_cases e : (stK us s (us.flatten.length + 1)).1.length = (stK us s (us.flatten.length + 1)).2.length
  · rw [if_pos e] at h
    cases h
    refine ⟨hb, ?_, hi.mem⟩
    rw [hi.same]
    exact hi.nodup.sublist (List.Sublist.map _ (List.take_sublist _ _))
  · rw [if_neg e] at h; cases h
theorem list_facts {fs : List FunD} {s : ByteArray} (h : keepOkB fs = true) : (keepList fs s).length ≤ 40 ∧ ((keepList fs s).map fun f => f.nm.toList).Nodup ∧ ∀ f ∈ keepList fs s, f ∈ fs := by
  unfold keepList
  rw [h, if_pos rfl]
  cases hw : walkB [fs] s with
  | none => exact ⟨Nat.zero_le _, List.nodup_nil, (fun f hf => by cases hf)⟩
  | some out =>
    obtain ⟨h1, h2, h3⟩ := walk_facts hw
    have := (keep_parts h).2.1
    refine ⟨?_, h2, fun f hf => by have := h3 f hf; simpa using this⟩
    unfold flen at h1
    have e : ([fs] : List (List FunD)).flatten.length = fs.length := by simp
    simp only [Option.getD_some]
    omega
theorem keep_small {fs : List FunD} (h : keepOkB fs = true) {w : World} {a : Option Addr} (hr : FunRow w a fs) : Small [fs] := by
  obtain ⟨h1, h2, h3, h4, h5⟩ := keep_parts h
  refine ⟨?_, fun f hf => ?_, fun f hf => ?_⟩
  · have e : ([fs] : List (List FunD)).flatten.length = fs.length := by simp
    unfold flen; omega
  · have hf' : f ∈ fs := by simpa using hf
    have := fun_le (h3 f hf'); omega
  · have hf' : f ∈ fs := by simpa using hf
    exact (hr.sizes f hf').2.2
theorem one_unit {w : World} {a : Option Addr} {cap : Nat} {fs : List FunD} (hl : fs.length ≤ cap) (hm : cap ≤ maxLen) (hr : FunRow w a fs) : UnitRow (w.alloc (.cells #[.slice a fs.length cap] 23)) (some ⟨w.heap.size, 0, none⟩) [fs] := by
  refine .inr ⟨w.heap.size, 0, rfl, fun i hi => ?_⟩
  have hi0 : i = 0 := by simpa using hi
  subst hi0
  exact ⟨a, cap, by rw [cell_of_block (new_block w _)]; rfl, hl, hm, hr.below (below_alloc1 _ _)⟩
theorem walked_row {w w' : World} {o : Option (List FunD)} {v : Value} {ok : Bool} (h : Walked w w' o v ok) (hb : Below w.heap.size w w') : ∃ a c, v = .slice a (o.getD []).length c ∧ (o.getD []).length ≤ c ∧ c ≤ maxLen ∧ FunRow w' a (o.getD []) := by
  cases o with
  | none =>
    obtain ⟨_, rfl⟩ := h
    exact ⟨none, 0, rfl, Nat.le_refl _, Nat.zero_le _, .inl rfl⟩
  | some out =>
    obtain ⟨_, vs, rfl, hbd, hO⟩ := h
    exact vals_row hO (fun u hu => (hbd u hu).below hb)
theorem names_srt {l : List FunD} {out : List ByteArray} (hs : srt (bl out)) (hm : ∀ x, x ∈ bl out ↔ ∃ f ∈ l.take l.length, f.nm.toList = x) : srt (bl out) ∧ ∀ x, x ∈ bl out ↔ ∃ f ∈ l, f.nm.toList = x := by
  rw [List.take_length] at hm
  exact ⟨hs, hm⟩
theorem rn_nil {fs : List FunD} {s : ByteArray} (h : keepList fs s = []) : RN fs s [] := ⟨List.Pairwise.nil, fun x => by rw [h]; simp [bl]⟩
theorem list_bad {fs : List FunD} {s : ByteArray} (h : keepOkB fs = false) : keepList fs s = [] := by unfold keepList; rw [h]; rfl
theorem best_miss {fs : List FunD} {s : ByteArray} (h : findI fs s < 0) : bestE [fs] s = none := by
  unfold bestE hits
  show bestOf (hitsTo [fs] s (0 + 1)) = none
  rw [hits_miss (us := [fs]) (n := 0) (by simp) h]
  rfl
theorem list_miss {fs : List FunD} {s : ByteArray} (h : findI fs s < 0) : keepList fs s = [] := by
  unfold keepList
  have : walkB [fs] s = none := walk_stuck (n := 0) (ns := [s]) (fs := []) rfl rfl rfl (best_miss h)
  rw [this]
  split <;> rfl
theorem list_ok {fs : List FunD} {s : ByteArray} (h : keepOkB fs = true) : keepList fs s = (walkB [fs] s).getD [] := by unfold keepList; rw [h, if_pos rfl]
/-- One name more, put in its place. -/
theorem put_take {l : List FunD} {ss out : List ByteArray} {k : Nat} (hk : k < l.length) (h : srt (bl ss) ∧ ∀ x, x ∈ bl ss ↔ ∃ f ∈ l.take k, f.nm.toList = x) (hp : Put ss l[k].nm out) : srt (bl out) ∧ ∀ x, x ∈ bl out ↔ ∃ f ∈ l.take (k + 1), f.nm.toList = x := by
  obtain ⟨h1, h2⟩ := put_srt h.1 hp
  refine ⟨h1, fun x => ?_⟩
  rw [h2, h.2, List.take_succ_eq_append_getElem hk]
  constructor
  · rintro (⟨f, hf, e⟩ | rfl)
    · exact ⟨f, List.mem_append_left _ hf, e⟩
    · exact ⟨l[k], List.mem_append_right _ (List.mem_singleton.2 rfl), rfl⟩
  · rintro ⟨f, hf, rfl⟩
    rcases List.mem_append.1 hf with hf | hf
    · exact .inl ⟨f, hf, rfl⟩
    · rw [List.mem_singleton.1 hf]; exact .inr rfl
/-- What a call of KeepReach leaves. -/
def Reached (w : World) (fs : List FunD) (s : ByteArray) (e : Ending) (w' : World) : Prop := ∃ v out, e = .returned v ∧ RN fs s out ∧ out.length ≤ 40 ∧ StrOwn w' w.heap.size v out ∧ Below w.heap.size w w'

end Go.Proofs.Ytnmgeaonhbhbkaa.KeepR
/- The contract of KeepReach of the program: names that are sorted in place. -/
namespace Go.Proofs.Ytnmgeaonhbhbkaa.KeepI
open Go.ChangeShapes Go.WideShapes Go.ChangeAt Go.RowKit Go.Joins Go.WideMaps Go.Maps Go.Sort Go.Shelf Go.Deep
open Go.Proofs.Ytnmgeaonhbhbkaa.Base Go.Proofs.Ytnmgeaonhbhbkaa.InsA Go.Proofs.Ytnmgeaonhbhbkaa.InsB Go.Proofs.Ytnmgeaonhbhbkaa.Funs Go.Proofs.Ytnmgeaonhbhbkaa.Open Go.Proofs.Ytnmgeaonhbhbkaa.FunS Go.Proofs.Ytnmgeaonhbhbkaa.Keep Go.Proofs.Ytnmgeaonhbhbkaa.UnitS Go.Proofs.Ytnmgeaonhbhbkaa.UnitM Go.Proofs.Ytnmgeaonhbhbkaa.Refs Go.Proofs.Ytnmgeaonhbhbkaa.Mark Go.Proofs.Ytnmgeaonhbhbkaa.UU Go.Proofs.Ytnmgeaonhbhbkaa.PickD Go.Proofs.Ytnmgeaonhbhbkaa.WantsS Go.Proofs.Ytnmgeaonhbhbkaa.WantsL Go.Proofs.Ytnmgeaonhbhbkaa.WantsI Go.Proofs.Ytnmgeaonhbhbkaa.WantsK Go.Proofs.Ytnmgeaonhbhbkaa.WantsM Go.Proofs.Ytnmgeaonhbhbkaa.Concat Go.Proofs.Ytnmgeaonhbhbkaa.KeepC Go.Proofs.Ytnmgeaonhbhbkaa.KeepD Go.Proofs.Ytnmgeaonhbhbkaa.KeepA Go.Proofs.Ytnmgeaonhbhbkaa.KeepW Go.Proofs.Ytnmgeaonhbhbkaa.KeepX Go.Proofs.Ytnmgeaonhbhbkaa.KeepR
set_option linter.unusedVariables false
set_option maxRecDepth 100000

theorem enc_bl (ss : List ByteArray) : (bl ss).map encStr = ss.map Value.string := by
  unfold bl
  rw [List.map_map]
  refine List.map_congr_left fun s _ => ?_
  show Value.string ⟨s.toList.toArray⟩ = Value.string s
  rw [ByteArray.toList_eq]
theorem bl_len (ss : List ByteArray) : (bl ss).length = ss.length := by simp [bl]
/-- Texts, sorted. -/
def sorted (ss : List ByteArray) : List ByteArray := ((bl ss).mergeSort leB).map mkB
theorem sorted_len (ss : List ByteArray) : (sorted ss).length = ss.length := by unfold sorted; rw [List.length_map, (List.mergeSort_perm _ leB).length_eq, bl_len]
theorem sort_any (B : Nat) (v : Value) (ss : List ByteArray) (w : World) (hl : ss.length ≤ 1000000) (hO : StrOwn w B v ss) :
    Calls Try.prog 44 #[v] w fun e w' => e = .returned (.tuple #[]) ∧ StrOwn w' B v (sorted ss) ∧ w.grownBy w' v.ownBlock := by
  obtain ⟨h0, ⟨rfl, hz⟩ | ⟨g, cap, cur, rfl, hB, hg, hn, hm, hs, ht⟩⟩ := hO
  · have hss : ss = [] := List.length_eq_zero_iff.1 hz
    subst hss
    refine (AnyM.slices_Sort_string_none Try.sort44 none 0 w).mono ?_
    rintro e w' ⟨rfl, rfl⟩
    have e0 : sorted [] = [] := List.length_eq_zero_iff.1 (sorted_len [])
    exact ⟨rfl, by rw [e0]; exact World.ownsRow_nil _ _ _ _, World.grownBy.refl _ _⟩
  · have ht' : cur.toList.take (bl ss).length = (bl ss).map encStr := by rw [enc_bl, bl_len]; simpa using ht
    have hH : Holds encStr w g 0 (bl ss).toArray := holds_of_block hg ht'
    have hgl : g < w.heap.size := (Array.getElem?_eq_some_iff.1 hg).1
    have c := AnyM.slices_Sort_string Try.sort44 g 0 cap (bl ss) w hH hgl (by rw [bl_len]; omega)
    rw [bl_len] at c
    refine c.mono ?_
    rintro e w' ⟨rfl, nn, os, rfl⟩
    refine ⟨rfl, ?_, grownBy_sorted _⟩
    unfold StrOwn
    rw [sorted_len]
    unfold sorted
    rw [← enc_mk]
    have h := ownsRow_sorted (n := nn) (os := os) (ss := bl ss) (ts := (bl ss).mergeSort leB) (List.mergeSort_perm _ leB).length_eq hB hg (by rw [bl_len]; exact hn) hm hs
    rw [bl_len] at h
    exact h
theorem sorted_rn {l : List FunD} {ss : List ByteArray} (hnd : (l.map fun f => f.nm.toList).Nodup) (hs : ss = l.map fun f => f.nm) : srt (bl (sorted ss)) ∧ ∀ x, x ∈ bl (sorted ss) ↔ ∃ f ∈ l, f.nm.toList = x := by
  have e : bl ss = l.map fun f => f.nm.toList := by rw [hs]; unfold bl; rw [List.map_map]; rfl
  have hp : ((bl ss).mergeSort leB).Perm (bl ss) := List.mergeSort_perm _ leB
  have tr : ∀ a b c : List UInt8, leB a b = true → leB b c = true → leB a c = true := fun a b c h1 h2 => by simp only [leB, decide_eq_true_eq] at *; exact List.le_trans h1 h2
  have to : ∀ a b : List UInt8, (leB a b || leB b a) = true := fun a b => by simp only [leB, Bool.or_eq_true, decide_eq_true_eq]; exact List.le_total a b
  have hpw := List.pairwise_mergeSort tr to (bl ss)
  have hnd' : ((bl ss).mergeSort leB).Nodup := hp.nodup_iff.2 (by rw [e]; exact hnd)
  unfold sorted
  rw [bl_mk]
  refine ⟨?_, fun x => ?_⟩
  · unfold srt
    refine (List.pairwise_and_iff.2 ⟨hpw, hnd'⟩).imp fun {a b} h => ?_
    obtain ⟨h1, h2⟩ := h
    have h1' : a ≤ b := by simpa [leB] using h1
    exact lt_of (fun hc => absurd hc (List.not_lt.2 h1')) (fun e => h2 e.symm)
  · rw [hp.mem_iff, e, List.mem_map]
theorem take_name {l : List FunD} {k : Nat} (hk : k < l.length) : ((l.take (k + 1)).map fun f => f.nm) = ((l.take k).map fun f => f.nm) ++ [l[k].nm] := by
  rw [List.take_succ_eq_append_getElem hk, List.map_append]; rfl

theorem cell_two (w : World) (o : Obj) (x : Value) (t : TypeId) : ∀ j u, [x][j]? = some u → ((w.alloc o).alloc (.cells #[x] t)).cell? ((⟨w.heap.size + 1, 0, none⟩ : Addr).add j) = some u := by
  have := cell_one_new (w.alloc o) x t
  rwa [World.size_alloc] at this
set_option maxHeartbeats 4000000 in
theorem implKeepReach_any (a : Option Addr) (cap : Nat) (fs : List FunD) (s : ByteArray) (w : World) (hs : s.size ≤ maxLen) (hcap : fs.length ≤ cap) (hcm : cap ≤ maxLen) (hR : FunRow w a fs) :
    Calls Try.prog 21 #[.slice a fs.length cap, .string s] w (Reached w fs s) := by
  have HR := hide hR
  clear hR
  cases hok : keepOkB fs
  · go_enter Try.func21, Try.ntmps21
    go_wp2_with fail
    refine (implKeepOk_any a cap fs _ hcap hcm (unhide HR)).mono ?_
    rintro e w1 ⟨rfl, hb1⟩
    rw [hok]
    go_wp2_with fail
    go_ret
    exact ⟨_, [], rfl, rn_nil (list_bad hok), by simp, World.ownsRow_nil _ _ _ _, hb1⟩
  have HSM := hide (keep_small hok (unhide HR))
  have HLO := hide (list_ok (s := s) hok)
  obtain ⟨hl40, hnd, hlm⟩ := list_facts (s := s) hok
  have HND := hide hnd
  obtain ⟨hp1, hp40, hpok, hpap, _⟩ := keep_parts hok
  have HPO : Hid (∀ f ∈ ([fs] : List (List FunD)).flatten, funOkB f.nm f.body = true) := fun f hf => hpok f (by simpa using hf)
  have HPA : Hid (∀ u ∈ ([fs] : List (List FunD)), apartF u = true) := fun u hu => by rw [List.mem_singleton.1 hu]; exact hpap
  have HP40 : Hid (∀ u ∈ ([fs] : List (List FunD)), u.length ≤ 40) := fun u hu => by rw [List.mem_singleton.1 hu]; exact hp40
  clear hlm hnd hpok hpap
  obtain ⟨i0, hi, hz0, hz1, hz2⟩ := info_parts infoStr
  go_enter Try.func21, Try.ntmps21
  go_wp2_with fail
  refine (implKeepOk_any a cap fs _ hcap hcm (unhide HR)).mono ?_
  rintro e w1 ⟨rfl, hb1⟩
  rw [hok]
  have HU := hide (one_unit hcap hcm ((unhide HR).below hb1))
  go_wp2_with fail
  refine (reached_any _ 1 [fs] s _ hs (Nat.le_refl _) (by unfold maxLen; omega) (unhide HSM) (by simp) (unhide HP40) (unhide HPO) (unhide HPA) (unhide HU)).mono ?_
  rintro e w3 ⟨v, ok, rfl, hWk, hb3⟩
  have hB3 := bl_trans (bl_alloc hb1 _) hb3
  obtain ⟨la, lc, rfl, hlc, hlcm, hrow⟩ := walked_row hWk hb3
  have HRW := hide hrow
  rw [← unhide HLO] at HRW hlc
  rw [← unhide HLO]
  clear hWk hb3 hrow HU HSM HLO hb1 hok HPO HPA HP40
  generalize hkl : keepList fs s = lst at *
  have HKL := hide hkl
  clear hkl
  go_wp2_with fail
  go_loopw [7, 22] (fun v i w' => ∃ (k : Nat), k ≤ lst.length ∧ i = .int .i64 k ∧ StrOwn w' w3.heap.size v ((lst.take k).map fun f => f.nm) ∧ Below w3.heap.size w3 w') (fun _ i _ => lst.length - (intOf i).toNat)
  case atStart => exact ⟨0, Nat.zero_le _, rfl, World.ownsRow_nil _ _ _ _, Below.refl _ _⟩
  case round =>
    obtain ⟨k, hk, rfl, hO, hB⟩ := hrel
    have HO := hide hO
    have hsB := hB.size
    clear hO
    by_cases hkl : k < lst.length
    · have hkl' : (k : Int) < (lst.length : Int) := by omega
      obtain ⟨b, off, rfl⟩ := (unhide HRW).get (by omega)
      obtain ⟨ai, ci, c0, c1, c2, hn, _⟩ := ((unhide HRW).below hB).at hkl
      have HTN := hide (take_name hkl)
      have hal : ((lst.take k).map fun f => f.nm).length ≤ 1000 := by simp; omega
      generalize lst[k] = f at *
      generalize (lst.take k).map (fun f => f.nm) = acc at *
      go_wp2_with (first
        | (at_builtin; refine wpList_append_own _ rfl _ _ 35 rfl w3.heap.size 9 i0 (.string ⟨#[]⟩) 1 16 Try.underlying35 hi hz0 hz1 hz2 rfl (by decide) _ acc.length (acc.map Value.string) rfl (World.ownsRow.alloc (World.ownsRow.alloc (unhide HO) _) _) ⟨wr.heap.size + 1, 0, none⟩ 1 1 [.string f.nm] rfl rfl (cell_two _ _ _ _) (by simp [Value.oneCell']) (by unfold maxLen; omega) (by omega) (by simp; omega) ?_; intro v4 w4 hown4 hgrow4 _))
      have hB4 : Below w3.heap.size w3 w4 := (bl_alloc (bl_alloc hB _) _).grown hgrow4 (bl_alloc (bl_alloc hB _) _).size (fun j hj => (World.ownsRow.lt (unhide HO) j hj).1)
      exact ⟨⟨k + 1, by omega, by go_num, by rw [unhide HTN]; exact str_snoc hown4, hB4⟩, by simp [intOf]; omega⟩
    · have hkl' : ¬ (k : Int) < (lst.length : Int) := by omega
      have hke : k = lst.length := by omega
      rw [hke, List.take_length] at HO
      have HE : Hid (RN fs s (sorted (lst.map fun f => f.nm))) := by
        show RN _ _ _
        unfold RN
        rw [unhide HKL]
        exact sorted_rn (unhide HND) rfl
      have hll : (lst.map fun f => f.nm).length ≤ 40 := by simpa using hl40
      have hsl := sorted_len (lst.map fun f => f.nm)
      obtain ⟨na, nc, e1, _⟩ := (unhide HO).at
      subst e1
      generalize (lst.map fun f => f.nm) = ss at *
      go_wp2_with fail
      refine (sort_any w3.heap.size _ ss _ (by omega) (unhide HO)).mono ?_
      rintro e w4 ⟨rfl, hO4, hg4⟩
      have HO4 := hide hO4
      have hB4 := hB.grown hg4 hsB (fun j hj => (World.ownsRow.lt (unhide HO) j hj).1)
      clear hO4 hg4 HO
      go_wp2_with fail
      go_ret
      exact ⟨_, _, rfl, unhide HE, by omega, (unhide HO4).base hB3.size, bl_trans hB3 hB4⟩
end Go.Proofs.Ytnmgeaonhbhbkaa.KeepI
