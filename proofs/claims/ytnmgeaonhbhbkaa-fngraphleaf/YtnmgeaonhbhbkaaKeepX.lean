/- The contract of what is reached, of the program: reachedFrom. -/
import Derived.Test.YtnmgeaonhbhbkaaKeepW
import Derived.RegionTactic
import Derived.BigRegion
namespace Go.Proofs.Ytnmgeaonhbhbkaa.KeepX
open Go.ChangeShapes Go.WideShapes Go.ChangeAt Go.RowKit Go.Joins Go.WideMaps Go.Maps Go.Deep
open Go.Proofs.Ytnmgeaonhbhbkaa.Base Go.Proofs.Ytnmgeaonhbhbkaa.InsA Go.Proofs.Ytnmgeaonhbhbkaa.InsB Go.Proofs.Ytnmgeaonhbhbkaa.Funs Go.Proofs.Ytnmgeaonhbhbkaa.Open Go.Proofs.Ytnmgeaonhbhbkaa.FunS Go.Proofs.Ytnmgeaonhbhbkaa.Keep Go.Proofs.Ytnmgeaonhbhbkaa.UnitS Go.Proofs.Ytnmgeaonhbhbkaa.UnitM Go.Proofs.Ytnmgeaonhbhbkaa.Refs Go.Proofs.Ytnmgeaonhbhbkaa.UU Go.Proofs.Ytnmgeaonhbhbkaa.PickD Go.Proofs.Ytnmgeaonhbhbkaa.PickS Go.Proofs.Ytnmgeaonhbhbkaa.PickM Go.Proofs.Ytnmgeaonhbhbkaa.WantsI Go.Proofs.Ytnmgeaonhbhbkaa.Concat Go.Proofs.Ytnmgeaonhbhbkaa.KeepC Go.Proofs.Ytnmgeaonhbhbkaa.KeepD Go.Proofs.Ytnmgeaonhbhbkaa.KeepQ Go.Proofs.Ytnmgeaonhbhbkaa.KeepP Go.Proofs.Ytnmgeaonhbhbkaa.KeepW
set_option linter.unusedVariables false
set_option maxRecDepth 100000

/-- What the row of a name tells of the one that goes ahead. -/
theorem row_best {us : List (List FunD)} (ha : ∀ u ∈ us, apartF u = true) (s : ByteArray) : (bestE us s = none → rowOf (flat us) s = none) ∧ ∀ x, bestE us s = some x → ∃ k, rowOf (flat us) s = some (x.1, x.2.1, k) := by
  rw [rowOf_hits ha]
  unfold bestE
  exact ⟨fun h => by rw [h]; rfl, fun x h => ⟨_, by rw [h]; rfl⟩⟩
def lenS : Value → Nat
  | .slice _ n _ => n
  | _ => 0
/-- The walk of the program, between two names. -/
def RSt (w w' : World) (us : List (List FunD)) (entry : ByteArray) (B q m n : Nat) (rv nv bv : Value) : Prop :=
  ∃ (ns : List ByteArray) (fs : List FunD) (vs : List (FunD × Value)) (wv : Value), fs.length = n ∧ stK us entry n = (ns, fs) ∧ vs.map Prod.fst = fs ∧ (∀ u ∈ vs, BodyAt w u) ∧ w'.ownsRow w.heap.size 31 3 rv vs.length (vs.flatMap encV) ∧ QAt w' B q m wv ns (ns.drop (n + 1)) (1 + n * 10) ∧ RowMap w' w.heap.size 320 (flat us) ∧ Below w.heap.size w w' ∧ ((∃ h : n < ns.length, nv = .string ns[n] ∧ bv = .bool true) ∨ (ns.length = n ∧ bv = .bool false))
theorem rowMap_step {w w' : World} {b n : Nat} {l : List Ent} (h : RowMap w b n l) (hk : w'.heap[b]? = w.heap[b]?) : RowMap w' b n l := by
  obtain ⟨D, ⟨es, clock, hh, F, hs, hD⟩, hr⟩ := h
  exact ⟨D, ⟨es, clock, hk.trans hh, F, hs, hD⟩, hr⟩
/-- The queue at its beginning. -/
theorem q_start (w1 : World) (entry : ByteArray) : QAt (((w1.alloc (.map #[] 0)).alloc (.cells #[.slice none 0 0, .map (some w1.heap.size)] 81)).alloc (.cells #[.string entry] 9)) w1.heap.size (w1.heap.size + 1) w1.heap.size (.slice none 0 0) [] [] 0 ∧ StrAt (((w1.alloc (.map #[] 0)).alloc (.cells #[.slice none 0 0, .map (some w1.heap.size)] 81)).alloc (.cells #[.string entry] 9)) (.slice (some ⟨w1.heap.size + 1 + 1, 0, none⟩) 1 1) [entry] ∧ Below w1.heap.size w1 (((w1.alloc (.map #[] 0)).alloc (.cells #[.slice none 0 0, .map (some w1.heap.size)] 81)).alloc (.cells #[.string entry] 9)) := by
  have n1 := new_block (w1.alloc (.map #[] 0)) (.cells #[.slice none 0 0, .map (some w1.heap.size)] 81)
  rw [World.size_alloc] at n1
  have n2 := new_block ((w1.alloc (.map #[] 0)).alloc (.cells #[.slice none 0 0, .map (some w1.heap.size)] 81)) (.cells #[.string entry] 9)
  rw [World.size_alloc, World.size_alloc] at n2
  refine ⟨⟨box_below n1 (below_alloc1 _ _), by omega, Nat.le_refl _, .inl ⟨rfl, rfl⟩, map_below (map_below (World.ownsMap_made _ _ _ _) (below_alloc1 _ _)) (below_alloc1 _ _)⟩, ⟨_, 1, rfl, Nat.le_refl _, by unfold maxLen; omega, .inr ⟨_, 0, rfl, fun i hi => ?_⟩⟩, below_alloc3 _ _ _ _⟩
  have hi0 : i = 0 := by simpa using hi
  subst hi0
  rw [cell_of_block n2]; rfl
theorem drop_one (ns : List ByteArray) {n : Nat} (h : n < ns.length) : ns.drop n = ns[n] :: ns.drop (n + 1) := List.drop_eq_getElem_cons h
/-- Behind 'put': all that is put in is behind what waits. -/
theorem put_all {w w' : World} {B q m n : Nat} {wv v : Value} {ns ws rs : List ByteArray} (h : QPut w w' B q m wv v ns ws rs n rs.length) : ∃ wv' t, addN ns rs = ns ++ t ∧ QAt w' B q m wv' (addN ns rs) (ws ++ t) (n + rs.length) ∧ (wv'.ownBlock = wv.ownBlock ∨ ∃ g, wv'.ownBlock = some g ∧ w.heap.size ≤ g) ∧ QStep q m wv.ownBlock w w' := by
  obtain ⟨wv', t, h1, h2, h3, h4, h5, h6⟩ := h
  rw [List.take_length] at h1
  exact ⟨wv', t, h1, by rw [h1]; exact h2, h4, h6⟩
theorem addN_one (s : ByteArray) : addN [] [s] = [s] := rfl
theorem qown {w : World} {B q m n : Nat} {wv : Value} {ns ws : List ByteArray} (h : QAt w B q m wv ns ws n) : ∀ j, wv.ownBlock = some j → B ≤ j := fun j hj => (h.2.2.2.1.blk j hj).1
/-- Where the queue steps, a row of functions stands. -/
theorem row_qstep {w w' : World} {B C q m n : Nat} {wv rv : Value} {ns ws : List ByteArray} {xs : List Value} {k : Nat} (hq : QAt w B q m wv ns ws n) (h : w.ownsRow C 31 3 rv k xs) {g : Option Nat} (hs : QStep q m g w w') (hg : g = none ∨ g = wv.ownBlock) : w'.ownsRow C 31 3 rv k xs := by
  obtain ⟨h0, h1 | ⟨b, cap, cur, hv, hB, hb, hr⟩⟩ := h
  · exact ⟨h0, .inl h1⟩
  · refine ⟨h0, .inr ⟨b, cap, cur, hv, hB, ?_, hr⟩⟩
    obtain ⟨es, c, hm⟩ := set_blk hq.2.2.2.2
    rw [hs.block b (Array.getElem?_eq_some_iff.1 hb).1 (fun e => by rw [e, hq.1] at hb; simp at hb) (fun e => by rw [e, hm] at hb; cases hb) (fun e => by
      rcases hg with rfl | rfl
      · cases e
      · obtain ⟨_, D, hD⟩ := hq.2.2.2.1.blk b e
        rw [hD] at hb; simp at hb)]
    exact hb
theorem q_mono {w : World} {B q m n k : Nat} {wv : Value} {ns ws : List ByteArray} (h : QAt w B q m wv ns ws n) (hn : n ≤ k) : QAt w B q m wv ns ws k := ⟨h.1, h.2.1, h.2.2.1, h.2.2.2.1, ownsMap_mono h.2.2.2.2 hn⟩
theorem row_fun {w : World} {C k : Nat} {rv : Value} {xs : List Value} (h : w.ownsRow C 31 3 rv k xs) : ∀ j, rv.ownBlock = some j → C ≤ j ∧ j < w.heap.size ∧ ∃ D, w.heap[j]? = some (.cells D 31 (0, 0)) := fun j hj => by
  obtain ⟨l1, l2⟩ := World.ownsRow.lt h j hj
  obtain ⟨_, ⟨rfl, _⟩ | ⟨g, cap, cur, rfl, _, hb, _⟩⟩ := h
  · cases hj
  · cases hj; exact ⟨l1, l2, cur, hb⟩
/-- Behind the append of the function. -/
theorem after_append {w wr W2 w3 : World} {B q m n k F : Nat} {wv rv c0 c1 c2 : Value} {ns ws : List ByteArray} {xs : List Value} {l : List Ent} {o : Obj} (hO : wr.ownsRow w.heap.size 31 3 rv k xs) (hQ : QAt wr B q m wv ns ws n) (hM : RowMap wr w.heap.size 320 l) (hB : Below w.heap.size w wr) (hw2 : Below wr.heap.size wr W2) (hF : W2.heap[F]? = some (.cells #[c0, c1, c2] 31)) (hFr : wr.heap.size ≤ F) (hg : (W2.alloc o).grownBy w3 rv.ownBlock) :
    QAt w3 B q m wv ns ws n ∧ RowMap w3 w.heap.size 320 l ∧ (w3.cell? ⟨F, 0, none⟩ = some c0 ∧ w3.cell? ⟨F, 1, none⟩ = some c1 ∧ w3.cell? ⟨F, 2, none⟩ = some c2) ∧ Below w.heap.size w w3 := by
  have hO2 := row_below hO hw2
  have hw3 := bl_alloc hw2 o
  have hOa := row_below hO hw3
  have hQa := hQ.below hw3
  have hMa := RowMap.below hM hw3
  have z2 := hw2.size
  refine ⟨hQa.grown hg (fun j hj _ => (row_fun hOa j hj).2.2), ?_, ?_, ?_⟩
  · refine rowMap_step hMa (hg.block _ ?_ (fun e => ?_))
    · obtain ⟨D, ⟨es, clock, hh, _⟩, _⟩ := hMa
      exact (Array.getElem?_eq_some_iff.1 hh).1
    · obtain ⟨D, ⟨es, clock, hh, _⟩, _⟩ := hMa
      obtain ⟨_, _, E, hE⟩ := row_fun hOa _ e.symm
      rw [hE] at hh; cases hh
  · have hb : w3.heap[F]? = some (.cells #[c0, c1, c2] 31) := by
      have hFl : F < W2.heap.size := (Array.getElem?_eq_some_iff.1 hF).1
      rw [hg.block F (by simp; omega) (fun e => by have := (row_fun hO F e.symm).2.1; omega)]
      exact box_below hF (below_alloc1 _ o)
    exact (box3 hb).1
  · exact (bl_trans hB hw3).grown hg (bl_trans hB hw3).size (fun j hj => (row_fun hO j hj).1)
/-- Behind 'put' of what it names. -/
theorem after_put {w w4 w5 : World} {q m n k nn : Nat} {wv rv sv : Value} {ns rs : List ByteArray} {xs : List Value} {l : List Ent} (hmw : w.heap.size < m) (hmq : m ≤ q) (hO : w4.ownsRow w.heap.size 31 3 rv k xs) (hQ : QAt w4 m q m wv ns (ns.drop nn) n) (hM : RowMap w4 w.heap.size 320 l) (hB : Below w.heap.size w w4) (hnn : nn ≤ ns.length) (hp : QPut w4 w5 m q m wv sv ns (ns.drop nn) rs n rs.length) :
    ∃ wv', QAt w5 m q m wv' (addN ns rs) ((addN ns rs).drop nn) (n + rs.length) ∧ w5.ownsRow w.heap.size 31 3 rv k xs ∧ RowMap w5 w.heap.size 320 l ∧ Below w.heap.size w w5 := by
  obtain ⟨wv', t, h1, h2, h3, h4⟩ := put_all hp
  refine ⟨wv', ?_, row_qstep hQ hO h4 (.inr rfl), rowMap_step hM ?_, QStep.down hB h4 hB.size (by omega) (by omega) (fun j hj => by have := qown hQ j hj; omega)⟩
  · have e : (addN ns rs).drop nn = ns.drop nn ++ t := by rw [h1, List.drop_append_of_le_length hnn]
    rw [e]; exact h2
  · obtain ⟨D, ⟨es, clock, hh, _⟩, _⟩ := hM
    exact h4.block _ (Array.getElem?_eq_some_iff.1 hh).1 (by omega) (by omega) (fun e => by have := qown hQ _ e; omega)
/-- Behind 'next': between two names again. -/
theorem after_some {w w5 w6 : World} {us : List (List FunD)} {entry s : ByteArray} {q m n : Nat} {wv wv6 rv : Value} {ns t : List ByteArray} {fs : List FunD} {vs : List (FunD × Value)} (hmw : w.heap.size < m) (hmq : m ≤ q) (hn : fs.length = n) (hst : stK us entry n = (ns, fs)) (hv : vs.map Prod.fst = fs) (hbd : ∀ u ∈ vs, BodyAt w u) (hO : w5.ownsRow w.heap.size 31 3 rv vs.length (vs.flatMap encV)) (hQ5 : QAt w5 m q m wv ns (ns.drop n) (1 + n * 10)) (hM : RowMap w5 w.heap.size 320 (flat us)) (hB : Below w.heap.size w w5) (hd : ns.drop n = s :: t) (hQ : QAt w6 m q m wv6 ns t (1 + n * 10)) (hs : QStep q m none w5 w6) : RSt w w6 us entry m q m n rv (.string s) (.bool true) := by
  have hlt : n < ns.length := by
    rcases Nat.lt_or_ge n ns.length with h | h
    · exact h
    · rw [List.drop_of_length_le h] at hd; cases hd
  have hd2 := drop_one ns hlt
  rw [hd] at hd2
  injection hd2 with e1 e2
  refine ⟨ns, fs, vs, wv6, hn, hst, hv, hbd, row_qstep hQ5 hO hs (.inl rfl), by rw [← e2]; exact hQ, rowMap_step hM ?_, QStep.down hB hs hB.size (by omega) (by omega) (fun j hj => by cases hj), .inl ⟨hlt, by rw [e1], rfl⟩⟩
  obtain ⟨D, ⟨es, clock, hh, _⟩, _⟩ := hM
  exact hs.block _ (Array.getElem?_eq_some_iff.1 hh).1 (by omega) (by omega) (fun e => by cases e)
theorem after_none {w w5 : World} {us : List (List FunD)} {entry : ByteArray} {q m n : Nat} {wv rv nv : Value} {ns : List ByteArray} {fs : List FunD} {vs : List (FunD × Value)} (hn : fs.length = n) (hle : n ≤ ns.length) (hst : stK us entry n = (ns, fs)) (hv : vs.map Prod.fst = fs) (hbd : ∀ u ∈ vs, BodyAt w u) (hO : w5.ownsRow w.heap.size 31 3 rv vs.length (vs.flatMap encV)) (hQ5 : QAt w5 m q m wv ns (ns.drop n) (1 + n * 10)) (hM : RowMap w5 w.heap.size 320 (flat us)) (hB : Below w.heap.size w w5) (hd : ns.drop n = []) : RSt w w5 us entry m q m n rv nv (.bool false) := by
  have hl : ns.length = n := by have := List.drop_eq_nil_iff.1 hd; omega
  refine ⟨ns, fs, vs, wv, hn, hst, hv, hbd, hO, ?_, hM, hB, .inr ⟨hl, rfl⟩⟩
  rw [hd] at hQ5
  rw [List.drop_of_length_le (by omega)]
  exact hQ5
set_option maxHeartbeats 8000000 in
theorem reached_any (a : Option Addr) (cap : Nat) (us : List (List FunD)) (entry : ByteArray) (w : World) (hes : entry.size ≤ maxLen) (hcap : us.length ≤ cap) (hcm : cap ≤ maxLen) (hsm : Small us) (h8 : us.length ≤ 8) (h40 : ∀ u ∈ us, u.length ≤ 40) (hok : ∀ f ∈ us.flatten, funOkB f.nm f.body = true) (hap : ∀ u ∈ us, apartF u = true) (hR : UnitRow w a us) :
    Calls Try.prog 33 #[.slice a us.length cap, .string entry] w (WalkEnd w (walkB us entry)) := by
  have HR := hide hR
  have HSM := hide hsm
  have HOK := hide hok
  have HRB := hide (row_best hap)
  have hfew := hsm.few
  clear hR hsm hok
  obtain ⟨i1, hi1, hy0, hy1, hy2⟩ := info_fun
  have hmm := @run_makeMap Try.prog
  go_enter Try.func33, Try.ntmps33
  go_wp2_with fail
  refine (rows_any a cap us _ hcap hcm h8 h40 (unhide HR)).mono ?_
  rintro e w1 ⟨rfl, hM, hb1⟩
  have HM := hide hM
  have hs1 := hb1.size
  have hsw : w.heap.size < w1.heap.size := by
    obtain ⟨D, ⟨es, clock, hh, _⟩, _⟩ := hM
    exact (Array.getElem?_eq_some_iff.1 hh).1
  clear hM
  go_wp2_with fail
  clear hmm
  obtain ⟨hq0, hst0, hbs0⟩ := q_start w1 entry
  have hz0 : w1.heap.size ≤ (((w1.alloc (.map #[] 0)).alloc (.cells #[.slice none 0 0, .map (some w1.heap.size)] 81)).alloc (.cells #[.string entry] 9)).heap.size := hbs0.size
  refine (qput_any w1.heap.size (w1.heap.size + 1) w1.heap.size 0 _ _ [] [] [entry] _ hz0 (by simp) (by omega) (by simp) (fun s hs => by rw [List.mem_singleton.1 hs]; exact hes) (.inr (by simp [Value.ownBlock])) (fun g hg => by cases hg; simp) hq0 hst0).mono ?_
  rintro e w2 ⟨rfl, hput⟩
  obtain ⟨wv2, t2, ht2, hq2, hown2, hst2⟩ := put_all hput
  rw [addN_one] at hq2 ht2
  rw [List.nil_append] at ht2 hq2
  rw [← ht2] at hq2
  have hB2 : Below w1.heap.size w1 w2 := QStep.down hbs0 hst2 hz0 (by omega) (Nat.le_refl _) (fun j hj => by cases hj)
  have HM2 := hide (RowMap.below (unhide HM) hB2)
  have HQ2 := hide hq2
  have hBw2 := bl_trans hb1 hB2
  obtain ⟨q, hq⟩ : ∃ q, q = w1.heap.size + 1 := ⟨_, rfl⟩
  obtain ⟨m, hm⟩ : ∃ m, m = w1.heap.size := ⟨_, rfl⟩
  rw [← hq]
  rw [← hq] at HQ2
  have hmw : w.heap.size < m := by omega
  have hmq : m ≤ q := by omega
  rw [← hm] at HQ2
  replace HM2 : Hid (RowMap w2 w.heap.size 320 (flat us)) := HM2
  clear hq0 hst0 hbs0 hz0 hput hq2 hst2 hown2 HM ht2 hB2 hq hm hs1 hsw hb1
  go_wp2_with fail
  refine (qnext_some m q m 1 wv2 [entry] [] entry _ (unhide HQ2)).mono ?_
  rintro e w3 ⟨rfl, wv3, hq3, hown3, hst3⟩
  have hB3 : Below w.heap.size w w3 := QStep.down hBw2 hst3 hBw2.size (by omega) (by omega) (fun j hj => by cases hj)
  have hm3 : w3.heap[w.heap.size]? = w2.heap[w.heap.size]? := by
    obtain ⟨D, ⟨es, clock, hh, _⟩, _⟩ := unhide HM2
    exact hst3.block _ (Array.getElem?_eq_some_iff.1 hh).1 (by omega) (by omega) (fun e => by cases e)
  have HS3 : Hid (RSt w w3 us entry m q m 0 (.slice none 0 0) (.string entry) (.bool true)) := ⟨[entry], [], [], wv3, rfl, rfl, rfl, (fun u hu => by cases hu), World.ownsRow_nil _ _ _ _, hq3, rowMap_step (unhide HM2) hm3, hB3, .inl ⟨by simp, rfl, rfl⟩⟩
  clear hq3 hst3 HQ2 HM2 hown3 hB3 hBw2 hm3
  go_wp2_with fail
  go_loopw [8, 9, 10] (fun rv nv bv w' => ∃ n, RSt w w' us entry m q m n rv nv bv) (fun rv _ _ _ => flen us + 1 - lenS rv)
  case atStart => exact ⟨0, unhide HS3⟩
  case round =>
    obtain ⟨n, ns, fs, vs, wv, hn, hst, hv, hbd, hO, hQ, hM, hB, hnow⟩ := hrel
    have HST := hide hst
    have HV := hide hv
    have HBD := hide hbd
    have HO := hide hO
    have HQ := hide hQ
    have HM := hide hM
    obtain ⟨hnF, hnl, hnn, hns⟩ := st_facts (unhide HSM) hes hst hn
    have HNS := hide hns
    have hvl : vs.length = n := by rw [← hn, ← hv, List.length_map]
    have HVL := hide hvl
    have hv5 : vs.length ≤ 500 := by omega
    obtain ⟨oa, oc, eo⟩ := row_form hO
    subst eo
    clear hst hv hbd hO hQ hM hns HS3 hvl
    rcases hnow with ⟨hlt, rfl, rfl⟩ | ⟨hlt, rfl⟩
    · have hsn := unhide HNS ns[n] (List.getElem_mem _)
      have hsq : ns[n]? = some ns[n] := List.getElem?_eq_getElem hlt
      obtain ⟨hb0, hb1'⟩ := unhide HRB ns[n]
      have HWN := hide (walk_stuck (unhide HST) hn hsq)
      have HWS := hide (fun x => walk_step (x := x) (unhide HST) hn hsq)
      clear hsq
      generalize ns[n] = s at *
      cases hbe : bestE us s with
      | none =>
        have HT := hide (hb0 hbe)
        have HW := hide (unhide HWN hbe)
        clear hb0 hb1' HWN HWS
        go_wp2_with (first
          | (at_lookup; refine wp_look_ok rfl _ _ 78 rfl Try.underlying78 (zeroRow _) w.heap.size 320 (flat us) rfl (unhide HM) s rfl hsn ?_; rw [unhide HT]; simp only [orNone, rowVal, Option.getD_none, Option.isSome_none]))
        go_ret2
        exact ⟨_, _, rfl, by rw [unhide HW]; exact ⟨rfl, rfl⟩, bl_alloc hB _⟩
      | some x =>
        obtain ⟨k3, hT⟩ := hb1' x hbe
        have HT := hide hT
        have HW := hide (unhide HWS x hbe)
        have hxf := (best_flat hbe).1
        have hfo := unhide HOK _ hxf
        have h10 := fun_le hfo
        have HXS := hide (refs_sized ((unhide HSM).size _ hxf))
        have HFR : Hid (funRefs x.2.2.nm x.2.2.body = refsOf x.2.2.body) := by show _ = _; simp [funRefs, hfo]
        have hrl := refs_len x.2.2.body
        obtain ⟨ub, uo, rfl⟩ := (unhide HR).get (best_ne hbe)
        obtain ⟨bu, ou, lu, cu, ai, ci, u00, hxi, hxk, d00, d10, d20, k1, k2, k3', k4⟩ := best_cells (unhide HR) hbe
        have HK4 := hide k4
        have HBX : Hid (BodyAt w (x.2.2, .slice ai x.2.2.body.length ci)) := ⟨ai, ci, rfl, k1, k2, k3', k4⟩
        clear hb0 hb1' HWN HWS k4 hbe hxf hT
        obtain ⟨x1, x2, f⟩ := x
        simp only at *
        have hxi' : (x1 : Int) < (us.length : Int) := by omega
        have hxk' : (x2 : Int) < (lu : Int) := by omega
        have hB1 := bl_alloc hB (.cells #[.int .i64 x1, .int .i64 x2, .int .i64 k3] 85)
        have u0 := (Stable.cell ⟨ub, uo + x1, none⟩ (.slice (some ⟨bu, ou, none⟩) lu cu)).1 _ _ hB1 u00
        have d0 := (Stable.cell ⟨bu, ou + x2 * 3, none⟩ (.string f.nm)).1 _ _ hB1 d00
        have d1 := (Stable.cell ⟨bu, ou + x2 * 3 + 1, none⟩ (.bool f.wk)).1 _ _ hB1 d10
        have d2 := (Stable.cell ⟨bu, ou + x2 * 3 + 2, none⟩ (.slice ai f.body.length ci)).1 _ _ hB1 d20
        obtain ⟨⟨p0, p1, _⟩, _⟩ := box3 (new_block wr (.cells #[.int .i64 x1, .int .i64 x2, .int .i64 k3] 85))
        clear u00 d00 d10 d20
        go_wp2_with (first
          | (at_lookup; refine wp_look_ok rfl _ _ 78 rfl Try.underlying78 (zeroRow _) w.heap.size 320 (flat us) rfl (unhide HM) s rfl hsn ?_; rw [unhide HT]; simp only [orNone, rowVal, Option.getD_some, Option.isSome_some]))
        obtain ⟨W, hW⟩ : ∃ W, W = wr.alloc (.cells #[.int .i64 x1, .int .i64 x2, .int .i64 k3] 85) := ⟨_, rfl⟩
        rw [← hW]
        rw [← hW] at hB1 u0 d0 d1 d2 p0 p1
        have HW0 := hide hW
        clear hW
        have p0' := (Stable.cell ⟨wr.heap.size, 0, none⟩ (.int .i64 x1)).alloc p0 (.cells #[.string ⟨#[]⟩, .bool false, .slice none 0 0] 31)
        have p1' := (Stable.cell ⟨wr.heap.size, 1, none⟩ (.int .i64 x2)).alloc p1 (.cells #[.string ⟨#[]⟩, .bool false, .slice none 0 0] 31)
        have u0' := (Stable.cell ⟨ub, uo + x1, none⟩ (.slice (some ⟨bu, ou, none⟩) lu cu)).alloc u0 (.cells #[.string ⟨#[]⟩, .bool false, .slice none 0 0] 31)
        have d0' := (Stable.cell ⟨bu, ou + x2 * 3, none⟩ (.string f.nm)).alloc d0 (.cells #[.string ⟨#[]⟩, .bool false, .slice none 0 0] 31)
        have d1' := (Stable.cell ⟨bu, ou + x2 * 3 + 1, none⟩ (.bool f.wk)).alloc d1 (.cells #[.string ⟨#[]⟩, .bool false, .slice none 0 0] 31)
        have d2' := (Stable.cell ⟨bu, ou + x2 * 3 + 2, none⟩ (.slice ai f.body.length ci)).alloc d2 (.cells #[.string ⟨#[]⟩, .bool false, .slice none 0 0] 31)
        go_big_region
        obtain ⟨F, hF⟩ : ∃ F, F = W.heap.size := ⟨_, rfl⟩
        obtain ⟨W2, hW2⟩ : ∃ W2, W2 = (W.alloc (.cells #[.string f.nm, .bool f.wk, .slice ai f.body.length ci] 31)).drew := ⟨_, rfl⟩
        rw [← hW2, ← hF]
        have HF2 : Hid (W2.heap[F]? = some (.cells #[.string f.nm, .bool f.wk, .slice ai f.body.length ci] 31)) := by show _ = _; rw [hW2, hF]; exact new_block W _
        have HW2 : Hid (Below wr.heap.size wr W2) := by show Below _ _ _; rw [hW2, unhide HW0]; exact (bl_alloc (below_alloc1 wr _) _).drew
        have hFr : wr.heap.size ≤ F := by rw [hF, unhide HW0]; simp
        obtain ⟨⟨e0, e1, e2⟩, _⟩ := box3 (unhide HF2)
        have HO2 := hide (row_below (unhide HO) (unhide HW2))
        have hs2 : w.heap.size ≤ W2.heap.size := Nat.le_trans hB.size (unhide HW2).size
        clear hF hW2 HW0 hB1 u0 d0 d1 d2 p0 p1 u0' d0' d1' d2' p0' p1' HT
        clear W
        go_wp2_with (first
          | (at_builtin; refine wpList_append_own_at _ rfl _ _ 23 rfl w.heap.size 31 i1 (.agg #[.string ⟨#[]⟩, .bool false, .slice none 0 0]) 3 48 Try.underlying23 hi1 hy0 hy1 hy2 rfl (by decide) _ vs.length (vs.flatMap encV) rfl (World.ownsRow.alloc (unhide HO2) _) ⟨W2.heap.size, 0, none⟩ 1 1 (encV (f, .slice ai f.body.length ci)) rfl rfl (funV_new W2 (f, .slice ai f.body.length ci)) (by simp [encV, Value.oneCell']) (by unfold maxLen; omega) (by omega) (by simp; omega) ?_; intro v3 w3 hown3 hgrow3 _ _; obtain ⟨hQ3, hM3, ⟨g0, g1, g2⟩, hB3⟩ := after_append (unhide HO) (unhide HQ) (unhide HM) hB (unhide HW2) (unhide HF2) hFr hgrow3; have HQ3 := hide hQ3; have HM3 := hide hM3; have HO3 := hide (vals_snoc hown3); clear hQ3 hM3 hown3 hgrow3 e0 e1 e2))
        have HV' : Hid ((vs ++ [(f, Value.slice ai f.body.length ci)]).map Prod.fst = fs ++ [f]) := by show _ = _; rw [List.map_append, unhide HV]; rfl
        have HBD' := hide (body_append (unhide HBD) (fun u hu => by rw [List.mem_singleton.1 hu]; exact unhide HBX))
        have hvl' : (vs ++ [(f, Value.slice ai f.body.length ci)]).length = n + 1 := by rw [List.length_append, unhide HVL]; rfl
        have HVL' := hide hvl'
        obtain ⟨a3, c3, e3⟩ := row_form (unhide HO3)
        subst e3
        have hwv3 : ∀ j, wv.ownBlock = some j → j < w3.heap.size := fun j hj => by
          obtain ⟨_, D, hD⟩ := (unhide HQ3).2.2.2.1.blk j hj
          exact (Array.getElem?_eq_some_iff.1 hD).1
        have hmw3 : m ≤ w3.heap.size := by
          have := (Array.getElem?_eq_some_iff.1 (unhide HQ3).1).1
          have := (unhide HQ3).2.1
          omega
        clear HO HQ HM HO2 HW2 HF2 hFr hB hvl' HBD HBX HV hv5
        generalize vs ++ [(f, Value.slice ai f.body.length ci)] = vs' at *
        refine (implFunRefs_any f.nm f.wk ai ci f.body _ k1 k2 k3' ((unhide HK4).below hB3)).mono ?_
        rintro e w4 ⟨sv, rfl, hSV, hw4⟩
        rw [unhide HFR] at hSV
        have HSV := hide hSV
        have hB4 := bl_trans hB3 hw4
        have HQ4 := hide ((unhide HQ3).below hw4)
        have HM4 := hide (RowMap.below (unhide HM3) hw4)
        have HO4 := hide (row_below (unhide HO3) hw4)
        have hmw4 := Nat.le_trans hmw3 hw4.size
        have HNE : Hid (sv.ownBlock = none ∨ sv.ownBlock ≠ wv.ownBlock) := by
          cases hsb : sv.ownBlock with
          | none => exact .inl rfl
          | some g => exact .inr (fun e => by have l1 := (World.ownsRow.lt hSV g hsb).1; have l2 := hwv3 g e.symm; omega)
        have HSL : Hid (∀ g, sv.ownBlock = some g → g < w4.heap.size) := fun g hg => (World.ownsRow.lt hSV g hg).2
        clear HQ3 HM3 HO3 hSV hB3 hw4 g0 g1 g2 hwv3 hmw3 HK4
        have hdl : (ns.drop (n + 1)).length ≤ 100000 := by rw [List.length_drop]; omega
        have hnn1 : 1 + n * 10 ≤ 100000 := by omega
        generalize refsOf f.body = rs at *
        go_wp2_with fail
        refine (qput_any m q m (1 + n * 10) wv sv ns (ns.drop (n + 1)) rs _ hmw4 hdl hnn1 (by omega) (unhide HXS) (unhide HNE) (unhide HSL) (unhide HQ4) (unhide HSV).at).mono ?_
        rintro e w5 ⟨rfl, hput⟩
        obtain ⟨wv5, hQ5, hO5, hM5, hB5⟩ := after_put hmw hmq (unhide HO4) (unhide HQ4) (unhide HM4) hB4 (by omega) hput
        have hQ5' := q_mono (k := 1 + (n + 1) * 10) hQ5 (by omega)
        have HQ5 := hide hQ5'
        have HO5 := hide hO5
        have HM5 := hide hM5
        have HFL : Hid ((fs ++ [f]).length = n + 1) := by show _ = _; rw [List.length_append, hn]; rfl
        obtain ⟨hnF', hnl', _, _⟩ := st_facts (unhide HSM) hes (unhide HW) (unhide HFL)
        clear hput hQ5 hQ5' hO5 hM5 HQ4 HM4 HO4 HSV HNE HSL hB4
        cases hd : (addN ns rs).drop (n + 1) with
        | nil =>
          have HE : Hid (RSt w w5 us entry m q m (n + 1) (.slice a3 vs'.length c3) (.string ⟨#[]⟩) (.bool false)) := after_none (unhide HFL) hnl' (unhide HW) (unhide HV') (unhide HBD') (unhide HO5) (unhide HQ5) (unhide HM5) hB5 hd
          rw [hd] at HQ5
          go_wp2_with fail
          refine (qnext_none m q m _ wv5 _ _ (unhide HQ5)).mono ?_
          rintro e w6 ⟨rfl, rfl⟩
          go_wp2_with fail
          exact ⟨⟨n + 1, unhide HE⟩, by simp only [lenS]; rw [unhide HVL', unhide HVL]; omega⟩
        | cons s' t' =>
          have HE := hide (fun w6 wv6 => after_some (w6 := w6) (wv6 := wv6) hmw hmq (unhide HFL) (unhide HW) (unhide HV') (unhide HBD') (unhide HO5) (unhide HQ5) (unhide HM5) hB5 hd)
          rw [hd] at HQ5
          go_wp2_with fail
          refine (qnext_some m q m _ wv5 _ t' s' _ (unhide HQ5)).mono ?_
          rintro e w6 ⟨rfl, wv6, hQ6, _, hst6⟩
          have HE6 := hide (unhide HE w6 wv6 hQ6 hst6)
          clear HE hQ6 hst6
          go_wp2_with fail
          exact ⟨⟨n + 1, unhide HE6⟩, by simp only [lenS]; rw [unhide HVL', unhide HVL]; omega⟩
    · have HW := hide (walk_done (unhide HST) hn hlt)
      go_wp2_with fail
      go_ret2
      exact ⟨_, _, rfl, by rw [unhide HW]; exact ⟨rfl, vs, unhide HV, unhide HBD, unhide HO⟩, hB⟩
end Go.Proofs.Ytnmgeaonhbhbkaa.KeepX
