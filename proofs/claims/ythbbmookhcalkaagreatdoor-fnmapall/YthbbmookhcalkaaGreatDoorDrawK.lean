/- The contracts of the specification's l4Close: units with a function more for each name that is wanted. -/
import Derived.Test.YthbbmookhcalkaaGreatDoorDrawLit
import Derived.Test.YthbbmookhcalkaaGreatDoorPWants
import Derived.Lib.AppendZeros
import Derived.Deep.AppendSrc
import Derived.Deep.Upon
namespace Go.Proofs.YthbbmookhcalkaaGreatDoor.DrawK
open Go.ChangeShapes Go.WideShapes Go.ChangeAt Go.RowKit Go.Joins Go.Deep
open Go.Proofs.YthbbmookhcalkaaGreatDoor.Base Go.Proofs.YthbbmookhcalkaaGreatDoor.InsA Go.Proofs.YthbbmookhcalkaaGreatDoor.Funs Go.Proofs.YthbbmookhcalkaaGreatDoor.Open Go.Proofs.YthbbmookhcalkaaGreatDoor.FunS Go.Proofs.YthbbmookhcalkaaGreatDoor.Keep Go.Proofs.YthbbmookhcalkaaGreatDoor.UnitS Go.Proofs.YthbbmookhcalkaaGreatDoor.Rd Go.Proofs.YthbbmookhcalkaaGreatDoor.DrawIns Go.Proofs.YthbbmookhcalkaaGreatDoor.DrawFun Go.Proofs.YthbbmookhcalkaaGreatDoor.DrawUnit Go.Proofs.YthbbmookhcalkaaGreatDoor.DrawUnitB Go.Proofs.YthbbmookhcalkaaGreatDoor.DrawBent Go.Proofs.YthbbmookhcalkaaGreatDoor.UU Go.Proofs.YthbbmookhcalkaaGreatDoor.DrawUU Go.Proofs.YthbbmookhcalkaaGreatDoor.DrawThin Go.Proofs.YthbbmookhcalkaaGreatDoor.DrawLit Go.Proofs.YthbbmookhcalkaaGreatDoor.PickD Go.Proofs.YthbbmookhcalkaaGreatDoor.PWants
open Go.Proofs.YthbbmookhcalkaaGreatDoor.Refs (StrAt StrOwn StrOwn.below StrOwn.at str_made str_snoc infoStr hasB specHas_any refsOf)
open Go.Proofs.YthbbmookhcalkaaGreatDoor.WantsL (bl srt bodyRefs)
set_option linter.unusedVariables false
set_option maxRecDepth 100000

/-- 'append([][]Fun{}, units...)'. -/
theorem units_copy {w : World} {B E : Nat} {v0 : Value} {vs : List UnitV} (h : UnitsOwn w B E v0 vs) (hl : vs.length ≤ 1000) (ty : TypeId) :
    ∃ a c w', (Builtin.append_ #[140, 140] ty #[.slice (some ⟨w.heap.size, 0, none⟩) 0 0, v0]).run Tryz.prog (w.alloc (.cells #[] 23)) = .ok (.slice a vs.length c) w' ∧ UnitsOwn w' w.heap.size w'.heap.size (.slice a vs.length c) vs ∧ Below w.heap.size w w' := by
  obtain ⟨i, hi, hz0, hz1, hz2⟩ := info_parts infoUnitP
  have h0 : (w.alloc (.cells #[] 23)).ownsRow w.heap.size 23 1 (.slice (some ⟨w.heap.size, 0, none⟩) 0 0) 0 [] := ⟨by simp, .inr ⟨_, _, _, rfl, Nat.le_refl _, new_block w _, Nat.le_refl _, Nat.zero_le _, rfl, rfl⟩⟩
  have fin : ∀ (v' : Value) (w' : World), w'.ownsRow w.heap.size 23 1 v' vs.length (vs.map Prod.snd) → (w.alloc (.cells #[] 23)).grownBy w' (some w.heap.size) → UnitsOwn w' w.heap.size w'.heap.size v' vs ∧ Below w.heap.size w w' := fun v' w' ho hg => by
    have hb : Below w.heap.size w w' := (below_alloc1 w _).grown hg (by simp) (fun j hj => by cases hj; exact Nat.le_refl _)
    refine ⟨⟨ho, fun u hu => ?_⟩, hb⟩
    obtain ⟨S, h1, h2⟩ := h.2 u hu
    have h3 := h1.step (w' := w') (fun k hk => hb.block k (h1.1 k hk).lt)
    exact ⟨S, h3, fun k hk => (h3.1 k hk).lt⟩
  obtain ⟨hl0, ⟨rfl, hz⟩ | ⟨g, cap, cur, rfl, hB, hg, hn, hm, hs, ht⟩⟩ := h.1
  · have hnil : vs = [] := List.length_eq_zero_iff.1 hz
    subst hnil
    have hr := run_append_nothing (w.alloc (.cells #[] 23)) 140 140 ty 23 i Tryz.underlying140 hi (some ⟨w.heap.size, 0, none⟩) 0 0 (Nat.le_refl _) _ (Src.ofNil (w.alloc (.cells #[] 23)) Tryz.underlying140 0)
    exact ⟨_, _, _, hr, fin _ _ h0 (World.grownBy.refl _ _)⟩
  · have hcells : ∀ j u, (vs.map Prod.snd)[j]? = some u → (w.alloc (.cells #[] 23)).cell? ((⟨g, 0, none⟩ : Addr).add j) = some u := fun j u hj => by
      have := World.ownsRow.cells (World.ownsRow.alloc h.1 (.cells #[] 23)) (g := g) rfl j u hj
      exact this
    obtain ⟨v', w', hr, ho, hgr, _, _⟩ := run_append_own_at (P := Tryz.prog) (w.alloc (.cells #[] 23)) w.heap.size 140 ty 23 i _ 1 24 Tryz.underlying140 hi hz0 hz1 hz2 rfl (by decide) (.slice (some ⟨w.heap.size, 0, none⟩) 0 0) 0 [] h0 ⟨g, 0, none⟩ vs.length cap (vs.map Prod.snd) (by simp) hcells (fun u hu => by
      obtain ⟨x, hx, rfl⟩ := List.mem_map.1 hu
      obtain ⟨S, ⟨_, _, ai, ci, e, _⟩, _⟩ := h.2 x hx
      rw [e]; rfl) (by unfold maxLen; omega) (by omega) (by simp)
    rw [Nat.zero_add, List.nil_append] at ho
    obtain ⟨a, c, e⟩ := own_form ho
    subst e
    exact ⟨_, _, _, hr, fin _ _ ho hgr⟩
/-- One function as a unit. -/
theorem unit_single {w : World} {S : Nat → Prop} {g : Nat} {f : FunD} {bv : Value} (hg : w.heap[g]? = some (.cells #[.string f.nm, .bool f.wk, bv] 28 (0, 0))) (hF : FunIn w S (f, bv)) (hS : ∀ k, S k → IsFI w k) : UnitIn w (fun k => S k ∨ k = g) [(f, bv)] (.slice (some ⟨g, 0, none⟩) 1 1) := by
  refine ⟨fun k hk => hk.elim (hS k) (fun e => by subst e; exact ⟨_, .inl hg⟩), fun x hx => by rw [List.mem_singleton.1 hx]; exact hF.mono (fun k hk => .inl hk), _, 1, rfl, Nat.le_refl _, by unfold maxLen; omega, .inr ⟨g, 0, rfl, .inr rfl, fun i hi => ?_⟩⟩
  have hi0 : i = 0 := by simpa using hi
  subst hi0
  exact ⟨by rw [cell_of_block hg]; rfl, by rw [cell_of_block hg]; rfl, by rw [cell_of_block hg]; rfl⟩
theorem lw_short {us : List (List FunD)} {entry : ByteArray} {out : List ByteArray} (he : okN entry) (hb : ∀ u ∈ us, ∀ f ∈ u, short f.body) (h : LWants us (entN entry ++ unitRefs us us.length) out) : ∀ s ∈ out, okN s := by
  intro s hs
  obtain ⟨t, ht, e, _⟩ := (h.2 s.toList).1 (List.mem_map.2 ⟨s, hs, rfl⟩)
  refine okN.congr (x := t) ?_ e
  rcases List.mem_append.1 ht with ht | ht
  · unfold entN at ht
    split at ht
    · cases ht
    · rw [List.mem_singleton.1 ht]; exact he
  · unfold unitRefs at ht
    rw [List.take_length] at ht
    obtain ⟨u, hu, ht⟩ := List.mem_flatMap.1 ht
    unfold bodyRefs at ht
    rw [List.take_length] at ht
    obtain ⟨f, hf, ht⟩ := List.mem_flatMap.1 ht
    have key : ∀ (ys : List InsD) (acc : List ByteArray), (∀ x ∈ ys, okN x.s) → (∀ s ∈ acc, okN s) → ∀ s ∈ ys.foldl Refs.refStep acc, okN s := by
      intro ys
      induction ys with
      | nil => intro acc _ h s hs; exact h s hs
      | cons y r ih =>
        intro acc hy ha
        refine ih _ (fun x hx => hy x (List.mem_cons_of_mem _ hx)) ?_
        unfold Refs.refStep
        split
        · intro s hs
          rcases List.mem_append.1 hs with hs | hs
          · exact ha s hs
          · rw [List.mem_singleton.1 hs]; exact hy y (List.mem_cons_self ..)
        · exact ha
    exact key f.body [] (hb u hu f hf) (fun s hs => by cases hs) t ht
theorem lit_units {vs : List UnitV} (h : ∀ u ∈ vs, lit u) : (∀ u ∈ unitsD vs, u.length ≤ 5) ∧ (∀ u ∈ unitsD vs, ∀ f ∈ u, f.body.length ≤ 10) ∧ ∀ u ∈ unitsD vs, ∀ f ∈ u, short f.body := by
  refine ⟨fun u hu => ?_, fun u hu f hf => ?_, fun u hu f hf => ?_⟩
  all_goals (obtain ⟨x, hx, rfl⟩ := List.mem_map.1 hu)
  · have := (h x hx).1; simp; omega
  · obtain ⟨y, hy, rfl⟩ := List.mem_map.1 hf
    have := ((h x hx).2 y hy).2.1; omega
  · obtain ⟨y, hy, rfl⟩ := List.mem_map.1 hf
    exact ((h x hx).2 y hy).2.2
theorem unitsD_len (vs : List UnitV) : (unitsD vs).length = vs.length := by simp [unitsD]
theorem cell_three (w : World) (o o2 : Obj) (x : Value) (t : TypeId) : ∀ j u, [x][j]? = some u → (((w.alloc o).alloc o2).alloc (.cells #[x] t)).cell? ((⟨w.heap.size + 1 + 1, 0, none⟩ : Addr).add j) = some u := by
  have := cell_one_new ((w.alloc o).alloc o2) x t
  rwa [World.size_alloc, World.size_alloc] at this
/-- One unit more behind the others: what stands. -/
theorem close_app {w W w5 : World} {R p : Nat} {v v5 : Value} {vs : List UnitV} {u : UnitV} {S : Nat → Prop} {blk : Obj} (hlt : R < w.heap.size) (hU : UnitsOwn W w.heap.size W.heap.size v vs) (hN : UnitIn W S u.1 u.2) (HR : RdAt W R p) (HT : Turns R w W) (ho : w5.ownsRow w.heap.size 23 1 v5 (vs.length + 1) (vs.map Prod.snd ++ [u.2])) (hg : (W.alloc blk).grownBy w5 v.ownBlock) : UnitsOwn w5 w.heap.size w5.heap.size v5 (vs ++ [u]) ∧ RdAt w5 R p ∧ Turns R w w5 :=
  ⟨units_app hU hN ho hg, rd_grown (rd_alloc HR _) hg (fun k hk => by have := (World.ownsRow.lt hU.1 k hk).1; omega), grown_turns (B := 0) HT hg (fun g hg => (World.ownsRow.lt hU.1 g hg).1)⟩
/-- The drawn function as a unit, in the two newest blocks. -/
theorem close_unit {w3 : World} {B : Nat} {f : FunD} {bv : Value} (h : InsOwn w3 B bv f.body) (hn : okN f.nm) (hs : short f.body) : ∃ S, UnitIn ((w3.alloc (.cells #[.string f.nm, .bool f.wk, bv] 28)).alloc (.cells #[.string f.nm, .bool f.wk, bv] 28)) S [(f, bv)] (.slice (some ⟨w3.heap.size + 1, 0, none⟩) 1 1) := by
  have hb := below_alloc2 w3 (.cells #[.string f.nm, .bool f.wk, bv] 28) (.cells #[.string f.nm, .bool f.wk, bv] 28)
  have h1 := insIn_of (u := (f, bv)) h hn hs
  have hk : ∀ k, FI w3 B k → ((w3.alloc (.cells #[.string f.nm, .bool f.wk, bv] 28)).alloc (.cells #[.string f.nm, .bool f.wk, bv] 28)).heap[k]? = w3.heap[k]? := fun k hk => hb.block k hk.2.lt
  have hg := new_block (w3.alloc (.cells #[.string f.nm, .bool f.wk, bv] 28)) (.cells #[.string f.nm, .bool f.wk, bv] 28)
  rw [World.size_alloc] at hg
  exact ⟨_, unit_single hg (h1.step hk) (fun k hfk => hfk.2.step (hk k hfk))⟩
theorem lit_one {f : FunD} {bv x : Value} (hn : okN f.nm) (hl : f.body.length ≤ 7) (hs : short f.body) : lit ([(f, bv)], x) := ⟨by show 1 ≤ 3; omega, fun y hy => by rw [List.mem_singleton.1 hy]; exact ⟨hn, hl, hs⟩⟩
theorem cell_four (w : World) (o o2 o3 : Obj) (x : Value) (t : TypeId) : ∀ j u, [x][j]? = some u → ((((w.alloc o).alloc o2).alloc o3).alloc (.cells #[x] t)).cell? ((⟨w.heap.size + 1 + 1 + 1, 0, none⟩ : Addr).add j) = some u := by
  have := cell_one_new (((w.alloc o).alloc o2).alloc o3) x t
  rwa [World.size_alloc, World.size_alloc, World.size_alloc] at this
/-- The function that returns at once, as a unit, in the newest blocks. -/
theorem close_unit2 {w3 : World} {s : ByteArray} {o : Obj} (hn : okN s) : ∃ S, UnitIn (((w3.alloc o).alloc (.cells #[.int .i64 6, .int .i64 0, .string ⟨#[]⟩] 105)).alloc (.cells #[.string s, .bool false, .slice (some ⟨w3.heap.size + 1, 0, none⟩) 1 1] 28)) S [((⟨s, false, [⟨6, 0, ⟨#[]⟩⟩]⟩ : FunD), .slice (some ⟨w3.heap.size + 1, 0, none⟩) 1 1)] (.slice (some ⟨w3.heap.size + 1 + 1, 0, none⟩) 1 1) := by
  have hI := new_block (w3.alloc o) (.cells #[.int .i64 6, .int .i64 0, .string ⟨#[]⟩] 105)
  rw [World.size_alloc] at hI
  have hO : InsOwn ((w3.alloc o).alloc (.cells #[.int .i64 6, .int .i64 0, .string ⟨#[]⟩] 105)) 0 (.slice (some ⟨w3.heap.size + 1, 0, none⟩) 1 1) [⟨6, 0, ⟨#[]⟩⟩] := ⟨by simp [encI], .inr ⟨_, _, _, rfl, Nat.zero_le _, hI, Nat.le_refl _, by unfold maxLen; omega, rfl, rfl⟩⟩
  have h1 := insIn_of (u := ((⟨s, false, [⟨6, 0, ⟨#[]⟩⟩]⟩ : FunD), .slice (some ⟨w3.heap.size + 1, 0, none⟩) 1 1)) hO hn (fun x hx => by rw [List.mem_singleton.1 hx]; decide)
  have hb := below_alloc1 ((w3.alloc o).alloc (.cells #[.int .i64 6, .int .i64 0, .string ⟨#[]⟩] 105)) (.cells #[.string s, .bool false, .slice (some ⟨w3.heap.size + 1, 0, none⟩) 1 1] 28)
  have hk : ∀ k, FI ((w3.alloc o).alloc (.cells #[.int .i64 6, .int .i64 0, .string ⟨#[]⟩] 105)) 0 k → _ = _ := fun k hk => hb.block k hk.2.lt
  have hg := new_block ((w3.alloc o).alloc (.cells #[.int .i64 6, .int .i64 0, .string ⟨#[]⟩] 105)) (.cells #[.string s, .bool false, .slice (some ⟨w3.heap.size + 1, 0, none⟩) 1 1] 28)
  rw [World.size_alloc, World.size_alloc] at hg
  exact ⟨_, unit_single (f := ⟨s, false, [⟨6, 0, ⟨#[]⟩⟩]⟩) hg (h1.step hk) (fun k hfk => hfk.2.step (hk k hfk))⟩
/-- What l4Close leaves. -/
def CloseLeft (R p m : Nat) (w : World) (e : Ending) (w' : World) : Prop := ∃ (v : Value) (vs : List UnitV) (p' : Nat), e = .returned v ∧ UnitsOwn w' w.heap.size w'.heap.size v vs ∧ vs.length ≤ m + 7 ∧ (∀ u ∈ vs, lit u) ∧ p' ≤ p + 300 ∧ RdAt w' R p' ∧ Turns R w w'
set_option maxHeartbeats 8000000 in
theorem close_draw (w : World) (R p B E : Nat) (v0 : Value) (vs0 : List UnitV) (entry : ByteArray) (h : RdAt w R p) (hp : p ≤ 4294950000) (hU : UnitsOwn w B E v0 vs0) (hl : vs0.length ≤ 8) (hL : ∀ u ∈ vs0, lit u) (he : okN entry) :
    Calls Tryz.prog 94 #[.pointer (some ⟨R, 0, none⟩), v0, .string entry] w (CloseLeft R p vs0.length w) := by
  have hlt := rd_lt h
  have H := hide h
  have HCP := hide (units_copy hU (by omega))
  have HL0 := hide hL
  obtain ⟨a0, c0, e0⟩ := own_form hU.1
  subst e0
  clear h hU hL
  obtain ⟨i0, hi, hz0, hz1, hz2⟩ := info_parts infoUnitP
  go_enter Tryz.func94, Tryz.ntmps94
  go_wp2_with (first
    | (at_builtin; obtain ⟨a1, c1, w1, hrun, hU1, hb1⟩ := unhide HCP _; refine Lib.wpList_append_run _ rfl _ _ _ _ rfl _ _ rfl rfl _ _ hrun ?_; have HU1 := hide hU1; clear hU1 hrun HCP))
  have HR1 := hide (rd_below (unhide H) hb1)
  have HT1 : Hid (Turns R w w1) := Turns.of_below hb1
  clear H hb1
  go_loopw [7, 8] (fun v i w' => ∃ (n p' : Nat) (vs : List UnitV), n ≤ 7 ∧ i = .int .i64 n ∧ vs.length ≤ vs0.length + n ∧ p' ≤ p + 31 * n ∧ Hid (∀ u ∈ vs, lit u) ∧ UnitsOwn w' w.heap.size w'.heap.size v vs ∧ RdAt w' R p' ∧ Turns R w w') (fun _ i _ => 7 - (intOf i).toNat)
  case atStart => exact ⟨0, p, vs0, by omega, rfl, by omega, by omega, unhide HL0, unhide HU1, unhide HR1, unhide HT1⟩
  case round =>
    obtain ⟨n, p', vs, hn, rfl, hvl, hpn, HL, hU, hR, hT⟩ := hrel
    have HU := hide hU
    have HR := hide hR
    have HT := hide hT
    have hsw := hT.size
    obtain ⟨a, cap, hv, hcap, hcm, hrow⟩ := hU.row
    have HRW := hide hrow
    have hul : (unitsD vs).length ≤ 15 := by rw [unitsD_len]; omega
    obtain ⟨hl5, hl10, hsh⟩ := lit_units (unhide HL)
    have HL5 := hide hl5
    have HL10 := hide hl10
    have HSHO := hide (fun out => lw_short (us := unitsD vs) (entry := entry) (out := out) he hsh)
    subst hv
    clear hU hR hT hrow HU1 HR1 HT1 hl5 hl10 hsh HL0
    by_cases hn7 : n < 7
    · have hn7' : (n : Int) < 7 := by omega
      generalize hud : unitsD vs = us at *
      go_wp2_with fail
      refine (specLWants_any a cap us entry _ he.max hcap hcm (by omega) (unhide HL5) (unhide HL10) (unhide HRW)).mono ?_
      rintro e w2 ⟨v2, out, rfl, hW, hol, hsz, hO, hb2⟩
      have HSH := hide (unhide HSHO out hW)
      have HO := hide hO
      have HU2 := hide ((unhide HU).below hb2)
      have HR2 := hide (rd_below (unhide HR) hb2)
      have HT2 := hide ((unhide HT).trans (Turns.of_below hb2))
      obtain ⟨oa, oc, e2, hoc, hocm, hcells⟩ := hO.at
      subst e2
      have HCL := hide hcells
      clear hW hsz hO hb2 HU HR HT hcells HRW HL5 HL10 HSHO
      by_cases h0 : out.length = 0
      · have h0' : (out.length : Int) = 0 := by omega
        go_wp2_with fail
        go_ret
        exact ⟨_, vs, p', rfl, (unhide HU2).all, by omega, unhide HL, by omega, unhide HR2, unhide HT2⟩
      · have h0' : ¬ (out.length : Int) = 0 := by omega
        have h0p : 0 < out.length := by omega
        obtain hx | ⟨ob, oo, rfl, hcc⟩ := unhide HCL
        · rw [hx] at h0p; simp at h0p
        have r0 := hcc 0 h0p
        have hs10 := unhide HSH out[0] (List.getElem_mem _)
        simp only [Nat.add_zero] at r0
        have h0i : (0 : Int) < (out.length : Int) := by omega
        generalize out[0] = s at *
        clear hcc HCL
        have hobR : ob ≠ R := fun e => by
          have := (World.ownsRow.lt (unhide HO) ob rfl).1
          omega
        go_wp2_with fail
        refine (fun_draw _ R p' s (unhide HR2) (by omega)).mono ?_
        rintro e w3 ⟨wk, bv, xs, p3, rfl, hI, hxl, hsh3, hp3, hr3, ht3⟩
        have HI := hide hI
        have HSH3 := hide hsh3
        have HR3 := hide hr3
        have HT3 := hide ((unhide HT2).trans ht3)
        have HU3 := hide (((unhide HU2).turns ht3 hlt (unhide HR2)).all)
        have r3 := ht3.cell hobR r0
        obtain ⟨ba, bc, eb⟩ := own_form hI
        subst eb
        have hs3 := (unhide HT3).size
        clear hI hsh3 hr3 ht3 HR2 HT2 HU2 r0 HO HSH
        by_cases hn3 : 3 < n
        · have hn3' : (3 : Int) < (n : Int) := by omega
          have r3a := (Stable.cell ⟨ob, oo, none⟩ (.string s)).alloc r3 (.cells #[.string s, .bool wk, .slice ba xs.length bc] 28)
          obtain ⟨S3, hN⟩ := close_unit2 (w3 := w3) (o := .cells #[.string s, .bool false, .slice (some ⟨w3.heap.size + 1, 0, none⟩) 1 1] 28) hs10
          have HN := hide hN
          have HUA := hide ((((unhide HU3).alloc (.cells #[.string s, .bool false, .slice (some ⟨w3.heap.size + 1, 0, none⟩) 1 1] 28)).alloc (.cells #[.int .i64 6, .int .i64 0, .string ⟨#[]⟩] 105)).alloc (.cells #[.string s, .bool false, .slice (some ⟨w3.heap.size + 1, 0, none⟩) 1 1] 28)).all
          have HRA := hide (rd_alloc (rd_alloc (rd_alloc (unhide HR3) (.cells #[.string s, .bool false, .slice (some ⟨w3.heap.size + 1, 0, none⟩) 1 1] 28)) (.cells #[.int .i64 6, .int .i64 0, .string ⟨#[]⟩] 105)) (.cells #[.string s, .bool false, .slice (some ⟨w3.heap.size + 1, 0, none⟩) 1 1] 28))
          have HTA := hide ((((unhide HT3).alloc (.cells #[.string s, .bool false, .slice (some ⟨w3.heap.size + 1, 0, none⟩) 1 1] 28)).alloc (.cells #[.int .i64 6, .int .i64 0, .string ⟨#[]⟩] 105)).alloc (.cells #[.string s, .bool false, .slice (some ⟨w3.heap.size + 1, 0, none⟩) 1 1] 28))
          have HLS := hide (lit_snoc (unhide HL) (lit_one (f := ⟨s, false, [⟨6, 0, ⟨#[]⟩⟩]⟩) (bv := .slice (some ⟨w3.heap.size + 1, 0, none⟩) 1 1) (x := .slice (some ⟨w3.heap.size + 1 + 1, 0, none⟩) 1 1) hs10 (show 1 ≤ 7 by omega) (fun x hx => by rw [List.mem_singleton.1 hx]; decide)))
          clear hN HI
          go_wp2_with (first
            | (at_builtin; refine wpList_append_own_at _ rfl _ _ 140 rfl w.heap.size 23 i0 (.slice none 0 0) 1 24 Tryz.underlying140 hi hz0 hz1 hz2 rfl (by decide) _ vs.length (vs.map Prod.snd) rfl (World.ownsRow.alloc (unhide HUA).1 _) ⟨w3.heap.size + 1 + 1 + 1, 0, none⟩ 1 1 [.slice (some ⟨w3.heap.size + 1 + 1, 0, none⟩) 1 1] rfl rfl (cell_four _ _ _ _ _ _) (unit_one (unhide HN)) (by unfold maxLen; omega) (by omega) (by simp; omega) ?_; intro v5 w5 hown5 hgrow5 _ _))
          obtain ⟨hU5, hR5, hT5⟩ := close_app (u := ([((⟨s, false, [⟨6, 0, ⟨#[]⟩⟩]⟩ : FunD), Value.slice (some ⟨w3.heap.size + 1, 0, none⟩) 1 1)], .slice (some ⟨w3.heap.size + 1 + 1, 0, none⟩) 1 1)) hlt (unhide HUA) (unhide HN) (unhide HRA) (unhide HTA) hown5 hgrow5
          exact ⟨⟨n + 1, p3, _, by omega, by go_num, by simp; omega, by omega, unhide HLS, hU5, hR5, hT5⟩, by simp [intOf]; omega⟩
        · have hn3' : ¬ (3 : Int) < (n : Int) := by omega
          obtain ⟨S3, hN⟩ := close_unit (f := ⟨s, wk, xs⟩) (unhide HI) hs10 (unhide HSH3)
          have HN := hide hN
          have HUA := hide (((unhide HU3).alloc (.cells #[.string s, .bool wk, .slice ba xs.length bc] 28)).alloc (.cells #[.string s, .bool wk, .slice ba xs.length bc] 28)).all
          have HRA := hide (rd_alloc (rd_alloc (unhide HR3) (.cells #[.string s, .bool wk, .slice ba xs.length bc] 28)) (.cells #[.string s, .bool wk, .slice ba xs.length bc] 28))
          have HTA := hide (((unhide HT3).alloc (.cells #[.string s, .bool wk, .slice ba xs.length bc] 28)).alloc (.cells #[.string s, .bool wk, .slice ba xs.length bc] 28))
          have HLS := hide (lit_snoc (unhide HL) (lit_one (f := ⟨s, wk, xs⟩) (bv := .slice ba xs.length bc) (x := .slice (some ⟨w3.heap.size + 1, 0, none⟩) 1 1) hs10 (show xs.length ≤ 7 by omega) (unhide HSH3)))
          clear hN HI
          go_wp2_with (first
            | (at_builtin; refine wpList_append_own_at _ rfl _ _ 140 rfl w.heap.size 23 i0 (.slice none 0 0) 1 24 Tryz.underlying140 hi hz0 hz1 hz2 rfl (by decide) _ vs.length (vs.map Prod.snd) rfl (World.ownsRow.alloc (unhide HUA).1 _) ⟨w3.heap.size + 1 + 1, 0, none⟩ 1 1 [.slice (some ⟨w3.heap.size + 1, 0, none⟩) 1 1] rfl rfl (cell_three _ _ _ _ _) (unit_one (unhide HN)) (by unfold maxLen; omega) (by omega) (by simp; omega) ?_; intro v5 w5 hown5 hgrow5 _ _))
          obtain ⟨hU5, hR5, hT5⟩ := close_app (u := ([((⟨s, wk, xs⟩ : FunD), Value.slice ba xs.length bc)], .slice (some ⟨w3.heap.size + 1, 0, none⟩) 1 1)) hlt (unhide HUA) (unhide HN) (unhide HRA) (unhide HTA) hown5 hgrow5
          exact ⟨⟨n + 1, p3, _, by omega, by go_num, by simp; omega, by omega, unhide HLS, hU5, hR5, hT5⟩, by simp [intOf]; omega⟩
    · have hn7' : ¬ (n : Int) < 7 := by omega
      go_wp2_with fail
      go_ret
      exact ⟨_, vs, p', rfl, unhide HU, by omega, unhide HL, by omega, unhide HR, unhide HT⟩
end Go.Proofs.YthbbmookhcalkaaGreatDoor.DrawK
