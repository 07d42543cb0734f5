/- The contract of the specification's l7Drawn: a drawn program, how it is laid, and its reach, one in ten bent. -/
import Derived.Test.YthbbmookhcalkaaGreatDoorPkc600f0e5
import Derived.Test.YthbbmookhcalkaaGreatDoorDrawR
import Derived.Deep.DeepCutAuto
import Derived.Deep.CutBlock
import Derived.Deep.Upon
namespace Go.Proofs.YthbbmookhcalkaaGreatDoor.DrawM
open Go.ChangeShapes Go.WideShapes Go.ChangeAt Go.RowKit Go.Joins Go.Deep
open Go.Proofs.YthbbmookhcalkaaGreatDoor.Base Go.Proofs.YthbbmookhcalkaaGreatDoor.InsA Go.Proofs.YthbbmookhcalkaaGreatDoor.Funs Go.Proofs.YthbbmookhcalkaaGreatDoor.Open Go.Proofs.YthbbmookhcalkaaGreatDoor.FunS Go.Proofs.YthbbmookhcalkaaGreatDoor.Keep Go.Proofs.YthbbmookhcalkaaGreatDoor.UnitS Go.Proofs.YthbbmookhcalkaaGreatDoor.Refs Go.Proofs.YthbbmookhcalkaaGreatDoor.Mark Go.Proofs.YthbbmookhcalkaaGreatDoor.LayN Go.Proofs.YthbbmookhcalkaaGreatDoor.LayA Go.Proofs.YthbbmookhcalkaaGreatDoor.KeepD Go.Proofs.YthbbmookhcalkaaGreatDoor.KeepA Go.Proofs.YthbbmookhcalkaaGreatDoor.LayD Go.Proofs.YthbbmookhcalkaaGreatDoor.LayS Go.Proofs.YthbbmookhcalkaaGreatDoor.LayT Go.Proofs.YthbbmookhcalkaaGreatDoor.LayJ Go.Proofs.YthbbmookhcalkaaGreatDoor.LayW Go.Proofs.YthbbmookhcalkaaGreatDoor.LayX Go.Proofs.YthbbmookhcalkaaGreatDoor.LayY Go.Proofs.YthbbmookhcalkaaGreatDoor.LayZ Go.Proofs.YthbbmookhcalkaaGreatDoor.LayF Go.Proofs.YthbbmookhcalkaaGreatDoor.Rd Go.Proofs.YthbbmookhcalkaaGreatDoor.DrawIns Go.Proofs.YthbbmookhcalkaaGreatDoor.DrawP Go.Proofs.YthbbmookhcalkaaGreatDoor.DrawQ Go.Proofs.YthbbmookhcalkaaGreatDoor.DrawR Go.Proofs.YthbbmookhcalkaaGreatDoor.DrawL Go.Proofs.YthbbmookhcalkaaGreatDoor.DrawO
set_option linter.unusedVariables false
set_option maxRecDepth 100000

/-- A laying that is drawn, while it is bent: W1 is the world ahead of it. -/
structure LD (W1 W : World) (R p B L : Nat) (nv sv : Value) (ns : List Int) (st : List (List ByteArray)) (vs : List Value) : Prop where
  rd : RdAt W R p
  t1 : Turns R W1 W
  hR : R < W1.heap.size
  hB : W1.heap.size ≤ B
  hL : W1.heap.size ≤ L
  ol : OL W B nv sv ns st vs
  bx : W.heap[L]? = some (.cells #[nv, sv] 47)
section
variable {W1 W W' : World} {R p p' B L : Nat} {nv sv : Value} {ns : List Int} {st : List (List ByteArray)} {vs : List Value}
theorem LD.turns (h : LD W1 W R p B L nv sv ns st vs) (ht : Turns R W W') (hr : RdAt W' R p') : LD W1 W' R p' B L nv sv ns st vs := by
  have h1 := h.hR; have h2 := h.hB; have h3 := h.hL
  exact ⟨hr, h.t1.trans ht, h1, h2, h3, OL.turns h.ol ht (by omega), box_turns h.bx ht (by omega)⟩
theorem LD.below (h : LD W1 W R p B L nv sv ns st vs) (hb : Below W.heap.size W W') : LD W1 W' R p B L nv sv ns st vs := h.turns (Turns.of_below hb) (rd_below h.rd hb)
theorem own_type {w : World} {B g : Nat} {e : TypeId} {z n : Nat} {v : Value} {xs : List Value} (h : w.ownsRow B e z v n xs) (hg : v.ownBlock = some g) : ∃ C, w.heap[g]? = some (.cells C e) := by
  obtain ⟨_, ⟨h1, h0⟩ | ⟨g', cap, cur, h1, hB, hgg, hn, hm, hs, ht⟩⟩ := h
  · rw [h1] at hg; cases hg
  · rw [h1] at hg; cases hg; exact ⟨cur, hgg⟩
theorem box_ne {w : World} {g L : Nat} {C D : Array Value} {e t : TypeId} (h : w.heap[g]? = some (.cells C e)) (h' : w.heap[L]? = some (.cells D t)) (he : e ≠ t) : g ≠ L := fun e1 => by
  subst e1
  rw [h] at h'
  simp at h'
  exact he h'.2
theorem lay_types : (3 : TypeId) ≠ 47 ∧ (60 : TypeId) ≠ 47 ∧ (9 : TypeId) ≠ 47 := by decide
/-- A number is changed. -/
theorem LD.num {g nc k : Nat} (h : LD W1 W R p B L (.slice (some ⟨g, 0, none⟩) ns.length nc) sv ns st vs) (hk : k < ns.length) (x : Int) : LD W1 (W.setCell ⟨g, k, none⟩ (.int .i64 x)) R p B L (.slice (some ⟨g, 0, none⟩) ns.length nc) sv (ns.set k x) st vs := by
  have h1 := h.hR; have h2 := h.hB; have h3 := h.hL
  have hg := (World.ownsRow.lt h.ol.num g rfl).1
  obtain ⟨C, hC⟩ := own_type h.ol.num rfl
  exact ⟨rd_set h.rd (by omega) _, h.t1.set (by omega) _, h1, h2, h3, OL.setNum h.ol hk x, set_other h.bx (box_ne hC h.bx lay_types.1)⟩
/-- One name more. -/
theorem LD.name {w4 : World} {S c i c' : Nat} {a : Option Addr} {v4 : Value} {s : ByteArray} {o : Obj} (h : LD W1 W R p B L nv (.slice (some ⟨S, 0, none⟩) st.length c) ns st vs) (hi : i < st.length) (hv : vs[i]? = some (.slice a st[i].length c'))
    (hg : (W.alloc o).grownBy w4 (Value.slice a st[i].length c').ownBlock) (ho : StrOwn w4 B v4 (st[i] ++ [s])) (hat : v4.ownBlock = (Value.slice a st[i].length c').ownBlock ∨ v4.ownBlock = some (W.alloc o).heap.size) :
    w4.frozen? ⟨S, i, none⟩ = false ∧ w4.heap[L]? = some (.cells #[nv, .slice (some ⟨S, 0, none⟩) st.length c] 47) ∧ (∃ x, w4.cell? ⟨S, i, none⟩ = some x) ∧ LD W1 (w4.setCell ⟨S, i, none⟩ v4) R p B L nv (.slice (some ⟨S, 0, none⟩) st.length c) ns (addSt st i s) (vs.set i v4) := by
  have h1 := h.hR; have h2 := h.hB; have h3 := h.hL
  obtain ⟨k1, k2⟩ := OL.addName h.ol hi hv hg ho hat
  obtain ⟨u, q1, q2⟩ := h.ol.ent i hi
  rw [hv] at q1
  cases q1
  have hS := (World.ownsRow.lt h.ol.out S rfl).1
  have hr : ∀ j, (Value.slice a st[i].length c').ownBlock = some j → B ≤ j ∧ j ≠ L := fun j hj => ⟨(World.ownsRow.lt q2 j hj).1, by
    obtain ⟨C, hC⟩ := own_type q2 hj
    exact box_ne hC h.bx lay_types.2.2⟩
  have hb0 := below_alloc1 W o
  have hbx4 : w4.heap[L]? = _ := (hg.block L (Nat.lt_of_lt_of_le (Array.getElem?_eq_some_iff.1 h.bx).1 hb0.size) (fun e => (hr L e.symm).2 rfl)).trans (box_below h.bx hb0)
  have hrd4 : RdAt w4 R p := DrawFun.rd_grown (rd_below h.rd hb0) hg (fun j hj => by have := (hr j hj).1; omega)
  have ht4 : Turns R W1 w4 := DrawFun.turns_grown (h.t1.alloc o) hg (fun j hj => by have := (hr j hj).1; omega)
  obtain ⟨C, hC⟩ := own_type h.ol.out rfl
  have hne : S ≠ L := box_ne hC h.bx lay_types.2.1
  have hCx : ∃ x, w4.cell? ⟨S, i, none⟩ = some x := by
    have hsl : S < (W.alloc o).heap.size := Nat.lt_of_lt_of_le (World.ownsRow.lt h.ol.out S rfl).2 hb0.size
    have hns : some S ≠ (Value.slice a st[i].length c').ownBlock := fun e => by
      obtain ⟨C', hC'⟩ := own_type q2 e.symm
      exact box_ne hC hC' (fun e => ne_types.2.1 e.symm) rfl
    obtain ⟨a', c2, hc, _⟩ := OL.outAt h.ol hi
    refine ⟨.slice a' st[i].length c2, ?_⟩
    rw [World.cell?_of_block (a := ⟨S, i, none⟩) ((hg.block S hsl hns).trans (hb0.block S (World.ownsRow.lt h.ol.out S rfl).2))]
    exact hc
  exact ⟨k1, hbx4, hCx, rd_set hrd4 (by omega) _, ht4.set (by omega) _, h1, h2, h3, k2, set_other hbx4 hne⟩
end
theorem fun_off {w : World} {H : Nat} {v u : Value} {a : Option Addr} {fs : List FunD} {a0 a1 : Option Addr} {n0 c0 n1 c1 : Nat} {t : TypeId} (h : FunRow w a fs) (hH : w.heap[H]? = some (.cells #[.slice a0 n0 c0, .slice a1 n1 c1] t)) : FunRow ((w.setCell ⟨H, 0, none⟩ v).setCell ⟨H, 1, none⟩ u) a fs := by
  have key : ∀ (b m : Nat) (x : Value), w.cell? ⟨b, m, none⟩ = some x → (∀ a n c, x ≠ .slice a n c) → H ≠ b := fun b m x hc hx e => by
    subst e
    rw [cell_of_block hH] at hc
    match m, hc with
    | 0, hc => simp at hc; exact hx _ _ _ hc.symm
    | 1, hc => simp at hc; exact hx _ _ _ hc.symm
    | n + 2, hc => simp at hc
  rcases h with h | ⟨b, off, ha, h⟩
  · exact .inl h
  · refine .inr ⟨b, off, ha, fun i hi => ?_⟩
    obtain ⟨ai, ci, h0, h1, h2, h3, h4, h5, h6⟩ := h i hi
    have hne := key b _ _ h0 (fun _ _ _ e => by cases e)
    have far : ∀ m, ((w.setCell ⟨H, 0, none⟩ v).setCell ⟨H, 1, none⟩ u).cell? ⟨b, m, none⟩ = w.cell? ⟨b, m, none⟩ := fun m => by
      rw [World.cell?_setCell_far _ _ _ _ hne, World.cell?_setCell_far _ _ _ _ hne]
    refine ⟨ai, ci, (far _).trans h0, (far _).trans h1, (far _).trans h2, h3, h4, h5, ?_⟩
    rcases h6 with h6 | ⟨b', off', ha', h6⟩
    · exact .inl h6
    · refine .inr ⟨b', off', ha', fun j hj => ?_⟩
      obtain ⟨g0, g1, g2, g3⟩ := h6 j hj
      have hne' := key b' _ _ g0 (fun _ _ _ e => by cases e)
      have far' : ∀ m, ((w.setCell ⟨H, 0, none⟩ v).setCell ⟨H, 1, none⟩ u).cell? ⟨b', m, none⟩ = w.cell? ⟨b', m, none⟩ := fun m => by
        rw [World.cell?_setCell_far _ _ _ _ hne', World.cell?_setCell_far _ _ _ _ hne']
      exact ⟨(far' _).trans g0, (far' _).trans g1, (far' _).trans g2, g3⟩
theorem texts_far {w : World} {H : Nat} {v u : Value} {sa : Option Addr} {st : List (List ByteArray)} {a0 a1 : Option Addr} {n0 c0 n1 c1 : Nat} {t : TypeId} (h : TextsRow w sa st) (hS : ∀ S o, sa = some ⟨S, o, none⟩ → H ≠ S) (hH : w.heap[H]? = some (.cells #[.slice a0 n0 c0, .slice a1 n1 c1] t)) : TextsRow ((w.setCell ⟨H, 0, none⟩ v).setCell ⟨H, 1, none⟩ u) sa st := by
  rcases h with h | ⟨b, off, ha, h⟩
  · exact .inl h
  · have hne := hS b off ha
    refine .inr ⟨b, off, ha, fun i hi => ?_⟩
    obtain ⟨ai, ci, h0, h1, h2, h3⟩ := h i hi
    exact ⟨ai, ci, by rw [World.cell?_setCell_far _ _ _ _ hne, World.cell?_setCell_far _ _ _ _ hne]; exact h0, h1, h2, text_off h3 hH⟩
/-- A drawn laying as it stands before it is told. -/
def DrawnRow (W1 : World) (R p L : Nat) (v6 : Value) (wx : World) : Prop :=
  ∃ (rr : Int) (na sa : Option Addr) (nc sc : Nat) (zs : List Int) (st : List (List ByteArray)) (p' : Nat), v6 = .int .i64 rr ∧ 0 ≤ rr ∧ rr ≤ 101 ∧ zs.length ≤ nc ∧ nc ≤ maxLen ∧ st.length ≤ sc ∧ sc ≤ maxLen ∧ Tame zs st ∧ wx.heap[L]? = some (.cells #[.slice na zs.length nc, .slice sa st.length sc] 47) ∧ NumRow wx na zs ∧ TextsRow wx sa st ∧ (∀ S o, na = some ⟨S, o, none⟩ → W1.heap.size ≤ S) ∧ (∀ S o, sa = some ⟨S, o, none⟩ → W1.heap.size ≤ S) ∧ p' ≤ p + 3 ∧ RdAt wx R p' ∧ Turns R W1 wx
/-- .. and as it was laid. -/
def DrawnLaid (W1 : World) (R p L : Nat) (v6 : Value) (wx : World) : Prop :=
  ∃ (rr : Int) (B : Nat) (na sa : Option Addr) (nc sc : Nat) (zs : List Int) (st : List (List ByteArray)) (vs : List Value), v6 = .int .i64 rr ∧ 1 ≤ rr ∧ rr ≤ 100 ∧ zs.length ≤ nc ∧ nc ≤ maxLen ∧ st.length ≤ sc ∧ sc ≤ maxLen ∧ st.length = zs.length ∧ Hid (Short st 401) ∧ Hid (Tame zs st) ∧ Hid (∀ x ∈ zs, 0 ≤ x ∧ x ≤ 42000000) ∧ LD W1 wx R p B L (.slice na zs.length nc) (.slice sa st.length sc) zs st vs
/-- What l7Drawn leaves: functions, a laying and a reach, readable. -/
def LayDrawn (R p : Nat) (w : World) (e : Ending) (w' : World) : Prop :=
  ∃ (a : Option Addr) (cap : Nat) (fs : List FunD) (na sa : Option Addr) (nc sc : Nat) (zs : List Int) (st : List (List ByteArray)) (rr : Int) (p' : Nat), e = .returned (.tuple #[.slice a fs.length cap, .agg #[.slice na zs.length nc, .slice sa st.length sc], .int .i64 rr]) ∧ 0 ≤ rr ∧ rr ≤ 101 ∧ fs.length ≤ cap ∧ cap ≤ maxLen ∧ fs.length ≤ 42 ∧ Hid (∀ f ∈ fs, okN f.nm) ∧ zs.length ≤ nc ∧ nc ≤ maxLen ∧ st.length ≤ sc ∧ sc ≤ maxLen ∧ Hid (Tame zs st) ∧ FunRow w' a fs ∧ NumRow w' na zs ∧ TextsRow w' sa st ∧ Hid ((∀ S o, na = some ⟨S, o, none⟩ → R < S) ∧ ∀ S o, sa = some ⟨S, o, none⟩ → R < S) ∧ p' ≤ p + 1006 ∧ RdAt w' R p' ∧ Turns R w w'
theorem own_far {w : World} {B n c : Nat} {e : TypeId} {a : Option Addr} {z m : Nat} {xs : List Value} (h : w.ownsRow B e z (.slice a n c) m xs) : ∀ S o, a = some ⟨S, o, none⟩ → B ≤ S := fun S o e1 => by
  subst e1
  exact (World.ownsRow.lt h S rfl).1
theorem row_of {W1 W : World} {R p q B L : Nat} {na sa : Option Addr} {nc sc : Nat} {zs : List Int} {st : List (List ByteArray)} {vs : List Value} {rr : Int} (h : LD W1 W R q B L (.slice na zs.length nc) (.slice sa st.length sc) zs st vs) (h0 : 0 ≤ rr) (h1 : rr ≤ 101) (c1 : zs.length ≤ nc) (c2 : nc ≤ maxLen) (c3 : st.length ≤ sc) (c4 : sc ≤ maxLen) (ht : Tame zs st) (hq : q ≤ p + 3) : DrawnRow W1 R p L (.int .i64 rr) W :=
  ⟨rr, na, sa, nc, sc, zs, st, q, rfl, h0, h1, c1, c2, c3, c4, ht, h.bx, own_nums h.ol.num, h.ol.texts ht.sizes, (fun S o e => Nat.le_trans h.hB (own_far h.ol.num S o e)), fun S o e => Nat.le_trans h.hB (own_far h.ol.out S o e), hq, h.rd, h.t1⟩
theorem LD.drew {W1 W : World} {R p B L : Nat} {nv sv : Value} {ns : List Int} {st : List (List ByteArray)} {vs : List Value} (h : LD W1 W R p B L nv sv ns st vs) : LD W1 W.drew R p B L nv sv ns st vs :=
  ⟨h.rd, ⟨h.t1.os, h.t1.tape, h.t1.output, h.t1.size, h.t1.block⟩, h.hR, h.hB, h.hL, ⟨h.ol.num, h.ol.out, h.ol.ent, h.ol.dis⟩, h.bx⟩
theorem row_cut {W1 W : World} {R p q B L k : Nat} {na sa : Option Addr} {nc sc : Nat} {zs : List Int} {st : List (List ByteArray)} {vs : List Value} {rr : Int} (h : LD W1 W R q B L (.slice na zs.length nc) (.slice sa st.length sc) zs st vs) (hk : k ≤ st.length) (h0 : 0 ≤ rr) (h1 : rr ≤ 101) (c1 : zs.length ≤ nc) (c2 : nc ≤ maxLen) (c3 : st.length ≤ sc) (c4 : sc ≤ maxLen) (ht : Tame zs st) (hq : q ≤ p + 3) : DrawnRow W1 R p L (.int .i64 rr) (W.setCell ⟨L, 1, none⟩ (.slice sa k sc)) := by
  have hlen : (st.take k).length = k := by rw [List.length_take]; omega
  have hO := OL.set (o := 1) (v := .slice sa k sc) h.ol h.bx
  have htt : Tame zs (st.take k) := ⟨ht.1, ht.2.1, by rw [hlen]; have := ht.2.2.1; omega, fun ss hss => ht.2.2.2 ss (List.mem_of_mem_take hss)⟩
  have hR := h.hR
  have hL := h.hL
  refine ⟨rr, na, sa, nc, sc, zs, st.take k, q, rfl, h0, h1, c1, c2, by rw [hlen]; omega, c4, htt, ?_, own_nums hO.num, texts_take (hO.texts ht.sizes) k, (fun S o e => Nat.le_trans h.hB (own_far h.ol.num S o e)), fun S o e => Nat.le_trans h.hB (own_far h.ol.out S o e), hq, rd_set h.rd (by omega) _, h.t1.set hL _⟩
  rw [hlen]
  exact block_setCell h.bx _
theorem num_addr {W1 W : World} {R p B L : Nat} {na : Option Addr} {nc : Nat} {sv : Value} {ns : List Int} {st : List (List ByteArray)} {vs : List Value} (h : LD W1 W R p B L (.slice na ns.length nc) sv ns st vs) (h0 : 0 < ns.length) : ∃ g, na = some ⟨g, 0, none⟩ := by
  obtain ⟨g, c, e⟩ := OL.numForm h.ol h0
  simp only [Value.slice.injEq] at e
  exact ⟨g, e.1⟩
theorem out_addr {W1 W : World} {R p B L : Nat} {sa : Option Addr} {sc : Nat} {nv : Value} {ns : List Int} {st : List (List ByteArray)} {vs : List Value} (h : LD W1 W R p B L nv (.slice sa st.length sc) ns st vs) (h0 : 0 < st.length) : ∃ g, sa = some ⟨g, 0, none⟩ := by
  obtain ⟨g, c, e⟩ := OL.outForm h.ol h0
  simp only [Value.slice.injEq] at e
  exact ⟨g, e.1⟩
theorem tame_set {zs : List Int} {st : List (List ByteArray)} {k : Nat} {x : Int} (h : Tame zs st) (hx : -1 ≤ x ∧ x ≤ 50000000) : Tame (zs.set k x) st := ⟨by simp; exact h.1, fun y hy => by
  rcases List.mem_or_eq_of_mem_set hy with hy | rfl
  · exact h.2.1 y hy
  · exact hx, h.2.2⟩
theorem tame_add {zs : List Int} {st : List (List ByteArray)} {i : Nat} {s : ByteArray} (h : Tame zs st) (h4 : Short st 401) (hi : i < st.length) (hs : s.size ≤ maxLen) : Tame zs (addSt st i s) := ⟨h.1, h.2.1, by rw [addSt_len]; exact h.2.2.1, fun ss hss => by
  obtain ⟨e1, e2⟩ := h4.add hi hs ss hss
  exact ⟨by omega, e2⟩⟩
theorem tame_take {zs : List Int} {st : List (List ByteArray)} (h : Tame zs st) (k : Nat) : Tame zs (st.take k) := ⟨h.1, h.2.1, by rw [List.length_take]; have := h.2.2.1; omega, fun ss hss => h.2.2.2 ss (List.mem_of_mem_take hss)⟩
theorem name_onto {W : World} {B : Nat} {v : Value} {ss : List ByteArray} (h : StrOwn W B v ss) (hB : B ≤ W.heap.size) (hl : ss.length ≤ 1000) (s : ByteArray) (ty : TypeId) :
    ∃ v4 w4, (Builtin.append_ #[60, 60] ty #[v, .slice (some ⟨W.heap.size, 0, none⟩) 1 1]).run Tryz.prog (W.alloc (.cells #[.string s] 9)) = .ok v4 w4 ∧ StrOwn w4 B v4 (ss ++ [s]) ∧ (W.alloc (.cells #[.string s] 9)).grownBy w4 v.ownBlock ∧ (v4.ownBlock = v.ownBlock ∨ v4.ownBlock = some (W.alloc (.cells #[.string s] 9)).heap.size) := by
  obtain ⟨i, hi, hz0, hz1, hz2⟩ := str_info
  have hb := below_alloc1 W (.cells #[.string s] 9)
  obtain ⟨v', w', hr', ho', hg', _, hat⟩ := run_append_own_at (P := Tryz.prog) (W.alloc (.cells #[.string s] 9)) B 60 ty 9 i _ 1 16 Tryz.underlying60 hi hz0 hz1 hz2 rfl (by decide) v ss.length (ss.map Value.string) (StrOwn.below h hb) ⟨W.heap.size, 0, none⟩ 1 1 [.string s] rfl (cell_after _ _ _) (by simp [Value.oneCell']) (by unfold maxLen; omega) (by omega) (by rw [World.size_alloc]; omega)
  exact ⟨v', w', hr', by
    show World.ownsRow _ _ _ _ _ _ _
    rw [List.length_append, List.map_append]
    exact ho', hg', hat⟩
theorem OL.own_of {w : World} {B i c' : Nat} {nv sv : Value} {a : Option Addr} {ns : List Int} {st : List (List ByteArray)} {vs : List Value} (h : OL w B nv sv ns st vs) (hi : i < st.length) (hv : vs[i]? = some (.slice a st[i].length c')) : StrOwn w B (.slice a st[i].length c') st[i] := by
  obtain ⟨u, q1, q2⟩ := h.ent i hi
  rw [hv] at q1
  cases q1
  exact q2
theorem entry_is {w : World} {B S c i c' : Nat} {nv : Value} {a : Option Addr} {ns : List Int} {st : List (List ByteArray)} {vs : List Value} {n : Nat} (h : OL w B nv (.slice (some ⟨S, 0, none⟩) st.length c) ns st vs) (hi : i < st.length) (hv : vs[i]? = some (.slice a n c')) : w.cell? ⟨S, i, none⟩ = some (.slice a n c') := by
  rw [h.out.cellAt i (by omega)]
  exact hv
theorem bend_ok : ∀ x : Int, x ∈ ([1, -1] : List Int) → -1 ≤ x ∧ x ≤ 1 := by decide
theorem reach_ok : ∀ x : Int, x ∈ ([0, 2, 101, 5] : List Int) → 0 ≤ x ∧ x ≤ 101 := by decide
theorem bend_nm : ∀ x, x ∈ ([⟨#[109, 97, 105, 110]⟩, ⟨#[110, 111, 119, 104]⟩] : List ByteArray) → x.size ≤ maxLen := by
  intro x hx
  simp only [List.mem_cons, List.not_mem_nil, or_false] at hx
  rcases hx with rfl | rfl <;> exact Nat.le_trans (show (4 : Nat) ≤ 10 by omega) (by unfold maxLen; omega)
set_option maxHeartbeats 16000000 in
theorem drawn_any (w : World) (R p : Nat) (h : RdAt w R p) (hp : p ≤ 4294890000) :
    Calls Tryz.prog 88 #[.pointer (some ⟨R, 0, none⟩)] w (LayDrawn R p w) := by
  have HR := hide h
  have hlt := rd_lt h
  have HT0 := hide (Turns.of_below (R := R) (below_alloc1 w (.cells #[.slice none 0 0, .slice none 0 0] 47)))
  have HZ0 := hide (new_block w (.cells #[.slice none 0 0, .slice none 0 0] 47))
  clear h
  go_enter Tryz.func88, Tryz.ntmps88
  go_wp2_with fail
  refine (bent_draw _ R p (rd_alloc (unhide HR) _) (by omega)).mono ?_
  rintro e w1 ⟨a, cap, fs, p1, rfl, hc1, hc2, hl, HN, hF1, hp1, hr1, ht1⟩
  have HT1 := hide ((unhide HT0).trans ht1)
  have HZ1 := hide (box_turns (unhide HZ0) ht1 (by omega))
  have HF1 := hide hF1
  have HR1 := hide hr1
  have hs1 : w.heap.size < w1.heap.size := by have := (Array.getElem?_eq_some_iff.1 (unhide HZ1)).1; omega
  clear hF1 hr1 ht1 HR HT0 HZ0
  go_wp2_with fail
  refine (l7Reach_any _ R p1 (unhide HR1) (by omega)).mono ?_
  rintro e w2 ⟨rr, hx0, hx1, rfl, hr2, ht2⟩
  have HF2 := hide (funRow_turns (unhide HF1) (unhide HR1) ht2)
  have HT2 := hide ((unhide HT1).trans ht2)
  have HZ2 := hide (box_turns (unhide HZ1) ht2 (by omega))
  have HR2 := hide hr2
  have hs2 : w.heap.size < w2.heap.size := Nat.lt_of_lt_of_le hs1 ht2.size
  have hR2 : R < w2.heap.size := rd_lt hr2
  have HSZ : Hid (∀ f ∈ fs, ∀ x ∈ f.body, x.s.size ≤ maxLen) := fun f hf x hx => ((unhide HF2).sizes f hf).2.2 x hx
  clear hr2 ht2 HF1 HR1 HT1 HZ1 hs1
  go_wp2_with fail
  refine (specLayOf_any a cap fs rr _ hc1 hc2 (unhide HF2)).mono ?_
  rintro e w3 ⟨na, nc, sa, sc, zs, st, vs, code, hD, rfl, c1, c2, c3, c4, hOL, hb3⟩
  obtain ⟨t1, t2, t3, t4, t5⟩ := layOf_tame hD (unhide HSZ)
  have HLN := hide t1
  have hLD : LD w2 (w3.alloc (.cells #[.slice na zs.length nc, .slice sa st.length sc] 47)) R (p1 + 1) w2.heap.size w3.heap.size (.slice na zs.length nc) (.slice sa st.length sc) zs st vs := ⟨rd_alloc (rd_below (unhide HR2) hb3) _, (Turns.of_below hb3).alloc _, hR2, Nat.le_refl _, hb3.size, OL.next hOL (below_alloc1 _ _), new_block _ _⟩
  have HLD := hide hLD
  have HT3 := hide t3
  have HS3 := hide t2
  have HB3 := hide t4
  have HB := hide (bl_trans hb3 (below_alloc1 w3 (.cells #[.slice na zs.length nc, .slice sa st.length sc] 47)))
  clear hD hOL hb3 t1 t2 t3 t4 t5 hLD
  go_upto_if 21 with fail
  go_cut [6, 8] (fun v6 v8 wx => DrawnLaid w2 R (p1 + 1) w3.heap.size v6 wx)
  case first =>
    by_cases hcode : code = 1
    · have hF4 := (unhide HF2).below (unhide HB)
      go_wp2_with fail
      refine (specLayOf_any a cap fs 40 _ hc1 hc2 hF4).mono ?_
      rintro e w5 ⟨na2, nc2, sa2, sc2, zs2, st2, vs2, code2, hD2, rfl, d1, d2, d3, d4, hOL2, hb5⟩
      obtain ⟨t1', t2', t3', t4', t5'⟩ := layOf_tame hD2 (unhide HSZ)
      have HLN2 := hide t1'
      clear t1'
      have hL5 := box_below (unhide HLD).bx hb5
      have hL5b := box2 hL5
      have hr5 := rd_below (unhide HLD).rd hb5
      have ht5 := (unhide HLD).t1.trans (Turns.of_below hb5)
      have hBs : w2.heap.size ≤ (w3.alloc (.cells #[.slice na zs.length nc, .slice sa st.length sc] 47)).heap.size := (unhide HB).size
      have hLs : w2.heap.size ≤ w3.heap.size := (unhide HLD).hL
      clear hD2 hb5
      go_wp2_with fail
      go_meet
      exact ⟨40, _, na2, sa2, nc2, sc2, zs2, st2, vs2, rfl, by omega, by omega, d1, d2, d3, d4, unhide HLN2, t2', t3', t4', rd_set (rd_set hr5 (by omega) _) (by omega) _, (ht5.set hLs _).set hLs _, hR2, hBs, hLs, OL.set (OL.set hOL2 hL5) (block_setCell hL5 _), block_setCell (block_setCell hL5 _) _⟩
    · go_wp2_with fail
      go_meet
      exact ⟨rr, _, na, sa, nc, sc, zs, st, vs, rfl, by omega, by omega, c1, c2, c3, c4, unhide HLN, unhide HS3, unhide HT3, unhide HB3, unhide HLD⟩
  case rest =>
  clear HLD HLN HT3 HS3 HB3 HB c1 c2 c3 c4 hx0 hx1
  generalize w3.heap.size = L at *
  clear zs st vs na nc sa sc rr code
  obtain ⟨rr, B, na, sa, nc, sc, zs, st, vs, rfl, hr0, hr1, c1, c2, c3, c4, hlen, HSH, HTM, HBD, hLD⟩ := hcut
  have HLN := hide hlen
  clear hlen
  have HLD := hide hLD
  clear hLD
  have hs3 : w.heap.size ≠ L := by have := (unhide HLD).hL; omega
  by_cases h0 : ((zs.length : Int) == 0) = true
  · have hX := box2 (unhide HLD).bx
    go_upto_region 8 with fail
    clear hX
    have hbx := (unhide HLD).bx
    have hnr := own_nums (unhide HLD).ol.num
    have htr := (unhide HLD).ol.texts (unhide HTM).sizes
    have hfn : ∀ S o, na = some ⟨S, o, none⟩ → w2.heap.size ≤ S := fun S o e => Nat.le_trans (unhide HLD).hB (own_far (unhide HLD).ol.num S o e)
    have hfar : ∀ S o, sa = some ⟨S, o, none⟩ → w2.heap.size ≤ S := fun S o e => Nat.le_trans (unhide HLD).hB (own_far (unhide HLD).ol.out S o e)
    have hrd := (unhide HLD).rd
    have htu := (unhide HLD).t1
    have htm := unhide HTM
    have HTM2 := hide htm
    clear htm
    have hLE : wc.drew.heap[L]? = some (.cells #[.slice na zs.length nc, .slice sa st.length sc] 47) := hbx
    have hNE : NumRow wc.drew na zs := hnr
    have hTE : TextsRow wc.drew sa st := htr
    have hRE : RdAt wc.drew R (p1 + 1) := hrd
    have hUE : Turns R w2 wc.drew := ⟨htu.os, htu.tape, htu.output, htu.size, htu.block⟩
    have hZE : wc.drew.heap[w.heap.size]? = some (.cells #[.slice none 0 0, .slice none 0 0] 47) := box_turns (unhide HZ2) hUE (by omega)
    have hFE : FunRow wc.drew a fs := funRow_turns (unhide HF2) (unhide HR2) hUE
    have hLne : w.heap.size ≠ L := hs3
    have HST : Hid (Stable (fun w' => w'.cell? ⟨L, 0, none⟩ = some (.slice na zs.length nc) ∧ w'.cell? ⟨L, 1, none⟩ = some (.slice sa st.length sc))) := (Stable.cell _ _).and (Stable.cell _ _)
    have HQ : Hid (wc.cell? ⟨L, 0, none⟩ = some (.slice na zs.length nc) ∧ wc.cell? ⟨L, 1, none⟩ = some (.slice sa st.length sc)) := (box2 hbx).1
    have HF := hide hFE
    have HN2 := hide hNE
    have HT3 := hide hTE
    have HRE := hide hRE
    have HUE := hide hUE
    clear hbx hnr htr hrd htu hFE hNE hTE hRE hUE
    refine wp_region_held_drew (S := (fun w' => w'.cell? ⟨L, 0, none⟩ = some (.slice na zs.length nc) ∧ w'.cell? ⟨L, 1, none⟩ = some (.slice sa st.length sc))) (by kernel_rfl) ((unhide HST).2 _ (unhide HQ)) (fun hHeld => ?_)
    generalize wc.drew = wa at *
    refine wpAnyH_take (i := 0) (oi := { dst := some 32, op := Go.Op.move (Go.Operand.tmp 5), type := 23, pos := "l7_lay.go:202", after := #[], guard := none }) (v := ?v1_0) rfl (by kernel_rfl) (by kernel_rfl) (by kernel_rfl) (fun _ _ _ h => h) (Or.inl ⟨by rfl, ?y1_0⟩) (by assumption) ?r1_0
    case y1_0 => (intro w hSw; (try dsimp only at hSw); go_simp; try (with_reducible rfl))
    try simp only [Act.put, List.setIfInBounds_toArray, List.set_cons_zero, List.set_cons_succ]
    refine wpAnyH_take (i := 1) (oi := { dst := some 33, op := Go.Op.load 47 (Go.Operand.tmp 7), type := 47, pos := "l7_lay.go:202", after := #[{ on := 3, ground := Go.Ground.gcOnly Go.Departure.lateStores }], guard := none }) (v := ?v2_1) rfl (by kernel_rfl) (by kernel_rfl) (by kernel_rfl) (fun _ _ _ h => h) (Or.inl ⟨by rfl, ?y2_1⟩) (by assumption) ?r2_1
    case y2_1 => (intro w hSw; (try dsimp only at hSw); go_simp; try (with_reducible rfl))
    try simp only [Act.put, List.setIfInBounds_toArray, List.set_cons_zero, List.set_cons_succ]
    refine wpAnyH_take (i := 2) (oi := { dst := some 34, op := Go.Op.move (Go.Operand.tmp 6), type := 3, pos := "l7_lay.go:202", after := #[{ on := 4, ground := Go.Ground.gcOnly Go.Departure.lateStores }], guard := none }) (v := ?v3_2) rfl (by kernel_rfl) (by kernel_rfl) (by kernel_rfl) (fun _ _ _ h => h) (Or.inl ⟨by rfl, ?y3_2⟩) (by assumption) ?r3_2
    case y3_2 => (intro w hSw; (try dsimp only at hSw); go_simp; try (with_reducible rfl))
    try simp only [Act.put, List.setIfInBounds_toArray, List.set_cons_zero, List.set_cons_succ]
    refine wpAnyH_take (i := 3) (oi := { dst := some 2, op := Go.Op.assign (Go.Operand.tmp 32), type := 23, pos := "l7_lay.go:202", after := #[{ on := 0, ground := Go.Ground.data }, { on := 0, ground := Go.Ground.phase }, { on := 1, ground := Go.Ground.textOnly Go.Departure.lateStores }, { on := 2, ground := Go.Ground.textOnly Go.Departure.lateStores }], guard := none }) (v := ?v4_3) rfl (by kernel_rfl) (by kernel_rfl) (by kernel_rfl) (fun _ _ _ h => h) (Or.inl ⟨by rfl, ?y4_3⟩) (by assumption) ?r4_3
    case y4_3 => (intro w hSw; (try dsimp only at hSw); go_simp; try (with_reducible rfl))
    try simp only [Act.put, List.setIfInBounds_toArray, List.set_cons_zero, List.set_cons_succ]
    refine wpAnyH_ready (rs := [4]) (by kernel_rfl) (by simp) ?_
    refine AllReadyH.cons (o := { dst := none, op := Go.Op.store 47 (Go.Operand.tmp 3) (Go.Operand.tmp 33), type := 0, pos := "l7_lay.go:202", after := #[{ on := 1, ground := Go.Ground.data }, { on := 3, ground := Go.Ground.chain }, { on := 0, ground := Go.Ground.phase }, { on := 1, ground := Go.Ground.phase }, { on := 2, ground := Go.Ground.textOnly Go.Departure.lateStores }, { on := 3, ground := Go.Ground.phase }], guard := none }) rfl (fun K hK => ?_) AllReadyH.nil
    have hrN := box2 hZE
    have hHeld2 := box2 (set_other (set_other hLE hLne) hLne : ((wa.setCell ⟨w.heap.size, 0, none⟩ (.slice na zs.length nc)).setCell ⟨w.heap.size, 1, none⟩ (.slice sa st.length sc)).heap[L]? = some (.cells #[.slice na zs.length nc, .slice sa st.length sc] 47))
    have hZF := box2 (block_setCell (block_setCell hZE _) _ : ((wa.setCell ⟨w.heap.size, 0, none⟩ (.slice na zs.length nc)).setCell ⟨w.heap.size, 1, none⟩ (.slice sa st.length sc)).heap[w.heap.size]? = some (.cells #[.slice na zs.length nc, .slice sa st.length sc] 47))
    go_simp
    refine hK.out _ _ hHeld2.1 (fun _ => ?_)
    clear hK K hHeld hrN hHeld2
    try simp only [Act.put, List.setIfInBounds_toArray, List.set_cons_zero, List.set_cons_succ]
    refine wpAnyH_take (i := 5) (oi := { dst := some 4, op := Go.Op.assign (Go.Operand.tmp 34), type := 3, pos := "l7_lay.go:202", after := #[{ on := 2, ground := Go.Ground.data }, { on := 4, ground := Go.Ground.chain }, { on := 0, ground := Go.Ground.phase }, { on := 1, ground := Go.Ground.phase }, { on := 2, ground := Go.Ground.phase }, { on := 3, ground := Go.Ground.phase }, { on := 4, ground := Go.Ground.phase }], guard := none }) (v := ?v5_5) rfl (by kernel_rfl) (by kernel_rfl) (by kernel_rfl) (fun _ _ _ h => h) (Or.inl ⟨by rfl, ?y5_5⟩) (by assumption) ?r5_5
    case y5_5 => (intro w hSw; (try dsimp only at hSw); go_simp; try (with_reducible rfl))
    try simp only [Act.put, List.setIfInBounds_toArray, List.set_cons_zero, List.set_cons_succ]
    refine wpAnyH_done (by kernel_rfl) ?_ _
    go_wp2_with fail
    exact bodyPost_ret (v := .tuple #[.slice a fs.length cap, .agg #[.slice na zs.length nc, .slice sa st.length sc], .int .i64 rr]) (by simp [results, Tryz.results88, go_sem, hZF]) rfl ⟨a, cap, fs, na, sa, nc, sc, zs, st, rr, p1 + 1, rfl, by omega, by omega, hc1, hc2, hl, HN, c1, c2, c3, c4, HTM2, fun_off (unhide HF) hZE, num_off (unhide HN2) hZE, texts_far (unhide HT3) (fun S o e => by have := hfar S o e; omega) hZE, ⟨fun S o e => Nat.lt_of_lt_of_le hR2 (hfn S o e), fun S o e => Nat.lt_of_lt_of_le hR2 (hfar S o e)⟩, by omega, rd_set (rd_set (unhide HRE) (by omega) _) (by omega) _, (((unhide HT2).trans (unhide HUE)).set (Nat.le_refl _) _).set (Nat.le_refl _) _⟩
  have h0f : ((zs.length : Int) == 0) = false := by simpa using h0
  have h1 : 0 < zs.length := by
    rcases Nat.eq_zero_or_pos zs.length with e | e
    · rw [e] at h0f; simp at h0f
    · exact e
  clear h0
  obtain ⟨g, rfl⟩ := num_addr (unhide HLD) h1
  have h2 : 0 < st.length := by have := unhide HLN; omega
  obtain ⟨S, rfl⟩ := out_addr (unhide HLD) h2
  have hX := box2 (unhide HLD).bx
  have hln : (zs.length : Int) ≤ 9223372036854775807 := by unfold maxLen at c2; omega
  have hls : (st.length : Int) ≤ 9223372036854775807 := by unfold maxLen at c4; omega
  go_wp2_with fail
  refine (pick_any wc R _ _ (unhide HLD).rd (by omega) (by omega)).mono ?_
  rintro e w5 ⟨k, hk, rfl, hr5, ht5⟩
  have HLD5 := hide ((unhide HLD).turns ht5 hr5)
  have hkn : k < zs.length := by omega
  have hks : k < st.length := by have := unhide HLN; omega
  have hks' : (k : Int) < (st.length : Int) := by omega
  have hk0 : (0 : Int) ≤ (k : Int) := by omega
  clear hX hr5 ht5 HLD
  go_wp2_with fail
  refine (pick_any w5 R _ 24 (unhide HLD5).rd (by omega) (by omega)).mono ?_
  rintro e w6 ⟨v, hv24, rfl, hr6, ht6⟩
  have HLD6 := hide ((unhide HLD5).turns ht6 hr6)
  clear hr6 ht6 HLD5
  go_upto_block 0 with fail
  go_cut [6] (fun v6 wx => DrawnRow w2 R (p1 + 1) L v6 wx)
  case first =>
    by_cases hv0 : ((v : Int) == 0) = true
    · obtain ⟨z, hz⟩ : ∃ z, zs[k] = z := ⟨_, rfl⟩
      have hzb := unhide HBD zs[k] (List.getElem_mem _)
      rw [hz] at hzb
      have HNA : Hid (∀ q w', LD w2 w' R q B L (.slice (some ⟨g, 0, none⟩) zs.length nc) (.slice (some ⟨S, 0, none⟩) st.length sc) zs st vs → w'.cell? ⟨g, k, none⟩ = some (.int .i64 z) ∧ w'.frozen? ⟨g, k, none⟩ = false) := fun q w' h => by
        have := OL.numAt h.ol hkn
        rw [hz] at this
        exact this
      clear hz
      have HST := hide (Stable.cell ⟨L, 0, none⟩ (.slice (some ⟨g, 0, none⟩) zs.length nc))
      have HQ := hide (box2 (unhide HLD6).bx).1.1
      have hLD := LD.drew (unhide HLD6)
      clear HLD6
      go_upto_region 12 with fail
      refine wp_region_held_drew (S := (fun w' => w'.cell? ⟨L, 0, none⟩ = some (.slice (some ⟨g, 0, none⟩) zs.length nc))) (by kernel_rfl) ((unhide HST).2 _ (unhide HQ)) (fun hHeld => ?_)
      generalize w6.drew = wa at *
      refine wpAnyH_take (i := 0) (oi := { dst := some 44, op := Go.Op.fieldAddr 47 (Go.Operand.tmp 7) 0, type := 0, pos := "l7_lay.go:207", after := #[], guard := none }) (v := ?v6_0) rfl (by kernel_rfl) (by kernel_rfl) (by kernel_rfl) (fun _ _ _ h => h) (Or.inl ⟨by rfl, ?y6_0⟩) (by assumption) ?r6_0
      case y6_0 => (intro w hSw; (try dsimp only at hSw); go_simp; try (with_reducible rfl))
      try simp only [Act.put, List.setIfInBounds_toArray, List.set_cons_zero, List.set_cons_succ]
      refine wpAnyH_take (i := 1) (oi := { dst := some 45, op := Go.Op.load 33 (Go.Operand.tmp 44), type := 33, pos := "l7_lay.go:207", after := #[{ on := 0, ground := Go.Ground.data }], guard := none }) (v := ?v7_1) rfl (by kernel_rfl) (by kernel_rfl) (by kernel_rfl) (fun _ _ _ h => h) (Or.inl ⟨by rfl, ?y7_1⟩) (by assumption) ?r7_1
      case y7_1 => (intro w hSw; (try dsimp only at hSw); go_simp; try (with_reducible rfl))
      try simp only [Act.put, List.setIfInBounds_toArray, List.set_cons_zero, List.set_cons_succ]
      refine wpAnyH_take (i := 2) (oi := { dst := some 46, op := Go.Op.move (Go.Operand.tmp 9), type := 3, pos := "l7_lay.go:207", after := #[], guard := none }) (v := ?v8_2) rfl (by kernel_rfl) (by kernel_rfl) (by kernel_rfl) (fun _ _ _ h => h) (Or.inl ⟨by rfl, ?y8_2⟩) (by assumption) ?r8_2
      case y8_2 => (intro w hSw; (try dsimp only at hSw); go_simp; try (with_reducible rfl))
      try simp only [Act.put, List.setIfInBounds_toArray, List.set_cons_zero, List.set_cons_succ]
      refine wpAnyH_take (i := 3) (oi := { dst := some 47, op := Go.Op.fieldAddr 47 (Go.Operand.tmp 7) 0, type := 0, pos := "l7_lay.go:207", after := #[], guard := none }) (v := ?v9_3) rfl (by kernel_rfl) (by kernel_rfl) (by kernel_rfl) (fun _ _ _ h => h) (Or.inl ⟨by rfl, ?y9_3⟩) (by assumption) ?r9_3
      case y9_3 => (intro w hSw; (try dsimp only at hSw); go_simp; try (with_reducible rfl))
      try simp only [Act.put, List.setIfInBounds_toArray, List.set_cons_zero, List.set_cons_succ]
      refine wpAnyH_take (i := 4) (oi := { dst := some 48, op := Go.Op.load 33 (Go.Operand.tmp 47), type := 33, pos := "l7_lay.go:207", after := #[{ on := 3, ground := Go.Ground.data }], guard := none }) (v := ?v10_4) rfl (by kernel_rfl) (by kernel_rfl) (by kernel_rfl) (fun _ _ _ h => h) (Or.inl ⟨by rfl, ?y10_4⟩) (by assumption) ?r10_4
      case y10_4 => (intro w hSw; (try dsimp only at hSw); go_simp; try (with_reducible rfl))
      try simp only [Act.put, List.setIfInBounds_toArray, List.set_cons_zero, List.set_cons_succ]
      refine wpAnyH_take (i := 5) (oi := { dst := some 49, op := Go.Op.move (Go.Operand.tmp 9), type := 3, pos := "l7_lay.go:207", after := #[], guard := none }) (v := ?v11_5) rfl (by kernel_rfl) (by kernel_rfl) (by kernel_rfl) (fun _ _ _ h => h) (Or.inl ⟨by rfl, ?y11_5⟩) (by assumption) ?r11_5
      case y11_5 => (intro w hSw; (try dsimp only at hSw); go_simp; try (with_reducible rfl))
      try simp only [Act.put, List.setIfInBounds_toArray, List.set_cons_zero, List.set_cons_succ]
      refine wpAnyH_take (i := 6) (oi := { dst := some 50, op := Go.Op.indexAddr 33 (Go.Operand.tmp 48) (Go.Operand.tmp 49), type := 0, pos := "l7_lay.go:207", after := #[{ on := 4, ground := Go.Ground.data }, { on := 5, ground := Go.Ground.data }], guard := none }) (v := ?v12_6) rfl (by kernel_rfl) (by kernel_rfl) (by kernel_rfl) (fun _ _ _ h => h) (Or.inl ⟨by rfl, ?y12_6⟩) (by assumption) ?r12_6
      case y12_6 => (intro w hSw; (try dsimp only at hSw); go_simp; try (with_reducible rfl))
      try simp only [Act.put, List.setIfInBounds_toArray, List.set_cons_zero, List.set_cons_succ]
      refine wpAnyH_take (i := 8) (oi := { dst := some 52, op := Go.Op.move (Go.Operand.tmp 0), type := 55, pos := "l7_lay.go:207", after := #[], guard := none }) (v := ?v13_8) rfl (by kernel_rfl) (by kernel_rfl) (by kernel_rfl) (fun _ _ _ h => h) (Or.inl ⟨by rfl, ?y13_8⟩) (by assumption) ?r13_8
      case y13_8 => (intro w hSw; (try dsimp only at hSw); go_simp; try (with_reducible rfl))
      try simp only [Act.put, List.setIfInBounds_toArray, List.set_cons_zero, List.set_cons_succ]
      refine wpAnyH_ready (rs := [7, 9]) (by kernel_rfl) (by simp) ?_
      refine AllReadyH.cons (o := { dst := some 51, op := Go.Op.load 3 (Go.Operand.tmp 50), type := 3, pos := "l7_lay.go:207", after := #[{ on := 6, ground := Go.Ground.data }], guard := none }) rfl (fun K hK => ?_) ?_
      · skip
        obtain ⟨hn1, hn2⟩ := unhide HNA _ _ hLD
        go_simp
        clear hn1 hn2
        refine hK.out _ _ hHeld (fun _ => ?_)
        clear hK K
        try simp only [Act.put, List.setIfInBounds_toArray, List.set_cons_zero, List.set_cons_succ]
        refine wpAnyH_ready (rs := [9]) (by kernel_rfl) (by simp) ?_
        refine AllReadyH.cons (o := { dst := some 53, op := Go.Op.buildSlice 33 2 #[(0, Go.Operand.const (Go.Value.int Go.IntKind.i64 1)), (1, Go.Operand.const (Go.Value.int Go.IntKind.i64 (-1)))], type := 33, pos := "l7_lay.go:207", after := #[], guard := none }) rfl (fun K hK => ?_) AllReadyH.nil
        go_simp
        have HLI : Hid (∀ i, i < 2 → ∃ x, x ∈ ([1, -1] : List Int) ∧ (wa.alloc (.cells #[.int .i64 1, .int .i64 (-1)] 3)).cell? ⟨wa.heap.size, i, none⟩ = some (.int .i64 x)) := ints_lit wa [1, -1] 3 _ rfl
        have hqR : wa.heap.size ≠ R := Nat.ne_of_gt (rd_lt hLD.rd)
        have hbk := below_alloc1 wa (.cells #[.int .i64 1, .int .i64 (-1)] 3)
        replace hLD := hLD.below hbk
        replace hHeld := (box2 hLD.bx).1.1
        clear hbk
        generalize wa.alloc (.cells #[.int .i64 1, .int .i64 (-1)] 3) = wb at *
        generalize wa.heap.size = qb at *
        refine hK.out _ _ hHeld (fun _ => ?_)
        clear hK K
        try simp only [Act.put, List.setIfInBounds_toArray, List.set_cons_zero, List.set_cons_succ]
        refine wpAnyH_ready (rs := [10]) (by kernel_rfl) (by simp) ?_
        refine AllReadyH.cons (o := { dst := some 54, op := Go.Op.call { callee := Go.Callee.value (Go.Operand.func 113), args := #[Go.Operand.tmp 52, Go.Operand.tmp 53], argTypes := #[55, 33] }, type := 3, pos := "l7_lay.go:207", after := #[{ on := 8, ground := Go.Ground.data }, { on := 9, ground := Go.Ground.data }], guard := none }) rfl (fun K hK => ?_) AllReadyH.nil
        go_simp
        go_at_call 113
        refine (num_any _ R _ qb 2 (· ∈ ([1, -1] : List Int)) hLD.rd (by omega) (by omega) (by omega) hqR (unhide HLI)).mono ?_
        rintro e wr ⟨x, hx, rfl, hr, ht⟩
        obtain ⟨hx1, hx2⟩ := bend_ok x hx
        obtain ⟨y, hy, hy1, hy2⟩ : ∃ y, IntKind.i64.wrap (z + x) = y ∧ -1 ≤ y ∧ y ≤ 50000000 := ⟨_, rfl, by rw [IntKind.wrap_i64]; omega, by rw [IntKind.wrap_i64]; omega⟩
        replace hLD := hLD.turns ht hr
        replace hHeld := (box2 hLD.bx).1.1
        clear hx hr ht HLI hqR
        go_wp2_with fail
        refine hK.out _ _ hHeld (fun _ => ?_)
        clear hK K
        try simp only [Act.put, List.setIfInBounds_toArray, List.set_cons_zero, List.set_cons_succ]
        refine wpAnyH_take (i := 11) (oi := { dst := some 55, op := Go.Op.binOp Go.BinOp.add 3 (Go.Operand.tmp 51) (Go.Operand.tmp 54) 3, type := 3, pos := "l7_lay.go:207", after := #[{ on := 7, ground := Go.Ground.data }, { on := 10, ground := Go.Ground.data }], guard := none }) (v := ?v14_11) rfl (by kernel_rfl) (by kernel_rfl) (by kernel_rfl) (fun _ _ _ h => h) (Or.inl ⟨by rfl, ?y14_11⟩) (by assumption) ?r14_11
        case y14_11 => (intro w hSw; (try dsimp only at hSw); go_simp; try (with_reducible rfl))
        try simp only [Act.put, List.setIfInBounds_toArray, List.set_cons_zero, List.set_cons_succ]
        refine wpAnyH_take (i := 12) (oi := { dst := some 56, op := Go.Op.indexAddr 33 (Go.Operand.tmp 45) (Go.Operand.tmp 46), type := 0, pos := "l7_lay.go:207", after := #[{ on := 1, ground := Go.Ground.data }, { on := 2, ground := Go.Ground.data }, { on := 0, ground := Go.Ground.phase }, { on := 1, ground := Go.Ground.phase }, { on := 2, ground := Go.Ground.phase }, { on := 3, ground := Go.Ground.phase }, { on := 4, ground := Go.Ground.phase }, { on := 5, ground := Go.Ground.phase }, { on := 6, ground := Go.Ground.phase }, { on := 7, ground := Go.Ground.phase }, { on := 8, ground := Go.Ground.phase }, { on := 9, ground := Go.Ground.phase }, { on := 10, ground := Go.Ground.phase }, { on := 11, ground := Go.Ground.phase }], guard := none }) (v := ?v15_12) rfl (by kernel_rfl) (by kernel_rfl) (by kernel_rfl) (fun _ _ _ h => h) (Or.inl ⟨by rfl, ?y15_12⟩) (by assumption) ?r15_12
        case y15_12 => (intro w hSw; (try dsimp only at hSw); go_simp; try (with_reducible rfl))
        try simp only [Act.put, List.setIfInBounds_toArray, List.set_cons_zero, List.set_cons_succ]
        refine wpAnyH_ready (rs := [13]) (by kernel_rfl) (by simp) ?_
        refine AllReadyH.cons (o := { dst := none, op := Go.Op.store 3 (Go.Operand.tmp 56) (Go.Operand.tmp 55), type := 0, pos := "l7_lay.go:207", after := #[{ on := 12, ground := Go.Ground.data }, { on := 11, ground := Go.Ground.data }, { on := 10, ground := Go.Ground.chain }, { on := 0, ground := Go.Ground.phase }, { on := 1, ground := Go.Ground.phase }, { on := 2, ground := Go.Ground.phase }, { on := 3, ground := Go.Ground.phase }, { on := 4, ground := Go.Ground.phase }, { on := 5, ground := Go.Ground.phase }, { on := 6, ground := Go.Ground.phase }, { on := 7, ground := Go.Ground.phase }, { on := 8, ground := Go.Ground.phase }, { on := 9, ground := Go.Ground.phase }, { on := 10, ground := Go.Ground.phase }, { on := 11, ground := Go.Ground.phase }], guard := none }) rfl (fun K hK => ?_) AllReadyH.nil
        obtain ⟨hn1, hn2⟩ := unhide HNA _ _ hLD
        go_simp
        (try rw [hy])
        replace hLD := hLD.num hkn y
        replace hHeld := (box2 hLD.bx).1.1
        clear hn1 hn2
        refine hK.out _ _ hHeld (fun _ => ?_)
        clear hK K hHeld
        try simp only [Act.put, List.setIfInBounds_toArray, List.set_cons_zero, List.set_cons_succ]
        generalize (wr.setCell ⟨g, k, none⟩ (.int .i64 y)) = wz at *
        refine wpAnyH_done (by kernel_rfl) ?_ _
        go_wp2_with fail
        go_meet
        have hlen : (zs.set k y).length = zs.length := List.length_set ..
        rw [← hlen] at hLD
        exact row_of hLD (by omega) (by omega) (by rw [hlen]; exact c1) c2 c3 c4 (tame_set (unhide HTM) (by omega)) (by omega)
      refine AllReadyH.cons (o := { dst := some 53, op := Go.Op.buildSlice 33 2 #[(0, Go.Operand.const (Go.Value.int Go.IntKind.i64 1)), (1, Go.Operand.const (Go.Value.int Go.IntKind.i64 (-1)))], type := 33, pos := "l7_lay.go:207", after := #[], guard := none }) rfl (fun K hK => ?_) AllReadyH.nil
      go_simp
      have HLI : Hid (∀ i, i < 2 → ∃ x, x ∈ ([1, -1] : List Int) ∧ (wa.alloc (.cells #[.int .i64 1, .int .i64 (-1)] 3)).cell? ⟨wa.heap.size, i, none⟩ = some (.int .i64 x)) := ints_lit wa [1, -1] 3 _ rfl
      have hqR : wa.heap.size ≠ R := Nat.ne_of_gt (rd_lt hLD.rd)
      have hbk := below_alloc1 wa (.cells #[.int .i64 1, .int .i64 (-1)] 3)
      replace hLD := hLD.below hbk
      replace hHeld := (box2 hLD.bx).1.1
      clear hbk
      generalize wa.alloc (.cells #[.int .i64 1, .int .i64 (-1)] 3) = wb at *
      generalize wa.heap.size = qb at *
      refine hK.out _ _ hHeld (fun _ => ?_)
      clear hK K
      try simp only [Act.put, List.setIfInBounds_toArray, List.set_cons_zero, List.set_cons_succ]
      refine wpAnyH_ready (rs := [7, 10]) (by kernel_rfl) (by simp) ?_
      refine AllReadyH.cons (o := { dst := some 51, op := Go.Op.load 3 (Go.Operand.tmp 50), type := 3, pos := "l7_lay.go:207", after := #[{ on := 6, ground := Go.Ground.data }], guard := none }) rfl (fun K hK => ?_) ?_
      · skip
        obtain ⟨hn1, hn2⟩ := unhide HNA _ _ hLD
        go_simp
        clear hn1 hn2
        refine hK.out _ _ hHeld (fun _ => ?_)
        clear hK K
        try simp only [Act.put, List.setIfInBounds_toArray, List.set_cons_zero, List.set_cons_succ]
        refine wpAnyH_ready (rs := [10]) (by kernel_rfl) (by simp) ?_
        refine AllReadyH.cons (o := { dst := some 54, op := Go.Op.call { callee := Go.Callee.value (Go.Operand.func 113), args := #[Go.Operand.tmp 52, Go.Operand.tmp 53], argTypes := #[55, 33] }, type := 3, pos := "l7_lay.go:207", after := #[{ on := 8, ground := Go.Ground.data }, { on := 9, ground := Go.Ground.data }], guard := none }) rfl (fun K hK => ?_) AllReadyH.nil
        go_simp
        go_at_call 113
        refine (num_any _ R _ qb 2 (· ∈ ([1, -1] : List Int)) hLD.rd (by omega) (by omega) (by omega) hqR (unhide HLI)).mono ?_
        rintro e wr ⟨x, hx, rfl, hr, ht⟩
        obtain ⟨hx1, hx2⟩ := bend_ok x hx
        obtain ⟨y, hy, hy1, hy2⟩ : ∃ y, IntKind.i64.wrap (z + x) = y ∧ -1 ≤ y ∧ y ≤ 50000000 := ⟨_, rfl, by rw [IntKind.wrap_i64]; omega, by rw [IntKind.wrap_i64]; omega⟩
        replace hLD := hLD.turns ht hr
        replace hHeld := (box2 hLD.bx).1.1
        clear hx hr ht HLI hqR
        go_wp2_with fail
        refine hK.out _ _ hHeld (fun _ => ?_)
        clear hK K
        try simp only [Act.put, List.setIfInBounds_toArray, List.set_cons_zero, List.set_cons_succ]
        refine wpAnyH_take (i := 11) (oi := { dst := some 55, op := Go.Op.binOp Go.BinOp.add 3 (Go.Operand.tmp 51) (Go.Operand.tmp 54) 3, type := 3, pos := "l7_lay.go:207", after := #[{ on := 7, ground := Go.Ground.data }, { on := 10, ground := Go.Ground.data }], guard := none }) (v := ?v16_11) rfl (by kernel_rfl) (by kernel_rfl) (by kernel_rfl) (fun _ _ _ h => h) (Or.inl ⟨by rfl, ?y16_11⟩) (by assumption) ?r16_11
        case y16_11 => (intro w hSw; (try dsimp only at hSw); go_simp; try (with_reducible rfl))
        try simp only [Act.put, List.setIfInBounds_toArray, List.set_cons_zero, List.set_cons_succ]
        refine wpAnyH_take (i := 12) (oi := { dst := some 56, op := Go.Op.indexAddr 33 (Go.Operand.tmp 45) (Go.Operand.tmp 46), type := 0, pos := "l7_lay.go:207", after := #[{ on := 1, ground := Go.Ground.data }, { on := 2, ground := Go.Ground.data }, { on := 0, ground := Go.Ground.phase }, { on := 1, ground := Go.Ground.phase }, { on := 2, ground := Go.Ground.phase }, { on := 3, ground := Go.Ground.phase }, { on := 4, ground := Go.Ground.phase }, { on := 5, ground := Go.Ground.phase }, { on := 6, ground := Go.Ground.phase }, { on := 7, ground := Go.Ground.phase }, { on := 8, ground := Go.Ground.phase }, { on := 9, ground := Go.Ground.phase }, { on := 10, ground := Go.Ground.phase }, { on := 11, ground := Go.Ground.phase }], guard := none }) (v := ?v17_12) rfl (by kernel_rfl) (by kernel_rfl) (by kernel_rfl) (fun _ _ _ h => h) (Or.inl ⟨by rfl, ?y17_12⟩) (by assumption) ?r17_12
        case y17_12 => (intro w hSw; (try dsimp only at hSw); go_simp; try (with_reducible rfl))
        try simp only [Act.put, List.setIfInBounds_toArray, List.set_cons_zero, List.set_cons_succ]
        refine wpAnyH_ready (rs := [13]) (by kernel_rfl) (by simp) ?_
        refine AllReadyH.cons (o := { dst := none, op := Go.Op.store 3 (Go.Operand.tmp 56) (Go.Operand.tmp 55), type := 0, pos := "l7_lay.go:207", after := #[{ on := 12, ground := Go.Ground.data }, { on := 11, ground := Go.Ground.data }, { on := 10, ground := Go.Ground.chain }, { on := 0, ground := Go.Ground.phase }, { on := 1, ground := Go.Ground.phase }, { on := 2, ground := Go.Ground.phase }, { on := 3, ground := Go.Ground.phase }, { on := 4, ground := Go.Ground.phase }, { on := 5, ground := Go.Ground.phase }, { on := 6, ground := Go.Ground.phase }, { on := 7, ground := Go.Ground.phase }, { on := 8, ground := Go.Ground.phase }, { on := 9, ground := Go.Ground.phase }, { on := 10, ground := Go.Ground.phase }, { on := 11, ground := Go.Ground.phase }], guard := none }) rfl (fun K hK => ?_) AllReadyH.nil
        obtain ⟨hn1, hn2⟩ := unhide HNA _ _ hLD
        go_simp
        (try rw [hy])
        replace hLD := hLD.num hkn y
        replace hHeld := (box2 hLD.bx).1.1
        clear hn1 hn2
        refine hK.out _ _ hHeld (fun _ => ?_)
        clear hK K hHeld
        try simp only [Act.put, List.setIfInBounds_toArray, List.set_cons_zero, List.set_cons_succ]
        generalize (wr.setCell ⟨g, k, none⟩ (.int .i64 y)) = wz at *
        refine wpAnyH_done (by kernel_rfl) ?_ _
        go_wp2_with fail
        go_meet
        have hlen : (zs.set k y).length = zs.length := List.length_set ..
        rw [← hlen] at hLD
        exact row_of hLD (by omega) (by omega) (by rw [hlen]; exact c1) c2 c3 c4 (tame_set (unhide HTM) (by omega)) (by omega)
      refine AllReadyH.cons (o := { dst := some 54, op := Go.Op.call { callee := Go.Callee.value (Go.Operand.func 113), args := #[Go.Operand.tmp 52, Go.Operand.tmp 53], argTypes := #[55, 33] }, type := 3, pos := "l7_lay.go:207", after := #[{ on := 8, ground := Go.Ground.data }, { on := 9, ground := Go.Ground.data }], guard := none }) rfl (fun K hK => ?_) AllReadyH.nil
      go_simp
      go_at_call 113
      refine (num_any _ R _ qb 2 (· ∈ ([1, -1] : List Int)) hLD.rd (by omega) (by omega) (by omega) hqR (unhide HLI)).mono ?_
      rintro e wr ⟨x, hx, rfl, hr, ht⟩
      obtain ⟨hx1, hx2⟩ := bend_ok x hx
      obtain ⟨y, hy, hy1, hy2⟩ : ∃ y, IntKind.i64.wrap (z + x) = y ∧ -1 ≤ y ∧ y ≤ 50000000 := ⟨_, rfl, by rw [IntKind.wrap_i64]; omega, by rw [IntKind.wrap_i64]; omega⟩
      replace hLD := hLD.turns ht hr
      replace hHeld := (box2 hLD.bx).1.1
      clear hx hr ht HLI hqR
      go_wp2_with fail
      refine hK.out _ _ hHeld (fun _ => ?_)
      clear hK K
      try simp only [Act.put, List.setIfInBounds_toArray, List.set_cons_zero, List.set_cons_succ]
      refine wpAnyH_ready (rs := [7]) (by kernel_rfl) (by simp) ?_
      refine AllReadyH.cons (o := { dst := some 51, op := Go.Op.load 3 (Go.Operand.tmp 50), type := 3, pos := "l7_lay.go:207", after := #[{ on := 6, ground := Go.Ground.data }], guard := none }) rfl (fun K hK => ?_) AllReadyH.nil
      obtain ⟨hn1, hn2⟩ := unhide HNA _ _ hLD
      go_simp
      clear hn1 hn2
      refine hK.out _ _ hHeld (fun _ => ?_)
      clear hK K
      try simp only [Act.put, List.setIfInBounds_toArray, List.set_cons_zero, List.set_cons_succ]
      refine wpAnyH_take (i := 11) (oi := { dst := some 55, op := Go.Op.binOp Go.BinOp.add 3 (Go.Operand.tmp 51) (Go.Operand.tmp 54) 3, type := 3, pos := "l7_lay.go:207", after := #[{ on := 7, ground := Go.Ground.data }, { on := 10, ground := Go.Ground.data }], guard := none }) (v := ?v18_11) rfl (by kernel_rfl) (by kernel_rfl) (by kernel_rfl) (fun _ _ _ h => h) (Or.inl ⟨by rfl, ?y18_11⟩) (by assumption) ?r18_11
      case y18_11 => (intro w hSw; (try dsimp only at hSw); go_simp; try (with_reducible rfl))
      try simp only [Act.put, List.setIfInBounds_toArray, List.set_cons_zero, List.set_cons_succ]
      refine wpAnyH_take (i := 12) (oi := { dst := some 56, op := Go.Op.indexAddr 33 (Go.Operand.tmp 45) (Go.Operand.tmp 46), type := 0, pos := "l7_lay.go:207", after := #[{ on := 1, ground := Go.Ground.data }, { on := 2, ground := Go.Ground.data }, { on := 0, ground := Go.Ground.phase }, { on := 1, ground := Go.Ground.phase }, { on := 2, ground := Go.Ground.phase }, { on := 3, ground := Go.Ground.phase }, { on := 4, ground := Go.Ground.phase }, { on := 5, ground := Go.Ground.phase }, { on := 6, ground := Go.Ground.phase }, { on := 7, ground := Go.Ground.phase }, { on := 8, ground := Go.Ground.phase }, { on := 9, ground := Go.Ground.phase }, { on := 10, ground := Go.Ground.phase }, { on := 11, ground := Go.Ground.phase }], guard := none }) (v := ?v19_12) rfl (by kernel_rfl) (by kernel_rfl) (by kernel_rfl) (fun _ _ _ h => h) (Or.inl ⟨by rfl, ?y19_12⟩) (by assumption) ?r19_12
      case y19_12 => (intro w hSw; (try dsimp only at hSw); go_simp; try (with_reducible rfl))
      try simp only [Act.put, List.setIfInBounds_toArray, List.set_cons_zero, List.set_cons_succ]
      refine wpAnyH_ready (rs := [13]) (by kernel_rfl) (by simp) ?_
      refine AllReadyH.cons (o := { dst := none, op := Go.Op.store 3 (Go.Operand.tmp 56) (Go.Operand.tmp 55), type := 0, pos := "l7_lay.go:207", after := #[{ on := 12, ground := Go.Ground.data }, { on := 11, ground := Go.Ground.data }, { on := 10, ground := Go.Ground.chain }, { on := 0, ground := Go.Ground.phase }, { on := 1, ground := Go.Ground.phase }, { on := 2, ground := Go.Ground.phase }, { on := 3, ground := Go.Ground.phase }, { on := 4, ground := Go.Ground.phase }, { on := 5, ground := Go.Ground.phase }, { on := 6, ground := Go.Ground.phase }, { on := 7, ground := Go.Ground.phase }, { on := 8, ground := Go.Ground.phase }, { on := 9, ground := Go.Ground.phase }, { on := 10, ground := Go.Ground.phase }, { on := 11, ground := Go.Ground.phase }], guard := none }) rfl (fun K hK => ?_) AllReadyH.nil
      obtain ⟨hn1, hn2⟩ := unhide HNA _ _ hLD
      go_simp
      (try rw [hy])
      replace hLD := hLD.num hkn y
      replace hHeld := (box2 hLD.bx).1.1
      clear hn1 hn2
      refine hK.out _ _ hHeld (fun _ => ?_)
      clear hK K hHeld
      try simp only [Act.put, List.setIfInBounds_toArray, List.set_cons_zero, List.set_cons_succ]
      generalize (wr.setCell ⟨g, k, none⟩ (.int .i64 y)) = wz at *
      refine wpAnyH_done (by kernel_rfl) ?_ _
      go_wp2_with fail
      go_meet
      have hlen : (zs.set k y).length = zs.length := List.length_set ..
      rw [← hlen] at hLD
      exact row_of hLD (by omega) (by omega) (by rw [hlen]; exact c1) c2 c3 c4 (tame_set (unhide HTM) (by omega)) (by omega)
    have b0 : ((v : Int) == 0) = false := by simpa using hv0
    clear hv0
    by_cases hv1 : ((v : Int) == 1) = true
    · obtain ⟨ea, ec, _, _, hv, _⟩ := OL.outAt (unhide HLD6).ol hks
      have hsk : st[k].length ≤ 1000 := by have := (unhide HSH st[k] (List.getElem_mem _)).1; omega
      have HST := hide (Stable.cell ⟨L, 1, none⟩ (.slice (some ⟨S, 0, none⟩) st.length sc))
      have HQ := hide (box2 (unhide HLD6).bx).1.2
      have hLD := LD.drew (unhide HLD6)
      clear HLD6
      go_upto_region 14 with fail
      refine wp_region_held_drew (S := (fun w' => w'.cell? ⟨L, 1, none⟩ = some (.slice (some ⟨S, 0, none⟩) st.length sc))) (by kernel_rfl) ((unhide HST).2 _ (unhide HQ)) (fun hHeld => ?_)
      generalize w6.drew = wa at *
      refine wpAnyH_take (i := 0) (oi := { dst := some 59, op := Go.Op.fieldAddr 47 (Go.Operand.tmp 7) 1, type := 0, pos := "l7_lay.go:209", after := #[], guard := none }) (v := ?v20_0) rfl (by kernel_rfl) (by kernel_rfl) (by kernel_rfl) (fun _ _ _ h => h) (Or.inl ⟨by rfl, ?y20_0⟩) (by assumption) ?r20_0
      case y20_0 => (intro w hSw; (try dsimp only at hSw); go_simp; try (with_reducible rfl))
      try simp only [Act.put, List.setIfInBounds_toArray, List.set_cons_zero, List.set_cons_succ]
      refine wpAnyH_take (i := 1) (oi := { dst := some 60, op := Go.Op.load 45 (Go.Operand.tmp 59), type := 45, pos := "l7_lay.go:209", after := #[{ on := 0, ground := Go.Ground.data }], guard := none }) (v := ?v21_1) rfl (by kernel_rfl) (by kernel_rfl) (by kernel_rfl) (fun _ _ _ h => h) (Or.inl ⟨by rfl, ?y21_1⟩) (by assumption) ?r21_1
      case y21_1 => (intro w hSw; (try dsimp only at hSw); go_simp; try (with_reducible rfl))
      try simp only [Act.put, List.setIfInBounds_toArray, List.set_cons_zero, List.set_cons_succ]
      refine wpAnyH_take (i := 2) (oi := { dst := some 61, op := Go.Op.move (Go.Operand.tmp 9), type := 3, pos := "l7_lay.go:209", after := #[], guard := none }) (v := ?v22_2) rfl (by kernel_rfl) (by kernel_rfl) (by kernel_rfl) (fun _ _ _ h => h) (Or.inl ⟨by rfl, ?y22_2⟩) (by assumption) ?r22_2
      case y22_2 => (intro w hSw; (try dsimp only at hSw); go_simp; try (with_reducible rfl))
      try simp only [Act.put, List.setIfInBounds_toArray, List.set_cons_zero, List.set_cons_succ]
      refine wpAnyH_take (i := 3) (oi := { dst := some 62, op := Go.Op.fieldAddr 47 (Go.Operand.tmp 7) 1, type := 0, pos := "l7_lay.go:209", after := #[], guard := none }) (v := ?v23_3) rfl (by kernel_rfl) (by kernel_rfl) (by kernel_rfl) (fun _ _ _ h => h) (Or.inl ⟨by rfl, ?y23_3⟩) (by assumption) ?r23_3
      case y23_3 => (intro w hSw; (try dsimp only at hSw); go_simp; try (with_reducible rfl))
      try simp only [Act.put, List.setIfInBounds_toArray, List.set_cons_zero, List.set_cons_succ]
      refine wpAnyH_take (i := 4) (oi := { dst := some 63, op := Go.Op.load 45 (Go.Operand.tmp 62), type := 45, pos := "l7_lay.go:209", after := #[{ on := 3, ground := Go.Ground.data }], guard := none }) (v := ?v24_4) rfl (by kernel_rfl) (by kernel_rfl) (by kernel_rfl) (fun _ _ _ h => h) (Or.inl ⟨by rfl, ?y24_4⟩) (by assumption) ?r24_4
      case y24_4 => (intro w hSw; (try dsimp only at hSw); go_simp; try (with_reducible rfl))
      try simp only [Act.put, List.setIfInBounds_toArray, List.set_cons_zero, List.set_cons_succ]
      refine wpAnyH_take (i := 5) (oi := { dst := some 64, op := Go.Op.move (Go.Operand.tmp 9), type := 3, pos := "l7_lay.go:209", after := #[], guard := none }) (v := ?v25_5) rfl (by kernel_rfl) (by kernel_rfl) (by kernel_rfl) (fun _ _ _ h => h) (Or.inl ⟨by rfl, ?y25_5⟩) (by assumption) ?r25_5
      case y25_5 => (intro w hSw; (try dsimp only at hSw); go_simp; try (with_reducible rfl))
      try simp only [Act.put, List.setIfInBounds_toArray, List.set_cons_zero, List.set_cons_succ]
      refine wpAnyH_take (i := 6) (oi := { dst := some 65, op := Go.Op.indexAddr 45 (Go.Operand.tmp 63) (Go.Operand.tmp 64), type := 0, pos := "l7_lay.go:209", after := #[{ on := 4, ground := Go.Ground.data }, { on := 5, ground := Go.Ground.data }], guard := none }) (v := ?v26_6) rfl (by kernel_rfl) (by kernel_rfl) (by kernel_rfl) (fun _ _ _ h => h) (Or.inl ⟨by rfl, ?y26_6⟩) (by assumption) ?r26_6
      case y26_6 => (intro w hSw; (try dsimp only at hSw); go_simp; try (with_reducible rfl))
      try simp only [Act.put, List.setIfInBounds_toArray, List.set_cons_zero, List.set_cons_succ]
      refine wpAnyH_take (i := 8) (oi := { dst := some 67, op := Go.Op.move (Go.Operand.tmp 0), type := 55, pos := "l7_lay.go:209", after := #[], guard := none }) (v := ?v27_8) rfl (by kernel_rfl) (by kernel_rfl) (by kernel_rfl) (fun _ _ _ h => h) (Or.inl ⟨by rfl, ?y27_8⟩) (by assumption) ?r27_8
      case y27_8 => (intro w hSw; (try dsimp only at hSw); go_simp; try (with_reducible rfl))
      try simp only [Act.put, List.setIfInBounds_toArray, List.set_cons_zero, List.set_cons_succ]
      refine wpAnyH_ready (rs := [7, 9]) (by kernel_rfl) (by simp) ?_
      refine AllReadyH.cons (o := { dst := some 66, op := Go.Op.load 60 (Go.Operand.tmp 65), type := 60, pos := "l7_lay.go:209", after := #[{ on := 6, ground := Go.Ground.data }], guard := none }) rfl (fun K hK => ?_) ?_
      · skip
        have hn1 := entry_is hLD.ol hks hv
        go_simp
        clear hn1
        refine hK.out _ _ hHeld (fun _ => ?_)
        clear hK K
        try simp only [Act.put, List.setIfInBounds_toArray, List.set_cons_zero, List.set_cons_succ]
        refine wpAnyH_ready (rs := [9]) (by kernel_rfl) (by simp) ?_
        refine AllReadyH.cons (o := { dst := some 68, op := Go.Op.buildSlice 60 2 #[(0, Go.Operand.const (Go.Value.string { data := #[109, 97, 105, 110] })), (1, Go.Operand.const (Go.Value.string { data := #[110, 111, 119, 104] }))], type := 60, pos := "l7_lay.go:209", after := #[], guard := none }) rfl (fun K hK => ?_) AllReadyH.nil
        go_simp
        have HLI : Hid (∀ i, i < 2 → ∃ x, x ∈ ([⟨#[109, 97, 105, 110]⟩, ⟨#[110, 111, 119, 104]⟩] : List ByteArray) ∧ (wa.alloc (.cells #[.string { data := #[109, 97, 105, 110] }, .string { data := #[110, 111, 119, 104] }] 9)).cell? ⟨wa.heap.size, i, none⟩ = some (.string x)) := strs_lit wa ([⟨#[109, 97, 105, 110]⟩, ⟨#[110, 111, 119, 104]⟩] : List ByteArray) 9 _ rfl
        have hqR : wa.heap.size ≠ R := Nat.ne_of_gt (rd_lt hLD.rd)
        have hbk := below_alloc1 wa (.cells #[.string { data := #[109, 97, 105, 110] }, .string { data := #[110, 111, 119, 104] }] 9)
        replace hLD := hLD.below hbk
        replace hHeld := (box2 hLD.bx).1.2
        clear hbk
        generalize wa.alloc (.cells #[.string { data := #[109, 97, 105, 110] }, .string { data := #[110, 111, 119, 104] }] 9) = wb at *
        generalize wa.heap.size = qb at *
        refine hK.out _ _ hHeld (fun _ => ?_)
        clear hK K
        try simp only [Act.put, List.setIfInBounds_toArray, List.set_cons_zero, List.set_cons_succ]
        refine wpAnyH_ready (rs := [10]) (by kernel_rfl) (by simp) ?_
        refine AllReadyH.cons (o := { dst := some 69, op := Go.Op.call { callee := Go.Callee.value (Go.Operand.func 114), args := #[Go.Operand.tmp 67, Go.Operand.tmp 68], argTypes := #[55, 60] }, type := 9, pos := "l7_lay.go:209", after := #[{ on := 8, ground := Go.Ground.data }, { on := 9, ground := Go.Ground.data }], guard := none }) rfl (fun K hK => ?_) AllReadyH.nil
        go_simp
        go_at_call 114
        refine (of_any _ R _ qb 2 (· ∈ ([⟨#[109, 97, 105, 110]⟩, ⟨#[110, 111, 119, 104]⟩] : List ByteArray)) hLD.rd (by omega) (by omega) (by omega) hqR (unhide HLI)).mono ?_
        rintro e wr ⟨x, hx, rfl, hr, ht⟩
        have hxs := bend_nm x hx
        replace hLD := hLD.turns ht hr
        replace hHeld := (box2 hLD.bx).1.2
        clear hx hr ht HLI hqR
        go_wp2_with fail
        refine hK.out _ _ hHeld (fun _ => ?_)
        clear hK K
        try simp only [Act.put, List.setIfInBounds_toArray, List.set_cons_zero, List.set_cons_succ]
        refine wpAnyH_ready (rs := [11]) (by kernel_rfl) (by simp) ?_
        refine AllReadyH.cons (o := { dst := some 70, op := Go.Op.buildSlice 60 1 #[(0, Go.Operand.tmp 69)], type := 60, pos := "l7_lay.go:209", after := #[{ on := 10, ground := Go.Ground.data }], guard := none }) rfl (fun K hK => ?_) AllReadyH.nil
        go_simp
        have hLDb := hLD
        replace hLD := hLD.below (below_alloc1 wr (.cells #[.string x] 9))
        replace hHeld := (box2 hLD.bx).1.2
        refine hK.out _ _ hHeld (fun _ => ?_)
        clear hK K
        try simp only [Act.put, List.setIfInBounds_toArray, List.set_cons_zero, List.set_cons_succ]
        refine wpAnyH_ready (rs := [12]) (by kernel_rfl) (by simp) ?_
        refine AllReadyH.cons (o := { dst := some 71, op := Go.Op.call { callee := Go.Callee.builtin Go.Builtin.append, args := #[Go.Operand.tmp 66, Go.Operand.tmp 70], argTypes := #[60, 60] }, type := 60, pos := "l7_lay.go:209", after := #[{ on := 7, ground := Go.Ground.data }, { on := 11, ground := Go.Ground.data }, { on := 10, ground := Go.Ground.chain }], guard := none }) rfl (fun K hK => ?_) AllReadyH.nil
        have hBw : B ≤ wr.heap.size := Nat.le_of_lt (Nat.lt_of_le_of_lt (World.ownsRow.lt hLDb.ol.out S rfl).1 (World.ownsRow.lt hLDb.ol.out S rfl).2)
        obtain ⟨v4, w4, hrun, ho4, hg4, hat4⟩ := name_onto (OL.own_of hLDb.ol hks hv) hBw hsk x 60
        obtain ⟨va, vn, vc, rfl⟩ : ∃ va vn vc, v4 = .slice va vn vc := by obtain ⟨a', c', e, _⟩ := form_of ho4; exact ⟨_, _, _, e⟩
        obtain ⟨hfz, hbx4, ⟨xo, hxo⟩, hLD4⟩ := hLDb.name hks hv hg4 ho4 hat4
        refine step_run rfl (.tmp 66) (.tmp 70) 60 60 rfl _ _ _ (by simp [Act.eval]) (by simp [Act.eval]) hrun ?_
        replace hHeld := (box2 hbx4).1.2
        clear hrun ho4 hg4 hat4 hLDb hLD
        refine hK.out _ _ hHeld (fun _ => ?_)
        clear hK K
        try simp only [Act.put, List.setIfInBounds_toArray, List.set_cons_zero, List.set_cons_succ]
        refine wpAnyH_take (i := 13) (oi := { dst := some 72, op := Go.Op.indexAddr 45 (Go.Operand.tmp 60) (Go.Operand.tmp 61), type := 0, pos := "l7_lay.go:209", after := #[{ on := 1, ground := Go.Ground.data }, { on := 2, ground := Go.Ground.data }, { on := 0, ground := Go.Ground.phase }, { on := 1, ground := Go.Ground.phase }, { on := 2, ground := Go.Ground.phase }, { on := 3, ground := Go.Ground.phase }, { on := 4, ground := Go.Ground.phase }, { on := 5, ground := Go.Ground.phase }, { on := 6, ground := Go.Ground.phase }, { on := 7, ground := Go.Ground.phase }, { on := 8, ground := Go.Ground.phase }, { on := 9, ground := Go.Ground.phase }, { on := 10, ground := Go.Ground.phase }, { on := 11, ground := Go.Ground.phase }, { on := 12, ground := Go.Ground.phase }], guard := none }) (v := ?v28_13) rfl (by kernel_rfl) (by kernel_rfl) (by kernel_rfl) (fun _ _ _ h => h) (Or.inl ⟨by rfl, ?y28_13⟩) (by assumption) ?r28_13
        case y28_13 => (intro w hSw; (try dsimp only at hSw); go_simp; try (with_reducible rfl))
        try simp only [Act.put, List.setIfInBounds_toArray, List.set_cons_zero, List.set_cons_succ]
        refine wpAnyH_ready (rs := [14]) (by kernel_rfl) (by simp) ?_
        refine AllReadyH.cons (o := { dst := none, op := Go.Op.store 60 (Go.Operand.tmp 72) (Go.Operand.tmp 71), type := 0, pos := "l7_lay.go:209", after := #[{ on := 13, ground := Go.Ground.data }, { on := 12, ground := Go.Ground.data }, { on := 12, ground := Go.Ground.chain }, { on := 0, ground := Go.Ground.phase }, { on := 1, ground := Go.Ground.phase }, { on := 2, ground := Go.Ground.phase }, { on := 3, ground := Go.Ground.phase }, { on := 4, ground := Go.Ground.phase }, { on := 5, ground := Go.Ground.phase }, { on := 6, ground := Go.Ground.phase }, { on := 7, ground := Go.Ground.phase }, { on := 8, ground := Go.Ground.phase }, { on := 9, ground := Go.Ground.phase }, { on := 10, ground := Go.Ground.phase }, { on := 11, ground := Go.Ground.phase }, { on := 12, ground := Go.Ground.phase }], guard := none }) rfl (fun K hK => ?_) AllReadyH.nil
        go_simp
        replace hHeld := (box2 hLD4.bx).1.2
        refine hK.out _ _ hHeld (fun _ => ?_)
        clear hK K hHeld hbx4 hfz hxo
        try simp only [Act.put, List.setIfInBounds_toArray, List.set_cons_zero, List.set_cons_succ]
        generalize (w4.setCell ⟨S, k, none⟩ (.slice va vn vc)) = wz at *
        refine wpAnyH_done (by kernel_rfl) ?_ _
        go_wp2_with fail
        go_meet
        have hlen : (addSt st k x).length = st.length := addSt_len ..
        rw [← hlen] at hLD4
        exact row_of hLD4 (by omega) (by omega) c1 c2 (by rw [hlen]; exact c3) c4 (tame_add (unhide HTM) (unhide HSH) hks hxs) (by omega)
      refine AllReadyH.cons (o := { dst := some 68, op := Go.Op.buildSlice 60 2 #[(0, Go.Operand.const (Go.Value.string { data := #[109, 97, 105, 110] })), (1, Go.Operand.const (Go.Value.string { data := #[110, 111, 119, 104] }))], type := 60, pos := "l7_lay.go:209", after := #[], guard := none }) rfl (fun K hK => ?_) AllReadyH.nil
      go_simp
      have HLI : Hid (∀ i, i < 2 → ∃ x, x ∈ ([⟨#[109, 97, 105, 110]⟩, ⟨#[110, 111, 119, 104]⟩] : List ByteArray) ∧ (wa.alloc (.cells #[.string { data := #[109, 97, 105, 110] }, .string { data := #[110, 111, 119, 104] }] 9)).cell? ⟨wa.heap.size, i, none⟩ = some (.string x)) := strs_lit wa ([⟨#[109, 97, 105, 110]⟩, ⟨#[110, 111, 119, 104]⟩] : List ByteArray) 9 _ rfl
      have hqR : wa.heap.size ≠ R := Nat.ne_of_gt (rd_lt hLD.rd)
      have hbk := below_alloc1 wa (.cells #[.string { data := #[109, 97, 105, 110] }, .string { data := #[110, 111, 119, 104] }] 9)
      replace hLD := hLD.below hbk
      replace hHeld := (box2 hLD.bx).1.2
      clear hbk
      generalize wa.alloc (.cells #[.string { data := #[109, 97, 105, 110] }, .string { data := #[110, 111, 119, 104] }] 9) = wb at *
      generalize wa.heap.size = qb at *
      refine hK.out _ _ hHeld (fun _ => ?_)
      clear hK K
      try simp only [Act.put, List.setIfInBounds_toArray, List.set_cons_zero, List.set_cons_succ]
      refine wpAnyH_ready (rs := [7, 10]) (by kernel_rfl) (by simp) ?_
      refine AllReadyH.cons (o := { dst := some 66, op := Go.Op.load 60 (Go.Operand.tmp 65), type := 60, pos := "l7_lay.go:209", after := #[{ on := 6, ground := Go.Ground.data }], guard := none }) rfl (fun K hK => ?_) ?_
      · skip
        have hn1 := entry_is hLD.ol hks hv
        go_simp
        clear hn1
        refine hK.out _ _ hHeld (fun _ => ?_)
        clear hK K
        try simp only [Act.put, List.setIfInBounds_toArray, List.set_cons_zero, List.set_cons_succ]
        refine wpAnyH_ready (rs := [10]) (by kernel_rfl) (by simp) ?_
        refine AllReadyH.cons (o := { dst := some 69, op := Go.Op.call { callee := Go.Callee.value (Go.Operand.func 114), args := #[Go.Operand.tmp 67, Go.Operand.tmp 68], argTypes := #[55, 60] }, type := 9, pos := "l7_lay.go:209", after := #[{ on := 8, ground := Go.Ground.data }, { on := 9, ground := Go.Ground.data }], guard := none }) rfl (fun K hK => ?_) AllReadyH.nil
        go_simp
        go_at_call 114
        refine (of_any _ R _ qb 2 (· ∈ ([⟨#[109, 97, 105, 110]⟩, ⟨#[110, 111, 119, 104]⟩] : List ByteArray)) hLD.rd (by omega) (by omega) (by omega) hqR (unhide HLI)).mono ?_
        rintro e wr ⟨x, hx, rfl, hr, ht⟩
        have hxs := bend_nm x hx
        replace hLD := hLD.turns ht hr
        replace hHeld := (box2 hLD.bx).1.2
        clear hx hr ht HLI hqR
        go_wp2_with fail
        refine hK.out _ _ hHeld (fun _ => ?_)
        clear hK K
        try simp only [Act.put, List.setIfInBounds_toArray, List.set_cons_zero, List.set_cons_succ]
        refine wpAnyH_ready (rs := [11]) (by kernel_rfl) (by simp) ?_
        refine AllReadyH.cons (o := { dst := some 70, op := Go.Op.buildSlice 60 1 #[(0, Go.Operand.tmp 69)], type := 60, pos := "l7_lay.go:209", after := #[{ on := 10, ground := Go.Ground.data }], guard := none }) rfl (fun K hK => ?_) AllReadyH.nil
        go_simp
        have hLDb := hLD
        replace hLD := hLD.below (below_alloc1 wr (.cells #[.string x] 9))
        replace hHeld := (box2 hLD.bx).1.2
        refine hK.out _ _ hHeld (fun _ => ?_)
        clear hK K
        try simp only [Act.put, List.setIfInBounds_toArray, List.set_cons_zero, List.set_cons_succ]
        refine wpAnyH_ready (rs := [12]) (by kernel_rfl) (by simp) ?_
        refine AllReadyH.cons (o := { dst := some 71, op := Go.Op.call { callee := Go.Callee.builtin Go.Builtin.append, args := #[Go.Operand.tmp 66, Go.Operand.tmp 70], argTypes := #[60, 60] }, type := 60, pos := "l7_lay.go:209", after := #[{ on := 7, ground := Go.Ground.data }, { on := 11, ground := Go.Ground.data }, { on := 10, ground := Go.Ground.chain }], guard := none }) rfl (fun K hK => ?_) AllReadyH.nil
        have hBw : B ≤ wr.heap.size := Nat.le_of_lt (Nat.lt_of_le_of_lt (World.ownsRow.lt hLDb.ol.out S rfl).1 (World.ownsRow.lt hLDb.ol.out S rfl).2)
        obtain ⟨v4, w4, hrun, ho4, hg4, hat4⟩ := name_onto (OL.own_of hLDb.ol hks hv) hBw hsk x 60
        obtain ⟨va, vn, vc, rfl⟩ : ∃ va vn vc, v4 = .slice va vn vc := by obtain ⟨a', c', e, _⟩ := form_of ho4; exact ⟨_, _, _, e⟩
        obtain ⟨hfz, hbx4, ⟨xo, hxo⟩, hLD4⟩ := hLDb.name hks hv hg4 ho4 hat4
        refine step_run rfl (.tmp 66) (.tmp 70) 60 60 rfl _ _ _ (by simp [Act.eval]) (by simp [Act.eval]) hrun ?_
        replace hHeld := (box2 hbx4).1.2
        clear hrun ho4 hg4 hat4 hLDb hLD
        refine hK.out _ _ hHeld (fun _ => ?_)
        clear hK K
        try simp only [Act.put, List.setIfInBounds_toArray, List.set_cons_zero, List.set_cons_succ]
        refine wpAnyH_take (i := 13) (oi := { dst := some 72, op := Go.Op.indexAddr 45 (Go.Operand.tmp 60) (Go.Operand.tmp 61), type := 0, pos := "l7_lay.go:209", after := #[{ on := 1, ground := Go.Ground.data }, { on := 2, ground := Go.Ground.data }, { on := 0, ground := Go.Ground.phase }, { on := 1, ground := Go.Ground.phase }, { on := 2, ground := Go.Ground.phase }, { on := 3, ground := Go.Ground.phase }, { on := 4, ground := Go.Ground.phase }, { on := 5, ground := Go.Ground.phase }, { on := 6, ground := Go.Ground.phase }, { on := 7, ground := Go.Ground.phase }, { on := 8, ground := Go.Ground.phase }, { on := 9, ground := Go.Ground.phase }, { on := 10, ground := Go.Ground.phase }, { on := 11, ground := Go.Ground.phase }, { on := 12, ground := Go.Ground.phase }], guard := none }) (v := ?v29_13) rfl (by kernel_rfl) (by kernel_rfl) (by kernel_rfl) (fun _ _ _ h => h) (Or.inl ⟨by rfl, ?y29_13⟩) (by assumption) ?r29_13
        case y29_13 => (intro w hSw; (try dsimp only at hSw); go_simp; try (with_reducible rfl))
        try simp only [Act.put, List.setIfInBounds_toArray, List.set_cons_zero, List.set_cons_succ]
        refine wpAnyH_ready (rs := [14]) (by kernel_rfl) (by simp) ?_
        refine AllReadyH.cons (o := { dst := none, op := Go.Op.store 60 (Go.Operand.tmp 72) (Go.Operand.tmp 71), type := 0, pos := "l7_lay.go:209", after := #[{ on := 13, ground := Go.Ground.data }, { on := 12, ground := Go.Ground.data }, { on := 12, ground := Go.Ground.chain }, { on := 0, ground := Go.Ground.phase }, { on := 1, ground := Go.Ground.phase }, { on := 2, ground := Go.Ground.phase }, { on := 3, ground := Go.Ground.phase }, { on := 4, ground := Go.Ground.phase }, { on := 5, ground := Go.Ground.phase }, { on := 6, ground := Go.Ground.phase }, { on := 7, ground := Go.Ground.phase }, { on := 8, ground := Go.Ground.phase }, { on := 9, ground := Go.Ground.phase }, { on := 10, ground := Go.Ground.phase }, { on := 11, ground := Go.Ground.phase }, { on := 12, ground := Go.Ground.phase }], guard := none }) rfl (fun K hK => ?_) AllReadyH.nil
        go_simp
        replace hHeld := (box2 hLD4.bx).1.2
        refine hK.out _ _ hHeld (fun _ => ?_)
        clear hK K hHeld hbx4 hfz hxo
        try simp only [Act.put, List.setIfInBounds_toArray, List.set_cons_zero, List.set_cons_succ]
        generalize (w4.setCell ⟨S, k, none⟩ (.slice va vn vc)) = wz at *
        refine wpAnyH_done (by kernel_rfl) ?_ _
        go_wp2_with fail
        go_meet
        have hlen : (addSt st k x).length = st.length := addSt_len ..
        rw [← hlen] at hLD4
        exact row_of hLD4 (by omega) (by omega) c1 c2 (by rw [hlen]; exact c3) c4 (tame_add (unhide HTM) (unhide HSH) hks hxs) (by omega)
      refine AllReadyH.cons (o := { dst := some 69, op := Go.Op.call { callee := Go.Callee.value (Go.Operand.func 114), args := #[Go.Operand.tmp 67, Go.Operand.tmp 68], argTypes := #[55, 60] }, type := 9, pos := "l7_lay.go:209", after := #[{ on := 8, ground := Go.Ground.data }, { on := 9, ground := Go.Ground.data }], guard := none }) rfl (fun K hK => ?_) AllReadyH.nil
      go_simp
      go_at_call 114
      refine (of_any _ R _ qb 2 (· ∈ ([⟨#[109, 97, 105, 110]⟩, ⟨#[110, 111, 119, 104]⟩] : List ByteArray)) hLD.rd (by omega) (by omega) (by omega) hqR (unhide HLI)).mono ?_
      rintro e wr ⟨x, hx, rfl, hr, ht⟩
      have hxs := bend_nm x hx
      replace hLD := hLD.turns ht hr
      replace hHeld := (box2 hLD.bx).1.2
      clear hx hr ht HLI hqR
      go_wp2_with fail
      refine hK.out _ _ hHeld (fun _ => ?_)
      clear hK K
      try simp only [Act.put, List.setIfInBounds_toArray, List.set_cons_zero, List.set_cons_succ]
      refine wpAnyH_ready (rs := [7, 11]) (by kernel_rfl) (by simp) ?_
      refine AllReadyH.cons (o := { dst := some 66, op := Go.Op.load 60 (Go.Operand.tmp 65), type := 60, pos := "l7_lay.go:209", after := #[{ on := 6, ground := Go.Ground.data }], guard := none }) rfl (fun K hK => ?_) ?_
      · skip
        have hn1 := entry_is hLD.ol hks hv
        go_simp
        clear hn1
        refine hK.out _ _ hHeld (fun _ => ?_)
        clear hK K
        try simp only [Act.put, List.setIfInBounds_toArray, List.set_cons_zero, List.set_cons_succ]
        refine wpAnyH_ready (rs := [11]) (by kernel_rfl) (by simp) ?_
        refine AllReadyH.cons (o := { dst := some 70, op := Go.Op.buildSlice 60 1 #[(0, Go.Operand.tmp 69)], type := 60, pos := "l7_lay.go:209", after := #[{ on := 10, ground := Go.Ground.data }], guard := none }) rfl (fun K hK => ?_) AllReadyH.nil
        go_simp
        have hLDb := hLD
        replace hLD := hLD.below (below_alloc1 wr (.cells #[.string x] 9))
        replace hHeld := (box2 hLD.bx).1.2
        refine hK.out _ _ hHeld (fun _ => ?_)
        clear hK K
        try simp only [Act.put, List.setIfInBounds_toArray, List.set_cons_zero, List.set_cons_succ]
        refine wpAnyH_ready (rs := [12]) (by kernel_rfl) (by simp) ?_
        refine AllReadyH.cons (o := { dst := some 71, op := Go.Op.call { callee := Go.Callee.builtin Go.Builtin.append, args := #[Go.Operand.tmp 66, Go.Operand.tmp 70], argTypes := #[60, 60] }, type := 60, pos := "l7_lay.go:209", after := #[{ on := 7, ground := Go.Ground.data }, { on := 11, ground := Go.Ground.data }, { on := 10, ground := Go.Ground.chain }], guard := none }) rfl (fun K hK => ?_) AllReadyH.nil
        have hBw : B ≤ wr.heap.size := Nat.le_of_lt (Nat.lt_of_le_of_lt (World.ownsRow.lt hLDb.ol.out S rfl).1 (World.ownsRow.lt hLDb.ol.out S rfl).2)
        obtain ⟨v4, w4, hrun, ho4, hg4, hat4⟩ := name_onto (OL.own_of hLDb.ol hks hv) hBw hsk x 60
        obtain ⟨va, vn, vc, rfl⟩ : ∃ va vn vc, v4 = .slice va vn vc := by obtain ⟨a', c', e, _⟩ := form_of ho4; exact ⟨_, _, _, e⟩
        obtain ⟨hfz, hbx4, ⟨xo, hxo⟩, hLD4⟩ := hLDb.name hks hv hg4 ho4 hat4
        refine step_run rfl (.tmp 66) (.tmp 70) 60 60 rfl _ _ _ (by simp [Act.eval]) (by simp [Act.eval]) hrun ?_
        replace hHeld := (box2 hbx4).1.2
        clear hrun ho4 hg4 hat4 hLDb hLD
        refine hK.out _ _ hHeld (fun _ => ?_)
        clear hK K
        try simp only [Act.put, List.setIfInBounds_toArray, List.set_cons_zero, List.set_cons_succ]
        refine wpAnyH_take (i := 13) (oi := { dst := some 72, op := Go.Op.indexAddr 45 (Go.Operand.tmp 60) (Go.Operand.tmp 61), type := 0, pos := "l7_lay.go:209", after := #[{ on := 1, ground := Go.Ground.data }, { on := 2, ground := Go.Ground.data }, { on := 0, ground := Go.Ground.phase }, { on := 1, ground := Go.Ground.phase }, { on := 2, ground := Go.Ground.phase }, { on := 3, ground := Go.Ground.phase }, { on := 4, ground := Go.Ground.phase }, { on := 5, ground := Go.Ground.phase }, { on := 6, ground := Go.Ground.phase }, { on := 7, ground := Go.Ground.phase }, { on := 8, ground := Go.Ground.phase }, { on := 9, ground := Go.Ground.phase }, { on := 10, ground := Go.Ground.phase }, { on := 11, ground := Go.Ground.phase }, { on := 12, ground := Go.Ground.phase }], guard := none }) (v := ?v30_13) rfl (by kernel_rfl) (by kernel_rfl) (by kernel_rfl) (fun _ _ _ h => h) (Or.inl ⟨by rfl, ?y30_13⟩) (by assumption) ?r30_13
        case y30_13 => (intro w hSw; (try dsimp only at hSw); go_simp; try (with_reducible rfl))
        try simp only [Act.put, List.setIfInBounds_toArray, List.set_cons_zero, List.set_cons_succ]
        refine wpAnyH_ready (rs := [14]) (by kernel_rfl) (by simp) ?_
        refine AllReadyH.cons (o := { dst := none, op := Go.Op.store 60 (Go.Operand.tmp 72) (Go.Operand.tmp 71), type := 0, pos := "l7_lay.go:209", after := #[{ on := 13, ground := Go.Ground.data }, { on := 12, ground := Go.Ground.data }, { on := 12, ground := Go.Ground.chain }, { on := 0, ground := Go.Ground.phase }, { on := 1, ground := Go.Ground.phase }, { on := 2, ground := Go.Ground.phase }, { on := 3, ground := Go.Ground.phase }, { on := 4, ground := Go.Ground.phase }, { on := 5, ground := Go.Ground.phase }, { on := 6, ground := Go.Ground.phase }, { on := 7, ground := Go.Ground.phase }, { on := 8, ground := Go.Ground.phase }, { on := 9, ground := Go.Ground.phase }, { on := 10, ground := Go.Ground.phase }, { on := 11, ground := Go.Ground.phase }, { on := 12, ground := Go.Ground.phase }], guard := none }) rfl (fun K hK => ?_) AllReadyH.nil
        go_simp
        replace hHeld := (box2 hLD4.bx).1.2
        refine hK.out _ _ hHeld (fun _ => ?_)
        clear hK K hHeld hbx4 hfz hxo
        try simp only [Act.put, List.setIfInBounds_toArray, List.set_cons_zero, List.set_cons_succ]
        generalize (w4.setCell ⟨S, k, none⟩ (.slice va vn vc)) = wz at *
        refine wpAnyH_done (by kernel_rfl) ?_ _
        go_wp2_with fail
        go_meet
        have hlen : (addSt st k x).length = st.length := addSt_len ..
        rw [← hlen] at hLD4
        exact row_of hLD4 (by omega) (by omega) c1 c2 (by rw [hlen]; exact c3) c4 (tame_add (unhide HTM) (unhide HSH) hks hxs) (by omega)
      refine AllReadyH.cons (o := { dst := some 70, op := Go.Op.buildSlice 60 1 #[(0, Go.Operand.tmp 69)], type := 60, pos := "l7_lay.go:209", after := #[{ on := 10, ground := Go.Ground.data }], guard := none }) rfl (fun K hK => ?_) AllReadyH.nil
      go_simp
      have hLDb := hLD
      replace hLD := hLD.below (below_alloc1 wr (.cells #[.string x] 9))
      replace hHeld := (box2 hLD.bx).1.2
      refine hK.out _ _ hHeld (fun _ => ?_)
      clear hK K
      try simp only [Act.put, List.setIfInBounds_toArray, List.set_cons_zero, List.set_cons_succ]
      refine wpAnyH_ready (rs := [7]) (by kernel_rfl) (by simp) ?_
      refine AllReadyH.cons (o := { dst := some 66, op := Go.Op.load 60 (Go.Operand.tmp 65), type := 60, pos := "l7_lay.go:209", after := #[{ on := 6, ground := Go.Ground.data }], guard := none }) rfl (fun K hK => ?_) AllReadyH.nil
      have hn1 := entry_is hLD.ol hks hv
      go_simp
      clear hn1
      refine hK.out _ _ hHeld (fun _ => ?_)
      clear hK K
      try simp only [Act.put, List.setIfInBounds_toArray, List.set_cons_zero, List.set_cons_succ]
      refine wpAnyH_ready (rs := [12]) (by kernel_rfl) (by simp) ?_
      refine AllReadyH.cons (o := { dst := some 71, op := Go.Op.call { callee := Go.Callee.builtin Go.Builtin.append, args := #[Go.Operand.tmp 66, Go.Operand.tmp 70], argTypes := #[60, 60] }, type := 60, pos := "l7_lay.go:209", after := #[{ on := 7, ground := Go.Ground.data }, { on := 11, ground := Go.Ground.data }, { on := 10, ground := Go.Ground.chain }], guard := none }) rfl (fun K hK => ?_) AllReadyH.nil
      have hBw : B ≤ wr.heap.size := Nat.le_of_lt (Nat.lt_of_le_of_lt (World.ownsRow.lt hLDb.ol.out S rfl).1 (World.ownsRow.lt hLDb.ol.out S rfl).2)
      obtain ⟨v4, w4, hrun, ho4, hg4, hat4⟩ := name_onto (OL.own_of hLDb.ol hks hv) hBw hsk x 60
      obtain ⟨va, vn, vc, rfl⟩ : ∃ va vn vc, v4 = .slice va vn vc := by obtain ⟨a', c', e, _⟩ := form_of ho4; exact ⟨_, _, _, e⟩
      obtain ⟨hfz, hbx4, ⟨xo, hxo⟩, hLD4⟩ := hLDb.name hks hv hg4 ho4 hat4
      refine step_run rfl (.tmp 66) (.tmp 70) 60 60 rfl _ _ _ (by simp [Act.eval]) (by simp [Act.eval]) hrun ?_
      replace hHeld := (box2 hbx4).1.2
      clear hrun ho4 hg4 hat4 hLDb hLD
      refine hK.out _ _ hHeld (fun _ => ?_)
      clear hK K
      try simp only [Act.put, List.setIfInBounds_toArray, List.set_cons_zero, List.set_cons_succ]
      refine wpAnyH_take (i := 13) (oi := { dst := some 72, op := Go.Op.indexAddr 45 (Go.Operand.tmp 60) (Go.Operand.tmp 61), type := 0, pos := "l7_lay.go:209", after := #[{ on := 1, ground := Go.Ground.data }, { on := 2, ground := Go.Ground.data }, { on := 0, ground := Go.Ground.phase }, { on := 1, ground := Go.Ground.phase }, { on := 2, ground := Go.Ground.phase }, { on := 3, ground := Go.Ground.phase }, { on := 4, ground := Go.Ground.phase }, { on := 5, ground := Go.Ground.phase }, { on := 6, ground := Go.Ground.phase }, { on := 7, ground := Go.Ground.phase }, { on := 8, ground := Go.Ground.phase }, { on := 9, ground := Go.Ground.phase }, { on := 10, ground := Go.Ground.phase }, { on := 11, ground := Go.Ground.phase }, { on := 12, ground := Go.Ground.phase }], guard := none }) (v := ?v31_13) rfl (by kernel_rfl) (by kernel_rfl) (by kernel_rfl) (fun _ _ _ h => h) (Or.inl ⟨by rfl, ?y31_13⟩) (by assumption) ?r31_13
      case y31_13 => (intro w hSw; (try dsimp only at hSw); go_simp; try (with_reducible rfl))
      try simp only [Act.put, List.setIfInBounds_toArray, List.set_cons_zero, List.set_cons_succ]
      refine wpAnyH_ready (rs := [14]) (by kernel_rfl) (by simp) ?_
      refine AllReadyH.cons (o := { dst := none, op := Go.Op.store 60 (Go.Operand.tmp 72) (Go.Operand.tmp 71), type := 0, pos := "l7_lay.go:209", after := #[{ on := 13, ground := Go.Ground.data }, { on := 12, ground := Go.Ground.data }, { on := 12, ground := Go.Ground.chain }, { on := 0, ground := Go.Ground.phase }, { on := 1, ground := Go.Ground.phase }, { on := 2, ground := Go.Ground.phase }, { on := 3, ground := Go.Ground.phase }, { on := 4, ground := Go.Ground.phase }, { on := 5, ground := Go.Ground.phase }, { on := 6, ground := Go.Ground.phase }, { on := 7, ground := Go.Ground.phase }, { on := 8, ground := Go.Ground.phase }, { on := 9, ground := Go.Ground.phase }, { on := 10, ground := Go.Ground.phase }, { on := 11, ground := Go.Ground.phase }, { on := 12, ground := Go.Ground.phase }], guard := none }) rfl (fun K hK => ?_) AllReadyH.nil
      go_simp
      replace hHeld := (box2 hLD4.bx).1.2
      refine hK.out _ _ hHeld (fun _ => ?_)
      clear hK K hHeld hbx4 hfz hxo
      try simp only [Act.put, List.setIfInBounds_toArray, List.set_cons_zero, List.set_cons_succ]
      generalize (w4.setCell ⟨S, k, none⟩ (.slice va vn vc)) = wz at *
      refine wpAnyH_done (by kernel_rfl) ?_ _
      go_wp2_with fail
      go_meet
      have hlen : (addSt st k x).length = st.length := addSt_len ..
      rw [← hlen] at hLD4
      exact row_of hLD4 (by omega) (by omega) c1 c2 (by rw [hlen]; exact c3) c4 (tame_add (unhide HTM) (unhide HSH) hks hxs) (by omega)
    have b1 : ((v : Int) == 1) = false := by simpa using hv1
    clear hv1
    by_cases hv2 : ((v : Int) == 2) = true
    · have hb7 := below_alloc1 w6 (.cells #[.int .i64 0, .int .i64 2, .int .i64 101, .int .i64 5] 3)
      have HLD7 := hide ((unhide HLD6).below hb7)
      go_wp2_with fail
      refine (num_any _ R _ _ 4 (· ∈ ([0, 2, 101, 5] : List Int)) (unhide HLD7).rd (by omega) (by omega) (by omega) (Nat.ne_of_gt (rd_lt (unhide HLD6).rd)) (ints_lit w6 [0, 2, 101, 5] _ _ rfl)).mono ?_
      rintro e w8 ⟨x, hx, rfl, hr8, ht8⟩
      obtain ⟨hx1, hx2⟩ := reach_ok x hx
      have HLD8 := hide ((unhide HLD7).turns ht8 hr8)
      clear hr8 ht8 hx HLD7 HLD6 hb7
      go_wp2_with fail
      go_meet
      exact row_of (unhide HLD8) hx1 hx2 c1 c2 c3 c4 (unhide HTM) (by omega)
    have b2 : ((v : Int) == 2) = false := by simpa using hv2
    clear hv2
    by_cases hv3 : ((v : Int) == 3) = true
    · have hX := box2 (unhide HLD6).bx
      have hkc : (k : Int) ≤ (sc : Int) := by omega
      have hsc : (sc : Int) ≤ 9223372036854775807 := by unfold maxLen at c4; omega
      go_wp2_with fail
      go_meet
      exact row_cut (unhide HLD6) (by omega) (by omega) (by omega) c1 c2 c3 c4 (unhide HTM) (by omega)
    · have b3 : ((v : Int) == 3) = false := by simpa using hv3
      clear hv3
      go_wp2_with fail
      go_meet
      exact row_of (unhide HLD6) (by omega) (by omega) c1 c2 c3 c4 (unhide HTM) (by omega)
  case rest =>
  clear HLD6 HLN HSH HTM HBD c1 c2 c3 c4 hr0 hr1 hk hkn hks hks' hk0 h1 h2 hln hls h0f hv24
  skip
  have hrow := hcut
  clear hcut
  obtain ⟨rr, na, sa, nc, sc, zs, st, q, hv6, hr0, hr1, c1, c2, c3, c4, htm, hbx, hnr, htr, hfn, hfar, hq, hrd, htu⟩ := hrow
  subst hv6
  have HTM2 := hide htm
  clear htm
  have hLE : wc.drew.heap[L]? = some (.cells #[.slice na zs.length nc, .slice sa st.length sc] 47) := hbx
  have hNE : NumRow wc.drew na zs := hnr
  have hTE : TextsRow wc.drew sa st := htr
  have hRE : RdAt wc.drew R q := hrd
  have hUE : Turns R w2 wc.drew := ⟨htu.os, htu.tape, htu.output, htu.size, htu.block⟩
  have hZE : wc.drew.heap[w.heap.size]? = some (.cells #[.slice none 0 0, .slice none 0 0] 47) := box_turns (unhide HZ2) hUE (by omega)
  have hFE : FunRow wc.drew a fs := funRow_turns (unhide HF2) (unhide HR2) hUE
  have hLne : w.heap.size ≠ L := hs3
  have HST : Hid (Stable (fun w' => w'.cell? ⟨L, 0, none⟩ = some (.slice na zs.length nc) ∧ w'.cell? ⟨L, 1, none⟩ = some (.slice sa st.length sc))) := (Stable.cell _ _).and (Stable.cell _ _)
  have HQ : Hid (wc.cell? ⟨L, 0, none⟩ = some (.slice na zs.length nc) ∧ wc.cell? ⟨L, 1, none⟩ = some (.slice sa st.length sc)) := (box2 hbx).1
  have HF := hide hFE
  have HN2 := hide hNE
  have HT3 := hide hTE
  have HRE := hide hRE
  have HUE := hide hUE
  clear hbx hnr htr hrd htu hFE hNE hTE hRE hUE
  go_upto_region 19 with fail
  refine wp_region_held_drew (S := (fun w' => w'.cell? ⟨L, 0, none⟩ = some (.slice na zs.length nc) ∧ w'.cell? ⟨L, 1, none⟩ = some (.slice sa st.length sc))) (by kernel_rfl) ((unhide HST).2 _ (unhide HQ)) (fun hHeld => ?_)
  generalize wc.drew = wa at *
  refine wpAnyH_take (i := 0) (oi := { dst := some 85, op := Go.Op.move (Go.Operand.tmp 5), type := 23, pos := "l7_lay.go:215", after := #[], guard := none }) (v := ?v32_0) rfl (by kernel_rfl) (by kernel_rfl) (by kernel_rfl) (fun _ _ _ h => h) (Or.inl ⟨by rfl, ?y32_0⟩) (by assumption) ?r32_0
  case y32_0 => (intro w hSw; (try dsimp only at hSw); go_simp; try (with_reducible rfl))
  try simp only [Act.put, List.setIfInBounds_toArray, List.set_cons_zero, List.set_cons_succ]
  refine wpAnyH_take (i := 1) (oi := { dst := some 86, op := Go.Op.load 47 (Go.Operand.tmp 7), type := 47, pos := "l7_lay.go:215", after := #[{ on := 3, ground := Go.Ground.gcOnly Go.Departure.lateStores }], guard := none }) (v := ?v33_1) rfl (by kernel_rfl) (by kernel_rfl) (by kernel_rfl) (fun _ _ _ h => h) (Or.inl ⟨by rfl, ?y33_1⟩) (by assumption) ?r33_1
  case y33_1 => (intro w hSw; (try dsimp only at hSw); go_simp; try (with_reducible rfl))
  try simp only [Act.put, List.setIfInBounds_toArray, List.set_cons_zero, List.set_cons_succ]
  refine wpAnyH_take (i := 2) (oi := { dst := some 87, op := Go.Op.move (Go.Operand.tmp 6), type := 3, pos := "l7_lay.go:215", after := #[{ on := 4, ground := Go.Ground.gcOnly Go.Departure.lateStores }], guard := none }) (v := ?v34_2) rfl (by kernel_rfl) (by kernel_rfl) (by kernel_rfl) (fun _ _ _ h => h) (Or.inl ⟨by rfl, ?y34_2⟩) (by assumption) ?r34_2
  case y34_2 => (intro w hSw; (try dsimp only at hSw); go_simp; try (with_reducible rfl))
  try simp only [Act.put, List.setIfInBounds_toArray, List.set_cons_zero, List.set_cons_succ]
  refine wpAnyH_take (i := 3) (oi := { dst := some 2, op := Go.Op.assign (Go.Operand.tmp 85), type := 23, pos := "l7_lay.go:215", after := #[{ on := 0, ground := Go.Ground.data }, { on := 0, ground := Go.Ground.phase }, { on := 1, ground := Go.Ground.textOnly Go.Departure.lateStores }, { on := 2, ground := Go.Ground.textOnly Go.Departure.lateStores }], guard := none }) (v := ?v35_3) rfl (by kernel_rfl) (by kernel_rfl) (by kernel_rfl) (fun _ _ _ h => h) (Or.inl ⟨by rfl, ?y35_3⟩) (by assumption) ?r35_3
  case y35_3 => (intro w hSw; (try dsimp only at hSw); go_simp; try (with_reducible rfl))
  try simp only [Act.put, List.setIfInBounds_toArray, List.set_cons_zero, List.set_cons_succ]
  refine wpAnyH_ready (rs := [4]) (by kernel_rfl) (by simp) ?_
  refine AllReadyH.cons (o := { dst := none, op := Go.Op.store 47 (Go.Operand.tmp 3) (Go.Operand.tmp 86), type := 0, pos := "l7_lay.go:215", after := #[{ on := 1, ground := Go.Ground.data }, { on := 3, ground := Go.Ground.chain }, { on := 0, ground := Go.Ground.phase }, { on := 1, ground := Go.Ground.phase }, { on := 2, ground := Go.Ground.textOnly Go.Departure.lateStores }, { on := 3, ground := Go.Ground.phase }], guard := none }) rfl (fun K hK => ?_) AllReadyH.nil
  have hrN := box2 hZE
  have hHeld2 := box2 (set_other (set_other hLE hLne) hLne : ((wa.setCell ⟨w.heap.size, 0, none⟩ (.slice na zs.length nc)).setCell ⟨w.heap.size, 1, none⟩ (.slice sa st.length sc)).heap[L]? = some (.cells #[.slice na zs.length nc, .slice sa st.length sc] 47))
  have hZF := box2 (block_setCell (block_setCell hZE _) _ : ((wa.setCell ⟨w.heap.size, 0, none⟩ (.slice na zs.length nc)).setCell ⟨w.heap.size, 1, none⟩ (.slice sa st.length sc)).heap[w.heap.size]? = some (.cells #[.slice na zs.length nc, .slice sa st.length sc] 47))
  go_simp
  refine hK.out _ _ hHeld2.1 (fun _ => ?_)
  clear hK K hHeld hrN hHeld2
  try simp only [Act.put, List.setIfInBounds_toArray, List.set_cons_zero, List.set_cons_succ]
  refine wpAnyH_take (i := 5) (oi := { dst := some 4, op := Go.Op.assign (Go.Operand.tmp 87), type := 3, pos := "l7_lay.go:215", after := #[{ on := 2, ground := Go.Ground.data }, { on := 4, ground := Go.Ground.chain }, { on := 0, ground := Go.Ground.phase }, { on := 1, ground := Go.Ground.phase }, { on := 2, ground := Go.Ground.phase }, { on := 3, ground := Go.Ground.phase }, { on := 4, ground := Go.Ground.phase }], guard := none }) (v := ?v36_5) rfl (by kernel_rfl) (by kernel_rfl) (by kernel_rfl) (fun _ _ _ h => h) (Or.inl ⟨by rfl, ?y36_5⟩) (by assumption) ?r36_5
  case y36_5 => (intro w hSw; (try dsimp only at hSw); go_simp; try (with_reducible rfl))
  try simp only [Act.put, List.setIfInBounds_toArray, List.set_cons_zero, List.set_cons_succ]
  refine wpAnyH_done (by kernel_rfl) ?_ _
  go_wp2_with fail
  exact bodyPost_ret (v := .tuple #[.slice a fs.length cap, .agg #[.slice na zs.length nc, .slice sa st.length sc], .int .i64 rr]) (by simp [results, Tryz.results88, go_sem, hZF]) rfl ⟨a, cap, fs, na, sa, nc, sc, zs, st, rr, q, rfl, hr0, hr1, hc1, hc2, hl, HN, c1, c2, c3, c4, HTM2, fun_off (unhide HF) hZE, num_off (unhide HN2) hZE, texts_far (unhide HT3) (fun S o e => by have := hfar S o e; omega) hZE, ⟨fun S o e => Nat.lt_of_lt_of_le hR2 (hfn S o e), fun S o e => Nat.lt_of_lt_of_le hR2 (hfar S o e)⟩, by omega, rd_set (rd_set (unhide HRE) (by omega) _) (by omega) _, (((unhide HT2).trans (unhide HUE)).set (Nat.le_refl _) _).set (Nat.le_refl _) _⟩
end Go.Proofs.YthbbmookhcalkaaGreatDoor.DrawM
