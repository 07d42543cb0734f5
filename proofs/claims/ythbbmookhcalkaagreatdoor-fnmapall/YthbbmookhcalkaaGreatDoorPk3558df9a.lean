/- Programs that are drawn: how they lie, and what is put behind them. -/
import Derived.Test.YthbbmookhcalkaaGreatDoorDrawK
import Derived.Test.YthbbmookhcalkaaGreatDoorPke40ff2eb
namespace Go.Proofs.YthbbmookhcalkaaGreatDoor.DrawP
open Go.ChangeShapes Go.WideShapes Go.ChangeAt Go.RowKit Go.Joins Go.Deep
open Go.Proofs.YthbbmookhcalkaaGreatDoor.Base Go.Proofs.YthbbmookhcalkaaGreatDoor.InsA Go.Proofs.YthbbmookhcalkaaGreatDoor.Funs Go.Proofs.YthbbmookhcalkaaGreatDoor.Open Go.Proofs.YthbbmookhcalkaaGreatDoor.FunS Go.Proofs.YthbbmookhcalkaaGreatDoor.Keep Go.Proofs.YthbbmookhcalkaaGreatDoor.UnitS Go.Proofs.YthbbmookhcalkaaGreatDoor.Rd Go.Proofs.YthbbmookhcalkaaGreatDoor.DrawIns Go.Proofs.YthbbmookhcalkaaGreatDoor.UU Go.Proofs.YthbbmookhcalkaaGreatDoor.DrawUU Go.Proofs.YthbbmookhcalkaaGreatDoor.DrawLit Go.Proofs.YthbbmookhcalkaaGreatDoor.DrawK Go.Proofs.YthbbmookhcalkaaGreatDoor.PickD Go.Proofs.YthbbmookhcalkaaGreatDoor.Concat Go.Proofs.YthbbmookhcalkaaGreatDoor.KeepC Go.Proofs.YthbbmookhcalkaaGreatDoor.KeepD Go.Proofs.YthbbmookhcalkaaGreatDoor.KeepW
set_option linter.unusedVariables false
set_option maxRecDepth 100000

theorem rd_two {w : World} {R p : Nat} (h : RdAt w R p) : ∃ a len cap, w.heap[R]? = some (.cells #[.slice a len cap, .int .i64 p] 107) := by
  obtain ⟨a, len, cap, hh, _⟩ := h
  exact ⟨a, len, cap, hh⟩
/-- A cell that holds a text is none of the reader's. -/
theorem rd_str {w : World} {R p b o : Nat} {s : ByteArray} (h : RdAt w R p) (hc : w.cell? ⟨b, o, none⟩ = some (.string s)) : b ≠ R := fun e => by
  obtain ⟨a, len, cap, hh⟩ := rd_two h
  rw [e, cell_of_block hh] at hc
  match o, hc with
  | 0, hc => simp at hc
  | 1, hc => simp at hc
  | o + 2, hc => simp at hc
theorem insRow_turns {w w' : World} {R p : Nat} {a : Option Addr} {xs : List InsD} (h : InsRow w a xs) (hr : RdAt w R p) (ht : Turns R w w') : InsRow w' a xs := by
  rcases h with h | ⟨b, off, ha, h⟩
  · exact .inl h
  · refine .inr ⟨b, off, ha, fun i hi => ?_⟩
    obtain ⟨h0, h1, h2, h3⟩ := h i hi
    have hb := rd_str hr h2
    exact ⟨ht.cell hb h0, ht.cell hb h1, ht.cell hb h2, h3⟩
theorem funRow_turns {w w' : World} {R p : Nat} {a : Option Addr} {fs : List FunD} (h : FunRow w a fs) (hr : RdAt w R p) (ht : Turns R w w') : FunRow w' a fs := by
  rcases h with h | ⟨b, off, ha, h⟩
  · exact .inl h
  · refine .inr ⟨b, off, ha, fun i hi => ?_⟩
    obtain ⟨ai, ci, h0, h1, h2, h3, h4, h5, h6⟩ := h i hi
    have hb := rd_str hr h0
    exact ⟨ai, ci, ht.cell hb h0, ht.cell hb h1, ht.cell hb h2, h3, h4, h5, insRow_turns h6 hr ht⟩
/-- A function's body, readable, in another block than G. -/
def BodyOff (w : World) (G : Option Nat) (u : FunD × Value) : Prop := ∃ ai ci, u.2 = .slice ai u.1.body.length ci ∧ u.1.nm.size ≤ maxLen ∧ u.1.body.length ≤ ci ∧ ci ≤ maxLen ∧ InsRow w ai u.1.body ∧ (u.1.body = [] ∨ ∃ b off, ai = some ⟨b, off, none⟩ ∧ G ≠ some b ∧ b < w.heap.size)
/-- A program in a row of the call's own. -/
def ProgOwn (w : World) (B : Nat) (v : Value) (us : List (FunD × Value)) : Prop := w.ownsRow B 28 3 v us.length (us.flatMap encV) ∧ ∀ u ∈ us, BodyOff w v.ownBlock u
theorem BodyOff.at {w : World} {G : Option Nat} {u : FunD × Value} (h : BodyOff w G u) : BodyAt w u := by
  obtain ⟨ai, ci, h0, h1, h2, h3, h4, _⟩ := h
  exact ⟨ai, ci, h0, h1, h2, h3, h4⟩
theorem BodyOff.of {w w' : World} {G : Option Nat} {u : FunD × Value} (h : BodyAt w u) (hb : Below w.heap.size w w') (hG : ∀ g, G = some g → w.heap.size ≤ g) : BodyOff w' G u := by
  obtain ⟨ai, ci, h0, h1, h2, h3, h4⟩ := h
  refine ⟨ai, ci, h0, h1, h2, h3, h4.below hb, ?_⟩
  by_cases hn : u.1.body = []
  · exact .inl hn
  · rcases h4 with h4 | ⟨b, off, ha, h4⟩
    · exact .inl h4
    · have h0 : 0 < u.1.body.length := List.length_pos_iff.2 hn
      have hlt : b < w.heap.size := World.block_lt_of_cell? w _ (h4 0 h0).1
      exact .inr ⟨b, off, ha, fun e => by have := hG b e; omega, Nat.lt_of_lt_of_le hlt hb.size⟩
theorem BodyOff.step {w w' : World} {G G' : Option Nat} {u : FunD × Value} (h : BodyOff w G u) (hs : w.heap.size ≤ w'.heap.size) (hk : ∀ b, b < w.heap.size → G ≠ some b → w'.heap[b]? = w.heap[b]?) (hG : ∀ b, b < w.heap.size → G ≠ some b → G' ≠ some b) : BodyOff w' G' u := by
  obtain ⟨ai, ci, h0, h1, h2, h3, h4, h5⟩ := h
  rcases h5 with h5 | ⟨b, off, rfl, hne, hlt⟩
  · exact ⟨ai, ci, h0, h1, h2, h3, .inl h5, .inl h5⟩
  · refine ⟨_, ci, h0, h1, h2, h3, ?_, .inr ⟨b, off, rfl, hG b hlt hne, by omega⟩⟩
    rcases h4 with h4 | ⟨b', off', e, h4⟩
    · exact .inl h4
    · cases e
      refine .inr ⟨b, off, rfl, fun i hi => ?_⟩
      rw [World.cell?_of_block (a := ⟨b, off + i * 3, none⟩) (hk b hlt hne), World.cell?_of_block (a := ⟨b, off + i * 3 + 1, none⟩) (hk b hlt hne), World.cell?_of_block (a := ⟨b, off + i * 3 + 2, none⟩) (hk b hlt hne)]
      exact h4 i hi
theorem BodyOff.turns {w w' : World} {R p : Nat} {G : Option Nat} {u : FunD × Value} (h : BodyOff w G u) (hr : RdAt w R p) (ht : Turns R w w') : BodyOff w' G u := by
  obtain ⟨ai, ci, h0, h1, h2, h3, h4, h5⟩ := h
  exact ⟨ai, ci, h0, h1, h2, h3, insRow_turns h4 hr ht, h5.imp id fun ⟨b, off, e, hn, hl⟩ => ⟨b, off, e, hn, Nat.lt_of_lt_of_le hl ht.size⟩⟩
theorem ProgOwn.row {w : World} {B : Nat} {v : Value} {us : List (FunD × Value)} (h : ProgOwn w B v us) : ∃ a cap, v = .slice a (us.map Prod.fst).length cap ∧ (us.map Prod.fst).length ≤ cap ∧ cap ≤ maxLen ∧ FunRow w a (us.map Prod.fst) := vals_row h.1 (fun u hu => (h.2 u hu).at)
theorem ProgOwn.turns {w w' : World} {R p B : Nat} {v : Value} {us : List (FunD × Value)} (h : ProgOwn w B v us) (hr : RdAt w R p) (ht : Turns R w w') (hR : R < B) : ProgOwn w' B v us :=
  ⟨DrawFun.own_turns h.1 ht hR, fun u hu => (h.2 u hu).turns hr ht⟩
theorem ProgOwn.below {w w' : World} {B : Nat} {v : Value} {us : List (FunD × Value)} (h : ProgOwn w B v us) (hb : Below w.heap.size w w') : ProgOwn w' B v us :=
  ⟨row_below h.1 hb, fun u hu => (h.2 u hu).step hb.size (fun b hl _ => hb.block b hl) (fun b _ hn => hn)⟩
/-- One function more behind the others. -/
theorem ProgOwn.snoc {W w3 : World} {B : Nat} {v v3 : Value} {us : List (FunD × Value)} {y : FunD × Value} {o : Obj} (h : ProgOwn W B v us) (hy : BodyOff W v.ownBlock y) (ho : w3.ownsRow B 28 3 v3 (us.length + 1) (us.flatMap encV ++ encV y)) (hg : (W.alloc o).grownBy w3 v.ownBlock) (hat : v3.ownBlock = v.ownBlock ∨ v3.ownBlock = some (W.alloc o).heap.size) : ProgOwn w3 B v3 (us ++ [y]) := by
  have hsz : W.heap.size ≤ w3.heap.size := by have := hg.size; simp at this; omega
  have key : ∀ u, BodyOff W v.ownBlock u → BodyOff w3 v3.ownBlock u := fun u hu => hu.step hsz (fun b hl hn => (hg.block b (by simp; omega) (fun e => hn e.symm)).trans ((below_alloc1 W o).block b hl)) (fun b hl hn e => by
    rcases hat with e' | e'
    · exact hn (by rw [← e']; exact e)
    · rw [e'] at e; simp at e; omega)
  refine ⟨vals_snoc ho, fun u hu => ?_⟩
  rcases List.mem_append.1 hu with hu | hu
  · exact key u (h.2 u hu)
  · rw [List.mem_singleton.1 hu]; exact key y hy
/-- The first one's body is made nothing. -/
theorem prog_nil {w : World} {B g cap : Nat} {us : List (FunD × Value)} {f : FunD} {bv : Value} {r : List (FunD × Value)} (h : ProgOwn w B (.slice (some ⟨g, 0, none⟩) us.length cap) us) (hu : us = (f, bv) :: r) : FunRow (w.setCell ⟨g, 2, none⟩ (.slice none 0 0)) (some ⟨g, 0, none⟩) (⟨f.nm, f.wk, []⟩ :: r.map Prod.fst) := by
  obtain ⟨⟨_, ⟨e, _⟩ | ⟨g', cap', cur, e, hB, hg, hn, hm, hs, ht⟩⟩, h2⟩ := h
  · cases e
  · cases e
    have hset := block_setCell (i := 2) hg (.slice none 0 0)
    have hlen : us.length = r.length + 1 := by rw [hu]; rfl
    have t : ∀ j x, j ≠ 2 → j < us.length * 3 → (us.flatMap encV)[j]? = some x → (w.setCell ⟨g, 2, none⟩ (.slice none 0 0)).cell? ⟨g, j, none⟩ = some x := fun j x hj hl e => by
      rw [cell_of_block hset, Array.getElem?_setIfInBounds_ne (Ne.symm hj)]
      rw [← ht, List.getElem?_take_of_lt hl] at e
      simpa using e
    refine .inr ⟨g, 0, rfl, fun i hi => ?_⟩
    have hi' : i < us.length := by rw [hlen]; simpa using hi
    obtain ⟨e0, e1, e2⟩ := flatV_at us i hi'
    have hbd := h2 us[i] (List.getElem_mem hi')
    obtain ⟨ai, ci, b0, b1, b2, b3, b4, b5⟩ := hbd
    by_cases h0 : i = 0
    · subst h0
      have hf : us[0] = (f, bv) := by simp [hu]
      rw [hf] at e0 e1 b1
      refine ⟨none, 0, ?_, ?_, ?_, b1, Nat.le_refl _, Nat.zero_le _, .inl rfl⟩
      · have := t (0 * 3) _ (by omega) (by omega) e0; simpa using this
      · have := t (0 * 3 + 1) _ (by omega) (by omega) e1; simpa using this
      · rw [cell_of_block hset]
        have : 2 < cur.size := by omega
        simp [this]
    · have hfi : (⟨f.nm, f.wk, []⟩ :: r.map Prod.fst)[i] = us[i].1 := by
        cases i with
        | zero => exact absurd rfl h0
        | succ i => simp [hu]
      rw [hfi]
      refine ⟨ai, ci, ?_, ?_, ?_, b1, b2, b3, ?_⟩
      · have := t (i * 3) _ (by omega) (by omega) e0; simpa using this
      · have := t (i * 3 + 1) _ (by omega) (by omega) e1; rw [Nat.zero_add]; exact this
      · have := t (i * 3 + 2) _ (by omega) (by omega) e2; rw [Nat.zero_add, this, b0]
      · rcases b5 with b5 | ⟨b, off, rfl, hne, hlt⟩
        · exact .inl b5
        · rcases b4 with b4 | ⟨b', off', e, b4⟩
          · exact .inl b4
          · cases e
            have hbg : b ≠ g := fun e => hne (by rw [e]; rfl)
            refine .inr ⟨b, off, rfl, fun k hk => ?_⟩
            have e : (w.setCell ⟨g, 2, none⟩ (.slice none 0 0)).heap[b]? = w.heap[b]? := Below.heap_setCell w ⟨g, 2, none⟩ _ b hbg
            rw [World.cell?_of_block (a := ⟨b, off + k * 3, none⟩) e, World.cell?_of_block (a := ⟨b, off + k * 3 + 1, none⟩) e, World.cell?_of_block (a := ⟨b, off + k * 3 + 2, none⟩) e]
            exact b4 k hk
end Go.Proofs.YthbbmookhcalkaaGreatDoor.DrawP
/- The contracts of the specification's draws of programs: l4Prog, l4Bent, and the draws of chapter 4. -/
namespace Go.Proofs.YthbbmookhcalkaaGreatDoor.DrawQ
open Go.ChangeShapes Go.WideShapes Go.ChangeAt Go.RowKit Go.Joins Go.Deep
open Go.Proofs.YthbbmookhcalkaaGreatDoor.Base Go.Proofs.YthbbmookhcalkaaGreatDoor.InsA Go.Proofs.YthbbmookhcalkaaGreatDoor.Funs Go.Proofs.YthbbmookhcalkaaGreatDoor.Open Go.Proofs.YthbbmookhcalkaaGreatDoor.FunS Go.Proofs.YthbbmookhcalkaaGreatDoor.Keep Go.Proofs.YthbbmookhcalkaaGreatDoor.UnitS Go.Proofs.YthbbmookhcalkaaGreatDoor.Rd Go.Proofs.YthbbmookhcalkaaGreatDoor.DrawIns Go.Proofs.YthbbmookhcalkaaGreatDoor.UU Go.Proofs.YthbbmookhcalkaaGreatDoor.DrawUU Go.Proofs.YthbbmookhcalkaaGreatDoor.DrawLit Go.Proofs.YthbbmookhcalkaaGreatDoor.DrawK Go.Proofs.YthbbmookhcalkaaGreatDoor.PickD Go.Proofs.YthbbmookhcalkaaGreatDoor.Concat Go.Proofs.YthbbmookhcalkaaGreatDoor.KeepC Go.Proofs.YthbbmookhcalkaaGreatDoor.KeepD Go.Proofs.YthbbmookhcalkaaGreatDoor.KeepW Go.Proofs.YthbbmookhcalkaaGreatDoor.DrawP
open Go.Proofs.YthbbmookhcalkaaGreatDoor.DrawFun (short)
open Go.Proofs.YthbbmookhcalkaaGreatDoor.DrawThin (name_in)
set_option linter.unusedVariables false
set_option maxRecDepth 100000

def mainB : ByteArray := ⟨#[109, 97, 105, 110]⟩
theorem flat_lit {vs : List UnitV} (h : ∀ u ∈ vs, lit u) : (unitsD vs).flatten.length ≤ vs.length * 3 := by
  induction vs with
  | nil => simp [unitsD]
  | cons u r ih =>
    have h1 := (h u (List.mem_cons_self ..)).1
    have h2 := ih (fun x hx => h x (List.mem_cons_of_mem _ hx))
    have e : (unitsD (u :: r)).flatten.length = u.1.length + (unitsD r).flatten.length := by
      show ((u.1.map Prod.fst) :: unitsD r).flatten.length = _
      rw [List.flatten_cons, List.length_append, List.length_map]
    rw [e, List.length_cons, Nat.succ_mul]
    omega
theorem lit_small {vs : List UnitV} (h : ∀ u ∈ vs, lit u) (hl : vs.length ≤ 20) : Small (unitsD vs) := by
  have h1 := flat_lit h
  obtain ⟨_, h10, hsh⟩ := lit_units h
  refine ⟨by unfold flen; omega, fun f hf => ?_, fun f hf x hx => ?_⟩
  · obtain ⟨u, hu, hf⟩ := List.mem_flatten.1 hf
    have := h10 u hu f hf; omega
  · obtain ⟨u, hu, hf⟩ := List.mem_flatten.1 hf
    exact (hsh u hu f hf x hx).max
theorem walk_some {us : List (List FunD)} {s : ByteArray} {out : List FunD} (h : walkB us s = some out) : 1 ≤ out.length ∧ out.length ≤ us.flatten.length := by
  unfold walkB resK at h
  have hi := stK_inv us s (us.flatten.length + 1)
  have hb := stK_bound us s (us.flatten.length + 1)
  by_cases e : (stK us s (us.flatten.length + 1)).1.length = (stK us s (us.flatten.length + 1)).2.length
  · rw [if_pos e] at h
    cases h
    have := (List.getElem?_eq_some_iff.1 hi.head).1
    exact ⟨by omega, hb⟩
  · rw [if_neg e] at h; cases h
theorem walk_in {us : List (List FunD)} {s : ByteArray} {out : List FunD} (h : walkB us s = some out) : ∀ f ∈ out, f ∈ us.flatten := by
  unfold walkB resK at h
  have hi := stK_inv us s (us.flatten.length + 1)
  by_cases e : (stK us s (us.flatten.length + 1)).1.length = (stK us s (us.flatten.length + 1)).2.length
  · rw [if_pos e] at h
    cases h
    exact hi.mem
  · rw [if_neg e] at h; cases h
/-- The names of the functions are those that are drawn. -/
def NmOk (us : List (FunD × Value)) : Prop := ∀ u ∈ us, okN u.1.nm
theorem lit_names {vs : List UnitV} (h : ∀ u ∈ vs, lit u) : ∀ f ∈ (unitsD vs).flatten, okN f.nm := by
  intro f hf
  obtain ⟨u, hu, hf⟩ := List.mem_flatten.1 hf
  unfold unitsD at hu
  obtain ⟨v, hv, rfl⟩ := List.mem_map.1 hu
  obtain ⟨x, hx, rfl⟩ := List.mem_map.1 hf
  exact ((h v hv).2 x hx).1
/-- What l4Prog leaves. -/
def ProgLeft (R p : Nat) (w : World) (e : Ending) (w' : World) : Prop := ∃ v us p', e = .returned v ∧ ProgOwn w' w.heap.size v us ∧ 1 ≤ us.length ∧ us.length ≤ 40 ∧ Hid (NmOk us) ∧ p' ≤ p + 1000 ∧ RdAt w' R p' ∧ Turns R w w'
/-- The program that is taken where none is closed: three instructions in one block, one function in the next. -/
theorem prog_main (w : World) : ProgOwn ((w.alloc (.cells #[.int .i64 2, .int .i64 1, .string ⟨#[]⟩, .int .i64 1, .int .i64 0, .string ⟨#[]⟩, .int .i64 7, .int .i64 0, .string ⟨#[]⟩] 105)).alloc (.cells #[.string mainB, .bool false, .slice (some ⟨w.heap.size, 0, none⟩) 3 3] 28)) w.heap.size (.slice (some ⟨w.heap.size + 1, 0, none⟩) 1 1) [((⟨mainB, false, [⟨2, 1, ⟨#[]⟩⟩, ⟨1, 0, ⟨#[]⟩⟩, ⟨7, 0, ⟨#[]⟩⟩]⟩ : FunD), .slice (some ⟨w.heap.size, 0, none⟩) 3 3)] := by
  have h1 := new_block (w.alloc (.cells #[.int .i64 2, .int .i64 1, .string ⟨#[]⟩, .int .i64 1, .int .i64 0, .string ⟨#[]⟩, .int .i64 7, .int .i64 0, .string ⟨#[]⟩] 105)) (.cells #[.string mainB, .bool false, .slice (some ⟨w.heap.size, 0, none⟩) 3 3] 28)
  rw [World.size_alloc] at h1
  have h0 := box_below (new_block w (.cells #[.int .i64 2, .int .i64 1, .string ⟨#[]⟩, .int .i64 1, .int .i64 0, .string ⟨#[]⟩, .int .i64 7, .int .i64 0, .string ⟨#[]⟩] 105)) (below_alloc1 _ (.cells #[.string mainB, .bool false, .slice (some ⟨w.heap.size, 0, none⟩) 3 3] 28))
  refine ⟨⟨by simp [encV], .inr ⟨_, _, _, rfl, by omega, h1, Nat.le_refl _, by unfold maxLen; omega, rfl, rfl⟩⟩, fun u hu => ?_⟩
  rw [List.mem_singleton.1 hu]
  refine ⟨_, 3, rfl, by show (4 : Nat) ≤ maxLen; unfold maxLen; omega, Nat.le_refl _, by unfold maxLen; omega, .inr ⟨_, 0, rfl, fun i hi => ?_⟩, .inr ⟨_, 0, rfl, fun e => ?_, by simp; omega⟩⟩
  · have hi3 : i < 3 := by simpa using hi
    match i, hi3 with
    | 0, _ => exact ⟨by rw [cell_of_block h0]; rfl, by rw [cell_of_block h0]; rfl, by rw [cell_of_block h0]; rfl, Nat.zero_le _⟩
    | 1, _ => exact ⟨by rw [cell_of_block h0]; rfl, by rw [cell_of_block h0]; rfl, by rw [cell_of_block h0]; rfl, Nat.zero_le _⟩
    | 2, _ => exact ⟨by rw [cell_of_block h0]; rfl, by rw [cell_of_block h0]; rfl, by rw [cell_of_block h0]; rfl, Nat.zero_le _⟩
  · simp [Value.ownBlock] at e

set_option maxHeartbeats 4000000 in
theorem prog_draw (w : World) (R p : Nat) (h : RdAt w R p) (hp : p ≤ 4294900000) :
    Calls Tryz.prog 63 #[.pointer (some ⟨R, 0, none⟩)] w (ProgLeft R p w) := by
  have hlt := rd_lt h
  have H := hide h
  clear h
  go_enter Tryz.func63, Tryz.ntmps63
  go_wp2_with fail
  refine (units_lit _ R p 3 (unhide H) (by omega) (by omega)).mono ?_
  rintro e w1 ⟨v1, vs1, p1, rfl, hU1, hvm, hv3, hp1, hr1, ht1⟩
  have HU1 := hide hU1
  have HL1 := hide hv3
  have HR1 := hide hr1
  have HT1 := hide ht1
  clear hU1 hv3 hr1 ht1 H
  go_wp2_with fail
  refine (thin_lit _ _ _ v1 vs1 (unhide HU1) (by omega) (unhide HL1)).mono ?_
  rintro e w2 ⟨v2, vs2, rfl, hU2, hvl2, hv32, hb2⟩
  have HU2 := hide hU2
  have HL2 := hide hv32
  have HR2 := hide (rd_below (unhide HR1) hb2)
  have HT2 := hide ((unhide HT1).trans (Turns.of_below hb2))
  clear hU2 hv32 hb2 HU1 HL1 HR1 HT1
  go_wp2_with fail
  refine (close_draw _ R p1 _ _ v2 vs2 mainB (unhide HR2) (by omega) (unhide HU2) (by omega) (unhide HL2) (by decide)).mono ?_
  rintro e w3 ⟨v3, vs3, p3, rfl, hU3, hvl3, hL3, hp3, hr3, ht3⟩
  have HSM := hide (lit_small hL3 (by omega))
  have hfl := flat_lit hL3
  have HNM := hide (lit_names hL3)
  have HR3 := hide hr3
  have HT3 := hide ((unhide HT2).trans ht3)
  obtain ⟨a, cap, hv, hcap, hcm, hrow⟩ := hU3.row
  have HRW := hide hrow
  have hfl30 : (unitsD vs3).flatten.length ≤ 40 := by omega
  have HFL := hide hfl30
  subst hv
  clear hU3 hL3 hr3 ht3 hrow HU2 HL2 HR2 HT2 hfl hfl30
  generalize unitsD vs3 = us at *
  go_wp2_with fail
  refine (specWalk_any a cap us mainB _ (by decide) hcap hcm (unhide HSM) (unhide HRW)).mono ?_
  rintro e w4 ⟨v4, ok, rfl, hWk, hb4⟩
  have HR4 := hide (rd_below (unhide HR3) hb4)
  have HT4 := hide ((unhide HT3).trans (Turns.of_below hb4))
  have hs3 := (unhide HT3).size
  cases hw : walkB us mainB with
  | none =>
    rw [hw] at hWk
    obtain ⟨rfl, rfl⟩ := hWk
    have HPM := hide (prog_main w4)
    have hs4 := (unhide HT4).size
    clear HR3 HT3 HSM HRW hb4
    go_wp2_with fail
    go_ret
    exact ⟨_, _, p3, rfl, ⟨row_base (unhide HPM).1 hs4, (unhide HPM).2⟩, by simp, by simp, (fun u hu => by rw [List.mem_singleton.1 hu]; show okN mainB; decide), by omega, rd_alloc (rd_alloc (unhide HR4) _) _, ((unhide HT4).alloc _).alloc _⟩
  | some out =>
    rw [hw] at hWk
    obtain ⟨rfl, vs, hv, hbd, hO⟩ := hWk
    obtain ⟨ho1, hof⟩ := walk_some hw
    have hlen : vs.length = out.length := by rw [← hv, List.length_map]
    have HPO : Hid (ProgOwn w4 w.heap.size v4 vs) := ⟨row_base hO hs3, fun u hu => BodyOff.of (hbd u hu) hb4 (fun g hg => (World.ownsRow.lt hO g hg).1)⟩
    have hf40 := unhide HFL
    have HNV : Hid (NmOk vs) := fun u hu => unhide HNM _ (walk_in hw _ (by rw [← hv]; exact List.mem_map.2 ⟨u, hu, rfl⟩))
    have hv1 : 1 ≤ vs.length := by omega
    have hv40 : vs.length ≤ 40 := by omega
    obtain ⟨a4, c4, e4⟩ := row_form hO
    subst e4
    clear hv hbd hO HR3 HT3 HSM HRW hb4 hlen ho1 hof hf40
    go_wp2_with fail
    go_ret
    exact ⟨_, vs, p3, rfl, unhide HPO, hv1, hv40, unhide HNV, by omega, unhide HR4, unhide HT4⟩
end Go.Proofs.YthbbmookhcalkaaGreatDoor.DrawQ
