/- Programs that are drawn: how they lie, and what is put behind them. -/
import Derived.Test.YtnmgeaonhbhbkaaDrawK
import Derived.Test.YtnmgeaonhbhbkaaKeepW
namespace Go.Proofs.Ytnmgeaonhbhbkaa.DrawP
open Go.ChangeShapes Go.WideShapes Go.ChangeAt Go.RowKit Go.Joins Go.Deep
open Go.Proofs.Ytnmgeaonhbhbkaa.Base Go.Proofs.Ytnmgeaonhbhbkaa.InsA Go.Proofs.Ytnmgeaonhbhbkaa.Funs Go.Proofs.Ytnmgeaonhbhbkaa.Open Go.Proofs.Ytnmgeaonhbhbkaa.FunS Go.Proofs.Ytnmgeaonhbhbkaa.Keep Go.Proofs.Ytnmgeaonhbhbkaa.UnitS Go.Proofs.Ytnmgeaonhbhbkaa.Rd Go.Proofs.Ytnmgeaonhbhbkaa.DrawIns Go.Proofs.Ytnmgeaonhbhbkaa.UU Go.Proofs.Ytnmgeaonhbhbkaa.DrawUU Go.Proofs.Ytnmgeaonhbhbkaa.DrawLit Go.Proofs.Ytnmgeaonhbhbkaa.DrawK Go.Proofs.Ytnmgeaonhbhbkaa.PickD Go.Proofs.Ytnmgeaonhbhbkaa.Concat Go.Proofs.Ytnmgeaonhbhbkaa.KeepC Go.Proofs.Ytnmgeaonhbhbkaa.KeepD Go.Proofs.Ytnmgeaonhbhbkaa.KeepW
set_option linter.unusedVariables false
set_option maxRecDepth 100000

theorem rd_two {w : World} {R p : Nat} (h : RdAt w R p) : ∃ a len cap, w.heap[R]? = some (.cells #[.slice a len cap, .int .i64 p] 72) := by
  obtain ⟨a, len, cap, hh, _⟩ := h
  exact ⟨a, len, cap, hh⟩
/-- A cell that holds a text is none of the reader's. -/
theorem rd_str {w : World} {R p b o : Nat} {s : ByteArray} (h : RdAt w R p) (hc : w.cell? ⟨b, o, none⟩ = some (.string s)) : b ≠ R := fun e => by
  obtain ⟨a, len, cap, hh⟩ := rd_two h
  rw [e, cell_of_block hh] at hc
  match o, hc with
  | 0, hc => simp at hc
  | 1, hc => simp at hc
  | o + 2, hc => simp at hc
theorem insRow_turns {w w' : World} {R p : Nat} {a : Option Addr} {xs : List InsD} (h : InsRow w a xs) (hr : RdAt w R p) (ht : Turns R w w') : InsRow w' a xs := by
  rcases h with h | ⟨b, off, ha, h⟩
  · exact .inl h
  · refine .inr ⟨b, off, ha, fun i hi => ?_⟩
    obtain ⟨h0, h1, h2, h3⟩ := h i hi
    have hb := rd_str hr h2
    exact ⟨ht.cell hb h0, ht.cell hb h1, ht.cell hb h2, h3⟩
theorem funRow_turns {w w' : World} {R p : Nat} {a : Option Addr} {fs : List FunD} (h : FunRow w a fs) (hr : RdAt w R p) (ht : Turns R w w') : FunRow w' a fs := by
  rcases h with h | ⟨b, off, ha, h⟩
  · exact .inl h
  · refine .inr ⟨b, off, ha, fun i hi => ?_⟩
    obtain ⟨ai, ci, h0, h1, h2, h3, h4, h5, h6⟩ := h i hi
    have hb := rd_str hr h0
    exact ⟨ai, ci, ht.cell hb h0, ht.cell hb h1, ht.cell hb h2, h3, h4, h5, insRow_turns h6 hr ht⟩
/-- A function's body, readable, in another block than G. -/
def BodyOff (w : World) (G : Option Nat) (u : FunD × Value) : Prop := ∃ ai ci, u.2 = .slice ai u.1.body.length ci ∧ u.1.nm.size ≤ maxLen ∧ u.1.body.length ≤ ci ∧ ci ≤ maxLen ∧ InsRow w ai u.1.body ∧ (u.1.body = [] ∨ ∃ b off, ai = some ⟨b, off, none⟩ ∧ G ≠ some b ∧ b < w.heap.size)
/-- A program in a row of the call's own. -/
def ProgOwn (w : World) (B : Nat) (v : Value) (us : List (FunD × Value)) : Prop := w.ownsRow B 31 3 v us.length (us.flatMap encV) ∧ ∀ u ∈ us, BodyOff w v.ownBlock u
theorem BodyOff.at {w : World} {G : Option Nat} {u : FunD × Value} (h : BodyOff w G u) : BodyAt w u := by
  obtain ⟨ai, ci, h0, h1, h2, h3, h4, _⟩ := h
  exact ⟨ai, ci, h0, h1, h2, h3, h4⟩
theorem BodyOff.of {w w' : World} {G : Option Nat} {u : FunD × Value} (h : BodyAt w u) (hb : Below w.heap.size w w') (hG : ∀ g, G = some g → w.heap.size ≤ g) : BodyOff w' G u := by
  obtain ⟨ai, ci, h0, h1, h2, h3, h4⟩ := h
  refine ⟨ai, ci, h0, h1, h2, h3, h4.below hb, ?_⟩
  by_cases hn : u.1.body = []
  · exact .inl hn
  · rcases h4 with h4 | ⟨b, off, ha, h4⟩
    · exact .inl h4
    · have h0 : 0 < u.1.body.length := List.length_pos_iff.2 hn
      have hlt : b < w.heap.size := World.block_lt_of_cell? w _ (h4 0 h0).1
      exact .inr ⟨b, off, ha, fun e => by have := hG b e; omega, Nat.lt_of_lt_of_le hlt hb.size⟩
theorem BodyOff.step {w w' : World} {G G' : Option Nat} {u : FunD × Value} (h : BodyOff w G u) (hs : w.heap.size ≤ w'.heap.size) (hk : ∀ b, b < w.heap.size → G ≠ some b → w'.heap[b]? = w.heap[b]?) (hG : ∀ b, b < w.heap.size → G ≠ some b → G' ≠ some b) : BodyOff w' G' u := by
  obtain ⟨ai, ci, h0, h1, h2, h3, h4, h5⟩ := h
  rcases h5 with h5 | ⟨b, off, rfl, hne, hlt⟩
  · exact ⟨ai, ci, h0, h1, h2, h3, .inl h5, .inl h5⟩
  · refine ⟨_, ci, h0, h1, h2, h3, ?_, .inr ⟨b, off, rfl, hG b hlt hne, by omega⟩⟩
    rcases h4 with h4 | ⟨b', off', e, h4⟩
    · exact .inl h4
    · cases e
      refine .inr ⟨b, off, rfl, fun i hi => ?_⟩
      rw [World.cell?_of_block (a := ⟨b, off + i * 3, none⟩) (hk b hlt hne), World.cell?_of_block (a := ⟨b, off + i * 3 + 1, none⟩) (hk b hlt hne), World.cell?_of_block (a := ⟨b, off + i * 3 + 2, none⟩) (hk b hlt hne)]
      exact h4 i hi
theorem BodyOff.turns {w w' : World} {R p : Nat} {G : Option Nat} {u : FunD × Value} (h : BodyOff w G u) (hr : RdAt w R p) (ht : Turns R w w') : BodyOff w' G u := by
  obtain ⟨ai, ci, h0, h1, h2, h3, h4, h5⟩ := h
  exact ⟨ai, ci, h0, h1, h2, h3, insRow_turns h4 hr ht, h5.imp id fun ⟨b, off, e, hn, hl⟩ => ⟨b, off, e, hn, Nat.lt_of_lt_of_le hl ht.size⟩⟩
theorem ProgOwn.row {w : World} {B : Nat} {v : Value} {us : List (FunD × Value)} (h : ProgOwn w B v us) : ∃ a cap, v = .slice a (us.map Prod.fst).length cap ∧ (us.map Prod.fst).length ≤ cap ∧ cap ≤ maxLen ∧ FunRow w a (us.map Prod.fst) := vals_row h.1 (fun u hu => (h.2 u hu).at)
theorem ProgOwn.turns {w w' : World} {R p B : Nat} {v : Value} {us : List (FunD × Value)} (h : ProgOwn w B v us) (hr : RdAt w R p) (ht : Turns R w w') (hR : R < B) : ProgOwn w' B v us :=
  ⟨DrawFun.own_turns h.1 ht hR, fun u hu => (h.2 u hu).turns hr ht⟩
theorem ProgOwn.below {w w' : World} {B : Nat} {v : Value} {us : List (FunD × Value)} (h : ProgOwn w B v us) (hb : Below w.heap.size w w') : ProgOwn w' B v us :=
  ⟨row_below h.1 hb, fun u hu => (h.2 u hu).step hb.size (fun b hl _ => hb.block b hl) (fun b _ hn => hn)⟩
/-- One function more behind the others. -/
theorem ProgOwn.snoc {W w3 : World} {B : Nat} {v v3 : Value} {us : List (FunD × Value)} {y : FunD × Value} {o : Obj} (h : ProgOwn W B v us) (hy : BodyOff W v.ownBlock y) (ho : w3.ownsRow B 31 3 v3 (us.length + 1) (us.flatMap encV ++ encV y)) (hg : (W.alloc o).grownBy w3 v.ownBlock) (hat : v3.ownBlock = v.ownBlock ∨ v3.ownBlock = some (W.alloc o).heap.size) : ProgOwn w3 B v3 (us ++ [y]) := by
  have hsz : W.heap.size ≤ w3.heap.size := by have := hg.size; simp at this; omega
  have key : ∀ u, BodyOff W v.ownBlock u → BodyOff w3 v3.ownBlock u := fun u hu => hu.step hsz (fun b hl hn => (hg.block b (by simp; omega) (fun e => hn e.symm)).trans ((below_alloc1 W o).block b hl)) (fun b hl hn e => by
    rcases hat with e' | e'
    · exact hn (by rw [← e']; exact e)
    · rw [e'] at e; simp at e; omega)
  refine ⟨vals_snoc ho, fun u hu => ?_⟩
  rcases List.mem_append.1 hu with hu | hu
  · exact key u (h.2 u hu)
  · rw [List.mem_singleton.1 hu]; exact key y hy
/-- The first one's body is made nothing. -/
theorem prog_nil {w : World} {B g cap : Nat} {us : List (FunD × Value)} {f : FunD} {bv : Value} {r : List (FunD × Value)} (h : ProgOwn w B (.slice (some ⟨g, 0, none⟩) us.length cap) us) (hu : us = (f, bv) :: r) : FunRow (w.setCell ⟨g, 2, none⟩ (.slice none 0 0)) (some ⟨g, 0, none⟩) (⟨f.nm, f.wk, []⟩ :: r.map Prod.fst) := by
  obtain ⟨⟨_, ⟨e, _⟩ | ⟨g', cap', cur, e, hB, hg, hn, hm, hs, ht⟩⟩, h2⟩ := h
  · cases e
  · cases e
    have hset := block_setCell (i := 2) hg (.slice none 0 0)
    have hlen : us.length = r.length + 1 := by rw [hu]; rfl
    have t : ∀ j x, j ≠ 2 → j < us.length * 3 → (us.flatMap encV)[j]? = some x → (w.setCell ⟨g, 2, none⟩ (.slice none 0 0)).cell? ⟨g, j, none⟩ = some x := fun j x hj hl e => by
      rw [cell_of_block hset, Array.getElem?_setIfInBounds_ne (Ne.symm hj)]
      rw [← ht, List.getElem?_take_of_lt hl] at e
      simpa using e
    refine .inr ⟨g, 0, rfl, fun i hi => ?_⟩
    have hi' : i < us.length := by rw [hlen]; simpa using hi
    obtain ⟨e0, e1, e2⟩ := flatV_at us i hi'
    have hbd := h2 us[i] (List.getElem_mem hi')
    obtain ⟨ai, ci, b0, b1, b2, b3, b4, b5⟩ := hbd
    by_cases h0 : i = 0
    · subst h0
      have hf : us[0] = (f, bv) := by simp [hu]
      rw [hf] at e0 e1 b1
      refine ⟨none, 0, ?_, ?_, ?_, b1, Nat.le_refl _, Nat.zero_le _, .inl rfl⟩
      · have := t (0 * 3) _ (by omega) (by omega) e0; simpa using this
      · have := t (0 * 3 + 1) _ (by omega) (by omega) e1; simpa using this
      · rw [cell_of_block hset]
        have : 2 < cur.size := by omega
        simp [this]
    · have hfi : (⟨f.nm, f.wk, []⟩ :: r.map Prod.fst)[i] = us[i].1 := by
        cases i with
        | zero => exact absurd rfl h0
        | succ i => simp [hu]
      rw [hfi]
      refine ⟨ai, ci, ?_, ?_, ?_, b1, b2, b3, ?_⟩
      · have := t (i * 3) _ (by omega) (by omega) e0; simpa using this
      · have := t (i * 3 + 1) _ (by omega) (by omega) e1; rw [Nat.zero_add]; exact this
      · have := t (i * 3 + 2) _ (by omega) (by omega) e2; rw [Nat.zero_add, this, b0]
      · rcases b5 with b5 | ⟨b, off, rfl, hne, hlt⟩
        · exact .inl b5
        · rcases b4 with b4 | ⟨b', off', e, b4⟩
          · exact .inl b4
          · cases e
            have hbg : b ≠ g := fun e => hne (by rw [e]; rfl)
            refine .inr ⟨b, off, rfl, fun k hk => ?_⟩
            have e : (w.setCell ⟨g, 2, none⟩ (.slice none 0 0)).heap[b]? = w.heap[b]? := Below.heap_setCell w ⟨g, 2, none⟩ _ b hbg
            rw [World.cell?_of_block (a := ⟨b, off + k * 3, none⟩) e, World.cell?_of_block (a := ⟨b, off + k * 3 + 1, none⟩) e, World.cell?_of_block (a := ⟨b, off + k * 3 + 2, none⟩) e]
            exact b4 k hk
end Go.Proofs.Ytnmgeaonhbhbkaa.DrawP
