/- The image of a laid program, plain data; places of an image in memory of the call's own. -/
import Derived.Test.YthbbmookhcalkaaGreatLayT
import Derived.Test.YthbbmookhcalkaaGreatCellA
import Derived.Test.YthbbmookhcalkaaGreatKeepC
namespace Go.Proofs.YthbbmookhcalkaaGreat.ImgC
open Go.ChangeShapes Go.WideShapes Go.ChangeAt Go.RowKit Go.Joins Go.Deep
open Go.Proofs.YthbbmookhcalkaaGreat.Base Go.Proofs.YthbbmookhcalkaaGreat.InsA Go.Proofs.YthbbmookhcalkaaGreat.Funs Go.Proofs.YthbbmookhcalkaaGreat.Open Go.Proofs.YthbbmookhcalkaaGreat.FunS Go.Proofs.YthbbmookhcalkaaGreat.Keep Go.Proofs.YthbbmookhcalkaaGreat.UnitS Go.Proofs.YthbbmookhcalkaaGreat.Refs Go.Proofs.YthbbmookhcalkaaGreat.Concat Go.Proofs.YthbbmookhcalkaaGreat.KeepC Go.Proofs.YthbbmookhcalkaaGreat.LayN Go.Proofs.YthbbmookhcalkaaGreat.LayA Go.Proofs.YthbbmookhcalkaaGreat.KeepD Go.Proofs.YthbbmookhcalkaaGreat.KeepA Go.Proofs.YthbbmookhcalkaaGreat.LayD Go.Proofs.YthbbmookhcalkaaGreat.LayS Go.Proofs.YthbbmookhcalkaaGreat.LayT Go.Proofs.YthbbmookhcalkaaGreat.CellA
set_option linter.unusedVariables false
set_option maxRecDepth 100000

theorem nearI_bd {r p : Int} {s : ByteArray} {m : Nat} : ∀ (l : List (ByteArray × Nat)) (b : Int), (∀ x ∈ l, x.2 ≤ m) → -1 ≤ b → b ≤ (m : Int) → -1 ≤ l.foldl (nearS r p s) b ∧ l.foldl (nearS r p s) b ≤ (m : Int)
  | [], b, _, h0, h1 => ⟨h0, h1⟩
  | x :: l, b, h, h0, h1 => by
    rw [List.foldl_cons]
    have hx := h x (List.mem_cons_self ..)
    refine nearI_bd l _ (fun y hy => h y (List.mem_cons_of_mem _ hy)) ?_ ?_
    · unfold nearS; split <;> omega
    · unfold nearS; split <;> omega
theorem stonesTo_bd (fs : List FunD) (st : List (List ByteArray)) : ∀ n, ∀ x ∈ stonesTo fs st n, x.2 ≤ place fs st n
  | 0, x, hx => by cases hx
  | n + 1, x, hx => by
    have hm := place_mono (fs := fs) (st := st) (show n ≤ n + 1 by omega)
    rcases List.mem_append.1 hx with hx | hx
    · have := stonesTo_bd fs st n x hx
      omega
    · unfold rowSt at hx
      obtain ⟨j, hj, rfl⟩ := List.mem_map.1 hx
      rw [List.mem_range] at hj
      rw [place]
      show place fs st n + lenAt fs n + j ≤ _
      omega
theorem toI_bd {fs : List FunD} {ns : List Int} {st : List (List ByteArray)} (h : Lying fs ns st) (r p : Int) (s : ByteArray) : -1 ≤ toI fs st r p s ∧ toI fs st r p s ≤ 42000000 := by
  have h9 := h.small fs.length (Nat.le_refl _)
  unfold toI
  split
  · omega
  · rename_i hf
    have hi : (findI fs s).toNat < fs.length := by
      unfold findI at hf ⊢
      split at hf
      · rename_i hlt; rw [if_pos hlt]; simpa using hlt
      · omega
    have := h.small (findI fs s).toNat (Nat.le_of_lt hi)
    split
    · omega
    · have hb := nearI_bd (r := r) (p := p) (s := s) (m := place fs st fs.length) (stonesTo fs st fs.length) (-1) (stonesTo_bd fs st fs.length) (by omega) (by omega)
      unfold nearI
      omega
/-- An instruction as a place of an image. -/
def cellI (fs : List FunD) (st : List (List ByteArray)) (r at_ : Int) (x : InsD) : CellD := if refsB x.o then ⟨x.o, toI fs st r at_ x.s - at_⟩ else ⟨x.o, x.n⟩
def insAt (fs : List FunD) (i k : Nat) : InsD := (fs.getD i default).body.getD k default
theorem insAt_is {fs : List FunD} {i k : Nat} (hi : i < fs.length) (hk : k < fs[i].body.length) : insAt fs i k = fs[i].body[k] := by
  unfold insAt
  have e : fs.getD i default = fs[i] := by simp [List.getD, List.getElem?_eq_getElem hi]
  rw [e]
  simp [List.getD, List.getElem?_eq_getElem hk]
def bodyC (fs : List FunD) (st : List (List ByteArray)) (r : Int) (i m : Nat) : List CellD := (List.range m).map fun k => cellI fs st r ((place fs st i + k : Nat) : Int) (insAt fs i k)
def farC (fs : List FunD) (st : List (List ByteArray)) (s : ByteArray) : CellD := ⟨8, (place fs st (findI fs s).toNat : Int)⟩
def stoneC (fs : List FunD) (st : List (List ByteArray)) (i m : Nat) : List CellD := (List.range m).map fun j => farC fs st ((stAt st i).getD j ⟨#[]⟩)
/-- The image of the first functions. -/
def partC (fs : List FunD) (st : List (List ByteArray)) (r : Int) : Nat → List CellD
  | 0 => []
  | i + 1 => partC fs st r i ++ bodyC fs st r i (lenAt fs i) ++ stoneC fs st i (stAt st i).length
/-- What ImageOf answers. -/
def imageOfB (fs : List FunD) (r : Int) (ns : List Int) (st : List (List ByteArray)) : List CellD := if layOkB fs r ns st then partC fs st r fs.length else []
theorem bodyC_zero (fs : List FunD) (st : List (List ByteArray)) (r : Int) (i : Nat) : bodyC fs st r i 0 = [] := rfl
theorem bodyC_succ {fs : List FunD} {st : List (List ByteArray)} {r : Int} {i k : Nat} (hi : i < fs.length) (hk : k < fs[i].body.length) : bodyC fs st r i (k + 1) = bodyC fs st r i k ++ [cellI fs st r ((place fs st i + k : Nat) : Int) fs[i].body[k]] := by
  unfold bodyC
  rw [List.range_succ, List.map_append, List.map_cons, List.map_nil, insAt_is hi hk]
theorem stoneC_zero (fs : List FunD) (st : List (List ByteArray)) (i : Nat) : stoneC fs st i 0 = [] := rfl
theorem stoneC_succ {fs : List FunD} {st : List (List ByteArray)} {i j : Nat} (hi : i < st.length) (hj : j < st[i].length) : stoneC fs st i (j + 1) = stoneC fs st i j ++ [farC fs st st[i][j]] := by
  unfold stoneC
  rw [List.range_succ, List.map_append, List.map_cons, List.map_nil, stAt_is hi]
  simp [List.getD, List.getElem?_eq_getElem hj]
theorem bodyC_len (fs : List FunD) (st : List (List ByteArray)) (r : Int) (i m : Nat) : (bodyC fs st r i m).length = m := by simp [bodyC]
theorem stoneC_len (fs : List FunD) (st : List (List ByteArray)) (i m : Nat) : (stoneC fs st i m).length = m := by simp [stoneC]
theorem partC_len (fs : List FunD) (st : List (List ByteArray)) (r : Int) : ∀ n, (partC fs st r n).length = place fs st n
  | 0 => rfl
  | n + 1 => by
    rw [place]
    show (partC fs st r n ++ bodyC fs st r n (lenAt fs n) ++ stoneC fs st n (stAt st n).length).length = _
    rw [List.length_append, List.length_append, partC_len fs st r n, bodyC_len, stoneC_len]
theorem lay_parts {fs : List FunD} {r : Int} {ns : List Int} {st : List (List ByteArray)} (h : layOkB fs r ns st = true) : 1 ≤ r ∧ r ≤ 100 ∧ formB fs ns st = true := by
  unfold layOkB reachB at h
  simp only [Bool.and_eq_true, decide_eq_true_iff] at h
  exact ⟨h.1.1.1, h.1.1.2, h.1.2⟩
theorem image_no {fs : List FunD} {r : Int} {ns : List Int} {st : List (List ByteArray)} (h : layOkB fs r ns st = false) : imageOfB fs r ns st = [] := by simp [imageOfB, h]
theorem image_yes {fs : List FunD} {r : Int} {ns : List Int} {st : List (List ByteArray)} (h : layOkB fs r ns st = true) : imageOfB fs r ns st = partC fs st r fs.length := by simp [imageOfB, h]
theorem image_few {fs : List FunD} {r : Int} {ns : List Int} {st : List (List ByteArray)} (hf : FewT st) : (imageOfB fs r ns st).length ≤ 42000000 := by
  cases h : layOkB fs r ns st
  · rw [image_no h]; exact Nat.zero_le _
  · rw [image_yes h, partC_len]
    exact (lying_of (lay_parts h).2.2 hf).small fs.length (Nat.le_refl _)
/-- A stone is to a function. -/
theorem stone_in {fs : List FunD} {ns : List Int} {st : List (List ByteArray)} (h : formB fs ns st = true) {i j : Nat} (hi : i < st.length) (hj : j < st[i].length) : 0 ≤ findI fs st[i][j] ∧ (findI fs st[i][j]).toNat < fs.length := by
  have h1 := (stones_parts ((form_parts h).2.2.1 _ (List.getElem_mem hi))).1 _ (List.getElem_mem hj)
  refine ⟨h1, ?_⟩
  unfold findI at h1 ⊢
  split at h1
  · rename_i hlt; rw [if_pos hlt]; simpa using hlt
  · omega
theorem step_run {P : Program} {ops : Array Oper} {o : Oper} {a : Act} {w w' : World} {K : Act → World → Prop} {Q : Exit → Act → World → Prop} {E : Prop} (hgd : o.guard = none) (s x : Operand) (t tx : TypeId)
    (ho : o.op = Op.call { callee := Callee.builtin Builtin.append, args := #[s, x], argTypes := #[t, tx] }) (v u v' : Value) (hs : a.eval s = v) (hx : a.eval x = u) (hr : (Builtin.append_ #[t, tx] o.type #[v, u]).run P w = .ok v' w') (hK : K (a.put o.dst v') w') :
    if Region.wanted o (yielded ops a.tmps) = true then Oper.wp P o a w K Q else E := by
  have hw : Region.wanted o (yielded ops a.tmps) = true := by simp [Region.wanted, hgd]
  rw [if_pos hw]
  unfold Oper.wp
  simp [execOp, ho, resolve, invoke, builtin, hs, hx, hr, Result.andThen]
  exact hK
def encC (x : CellD) : List Value := [.int .i64 x.f, .int .i64 x.p]
theorem encC_len (l : List CellD) : (l.flatMap encC).length = l.length * 2 := by
  induction l with
  | nil => rfl
  | cons x r ih => rw [List.flatMap_cons, List.length_append, ih]; simp [encC]; omega
theorem encC_at (l : List CellD) : ∀ (i : Nat) (h : i < l.length), (l.flatMap encC)[i * 2]? = some (.int .i64 l[i].f) ∧ (l.flatMap encC)[i * 2 + 1]? = some (.int .i64 l[i].p) := by
  induction l with
  | nil => intro i h; simp at h
  | cons x r ih =>
    intro i h
    rw [List.flatMap_cons]
    match i with
    | 0 => simp [encC]
    | i + 1 =>
      have hl : (encC x).length = 2 := rfl
      obtain ⟨h0, h1⟩ := ih i (by simpa using h)
      refine ⟨?_, ?_⟩
      · rw [List.getElem?_append_right (by omega), hl, show (i + 1) * 2 - 2 = i * 2 by omega]; simpa using h0
      · rw [List.getElem?_append_right (by omega), hl, show (i + 1) * 2 + 1 - 2 = i * 2 + 1 by omega]; simpa using h1
theorem encC_one (l : List CellD) : ∀ v ∈ l.flatMap encC, v.oneCell' = true := by
  intro v hv
  obtain ⟨x, hx, hv⟩ := List.mem_flatMap.1 hv
  simp only [encC, List.mem_cons, List.not_mem_nil, or_false] at hv
  rcases hv with rfl | rfl <;> rfl
/-- Places of an image in memory of the call's own. -/
def CellsO (w : World) (B : Nat) (v : Value) (l : List CellD) : Prop := w.ownsRow B 63 2 v l.length (l.flatMap encC)
theorem CellsO.below {w w' : World} {B : Nat} {v : Value} {l : List CellD} (h : CellsO w B v l) (hb : Below w.heap.size w w') : CellsO w' B v l := row_below h hb
theorem CellsO.base {w : World} {B C : Nat} {v : Value} {l : List CellD} (h : CellsO w B v l) (hb : C ≤ B) : CellsO w C v l := row_base h hb
theorem CellsO.nil (w : World) (B : Nat) : CellsO w B (.slice none 0 0) [] := World.ownsRow_nil _ _ _ _
theorem CellsO.made (w : World) : CellsO (w.alloc (.cells #[] 63)) w.heap.size (.slice (some ⟨w.heap.size, 0, none⟩) 0 0) [] :=
  ⟨by simp, .inr ⟨_, _, _, rfl, Nat.le_refl _, new_block w _, Nat.le_refl _, Nat.zero_le _, rfl, rfl⟩⟩
theorem CellsO.row {w : World} {B : Nat} {v : Value} {l : List CellD} (h : CellsO w B v l) : ∃ a cap, v = .slice a l.length cap ∧ l.length ≤ cap ∧ cap ≤ maxLen ∧ CellRow w a l := by
  obtain ⟨_, ⟨rfl, h0⟩ | ⟨g, cap, cur, rfl, hB, hg, hn, hm, hsz, ht⟩⟩ := h
  · exact ⟨none, 0, by rw [h0], by omega, Nat.zero_le _, .inl (List.length_eq_zero_iff.1 h0)⟩
  · refine ⟨_, cap, rfl, hn, hm, .inr ⟨g, 0, rfl, fun i hi => ?_⟩⟩
    have t : ∀ j v, j < l.length * 2 → (l.flatMap encC)[j]? = some v → w.cell? ⟨g, j, none⟩ = some v := fun j v hj e => by
      rw [cell_of_block hg]
      rw [← ht, List.getElem?_take_of_lt hj] at e
      simpa using e
    obtain ⟨h0, h1⟩ := encC_at l i hi
    simp only [Nat.zero_add]
    exact ⟨t _ _ (by omega) h0, t _ _ (by omega) h1⟩
theorem info_cell : ∃ i, Tryz.prog.info? 63 = some i ∧ i.zero = some (.agg #[.int .i64 0, .int .i64 0]) ∧ i.size = 2 ∧ i.bytes = 16 := by
  obtain ⟨i, hi, h⟩ := Option.map_eq_some_iff.1 infoCell
  simp only [Prod.mk.injEq] at h
  exact ⟨i, hi, h.1, h.2.1, h.2.2⟩
theorem cellV_new (w : World) (x : CellD) : ∀ j y, (encC x)[j]? = some y → (w.alloc (.cells #[.int .i64 x.f, .int .i64 x.p] 63)).cell? ((⟨w.heap.size, 0, none⟩ : Addr).add j) = some y := by
  intro j y hj
  rw [add_plain, cell_of_block (new_block w _)]
  match j, hj with
  | 0, hj => simpa [encC] using hj
  | 1, hj => simpa [encC] using hj
  | j + 2, hj => simp [encC] at hj
/-- One place more. -/
theorem cells_more {w : World} {B : Nat} {a : Option Addr} {n c : Nat} {l : List CellD} (hn : n = l.length) (h : CellsO w B (.slice a n c) l) (hB : B ≤ w.heap.size) (hl : l.length ≤ 100000000) (x : CellD) (ty : TypeId) :
    ∃ a' c' w', (Builtin.append_ #[29, 29] ty #[.slice a n c, .slice (some ⟨w.heap.size, 0, none⟩) 1 1]).run Tryz.prog (w.alloc (.cells #[.int .i64 x.f, .int .i64 x.p] 63)) = .ok (.slice a' (l ++ [x]).length c') w' ∧ CellsO w' B (.slice a' (l ++ [x]).length c') (l ++ [x]) ∧
      (w.alloc (.cells #[.int .i64 x.f, .int .i64 x.p] 63)).grownBy w' (Value.slice a n c).ownBlock ∧ ∀ W, Below B W w → Below B W w' := by
  subst hn
  obtain ⟨i, hi, hz0, hz1, hz2⟩ := info_cell
  have hb := below_alloc1 w (.cells #[.int .i64 x.f, .int .i64 x.p] 63)
  obtain ⟨v', w', hr, ho, hg, _, _⟩ := run_append_own_at (P := Tryz.prog) (w.alloc (.cells #[.int .i64 x.f, .int .i64 x.p] 63)) B 29 ty 63 i _ 2 16 Tryz.underlying29 hi hz0 hz1 hz2 rfl (by decide) (.slice a l.length c) l.length (l.flatMap encC) (h.below hb) ⟨w.heap.size, 0, none⟩ 1 1 (encC x) rfl (cellV_new w x) (by simp [encC, Value.oneCell']) (by unfold maxLen; omega) (by omega) (by simp only [World.size_alloc]; omega)
  have e : l.flatMap encC ++ encC x = (l ++ [x]).flatMap encC := by simp
  rw [e] at ho
  have ho' : CellsO w' B v' (l ++ [x]) := by
    unfold CellsO
    rw [List.length_append]
    exact ho
  obtain ⟨a', c', rfl, _⟩ := ho'.row
  exact ⟨a', c', w', hr, ho', hg, fun W hW => (hW.alloc hB _).grown hg (by simp only [World.size_alloc]; omega) (fun j hj => (World.ownsRow.lt h j hj).1)⟩
/-- What ImageOf leaves. -/
def ImgEnd (w : World) (l : List CellD) (e : Ending) (w' : World) : Prop := ∃ a' c', e = .returned (.slice a' l.length c') ∧ CellsO w' w.heap.size (.slice a' l.length c') l ∧ Below w.heap.size w w'
end Go.Proofs.YthbbmookhcalkaaGreat.ImgC
