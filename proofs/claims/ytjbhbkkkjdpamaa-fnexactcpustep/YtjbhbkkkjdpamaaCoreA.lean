/- The contracts of the program's packed places: pack, op, n; the machine in its memory; overStone. -/
import Derived.Test.YtjbhbkkkjdpamaaCSpecD
namespace Go.Proofs.Ytjbhbkkkjdpamaa.CoreA
open Go.ChangeShapes Go.WideShapes Go.ChangeAt Go.RowKit Go.Joins Go.WideMaps Go.Maps Go.Deep
open Go.Proofs.Ytjbhbkkkjdpamaa.Base Go.Proofs.Ytjbhbkkkjdpamaa.InsA Go.Proofs.Ytjbhbkkkjdpamaa.Keep Go.Proofs.Ytjbhbkkkjdpamaa.LayN Go.Proofs.Ytjbhbkkkjdpamaa.CellA Go.Proofs.Ytjbhbkkkjdpamaa.Sum Go.Proofs.Ytjbhbkkkjdpamaa.ImgD Go.Proofs.Ytjbhbkkkjdpamaa.ImgOk Go.Proofs.Ytjbhbkkkjdpamaa.RestOk Go.Proofs.Ytjbhbkkkjdpamaa.COkS Go.Proofs.Ytjbhbkkkjdpamaa.CSpec
set_option linter.unusedVariables false
set_option maxRecDepth 100000

def packI (x : CellD) : Int := x.p * 16 + x.f
def fits (x : CellD) : Prop := -1000 ≤ x.p ∧ x.p ≤ 1000 ∧ 0 ≤ x.f ∧ x.f ≤ 8
theorem or_is {x : CellD} (h : fits x) : IntKind.wrap .i32 ((BitVec.ofInt 32 (x.p * 16) ||| BitVec.ofInt 32 x.f).toNat : Int) = packI x := by
  obtain ⟨h1, h2, h3, h4⟩ := h
  have := pack_or ⟨(x.p + 1000).toNat, by omega⟩ ⟨x.f.toNat, by omega⟩
  simp only at this
  rw [show (((x.p + 1000).toNat : Nat) : Int) - 1000 = x.p by omega, show ((x.f.toNat : Nat) : Int) = x.f by omega] at this
  exact this
theorem and_is {x : CellD} (h : fits x) : IntKind.wrap .i32 ((BitVec.ofInt 32 (packI x) &&& BitVec.ofInt 32 15).toNat : Int) = x.f := by
  obtain ⟨h1, h2, h3, h4⟩ := h
  have := pack_and ⟨(x.p + 1000).toNat, by omega⟩ ⟨x.f.toNat, by omega⟩
  simp only at this
  rw [show (((x.p + 1000).toNat : Nat) : Int) - 1000 = x.p by omega, show ((x.f.toNat : Nat) : Int) = x.f by omega] at this
  exact this
theorem shr_is {x : CellD} (h : fits x) : (packI x).fdiv 16 = x.p := by
  obtain ⟨h1, h2, h3, h4⟩ := h
  rw [Int.fdiv_eq_ediv_of_nonneg _ (by decide)]
  unfold packI; omega
theorem cell_fits {l : List CellD} {r : Int} (h : imageB l r = true) {q : Int} (hq : IsPl l q) : fits (cellOf l q) := by
  have := cell_small h hq
  exact ⟨this.1, this.2.1, by omega, this.2.2.2⟩
theorem w64 {n : Int} (h0 : -100000 ≤ n) (h1 : n ≤ 100000) : wrap64 n = n := by
  unfold wrap64; omega
theorem op_any (x : CellD) (h : fits x) (w : World) : Calls Try.prog 146 #[.int .i32 (packI x)] w fun e w' => e = .returned (.int .i64 x.f) ∧ w' = w := by
  have ha : bits .and .i32 (packI x) 15 = x.f := and_is h
  obtain ⟨h1, h2, h3, h4⟩ := h
  have HA : Hid (wrap64 (bits .and .i32 (packI x) 15) = x.f) := by show _ = _; rw [ha]; exact w64 (by omega) (by omega)
  clear ha
  go_enter Try.func146, Try.ntmps146
  go_wp2_with fail
  go_ret
  exact ⟨ret_int (k := .i64) (unhide HA), rfl⟩
theorem n_any (x : CellD) (h : fits x) (w : World) : Calls Try.prog 147 #[.int .i32 (packI x)] w fun e w' => e = .returned (.int .i64 x.p) ∧ w' = w := by
  have ha := shr_is h
  obtain ⟨h1, h2, h3, h4⟩ := h
  rw [Int.fdiv_eq_ediv_of_nonneg _ (by decide)] at ha
  have HA : Hid (wrap64 (packI x / 16) = x.p) := by show _ = _; rw [ha]; exact w64 (by omega) (by omega)
  clear ha
  go_enter Try.func147, Try.ntmps147
  go_wp2_with fail
  go_ret
  exact ⟨ret_int (k := .i64) (unhide HA), rfl⟩
theorem pack_any (x : CellD) (h : fits x) (w : World) : Calls Try.prog 116 #[.agg #[.int .i64 x.f, .int .i64 x.p]] w fun e w' => e = .returned (.int .i32 (packI x)) ∧ Below w.heap.size w w' := by
  have HA : Hid (bits .or .i32 (x.p * 16) x.f = packI x) := or_is h
  obtain ⟨h1, h2, h3, h4⟩ := h
  go_enter Try.func116, Try.ntmps116
  go_wp2_with fail
  go_ret
  exact ⟨ret_int (k := .i32) (unhide HA), below_alloc1 _ _⟩
/-- What lies in the block of a machine that runs. -/
structure CoreC (C : Array Value) (l : List CellD) (m : CM) : Prop where
  sz : C.size = 840
  pl : ∀ k (h : k < l.length), C[k]? = some (.int .i32 (packI l[k]))
  pc : C[800]? = some (.int .i64 m.p)
  acc : C[801]? = some (.int .i64 m.c)
  st : ∀ k (h : k < m.st.length), C[802 + k]? = some (.int .i64 m.st[k])
  deep : C[807]? = some (.int .i64 (m.st.length : Int))
  os : ∀ k (h : k < m.os.length), C[808 + k]? = some (.int .i64 m.os[k])
  said : C[838]? = some (.int .i64 (m.os.length : Int))
  code : C[839]? = some (.int .i64 m.d)
def CoreAt (w : World) (R : Nat) (l : List CellD) (m : CM) : Prop := ∃ C, w.heap[R]? = some (Obj.cells C 158) ∧ CoreC C l m
theorem CoreAt.below {w w' : World} {R : Nat} {l : List CellD} {m : CM} (h : CoreAt w R l m) (hb : Below w.heap.size w w') : CoreAt w' R l m := by
  obtain ⟨C, h1, h2⟩ := h
  exact ⟨C, box_below h1 hb, h2⟩
theorem CoreAt.cells {w : World} {R : Nat} {l : List CellD} {m : CM} (h : CoreAt w R l m) : (∀ k (h : k < l.length), w.cell? ⟨R, k, none⟩ = some (.int .i32 (packI l[k]))) ∧ w.cell? ⟨R, 800, none⟩ = some (.int .i64 m.p) ∧ w.cell? ⟨R, 801, none⟩ = some (.int .i64 m.c) ∧ (∀ k (h : k < m.st.length), w.cell? ⟨R, 802 + k, none⟩ = some (.int .i64 m.st[k])) ∧ w.cell? ⟨R, 807, none⟩ = some (.int .i64 (m.st.length : Int)) ∧ (∀ k (h : k < m.os.length), w.cell? ⟨R, 808 + k, none⟩ = some (.int .i64 m.os[k])) ∧ w.cell? ⟨R, 838, none⟩ = some (.int .i64 (m.os.length : Int)) ∧ w.cell? ⟨R, 839, none⟩ = some (.int .i64 m.d) ∧ (∀ j, j < 840 → ∃ v, w.cell? ⟨R, j, none⟩ = some v) ∧ ∀ j, w.frozen? ⟨R, j, none⟩ = false := by
  obtain ⟨C, h1, h2⟩ := h
  exact ⟨fun k hk => by rw [cell_of_block h1]; exact h2.pl k hk, by rw [cell_of_block h1]; exact h2.pc, by rw [cell_of_block h1]; exact h2.acc, fun k hk => by rw [cell_of_block h1]; exact h2.st k hk, by rw [cell_of_block h1]; exact h2.deep, fun k hk => by rw [cell_of_block h1]; exact h2.os k hk, by rw [cell_of_block h1]; exact h2.said, by rw [cell_of_block h1]; exact h2.code, fun j hj => ⟨C[j]'(by rw [h2.sz]; exact hj), by rw [cell_of_block h1]; exact Array.getElem?_eq_getElem _⟩, fun j => unfrozen_of_block h1 j⟩
theorem set_ne {C : Array Value} {i j : Nat} {u v : Value} (h : C[j]? = some v) (hn : i ≠ j) : (C.setIfInBounds i u)[j]? = some v := by rw [Array.getElem?_setIfInBounds_ne hn]; exact h
theorem set_eq {C : Array Value} {i : Nat} {u : Value} (h : i < C.size) : (C.setIfInBounds i u)[i]? = some u := by rw [Array.getElem?_setIfInBounds_self_of_lt h]
/-- One cell of the block is turned. -/
theorem CoreC.pcset {C : Array Value} {l : List CellD} {m : CM} (h : CoreC C l m) (hl : l.length ≤ 800) (hs : m.st.length ≤ 5) (ho : m.os.length ≤ 30) (q : Int) : CoreC (C.setIfInBounds 800 (.int .i64 q)) l { m with p := q } :=
  ⟨by simp [h.sz], fun k hk => set_ne (h.pl k hk) (by omega), set_eq (by rw [h.sz]; omega), set_ne h.acc (by omega), fun k (hk : k < m.st.length) => set_ne (h.st k hk) (by omega), set_ne h.deep (by omega), fun k (hk : k < m.os.length) => set_ne (h.os k hk) (by omega), set_ne h.said (by omega), set_ne h.code (by omega)⟩
theorem CoreC.accset {C : Array Value} {l : List CellD} {m : CM} (h : CoreC C l m) (hl : l.length ≤ 800) (hs : m.st.length ≤ 5) (ho : m.os.length ≤ 30) (q : Int) : CoreC (C.setIfInBounds 801 (.int .i64 q)) l { m with c := q } :=
  ⟨by simp [h.sz], fun k hk => set_ne (h.pl k hk) (by omega), set_ne h.pc (by omega), set_eq (by rw [h.sz]; omega), fun k (hk : k < m.st.length) => set_ne (h.st k hk) (by omega), set_ne h.deep (by omega), fun k (hk : k < m.os.length) => set_ne (h.os k hk) (by omega), set_ne h.said (by omega), set_ne h.code (by omega)⟩
theorem CoreC.codeset {C : Array Value} {l : List CellD} {m : CM} (h : CoreC C l m) (hl : l.length ≤ 800) (hs : m.st.length ≤ 5) (ho : m.os.length ≤ 30) (q : Int) : CoreC (C.setIfInBounds 839 (.int .i64 q)) l { m with d := q } :=
  ⟨by simp [h.sz], fun k hk => set_ne (h.pl k hk) (by omega), set_ne h.pc (by omega), set_ne h.acc (by omega), fun k (hk : k < m.st.length) => set_ne (h.st k hk) (by omega), set_ne h.deep (by omega), fun k (hk : k < m.os.length) => set_ne (h.os k hk) (by omega), set_ne h.said (by omega), set_eq (by rw [h.sz]; omega)⟩
theorem CoreC.push {C : Array Value} {l : List CellD} {m : CM} (h : CoreC C l m) (hl : l.length ≤ 800) (hs : m.st.length < 5) (ho : m.os.length ≤ 30) (q : Int) : CoreC ((C.setIfInBounds (802 + m.st.length) (.int .i64 q)).setIfInBounds 807 (.int .i64 (m.st.length + 1 : Int))) l { m with st := m.st ++ [q] } := by
  refine ⟨by simp [h.sz], fun k hk => set_ne (set_ne (h.pl k hk) (by omega)) (by omega), set_ne (set_ne h.pc (by omega)) (by omega), set_ne (set_ne h.acc (by omega)) (by omega), fun k hk => ?_, ?_, fun k hk => set_ne (set_ne (h.os k hk) (by omega)) (by omega), set_ne (set_ne h.said (by omega)) (by omega), set_ne (set_ne h.code (by omega)) (by omega)⟩
  · simp only [List.length_append, List.length_cons, List.length_nil] at hk
    by_cases e : k = m.st.length
    · subst e
      refine set_ne ?_ (by omega)
      rw [set_eq (by rw [h.sz]; omega)]; simp
    · have hk' : k < m.st.length := by omega
      refine set_ne (set_ne ?_ (by omega)) (by omega)
      simp only [List.getElem_append_left hk']; exact h.st k hk'
  · rw [set_eq (by simp [h.sz])]; simp
theorem CoreC.say {C : Array Value} {l : List CellD} {m : CM} (h : CoreC C l m) (hl : l.length ≤ 800) (hs : m.st.length ≤ 5) (ho : m.os.length < 30) (q : Int) : CoreC ((C.setIfInBounds (808 + m.os.length) (.int .i64 q)).setIfInBounds 838 (.int .i64 (m.os.length + 1 : Int))) l { m with os := m.os ++ [q] } := by
  refine ⟨by simp [h.sz], fun k hk => set_ne (set_ne (h.pl k hk) (by omega)) (by omega), set_ne (set_ne h.pc (by omega)) (by omega), set_ne (set_ne h.acc (by omega)) (by omega), fun k (hk : k < m.st.length) => set_ne (set_ne (h.st k hk) (by omega)) (by omega), set_ne (set_ne h.deep (by omega)) (by omega), fun k hk => ?_, ?_, set_ne (set_ne h.code (by omega)) (by omega)⟩
  · simp only [List.length_append, List.length_cons, List.length_nil] at hk
    by_cases e : k = m.os.length
    · subst e
      refine set_ne ?_ (by omega)
      rw [set_eq (by rw [h.sz]; omega)]; simp
    · have hk' : k < m.os.length := by omega
      refine set_ne (set_ne ?_ (by omega)) (by omega)
      simp only [List.getElem_append_left hk']; exact h.os k hk'
  · rw [set_eq (by simp [h.sz])]; simp
theorem CoreC.pop {C : Array Value} {l : List CellD} {m : CM} (h : CoreC C l m) (hl : l.length ≤ 800) {r : List Int} {s : Int} (hr : m.st = r ++ [s]) (hs : m.st.length ≤ 5) (ho : m.os.length ≤ 30) : CoreC (C.setIfInBounds 807 (.int .i64 (r.length : Int))) l { m with st := r } := by
  have hl2 : m.st.length = r.length + 1 := by rw [hr]; simp
  refine ⟨by simp [h.sz], fun k hk => set_ne (h.pl k hk) (by omega), set_ne h.pc (by omega), set_ne h.acc (by omega), fun k hk => ?_, set_eq (by rw [h.sz]; omega), fun k (hk : k < m.os.length) => set_ne (h.os k hk) (by omega), set_ne h.said (by omega), set_ne h.code (by omega)⟩
  have hk' : k < r.length := hk
  refine set_ne ?_ (by omega)
  have := h.st k (by omega)
  rw [this]
  congr 2
  have e : m.st[k]'(by omega) = (r ++ [s])[k]'(by simp; omega) := by congr 1
  rw [e, List.getElem_append_left hk']
theorem CoreAt.set {w : World} {R : Nat} {l : List CellD} {m m' : CM} {j : Nat} {v : Value} (h : CoreAt w R l m) (hc : ∀ C, CoreC C l m → CoreC (C.setIfInBounds j v) l m') : CoreAt (w.setCell ⟨R, j, none⟩ v) R l m' := by
  obtain ⟨C, h1, h2⟩ := h
  exact ⟨_, block_setCell h1 _, hc C h2⟩
theorem CoreAt.set2 {w : World} {R : Nat} {l : List CellD} {m m' : CM} {j k : Nat} {v u : Value} (h : CoreAt w R l m) (hc : ∀ C, CoreC C l m → CoreC ((C.setIfInBounds j v).setIfInBounds k u) l m') : CoreAt ((w.setCell ⟨R, j, none⟩ v).setCell ⟨R, k, none⟩ u) R l m' := by
  obtain ⟨C, h1, h2⟩ := h
  exact ⟨_, block_setCell (block_setCell h1 _) _, hc C h2⟩
theorem CoreAt.drew {w : World} {R : Nat} {l : List CellD} {m : CM} (h : CoreAt w R l m) : CoreAt w.drew R l m := h
theorem overStone_any (R : Nat) (l : List CellD) (r0 : Int) (m : CM) (q : Int) (w : World) (hok : imageB l r0 = true) (hq : IsPl l q) (h : CoreAt w R l m) :
    Calls Try.prog 117 #[.pointer (some ⟨R, 0, none⟩), .int .i64 q] w fun e w' => e = .returned (.int .i64 (overI l q)) ∧ w' = w := by
  have hfit := cell_fits hok hq
  have hl8 := (head_parts (image_parts hok).1).2.1
  obtain ⟨k, rfl, hk⟩ := isPl_nat hq
  have c0 := h.cells.1 k hk
  have hk' : (k : Int) < 800 := by omega
  have hk0 : (0 : Int) ≤ (k : Int) := by omega
  have e := cellOf_at hk
  rw [← e] at c0
  clear h hok hq
  by_cases h8 : (cellOf l (k : Int)).f = 8
  · have HE : Hid (overI l k = (cellOf l k).p) := by show _ = _; unfold overI; rw [if_pos h8]
    have HO := op_any _ hfit
    have HN := n_any _ hfit
    rw [h8] at HO
    generalize cellOf l (k : Int) = x at *
    generalize packI x = pk at *
    clear e
    go_enter Try.func117, Try.ntmps117
    go_wp2_with fail
    refine (HO _).mono ?_
    rintro e w1 ⟨rfl, rfl⟩
    go_wp2_with fail
    refine (HN _).mono ?_
    rintro e w1 ⟨rfl, rfl⟩
    go_wp2_with fail
    go_ret
    exact ⟨ret_int (unhide HE).symm, rfl⟩
  · have HE : Hid (overI l k = k) := over_over h8
    have HO := op_any _ hfit
    generalize cellOf l (k : Int) = x at *
    generalize packI x = pk at *
    clear e
    go_enter Try.func117, Try.ntmps117
    go_wp2_with fail
    refine (HO _).mono ?_
    rintro e w1 ⟨rfl, rfl⟩
    go_wp2_with fail
    go_ret
    exact ⟨ret_int (unhide HE).symm, rfl⟩
end Go.Proofs.Ytjbhbkkkjdpamaa.CoreA
