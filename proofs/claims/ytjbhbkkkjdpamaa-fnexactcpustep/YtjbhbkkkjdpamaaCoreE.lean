/- The contracts of the program's coreAt and cpu. -/
import Derived.Test.YtjbhbkkkjdpamaaCoreD
import Derived.Laws.CopyRow
import Derived.Deep.RegionLaw
namespace Go.Proofs.Ytjbhbkkkjdpamaa.CoreE
open Go.ChangeShapes Go.WideShapes Go.ChangeAt Go.RowKit Go.Joins Go.WideMaps Go.Maps Go.Deep
open Go.Proofs.Ytjbhbkkkjdpamaa.Base Go.Proofs.Ytjbhbkkkjdpamaa.InsA Go.Proofs.Ytjbhbkkkjdpamaa.Keep Go.Proofs.Ytjbhbkkkjdpamaa.LayN Go.Proofs.Ytjbhbkkkjdpamaa.CellA Go.Proofs.Ytjbhbkkkjdpamaa.Mark Go.Proofs.Ytjbhbkkkjdpamaa.Sum Go.Proofs.Ytjbhbkkkjdpamaa.ImgD Go.Proofs.Ytjbhbkkkjdpamaa.ImgOk Go.Proofs.Ytjbhbkkkjdpamaa.RestOk Go.Proofs.Ytjbhbkkkjdpamaa.COkS Go.Proofs.Ytjbhbkkkjdpamaa.CSpec Go.Proofs.Ytjbhbkkkjdpamaa.CoreA Go.Proofs.Ytjbhbkkkjdpamaa.CoreB Go.Proofs.Ytjbhbkkkjdpamaa.CoreD
set_option linter.unusedVariables false
set_option maxRecDepth 100000

theorem step_copy {P : Program} {ops : Array Oper} {o : Oper} {a : Act} {w w' : World} {K : Act → World → Prop} {Q : Exit → Act → World → Prop} {E : Prop} (hgd : o.guard = none) (s x : Operand) (t tx : TypeId)
    (ho : o.op = Op.call { callee := Callee.builtin Builtin.copy, args := #[s, x], argTypes := #[t, tx] }) (v u v' : Value) (hs : a.eval s = v) (hx : a.eval x = u) (hr : (Builtin.copy_ #[t, tx] o.type #[v, u]).run P w = .ok v' w') (hK : K (a.put o.dst v') w') :
    if Region.wanted o (yielded ops a.tmps) = true then Oper.wp P o a w K Q else E := by
  have hw : Region.wanted o (yielded ops a.tmps) = true := by simp [Region.wanted, hgd]
  rw [if_pos hw]
  unfold Oper.wp
  simp [execOp, ho, resolve, invoke, builtin, hs, hx, hr, Result.andThen]
  exact hK
theorem int_size : (Try.prog.info? 3).map (·.size) = some 1 := by
  obtain ⟨i, hi, h1, h2, h3⟩ := CSpec.int_info
  rw [hi]; simp [h2]
theorem list_mid {xs ys zs : List Value} {j : Nat} : (xs ++ ys ++ zs)[j]? = if j < xs.length then xs[j]? else if j < xs.length + ys.length then ys[j - xs.length]? else zs[j - xs.length - ys.length]? := by
  rw [List.append_assoc, List.getElem?_append]
  split
  · rfl
  · rw [List.getElem?_append]
    split
    · rename_i h1 h2; rw [if_pos (by omega)]
    · rename_i h1 h2; rw [if_neg (by omega)]
/-- A list is copied into a part of the block. -/
theorem copy_core {W : World} {R o n : Nat} {C : Array Value} (h1 : W.heap[R]? = some (Obj.cells C 158)) (hs : C.size = 840) {sa : Option Addr} {sc : Nat} {xs : List Int} (hr : NumRow W sa xs) (hn : xs.length ≤ n) (hfit : o + n ≤ 840) (ty : TypeId) :
    ∃ W' C', (Builtin.copy_ #[23, 23] ty #[.slice (some ⟨R, o, none⟩) n n, .slice sa xs.length sc]).run Try.prog W = .ok (.int .i64 (xs.length : Int)) W' ∧ W'.heap[R]? = some (Obj.cells C' 158) ∧ C'.size = 840 ∧ (∀ k (h : k < xs.length), C'[o + k]? = some (.int .i64 xs[k])) ∧ (∀ j, j < o ∨ o + n ≤ j → C'[j]? = C[j]?) ∧ But R W W' := by
  by_cases h0 : xs = []
  · subst h0
    have := run_copy_none (ty := ty) (P := Try.prog) W 23 23 3 (some ⟨R, o, none⟩) sa n n 0 sc Try.underlying23 int_size (by simp)
    exact ⟨W, C, this, h1, hs, fun k hk => absurd hk (by simp), fun j _ => rfl, But.refl _ _⟩
  · obtain ⟨b, off, rfl⟩ := hr.get (List.length_pos_iff.2 h0)
    have := run_copy_row (ty := ty) (P := Try.prog) W 23 23 3 R o n n ⟨b, off, none⟩ xs.length sc C 158 (xs.map (Value.int .i64)) Try.underlying23 int_size h1 (by rw [List.length_map]; exact (Nat.min_eq_left hn).symm) (num_cells hr) (by rw [List.length_map, hs]; omega) (by simp [Value.oneCell'])
    rw [List.length_map] at this
    have hl : C.toList.length = 840 := by simpa using hs
    refine ⟨_, _, this, setRow_heap W R C _ _ _ h1, by simp [hs]; omega, fun k hk => ?_, fun j hj => ?_, ⟨rfl, rfl, rfl, by simp, fun k _ hk => setRow_other W R k _ (fun e => hk (by rw [e]))⟩⟩
    · rw [List.getElem?_toArray, list_mid, if_neg (by simp; omega), if_pos (by simp; omega)]
      simp only [List.length_take, hl]
      rw [show o + k - min o 840 = k by omega]
      simp [hk]
    · rw [List.getElem?_toArray, list_mid]
      simp only [List.length_take, hl, List.length_map]
      rw [show min o 840 = o by omega]
      split
      · rw [List.getElem?_take_of_lt (by omega)]; simp
      · rename_i h2
        rw [if_neg (by omega), List.getElem?_drop, show o + xs.length + (j - o - xs.length) = j by omega]; simp
theorem coreZ_is (l : List CellD) (p c d : Int) : CoreC (((Try.zeroCells158.setIfInBounds 800 (Value.int .i64 p)).setIfInBounds 801 (Value.int .i64 c)).setIfInBounds 839 (Value.int .i64 d)) (l.take 0) ⟨p, c, d, [], []⟩ :=
  ⟨by kernel_rfl, fun k hk => absurd hk (by simp), by kernel_rfl, by kernel_rfl, fun k hk => absurd hk (by simp), by kernel_rfl, fun k hk => absurd hk (by simp), by kernel_rfl, by kernel_rfl⟩
theorem core_fill {C : Array Value} {l : List CellD} {m : CM} {k : Nat} (hk : k < l.length) (hl : l.length ≤ 800) (hs : m.st.length ≤ 5) (ho : m.os.length ≤ 30) (h : CoreC C (l.take k) m) : CoreC (C.setIfInBounds k (.int .i32 (packI l[k]))) (l.take (k + 1)) m := by
  refine ⟨by simp [h.sz], fun j hj => ?_, set_ne h.pc (by omega), set_ne h.acc (by omega), fun j hj => set_ne (h.st j hj) (by omega), set_ne h.deep (by omega), fun j hj => set_ne (h.os j hj) (by omega), set_ne h.said (by omega), set_ne h.code (by omega)⟩
  have hj' : j < k + 1 := by rw [List.length_take] at hj; omega
  rw [List.getElem_take]
  by_cases e : j = k
  · subst e; rw [set_eq (by rw [h.sz]; omega)]
  · refine set_ne ?_ (by omega)
    have := h.pl j (by rw [List.length_take]; omega)
    rw [List.getElem_take] at this
    exact this
theorem core_set {w : World} {R : Nat} {l l' : List CellD} {m m' : CM} {j : Nat} {v : Value} (h : CoreAt w R l m) (hc : ∀ C, CoreC C l m → CoreC (C.setIfInBounds j v) l' m') : CoreAt (w.setCell ⟨R, j, none⟩ v) R l' m' := by
  obtain ⟨C, h1, h2⟩ := h
  exact ⟨_, block_setCell h1 _, hc C h2⟩
/-- A list of calls, or of what was said, is there; its length is told. -/
theorem core_st {C C' : Array Value} {l : List CellD} {m : CM} (h : CoreC C l ⟨m.p, m.c, m.d, [], []⟩) (hl : l.length ≤ 800) (hs : m.st.length ≤ 5) (h1 : C'.size = 840) (h2 : ∀ k (h : k < m.st.length), C'[802 + k]? = some (.int .i64 m.st[k])) (h3 : ∀ j, j < 802 ∨ 802 + 5 ≤ j → C'[j]? = C[j]?) : CoreC (C'.setIfInBounds 807 (.int .i64 (m.st.length : Int))) l ⟨m.p, m.c, m.d, m.st, []⟩ :=
  ⟨by simp [h1], fun k hk => set_ne ((h3 k (by omega)).trans (h.pl k hk)) (by omega), set_ne ((h3 800 (by omega)).trans h.pc) (by omega), set_ne ((h3 801 (by omega)).trans h.acc) (by omega), fun k (hk : k < m.st.length) => set_ne (h2 k hk) (by omega), set_eq (by omega), fun k hk => absurd hk (by simp), set_ne ((h3 838 (by omega)).trans h.said) (by omega), set_ne ((h3 839 (by omega)).trans h.code) (by omega)⟩
theorem core_os {C C' : Array Value} {l : List CellD} {m : CM} (h : CoreC C l ⟨m.p, m.c, m.d, m.st, []⟩) (hl : l.length ≤ 800) (hs : m.st.length ≤ 5) (ho : m.os.length ≤ 30) (h1 : C'.size = 840) (h2 : ∀ k (h : k < m.os.length), C'[808 + k]? = some (.int .i64 m.os[k])) (h3 : ∀ j, j < 808 ∨ 808 + 30 ≤ j → C'[j]? = C[j]?) : CoreC (C'.setIfInBounds 838 (.int .i64 (m.os.length : Int))) l m :=
  ⟨by simp [h1], fun k hk => set_ne ((h3 k (by omega)).trans (h.pl k hk)) (by omega), set_ne ((h3 800 (by omega)).trans h.pc) (by omega), set_ne ((h3 801 (by omega)).trans h.acc) (by omega), fun k (hk : k < m.st.length) => set_ne ((h3 (802 + k) (by omega)).trans (h.st k hk)) (by omega), set_ne ((h3 807 (by omega)).trans h.deep) (by omega), fun k (hk : k < m.os.length) => set_ne (h2 k hk) (by omega), set_eq (by omega), set_ne ((h3 839 (by omega)).trans h.code) (by omega)⟩
set_option maxHeartbeats 8000000 in
theorem coreAt_any (a : Option Addr) (cap : Nat) (l : List CellD) (r0 : Int) (m : CM) (sa oa : Option Addr) (sc oc : Nat) (w : World) (hcap : l.length ≤ cap) (hcm : cap ≤ maxLen) (hR : CellRow w a l) (hok : imageB l r0 = true) (hsl : m.st.length ≤ 5) (hol : m.os.length ≤ 30) (hs : NumRow w sa m.st) (ho : NumRow w oa m.os) :
    Calls Try.prog 74 #[.slice a l.length cap, .agg #[.int .i64 m.p, .int .i64 m.c, .slice sa m.st.length sc, .slice oa m.os.length oc, .int .i64 m.d]] w fun e w' => ∃ R, e = .returned (.pointer (some ⟨R, 0, none⟩)) ∧ w.heap.size ≤ R ∧ CoreAt w' R l m ∧ Below w.heap.size w w' := by
  have h0 := coreZ_is l m.p m.c m.d
  have hl8 := (head_parts (image_parts hok).1).2.1
  have HX := hide (And.intro hR (And.intro hs ho))
  have HOK := hide hok
  have HS0 : Hid (CoreAt ((w.alloc (.cells #[.int .i64 m.p, .int .i64 m.c, .slice sa m.st.length sc, .slice oa m.os.length oc, .int .i64 m.d] 60)).alloc (.cells (((Try.zeroCells158.setIfInBounds 800 (Value.int .i64 m.p)).setIfInBounds 801 (Value.int .i64 m.c)).setIfInBounds 839 (Value.int .i64 m.d)) 158)) (w.heap.size + 1) (l.take 0) ⟨m.p, m.c, m.d, [], []⟩ ∧ ((w.alloc (.cells #[.int .i64 m.p, .int .i64 m.c, .slice sa m.st.length sc, .slice oa m.os.length oc, .int .i64 m.d] 60)).alloc (.cells (((Try.zeroCells158.setIfInBounds 800 (Value.int .i64 m.p)).setIfInBounds 801 (Value.int .i64 m.c)).setIfInBounds 839 (Value.int .i64 m.d)) 158)).heap[w.heap.size]? = some (.cells #[.int .i64 m.p, .int .i64 m.c, .slice sa m.st.length sc, .slice oa m.os.length oc, .int .i64 m.d] 60) ∧ Below w.heap.size w ((w.alloc (.cells #[.int .i64 m.p, .int .i64 m.c, .slice sa m.st.length sc, .slice oa m.os.length oc, .int .i64 m.d] 60)).alloc (.cells (((Try.zeroCells158.setIfInBounds 800 (Value.int .i64 m.p)).setIfInBounds 801 (Value.int .i64 m.c)).setIfInBounds 839 (Value.int .i64 m.d)) 158))) := by
    refine ⟨⟨_, ?_, h0⟩, box_below (new_block w _) (below_alloc1 _ _), below_alloc2 _ _ _⟩
    have := new_block (w.alloc (.cells #[.int .i64 m.p, .int .i64 m.c, .slice sa m.st.length sc, .slice oa m.os.length oc, .int .i64 m.d] 60)) (.cells (((Try.zeroCells158.setIfInBounds 800 (Value.int .i64 m.p)).setIfInBounds 801 (Value.int .i64 m.c)).setIfInBounds 839 (Value.int .i64 m.d)) 158)
    simpa [World.size_alloc] using this
  have hll : (l.length : Int) ≤ 800 := by omega
  clear hR hs ho hok h0
  go_enter Try.func74, Try.ntmps74
  go_wp2_with fail
  go_loopw [18] (fun i w' => ∃ k : Nat, k ≤ l.length ∧ i = .int .i64 k ∧ Hid (CoreAt w' (w.heap.size + 1) (l.take k) ⟨m.p, m.c, m.d, [], []⟩ ∧ w'.heap[w.heap.size]? = some (.cells #[.int .i64 m.p, .int .i64 m.c, .slice sa m.st.length sc, .slice oa m.os.length oc, .int .i64 m.d] 60) ∧ Below w.heap.size w w')) (fun i _ => l.length - (intOf i).toNat)
  case atStart => exact ⟨0, Nat.zero_le _, rfl, unhide HS0⟩
  case round =>
    obtain ⟨k, hk, rfl, HS⟩ := hrel
    clear HS0
    by_cases hkl : k < l.length
    · have hB := (unhide HS).2.2
      obtain ⟨b, off, rfl⟩ := (unhide HX).1.get (by omega)
      obtain ⟨c0, c1⟩ := ((unhide HX).1.below hB).cells hkl
      have hkl' : (k : Int) < (l.length : Int) := by omega
      have hk8 : (k : Int) < 800 := by omega
      have hfit : fits l[k] := by
        have := cell_fits (unhide HOK) (q := (k : Int)) ⟨by omega, hkl'⟩
        rw [cellOf_at hkl] at this; exact this
      have HW : Hid (∀ w', Below wr.heap.size wr w' → CoreAt (w'.setCell ⟨w.heap.size + 1, k, none⟩ (.int .i32 (packI l[k]))) (w.heap.size + 1) (l.take (k + 1)) ⟨m.p, m.c, m.d, [], []⟩ ∧ (w'.setCell ⟨w.heap.size + 1, k, none⟩ (.int .i32 (packI l[k]))).heap[w.heap.size]? = some (.cells #[.int .i64 m.p, .int .i64 m.c, .slice sa m.st.length sc, .slice oa m.os.length oc, .int .i64 m.d] 60) ∧ Below w.heap.size w (w'.setCell ⟨w.heap.size + 1, k, none⟩ (.int .i32 (packI l[k])))) := fun w' hb =>
        ⟨core_set ((unhide HS).1.below hb) (fun C hC => core_fill hkl hl8 (Nat.zero_le _) (Nat.zero_le _) hC), set_other (box_below (unhide HS).2.1 hb) (by omega), (bl_trans (unhide HS).2.2 hb).setCell (by show w.heap.size ≤ w.heap.size + 1; omega) _⟩
      have HC : Hid (∀ w', Below wr.heap.size wr w' → (∃ v, w'.cell? ⟨w.heap.size + 1, k, none⟩ = some v) ∧ w'.frozen? ⟨w.heap.size + 1, k, none⟩ = false) := fun w' hb => by
        have := ((unhide HS).1.below hb).cells
        exact ⟨this.2.2.2.2.2.2.2.2.1 k (by omega), this.2.2.2.2.2.2.2.2.2 k⟩
      generalize hx : l[k] = x at *
      have HP := hide (fun W => pack_any x hfit W)
      clear hx hfit HX HS hB
      generalize packI x = pk at *
      go_wp2_with fail
      go_region_with (go_at_call 116; refine (unhide HP _).mono ?_; rintro e wk ⟨rfl, hbk⟩; have hbw := bl_trans (below_alloc1 wr (.cells #[.int .i64 x.f, .int .i64 x.p] 85)).drew hbk; obtain ⟨⟨v0, z0⟩, z1⟩ := unhide HC wk hbw)
      all_goals (go_wp2_with fail)
      all_goals (exact ⟨⟨k + 1, by omega, by go_num, unhide HW wk hbw⟩, by simp [intOf]; omega⟩)
    · have hke : k = l.length := by omega
      subst hke
      have hkl2 : ¬ (l.length : Int) < (l.length : Int) := by omega
      have hT := (unhide HS).1
      rw [List.take_length] at hT
      obtain ⟨C1, hC1, hcc⟩ := hT
      have hC1d : wr.drew.heap[w.heap.size + 1]? = some (Obj.cells C1 158) := hC1
      have hB1 := (unhide HS).2.2
      obtain ⟨w7, C7, hrun7, hC7, hs7, hf7, ho7, hb7⟩ := copy_core (o := 802) (n := 5) (sc := sc) hC1d hcc.sz (((unhide HX).2.1.below hB1).below (Below.refl _ _).drew) hsl (by omega) 3
      have hP0 : wr.drew.heap[w.heap.size]? = some (.cells #[.int .i64 m.p, .int .i64 m.c, .slice sa m.st.length sc, .slice oa m.os.length oc, .int .i64 m.d] 60) := (unhide HS).2.1
      have hP7 := hb7.box hP0 (by omega)
      have hB7 : Below w.heap.size w w7 := But.down (show Below w.heap.size w wr.drew from hB1.drew) hb7 (by omega)
      have HW7 : Hid (CoreAt (w7.setCell ⟨w.heap.size + 1, 807, none⟩ (.int .i64 (m.st.length : Int))) (w.heap.size + 1) l ⟨m.p, m.c, m.d, m.st, []⟩ ∧ (w7.setCell ⟨w.heap.size + 1, 807, none⟩ (.int .i64 (m.st.length : Int))).heap[w.heap.size]? = some (.cells #[.int .i64 m.p, .int .i64 m.c, .slice sa m.st.length sc, .slice oa m.os.length oc, .int .i64 m.d] 60) ∧ Below w.heap.size w (w7.setCell ⟨w.heap.size + 1, 807, none⟩ (.int .i64 (m.st.length : Int)))) :=
        ⟨⟨_, block_setCell hC7 _, core_st hcc hl8 hsl hs7 hf7 ho7⟩, set_other hP7 (by omega), hB7.setCell (by show w.heap.size ≤ w.heap.size + 1; omega) _⟩
      have p2 : wr.cell? ⟨w.heap.size, 2, none⟩ = some (.slice sa m.st.length sc) := (box5 (unhide HS).2.1).1.2.2.1
      have r7 : ∃ v, w7.cell? ⟨w.heap.size + 1, 807, none⟩ = some v := ⟨C7[807]'(by omega), by rw [cell_of_block hC7]; exact Array.getElem?_eq_getElem _⟩
      obtain ⟨v7, r7⟩ := r7
      have z7 := unfrozen_of_block hC7 807
      have HRUN := hide hrun7
      clear hrun7 hC7 hs7 hf7 ho7 hb7 hP7 hP0 hB7 hC1d hC1 hcc HS hB1
      go_wp2_with fail
      go_region_law (refine step_copy rfl (.tmp 35) (.tmp 37) 23 23 rfl _ _ _ (by simp [Act.eval]) (by simp [Act.eval]) (unhide HRUN) ?_)
      clear HRUN r7 z7 p2
      generalize w7.setCell ⟨w.heap.size + 1, 807, none⟩ (.int .i64 (m.st.length : Int)) = wa at *
      obtain ⟨C1, hC1, hcc⟩ := (unhide HW7).1
      have hC1d : wa.drew.heap[w.heap.size + 1]? = some (Obj.cells C1 158) := hC1
      have hB1 := (unhide HW7).2.2
      obtain ⟨w8, C8, hrun8, hC8, hs8, hf8, ho8, hb8⟩ := copy_core (o := 808) (n := 30) (sc := oc) hC1d hcc.sz (((unhide HX).2.2.below hB1).below (Below.refl _ _).drew) hol (by omega) 3
      have hP0 : wa.drew.heap[w.heap.size]? = some (.cells #[.int .i64 m.p, .int .i64 m.c, .slice sa m.st.length sc, .slice oa m.os.length oc, .int .i64 m.d] 60) := (unhide HW7).2.1
      have hB8 : Below w.heap.size w w8 := But.down (show Below w.heap.size w wa.drew from hB1.drew) hb8 (by omega)
      have HW8 : Hid (CoreAt (w8.setCell ⟨w.heap.size + 1, 838, none⟩ (.int .i64 (m.os.length : Int))) (w.heap.size + 1) l m ∧ Below w.heap.size w (w8.setCell ⟨w.heap.size + 1, 838, none⟩ (.int .i64 (m.os.length : Int)))) :=
        ⟨⟨_, block_setCell hC8 _, core_os hcc hl8 hsl hol hs8 hf8 ho8⟩, hB8.setCell (by show w.heap.size ≤ w.heap.size + 1; omega) _⟩
      have p3 : wa.cell? ⟨w.heap.size, 3, none⟩ = some (.slice oa m.os.length oc) := (box5 (unhide HW7).2.1).1.2.2.2.1
      have r8 : ∃ v, w8.cell? ⟨w.heap.size + 1, 838, none⟩ = some v := ⟨C8[838]'(by omega), by rw [cell_of_block hC8]; exact Array.getElem?_eq_getElem _⟩
      obtain ⟨v8, r8⟩ := r8
      have z8 := unfrozen_of_block hC8 838
      have HRUN := hide hrun8
      clear hrun8 hC8 hs8 hf8 ho8 hb8 hP0 hB8 hC1d hC1 hcc HW7 hB1
      go_wp2_with fail
      go_region_law (refine step_copy rfl (.tmp 45) (.tmp 47) 23 23 rfl _ _ _ (by simp [Act.eval]) (by simp [Act.eval]) (unhide HRUN) ?_)
      clear HRUN r8 z8 p3
      go_wp2_with fail
      go_ret
      exact ⟨w.heap.size + 1, rfl, by omega, (unhide HW8).1, (unhide HW8).2⟩
end Go.Proofs.Ytjbhbkkkjdpamaa.CoreE
