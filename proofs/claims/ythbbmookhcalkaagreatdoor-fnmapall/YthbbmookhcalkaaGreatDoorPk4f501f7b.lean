/- The contracts of the draws that hold a drawn laying. -/
import Derived.Test.YthbbmookhcalkaaGreatDoorDrawM
import Derived.Test.YthbbmookhcalkaaGreatDoorPk18af4b8d
import Derived.Test.YthbbmookhcalkaaGreatDoorLayA
import Derived.Test.YthbbmookhcalkaaGreatDoorPk3b7a8e77
import Derived.WalkKit
import Derived.ProofKit
import Derived.OpenShut
import Derived.Below
import Derived.Outline
import Derived.Lib.SmallJoins
import Derived.Lib.ItoaNum
namespace Go.Proofs.YthbbmookhcalkaaGreatDoor.DrawT
open Go.ChangeShapes Go.WideShapes Go.ChangeAt Go.RowKit Go.Joins Go.Deep
open Go.Proofs.YthbbmookhcalkaaGreatDoor.Base Go.Proofs.YthbbmookhcalkaaGreatDoor.InsA Go.Proofs.YthbbmookhcalkaaGreatDoor.Funs Go.Proofs.YthbbmookhcalkaaGreatDoor.Open Go.Proofs.YthbbmookhcalkaaGreatDoor.FunS Go.Proofs.YthbbmookhcalkaaGreatDoor.Keep Go.Proofs.YthbbmookhcalkaaGreatDoor.UnitS Go.Proofs.YthbbmookhcalkaaGreatDoor.Refs Go.Proofs.YthbbmookhcalkaaGreatDoor.LayN Go.Proofs.YthbbmookhcalkaaGreatDoor.LayA Go.Proofs.YthbbmookhcalkaaGreatDoor.KeepD Go.Proofs.YthbbmookhcalkaaGreatDoor.LayD Go.Proofs.YthbbmookhcalkaaGreatDoor.LayS Go.Proofs.YthbbmookhcalkaaGreatDoor.LayT Go.Proofs.YthbbmookhcalkaaGreatDoor.LayV Go.Proofs.YthbbmookhcalkaaGreatDoor.LayW Go.Proofs.YthbbmookhcalkaaGreatDoor.LayX Go.Proofs.YthbbmookhcalkaaGreatDoor.LayY Go.Proofs.YthbbmookhcalkaaGreatDoor.Rd Go.Proofs.YthbbmookhcalkaaGreatDoor.DrawIns Go.Proofs.YthbbmookhcalkaaGreatDoor.DrawP Go.Proofs.YthbbmookhcalkaaGreatDoor.DrawO Go.Proofs.YthbbmookhcalkaaGreatDoor.DrawM
set_option linter.unusedVariables false
set_option maxRecDepth 100000

/-- A drawn program and a drawn laying, while more is drawn. -/
structure LM (w W : World) (R p : Nat) (a : Option Addr) (fs : List FunD) (na sa : Option Addr) (zs : List Int) (st : List (List ByteArray)) : Prop where
  rd : RdAt W R p
  bw : Below w.heap.size w W
  hR : w.heap.size ≤ R
  fr : FunRow W a fs
  nr : NumRow W na zs
  tr : TextsRow W sa st
  fn : ∀ S o, na = some ⟨S, o, none⟩ → R < S
  ft : ∀ S o, sa = some ⟨S, o, none⟩ → R < S
/-- .. where no more is drawn. -/
structure LE (w W : World) (R : Nat) (a : Option Addr) (fs : List FunD) (na sa : Option Addr) (zs : List Int) (st : List (List ByteArray)) : Prop where
  bw : Below w.heap.size w W
  fr : FunRow W a fs
  nr : NumRow W na zs
  tr : TextsRow W sa st
  fn : ∀ S o, na = some ⟨S, o, none⟩ → R < S
  ft : ∀ S o, sa = some ⟨S, o, none⟩ → R < S
section
variable {w W W' : World} {R p p' : Nat} {a : Option Addr} {fs : List FunD} {na sa : Option Addr} {zs : List Int} {st : List (List ByteArray)}
theorem num_turns (h : NumRow W na zs) (hf : ∀ S o, na = some ⟨S, o, none⟩ → R < S) (ht : Turns R W W') : NumRow W' na zs := by
  rcases h with h | ⟨b, off, ha, h⟩
  · exact .inl h
  · have := hf b off ha
    exact .inr ⟨b, off, ha, fun i hi => ht.cell (by omega) (h i hi)⟩
theorem text_turns {a : Option Addr} {ss : List ByteArray} (h : TextRow W a ss) (hr : RdAt W R p) (ht : Turns R W W') : TextRow W' a ss := by
  rcases h with h | ⟨b, off, ha, h⟩
  · exact .inl h
  · exact .inr ⟨b, off, ha, fun i hi => ⟨ht.cell (rd_str hr (h i hi).1) (h i hi).1, (h i hi).2⟩⟩
theorem texts_turns (h : TextsRow W sa st) (hf : ∀ S o, sa = some ⟨S, o, none⟩ → R < S) (hr : RdAt W R p) (ht : Turns R W W') : TextsRow W' sa st := by
  rcases h with h | ⟨b, off, ha, h⟩
  · exact .inl h
  · have := hf b off ha
    refine .inr ⟨b, off, ha, fun i hi => ?_⟩
    obtain ⟨ai, ci, h0, h1, h2, h3⟩ := h i hi
    exact ⟨ai, ci, ht.cell (by omega) h0, h1, h2, text_turns h3 hr ht⟩
theorem LM.turns (h : LM w W R p a fs na sa zs st) (ht : Turns R W W') (hr : RdAt W' R p') : LM w W' R p' a fs na sa zs st := by
  have h1 := h.hR
  exact ⟨hr, h.bw.trans (ht.below h1 h.bw.size), h1, funRow_turns h.fr h.rd ht, num_turns h.nr h.fn ht, texts_turns h.tr h.ft h.rd ht, h.fn, h.ft⟩
theorem LM.below (h : LM w W R p a fs na sa zs st) (hb : Below W.heap.size W W') : LM w W' R p a fs na sa zs st := h.turns (Turns.of_below hb) (rd_below h.rd hb)
theorem LM.drew (h : LM w W R p a fs na sa zs st) : LM w W.drew R p a fs na sa zs st := ⟨h.rd, h.bw.drew, h.hR, h.fr, h.nr, h.tr, h.fn, h.ft⟩
theorem LM.done (h : LM w W R p a fs na sa zs st) : LE w W R a fs na sa zs st := ⟨h.bw, h.fr, h.nr, h.tr, h.fn, h.ft⟩
/-- No text lies in a block. -/
def NoStr (W : World) (H : Nat) : Prop := ∀ m s, W.cell? ⟨H, m, none⟩ ≠ some (.string s)
def noS : Value → Bool
  | .string _ => false
  | _ => true
theorem nostr_of {H : Nat} {x y : Value} {t : TypeId} (h : W.heap[H]? = some (.cells #[x, y] t)) (hx : noS x = true) (hy : noS y = true) : NoStr W H := fun m s e => by
  rw [cell_of_block h] at e
  match m, e with
  | 0, e => simp at e; rw [e] at hx; cases hx
  | 1, e => simp at e; rw [e] at hy; cases hy
  | n + 2, e => simp at e
theorem far_cell {H b o m : Nat} {v x : Value} (hn : NoStr W H) {s : ByteArray} (hc : W.cell? ⟨b, m, none⟩ = some (.string s)) : H ≠ b := fun e => by
  subst e
  exact hn _ _ hc
theorem LE.put {H o : Nat} {v : Value} (h : LE w W R a fs na sa zs st) (hH : H < R) (hw : w.heap.size ≤ H) (hn : NoStr W H) : LE w (W.setCell ⟨H, o, none⟩ v) R a fs na sa zs st := by
  refine ⟨h.bw.setCell hw _, ?_, ?_, ?_, h.fn, h.ft⟩
  · rcases h.fr with h1 | ⟨b, off, ha, h1⟩
    · exact .inl h1
    · refine .inr ⟨b, off, ha, fun i hi => ?_⟩
      obtain ⟨ai, ci, k0, k1, k2, k3, k4, k5, k6⟩ := h1 i hi
      have hne : H ≠ b := fun e => by subst e; exact hn _ _ k0
      refine ⟨ai, ci, (World.cell?_setCell_far _ _ _ _ hne).trans k0, (World.cell?_setCell_far _ _ _ _ hne).trans k1, (World.cell?_setCell_far _ _ _ _ hne).trans k2, k3, k4, k5, ?_⟩
      rcases k6 with k6 | ⟨b', off', ha', k6⟩
      · exact .inl k6
      · refine .inr ⟨b', off', ha', fun j hj => ?_⟩
        obtain ⟨g0, g1, g2, g3⟩ := k6 j hj
        have hne' : H ≠ b' := fun e => by subst e; exact hn _ _ g2
        exact ⟨(World.cell?_setCell_far _ _ _ _ hne').trans g0, (World.cell?_setCell_far _ _ _ _ hne').trans g1, (World.cell?_setCell_far _ _ _ _ hne').trans g2, g3⟩
  · rcases h.nr with h1 | ⟨b, off, ha, h1⟩
    · exact .inl h1
    · have hne : H ≠ b := by have := h.fn b off ha; omega
      exact .inr ⟨b, off, ha, fun i hi => (World.cell?_setCell_far _ _ _ _ hne).trans (h1 i hi)⟩
  · rcases h.tr with h1 | ⟨b, off, ha, h1⟩
    · exact .inl h1
    · have hne : H ≠ b := by have := h.ft b off ha; omega
      refine .inr ⟨b, off, ha, fun i hi => ?_⟩
      obtain ⟨ai, ci, k0, k1, k2, k3⟩ := h1 i hi
      refine ⟨ai, ci, (World.cell?_setCell_far _ _ _ _ hne).trans k0, k1, k2, ?_⟩
      rcases k3 with k3 | ⟨b', off', ha', k3⟩
      · exact .inl k3
      · refine .inr ⟨b', off', ha', fun j hj => ?_⟩
        have hne' : H ≠ b' := fun e => by subst e; exact hn _ _ (k3 j hj).1
        exact ⟨(World.cell?_setCell_far _ _ _ _ hne').trans (k3 j hj).1, (k3 j hj).2⟩
theorem LE.put2 {H : Nat} {v0 v1 x y : Value} {t : TypeId} (h : LE w W R a fs na sa zs st) (hH : H < R) (hw : w.heap.size ≤ H) (hb : W.heap[H]? = some (.cells #[x, y] t)) (hx : noS x = true) (hy : noS y = true) (h0 : noS v0 = true) : LE w ((W.setCell ⟨H, 0, none⟩ v0).setCell ⟨H, 1, none⟩ v1) R a fs na sa zs st :=
  (h.put hH hw (nostr_of hb hx hy)).put hH hw (nostr_of (x := v0) (y := y) (t := t) (by rw [block_setCell hb]; rfl) h0 hy)
end
/-- What a draw hands on of a program and a laying. -/
structure LayMet (w w' : World) (a : Option Addr) (cap : Nat) (fs : List FunD) (na sa : Option Addr) (nc sc : Nat) (zs : List Int) (st : List (List ByteArray)) : Prop where
  h1 : fs.length ≤ cap
  h2 : cap ≤ maxLen
  h3 : fs.length ≤ 42
  nm : ∀ f ∈ fs, okN f.nm
  n1 : zs.length ≤ nc
  n2 : nc ≤ maxLen
  s1 : st.length ≤ sc
  s2 : sc ≤ maxLen
  tm : Tame zs st
  fr : FunRow w' a fs
  nr : NumRow w' na zs
  tr : TextsRow w' sa st
  bw : Below w.heap.size w w'
def StoneDrawn (w : World) (e : Ending) (w' : World) : Prop := ∃ a cap fs na sa nc sc zs st, ∃ ff nn : Int, e = .returned (.tuple #[.slice a fs.length cap, .agg #[.slice na zs.length nc, .slice sa st.length sc], .int .i64 ff, .int .i64 nn]) ∧ -10 ≤ ff ∧ ff ≤ 10 ∧ -10 ≤ nn ∧ nn ≤ 10 ∧ LayMet w w' a cap fs na sa nc sc zs st
def SpotDrawn (w : World) (e : Ending) (w' : World) : Prop := ∃ a cap fs na sa nc sc zs st, ∃ ff nn : Int, e = .returned (.tuple #[.slice a fs.length cap, .agg #[.slice na zs.length nc, .slice sa st.length sc], .agg #[.int .i64 ff, .int .i64 nn]]) ∧ -10 ≤ ff ∧ ff ≤ 10 ∧ -10 ≤ nn ∧ nn ≤ 10 ∧ LayMet w w' a cap fs na sa nc sc zs st
def AtDrawn (w : World) (e : Ending) (w' : World) : Prop := ∃ a cap fs na sa nc sc zs st, ∃ at_ : Int, e = .returned (.tuple #[.slice a fs.length cap, .agg #[.slice na zs.length nc, .slice sa st.length sc], .int .i64 at_]) ∧ -10 ≤ at_ ∧ at_ ≤ 100000000 ∧ LayMet w w' a cap fs na sa nc sc zs st
def OkDrawn (w : World) (e : Ending) (w' : World) : Prop := ∃ a cap fs na sa nc sc zs st, ∃ rr : Int, e = .returned (.tuple #[.slice a fs.length cap, .int .i64 rr, .agg #[.slice na zs.length nc, .slice sa st.length sc]]) ∧ 0 ≤ rr ∧ rr ≤ 101 ∧ LayMet w w' a cap fs na sa nc sc zs st
theorem size_small {fs : List FunD} {zs : List Int} {st : List (List ByteArray)} (h : Tame zs st) : ∃ zz : Nat, sizeI fs zs st = (zz : Int) ∧ zz ≤ 42000000 := by
  cases hf : formB fs zs st
  · exact ⟨0, by rw [size_no hf]; rfl, by omega⟩
  · exact ⟨_, size_yes hf, (lying_of hf h.few).small fs.length (Nat.le_refl _)⟩
theorem quo8 (v : Nat) (h : (v : Int) < 9) : 0 ≤ (v : Int).tdiv 8 ∧ (v : Int).tdiv 8 ≤ 1 := by
  rw [Int.tdiv_eq_ediv_of_nonneg (by omega)]
  omega
theorem wrap_small {x : Int} (h0 : -1000000000 ≤ x) (h1 : x ≤ 1000000000) : IntKind.i64.wrap x = x := by rw [IntKind.wrap_i64]; omega
end Go.Proofs.YthbbmookhcalkaaGreatDoor.DrawT
/- The contracts of LayMany and LaySame of both sides. -/
namespace Go.Proofs.YthbbmookhcalkaaGreatDoor.LayB
open Go.ChangeShapes Go.WideShapes Go.ChangeAt Go.RowKit Go.Joins Go.Deep
open Go.Proofs.YthbbmookhcalkaaGreatDoor.Base Go.Proofs.YthbbmookhcalkaaGreatDoor.Funs Go.Proofs.YthbbmookhcalkaaGreatDoor.Open Go.Proofs.YthbbmookhcalkaaGreatDoor.Keep Go.Proofs.YthbbmookhcalkaaGreatDoor.Refs Go.Proofs.YthbbmookhcalkaaGreatDoor.LayN Go.Proofs.YthbbmookhcalkaaGreatDoor.LayA
set_option linter.unusedVariables false
set_option maxRecDepth 100000

def tl (ns : List ByteArray) : List (List UInt8) := ns.map ByteArray.toList
def manyTo (st : List (List ByteArray)) : Nat → Nat
  | 0 => 0
  | k + 1 => manyTo st k + (st.getD k []).length
def manyN (st : List (List ByteArray)) : Nat := manyTo st st.length
theorem many_succ {st : List (List ByteArray)} {k : Nat} (h : k < st.length) : manyTo st (k + 1) = manyTo st k + st[k].length := by simp [manyTo, List.getD, List.getElem?_eq_getElem h]
theorem many_bd {st : List (List ByteArray)} (h : ∀ ss ∈ st, ss.length ≤ 1048576) : ∀ k, k ≤ st.length → manyTo st k ≤ k * 1048576
  | 0, _ => by simp [manyTo]
  | k + 1, hk => by
    have := many_bd h k (by omega)
    have := h _ (List.getElem_mem (show k < st.length by omega))
    rw [many_succ (by omega), Nat.succ_mul]; omega
theorem many_end {st : List (List ByteArray)} {k : Nat} (h : ¬ k < st.length) (hk : k ≤ st.length) : manyTo st k = manyN st := by rw [show k = st.length by omega]; rfl

set_option maxHeartbeats 1000000 in
theorem implMany_any (na sa : Option Addr) (nl nc sc : Nat) (st : List (List ByteArray)) (w : World) (hf : FewT st) (h3 : st.length ≤ sc) (h4 : sc ≤ maxLen) (hT : TextsRow w sa st) :
    Calls Tryz.prog 27 #[.agg #[.slice na nl nc, .slice sa st.length sc]] w fun e w' => e = .returned (.int .i64 (manyN st : Nat)) ∧ Below w.heap.size w w' := by
  have HT := hide hT
  have HX := hide (new_block w (.cells #[.slice na nl nc, .slice sa st.length sc] 47))
  have hB0 := below_alloc1 w (.cells #[.slice na nl nc, .slice sa st.length sc] 47)
  have hl := hf.1
  have HBD := hide (many_bd hf.2)
  have HL := hide hf.2
  clear hT hf
  go_enter Tryz.func27, Tryz.ntmps27
  go_wp2_with fail
  go_loopw [3, 9] (fun z i w' => ∃ k m : Nat, k ≤ st.length ∧ i = .int .i64 k ∧ z = .int .i64 m ∧ Hid (m = manyTo st k) ∧ w'.heap[w.heap.size]? = some (.cells #[.slice na nl nc, .slice sa st.length sc] 47) ∧ Below w.heap.size w w') (fun _ i _ => st.length - (intOf i).toNat)
  case atStart => exact ⟨0, 0, Nat.zero_le _, rfl, rfl, rfl, unhide HX, hB0⟩
  case round =>
    obtain ⟨k, m, hk, rfl, rfl, HM, hX, hB⟩ := hrel
    have HX := hide hX
    have hx := box2 hX
    clear hX
    have hm : m ≤ k * 1048576 := by rw [unhide HM]; exact unhide HBD k hk
    by_cases hkl : k < st.length
    · obtain ⟨b, off, rfl⟩ := (unhide HT).get (by omega)
      obtain ⟨ai, ci, c0, h5, h6, h7⟩ := ((unhide HT).below hB).at hkl
      have hkl' : (k : Int) < (st.length : Int) := by omega
      have HN := hide (many_succ hkl)
      have hq : st[k].length ≤ 1048576 := unhide HL _ (List.getElem_mem _)
      generalize st[k] = f at *
      clear h7
      unfold maxLen at h6
      go_wp2_with fail
      exact ⟨⟨k + 1, m + f.length, by omega, by go_num, by go_num, by show _ = _; rw [unhide HM, unhide HN], unhide HX, hB⟩, by simp [intOf]; omega⟩
    · have HE := hide (many_end hkl hk)
      go_wp2_with fail
      go_ret
      exact ⟨ret_int (by rw [unhide HM, unhide HE]), hB⟩


def laySameB (ns ns' : List Int) (st st' : List (List ByteArray)) : Bool := decide (ns = ns') && decide (st.map tl = st'.map tl)
theorem tl_inj : ∀ {a b : List ByteArray}, tl a = tl b → a = b
  | [], [], _ => rfl
  | [], _ :: _, h => by simp [tl] at h
  | _ :: _, [], h => by simp [tl] at h
  | x :: a, y :: b, h => by
    simp only [tl, List.map_cons, List.cons.injEq] at h
    have e : x = y := by
      have h1 := h.1
      rw [ByteArray.toList_eq, ByteArray.toList_eq] at h1
      exact ByteArray.ext (Array.toList_inj.1 h1)
    rw [e, tl_inj (show tl a = tl b from h.2)]
theorem stl_inj : ∀ {a b : List (List ByteArray)}, a.map tl = b.map tl → a = b
  | [], [], _ => rfl
  | [], _ :: _, h => by simp at h
  | _ :: _, [], h => by simp at h
  | x :: a, y :: b, h => by
    simp only [List.map_cons, List.cons.injEq] at h
    rw [tl_inj h.1, stl_inj h.2]
theorem laySame_iff {ns ns' : List Int} {st st' : List (List ByteArray)} : laySameB ns ns' st st' = true ↔ ns = ns' ∧ st = st' := by
  unfold laySameB
  rw [Bool.and_eq_true, decide_eq_true_iff, decide_eq_true_iff]
  exact ⟨fun h => ⟨h.1, stl_inj h.2⟩, fun h => ⟨h.1, by rw [h.2]⟩⟩
theorem texts_get {xs ys : List (List ByteArray)} {k : Nat} (hx : k < xs.length) (hy : k < ys.length) (h : decide (tl xs[k] = tl ys[k]) = false) : false = decide (xs.map tl = ys.map tl) :=
  list_ne (k := k) (by simpa using hx) (by simpa using hy) (by simpa using h)
theorem same_at {ns ns' : List Int} {st st' : List (List ByteArray)} (h : ns ≠ ns') : false = laySameB ns ns' st st' := by simp [laySameB, h]
theorem same_st {ns ns' : List Int} {st st' : List (List ByteArray)} (h : false = decide (st.map tl = st'.map tl)) : false = laySameB ns ns' st st' := by simp [laySameB, ← h]
theorem same_yes {ns ns' : List Int} {st st' : List (List ByteArray)} (h0 : ns = ns') (h : true = decide (st.map tl = st'.map tl)) : true = laySameB ns ns' st st' := by simp [laySameB, ← h, h0]

end Go.Proofs.YthbbmookhcalkaaGreatDoor.LayB
/- The contract of the specification's decimal writer, at the numbers that it is asked: the decimal numeral. -/
namespace Go.Proofs.YthbbmookhcalkaaGreatDoor.Dec
open Go.Proofs.YthbbmookhcalkaaGreatDoor.Base
open Go.ChangeShapes Go.WideShapes Go.ChangeAt Go.RowKit Go.Joins
set_option linter.unusedVariables false

theorem ret_str {a b : ByteArray} (h : a = b) : Ending.returned (.string a) = .returned (.string b) := by rw [h]

theorem str_cons_eq (c : UInt8) (l : List UInt8) : (⟨#[c]⟩ : ByteArray) ++ ⟨l.toArray⟩ = ⟨(c :: l).toArray⟩ := by
  apply ByteArray.ext
  rw [ByteArray.data_append]
  simp
theorem str_cons (c : UInt8) (l : List UInt8) : Value.string ((⟨#[c]⟩ : ByteArray) ++ ⟨l.toArray⟩) = Value.string ⟨(c :: l).toArray⟩ := by rw [str_cons_eq]
theorem ofNat_add (m : Nat) : UInt8.ofNat (48 + m) = 48 + UInt8.ofNat m := by simp

theorem dlen (m : Nat) : (Lib.decDigits m).length ≤ m + 1 := by
  induction m using Nat.strongRecOn with
  | ind m ih =>
    rw [Lib.decDigits]
    by_cases h : m < 10
    · rw [dif_pos h]; simp
    · rw [dif_neg h]
      have := ih (m / 10) (by omega)
      simp
      omega
theorem ilen (n : Int) : (Lib.itoa n).length ≤ n.natAbs + 2 := by
  unfold Lib.itoa
  split
  · have := dlen n.natAbs; simp; omega
  · have := dlen n.toNat; omega

theorem conv1 (w : World) (x : Int) : (convert 22 9 (.slice (some ⟨w.heap.size, 0, none⟩) 1 1)).run Tryz.prog (w.alloc (.cells #[.int .u8 x] 5)) = .ok (.string ⟨#[UInt8.ofNat x.toNat]⟩) (w.alloc (.cells #[.int .u8 x] 5)) := by
  rw [run_convert_bytes_string _ _ _ 5 _ _ _ Tryz.underlying22 Tryz.underlying5 Tryz.underlying9]
  rw [run_bytesToString _ _ 1 1 [x] (by simp [loadCells, go_sem])]
  rfl

theorem dec_step {n k : Nat} {l : List UInt8} (h : Lib.decDigits n = Lib.decDigits k ++ l) (h9 : 9 < k) : Lib.decDigits n = Lib.decDigits (k / 10) ++ (UInt8.ofNat (48 + k % 10) :: l) := by
  rw [h, Lib.decDigits, dif_neg (by omega), List.append_assoc]
  rfl
theorem dec_end {n k : Nat} {l : List UInt8} (h : Lib.decDigits n = Lib.decDigits k ++ l) (h9 : ¬ 9 < k) : Lib.decDigits n = UInt8.ofNat (48 + k) :: l := by
  rw [h, Lib.decDigits, dif_pos (by omega)]
  rfl

set_option maxHeartbeats 400000 in
theorem decPos_any (n : Nat) (w : World) (h1 : n ≤ 1000000) :
    Calls Tryz.prog 61 #[.int .i64 n] w fun e w' => e = .returned (.string ⟨(Lib.decDigits n).toArray⟩) ∧ Below w.heap.size w w' := by
  go_enter Tryz.func61, Tryz.ntmps61
  go_wp2
  go_loopw [0, 3] (fun m out w' => ∃ (k : Nat) (l : List UInt8), k ≤ 1000000 ∧ m = .int .i64 k ∧ out = .string ⟨l.toArray⟩ ∧ Lib.decDigits n = Lib.decDigits k ++ l ∧ l.length + k ≤ n ∧ Below w.heap.size w w') (fun m _ _ => (intOf m).toNat)
  case atStart => exact ⟨n, [], h1, rfl, rfl, by simp, by simp, Below.refl _ _⟩
  case round =>
    obtain ⟨k, l, hk, rfl, rfl, hd, hlen, hb⟩ := hrel
    have HD : Hid (Lib.decDigits n = Lib.decDigits k ++ l) := hd
    clear hd
    have hc1 := conv1 wr
    by_cases h9 : 9 < k
    · have h9' : (9 : Int) < (k : Int) := by omega
      go_wp2
      exact ⟨⟨k / 10, _, by omega, by go_num, str_cons _ _, by rw [dec_step HD.out h9, ofNat_add], by simp; omega, bl_alloc hb _⟩, by simp [intOf]; omega⟩
    · have h9' : ¬ (9 : Int) < (k : Int) := by omega
      go_wp2
      go_ret
      exact ⟨ret_str (by rw [dec_end HD.out h9, ofNat_add]; exact str_cons_eq _ _), bl_alloc hb _⟩

set_option maxHeartbeats 400000 in
theorem dec_any (n : Int) (w : World) (h0 : -1000000 ≤ n) (h1 : n ≤ 1000000) :
    Calls Tryz.prog 61 #[.int .i64 n] w fun e w' => e = .returned (.string ⟨(Lib.itoa n).toArray⟩) ∧ Below w.heap.size w w' := by
  by_cases hn : n < 0
  · obtain ⟨m, hm⟩ := Int.eq_ofNat_of_zero_le (show 0 ≤ -n by omega)
    have hit : Lib.itoa n = 45 :: Lib.decDigits m := by
      unfold Lib.itoa; rw [if_pos hn, show n.natAbs = m by omega]
    have HI : Hid (Lib.itoa n = 45 :: Lib.decDigits m) := hit
    clear hit
    go_enter Tryz.func61, Tryz.ntmps61
    go_wp2_with fail
    refine (decPos_any m _ (by omega)).mono ?_
    rintro e w1 ⟨rfl, hb⟩
    have hdl := dlen m
    have hmb : m ≤ 1000000 := by omega
    clear hm
    go_wp2_with fail
    go_ret
    exact ⟨ret_str (by rw [HI.out]; exact str_cons_eq _ _), hb⟩
  · obtain ⟨m, rfl⟩ := Int.eq_ofNat_of_zero_le (show 0 ≤ n by omega)
    have hit : Lib.itoa (m : Int) = Lib.decDigits m := by
      unfold Lib.itoa; rw [if_neg hn]; rfl
    rw [hit]
    exact decPos_any m w (by omega)
end Go.Proofs.YthbbmookhcalkaaGreatDoor.Dec
