/- The texts of bodies and of units: bodyText, headText, UnitText of both sides. -/
import Derived.Test.YthbbmookhcalkaaDoorText
import Derived.Test.YthbbmookhcalkaaDoorBld
import Derived.Test.YthbbmookhcalkaaDoorUnitS
import Derived.Test.YthbbmookhcalkaaDoorUnits
import Derived.Test.YthbbmookhcalkaaDoorShelf
import Derived.LaidMore
import Derived.Stop.LaidErr
import Derived.Lib.LaidTab
import Derived.Deep.RegionHeld3
import Derived.Deep.Cut
namespace Go.Proofs.YthbbmookhcalkaaDoor.BTxt
open Go.ChangeShapes Go.WideShapes Go.ChangeAt Go.RowKit Go.Joins Go.Deep
open Go.Proofs.YthbbmookhcalkaaDoor.Base Go.Proofs.YthbbmookhcalkaaDoor.InsA Go.Proofs.YthbbmookhcalkaaDoor.Name Go.Proofs.YthbbmookhcalkaaDoor.InsB Go.Proofs.YthbbmookhcalkaaDoor.Dec Go.Proofs.YthbbmookhcalkaaDoor.Text Go.Proofs.YthbbmookhcalkaaDoor.Funs Go.Proofs.YthbbmookhcalkaaDoor.Open Go.Proofs.YthbbmookhcalkaaDoor.FunS Go.Proofs.YthbbmookhcalkaaDoor.Keep Go.Proofs.YthbbmookhcalkaaDoor.UnitS Go.Proofs.YthbbmookhcalkaaDoor.Bld
set_option linter.unusedVariables false
set_option maxRecDepth 100000

def endB : ByteArray := ⟨#[10]⟩
def insT (x : InsD) : ByteArray := textA x.o x.n x.s
/-- The lines of the first instructions of a body. -/
def bodyN (xs : List InsD) : Nat → ByteArray
  | 0 => ⟨#[]⟩
  | k + 1 => bodyN xs k ++ insT (xs.getD k ⟨0, 0, ⟨#[]⟩⟩) ++ endB
def bodyT (xs : List InsD) : ByteArray := bodyN xs xs.length
def wordB (wk : Bool) : ByteArray := if wk then ⟨#[119, 101, 97, 107]⟩ else ⟨#[102, 117, 110]⟩
def headT (f : FunD) : ByteArray := wordB f.wk ++ ⟨#[32]⟩ ++ f.nm
def unitN (fs : List FunD) : Nat → ByteArray
  | 0 => ⟨#[]⟩
  | k + 1 => unitN fs k ++ (headT (fs.getD k default) ++ endB ++ bodyT (fs.getD k default).body)
/-- What UnitText answers. -/
def unitTextB (fs : List FunD) : ByteArray := if unitOkB fs then unitN fs fs.length else ⟨#[]⟩
theorem insT_le {x : InsD} (h : insOkD x = true) : (insT x).size ≤ 1100 := by
  have hw := wordA_le x.o
  unfold insT textA
  rw [if_pos (show insOkB x.o x.n x.s = true from h)]
  unfold tailA
  split
  · rename_i h2
    unfold insOkD insOkB at h
    rw [if_pos h2] at h
    simp only [Bool.and_eq_true, decide_eq_true_iff] at h
    have := ilen x.n
    simp only [ByteArray.size_append]
    have e1 : (⟨#[32]⟩ : ByteArray).size = 1 := rfl
    have e2 : (⟨(Lib.itoa x.n).toArray⟩ : ByteArray).size = (Lib.itoa x.n).length := rfl
    omega
  · split
    · rename_i h2 h3
      have hs : x.s.size ≤ 6 := by
        have ho : x.o = 3 ∨ x.o = 4 ∨ x.o = 5 := by simpa [refsB, or_assoc] using h3
        unfold insOkD insOkB at h
        rw [if_neg h2, if_pos ho] at h
        simp only [Bool.and_eq_true] at h
        have := h.2
        unfold nameB at this
        simp only [Bool.and_eq_true, decide_eq_true_iff] at this
        exact this.2.2
      simp only [ByteArray.size_append]
      have e1 : (⟨#[32]⟩ : ByteArray).size = 1 := rfl
      omega
    · simp only [ByteArray.size_append]
      have e1 : (⟨#[]⟩ : ByteArray).size = 0 := rfl
      omega
theorem ok_at {xs : List InsD} (h : allOk xs = true) {k : Nat} (hk : k < xs.length) : insOkD xs[k] = true := by
  unfold allOk at h
  exact List.all_eq_true.1 h _ (List.getElem_mem hk)
theorem body_le {xs : List InsD} (h : allOk xs = true) : ∀ k, k ≤ xs.length → (bodyN xs k).size ≤ k * 1101
  | 0, _ => by show (⟨#[]⟩ : ByteArray).size ≤ _; decide
  | k + 1, hk => by
    have ih := body_le h k (by omega)
    have e : xs.getD k ⟨0, 0, ⟨#[]⟩⟩ = xs[k] := by simp [List.getD, List.getElem?_eq_getElem (show k < xs.length by omega)]
    have hi := insT_le (ok_at h (show k < xs.length by omega))
    show (bodyN xs k ++ insT (xs.getD k ⟨0, 0, ⟨#[]⟩⟩) ++ endB).size ≤ _
    rw [e]
    simp only [ByteArray.size_append]
    have e1 : endB.size = 1 := rfl
    omega
theorem body_step {xs : List InsD} {k : Nat} (hk : k < xs.length) : bodyN xs k ++ insT xs[k] ++ endB = bodyN xs (k + 1) := by
  show _ = bodyN xs k ++ insT (xs.getD k ⟨0, 0, ⟨#[]⟩⟩) ++ endB
  rw [List.getD, List.getElem?_eq_getElem hk]
  rfl
theorem fun_parts {nm : ByteArray} {xs : List InsD} (h : funOkB nm xs = true) : nameB nm = true ∧ 1 ≤ xs.length ∧ xs.length ≤ 10 ∧ allOk xs = true := by
  unfold funOkB at h
  simp only [Bool.and_eq_true, decide_eq_true_iff] at h
  exact ⟨h.1.1.1, h.1.1.2.1, h.1.1.2.2, h.2⟩
theorem name_le {s : ByteArray} (h : nameB s = true) : s.size ≤ 6 := by
  unfold nameB at h
  simp only [Bool.and_eq_true, decide_eq_true_iff] at h
  exact h.2.2
theorem head_le {f : FunD} (h : nameB f.nm = true) : (headT f).size ≤ 11 := by
  have := name_le h
  unfold headT wordB
  simp only [ByteArray.size_append]
  have e1 : (⟨#[32]⟩ : ByteArray).size = 1 := rfl
  have e2 : (⟨#[119, 101, 97, 107]⟩ : ByteArray).size = 4 := rfl
  have e3 : (⟨#[102, 117, 110]⟩ : ByteArray).size = 3 := rfl
  split <;> omega
theorem unit_parts {fs : List FunD} (h : unitOkB fs = true) : fs.length ≤ 5 ∧ ∀ f ∈ fs, funOkB f.nm f.body = true := by
  unfold unitOkB at h
  simp only [Bool.and_eq_true, decide_eq_true_iff, List.all_eq_true] at h
  exact ⟨h.1.1, fun f hf => h.1.2 f hf⟩
theorem unit_le {fs : List FunD} (h : ∀ f ∈ fs, funOkB f.nm f.body = true) : ∀ k, k ≤ fs.length → (unitN fs k).size ≤ k * 12000
  | 0, _ => by show (⟨#[]⟩ : ByteArray).size ≤ _; decide
  | k + 1, hk => by
    have ih := unit_le h k (by omega)
    have e : fs.getD k default = fs[k] := by simp [List.getD, List.getElem?_eq_getElem (show k < fs.length by omega)]
    obtain ⟨p1, p2, p3, p4⟩ := fun_parts (h fs[k] (List.getElem_mem _))
    have hh := head_le p1
    have hb := body_le p4 _ (Nat.le_refl _)
    show (unitN fs k ++ (headT (fs.getD k default) ++ endB ++ bodyT (fs.getD k default).body)).size ≤ _
    rw [e]
    unfold bodyT
    simp only [ByteArray.size_append]
    have e1 : endB.size = 1 := rfl
    omega
theorem unit_step {fs : List FunD} {k : Nat} (hk : k < fs.length) : unitN fs k ++ (headT fs[k] ++ endB ++ bodyT fs[k].body) = unitN fs (k + 1) := by
  show _ = unitN fs k ++ (headT (fs.getD k default) ++ endB ++ bodyT (fs.getD k default).body)
  rw [List.getD, List.getElem?_eq_getElem hk]
  rfl
theorem bld_below {B b : Nat} {bs : List Value} {w w' : World} (h : Lib.IsBuilderF BT U8 B b bs w) (hb : Below w.heap.size w w') : Lib.IsBuilderF BT U8 B b bs w' := by
  have u : ∀ p, Lib.BuilderAtF BT U8 B b p bs w → Lib.BuilderAtF BT U8 B b p bs w' := by
    rintro p ⟨hB, v, hbk, ⟨e1, e2⟩, hne⟩
    refine ⟨hB, v, box_below hbk hb, ⟨e1, ?_⟩, hne⟩
    rcases e2 with e2 | ⟨g, cap, cur, fz, hv, hBg, hg, r⟩
    · exact .inl e2
    · exact .inr ⟨g, cap, cur, fz, hv, hBg, box_below hg hb, r⟩
  exact h.imp (u _) (u _)
theorem bld_new (w : World) (B : Nat) (hB : B = w.heap.size) : Lib.IsBuilderF BT U8 B B [] (w.alloc (.cells #[.pointer none, .slice none 0 0] 57)) := by
  subst hB
  exact .inl ⟨Nat.le_refl _, .slice none 0 0, new_block w (.cells #[.pointer none, .slice none 0 0] 57), World.ownsRowF_nil _ _ _ _, by simp [Value.ownBlock]⟩
theorem bc_len (s : ByteArray) : (Lib.byteCells s.data.toList).length = s.size := by
  rw [Lib.byteCells_length, Array.length_toList]
  rfl
theorem cells_str (s t : ByteArray) : Lib.byteCells s.data.toList ++ Lib.strCells t = Lib.byteCells (s ++ t).data.toList := by
  rw [Lib.strCells_eq, ← Lib.byteCells_append, ByteArray.data_append, Array.toList_append]
theorem cells_one (s : ByteArray) (c : UInt8) : Lib.byteCells s.data.toList ++ [.int .u8 (c.toNat : Nat)] = Lib.byteCells (s ++ ⟨#[c]⟩).data.toList := by
  rw [← cells_str]
  rfl
theorem ok_small {x : InsD} (h : insOkD x = true) : x.s.size ≤ 6 := by
  unfold insOkD insOkB at h
  have hz : x.s.toList.isEmpty = true → x.s.size ≤ 6 := fun h => by
    rw [ByteArray.toList_eq] at h
    have : x.s.data.toList = [] := by simpa using h
    have h2 : x.s.size = x.s.data.toList.length := by simp
    rw [h2, this]
    exact Nat.zero_le _
  split at h
  · simp only [Bool.and_eq_true] at h
    exact hz h.2
  · split at h
    · simp only [Bool.and_eq_true] at h
      exact name_le h.2
    · split at h
      · simp only [Bool.and_eq_true] at h
        exact hz h.2
      · cases h
theorem line_cells (s t : ByteArray) : Lib.byteCells s.data.toList ++ Lib.strCells t ++ [.int .u8 10] = Lib.byteCells (s ++ t ++ endB).data.toList := by
  rw [cells_str]
  exact cells_one _ 10
set_option maxHeartbeats 4000000 in
theorem bodyText_any (nm : ByteArray) (wk : Bool) (a : Option Addr) (cap : Nat) (xs : List InsD) (w : World) (hcap : xs.length ≤ cap) (hcm : cap ≤ maxLen) (h10 : xs.length ≤ 10) (hok : allOk xs = true) (hR : InsRow w a xs) (HT : Hid (Lib.TabIs Tryd.prog w "internal/strconv.uint64pow10" .u64 Lib.pow10Tab)) :
    Calls Tryd.prog 23 #[.agg #[.string nm, .bool wk, .slice a xs.length cap]] w fun e w' => e = .returned (.string (bodyT xs)) ∧ Below w.heap.size w w' := by
  obtain ⟨wB, hwB⟩ : ∃ wB, w.alloc (.cells #[.string nm, .bool wk, .slice a xs.length cap] 45) = wB := ⟨_, rfl⟩
  obtain ⟨gb, hgb⟩ : ∃ gb, w.heap.size = gb := ⟨_, rfl⟩
  have hB0 : Below w.heap.size w wB := by rw [← hwB]; exact below_alloc1 _ _
  have HBB : Hid (wB.heap.size = gb + 1) := by show _ = _; rw [← hwB, World.size_alloc, hgb]
  have HX := hide (new_block w (.cells #[.string nm, .bool wk, .slice a xs.length cap] 45))
  rw [hwB, hgb] at HX
  have HR := hide (hR.below hB0)
  have HTB := hide (tab_stays Text.gPow (unhide HT) hB0 (Nat.le_refl _))
  have HBN := hide (bld_new wB (gb + 1) (unhide HBB).symm)
  have HBL := hide (below_alloc1 wB (.cells #[.pointer none, .slice none 0 0] 57))
  rw [unhide HBB] at HBL
  have HSZ := hide (body_le hok)
  have HOK := hide (fun k (hk : k < xs.length) => ok_at hok hk)
  have hln : (xs.length : Int) ≤ 9223372036854775807 := by omega
  have HW := hide hwB
  have HG := hide hgb
  clear hR HT hok hwB
  go_enter Tryd.func23, Tryd.ntmps23
  go_upto_region 1 with fail
  rw [unhide HW, unhide HG] at *
  clear HW
  obtain ⟨⟨x0, x1, x2⟩, _⟩ := box3 (box_below (unhide HX) (below_alloc1 wB (.cells #[.pointer none, .slice none 0 0] 57)))
  have hbsz := unhide HBB
  go_wp2_with fail
  go_loopw [9] (fun i w' => ∃ k : Nat, k ≤ xs.length ∧ i = .int .i64 k ∧ Hid (Lib.IsBuilderF BT U8 (gb + 1) (gb + 1) (Lib.byteCells (bodyN xs k).data.toList) w') ∧ Below (gb + 1) wB w') (fun i _ => xs.length - (intOf i).toNat)
  case atStart => exact ⟨0, Nat.zero_le _, rfl, unhide HBN, unhide HBL⟩
  case round =>
    obtain ⟨k, hk, rfl, HI, hB⟩ := hrel
    clear HBN HBL x0 x1 x2
    have hBx : Below wB.heap.size wB wr := by rw [unhide HBB]; exact hB
    have hsz0 : gb + 1 ≤ wr.heap.size := by rw [← unhide HBB]; exact hBx.size
    by_cases hkl : k < xs.length
    · have hkl' : (k : Int) < (xs.length : Int) := by omega
      have hk0 : (0 : Int) ≤ (k : Int) := by omega
      obtain ⟨b, off, rfl⟩ := (unhide HR).get (by omega)
      obtain ⟨c0, c1, c2, _⟩ := ((unhide HR).below hBx).cells hkl
      have hxk := unhide HOK k hkl
      have hs6 := ok_small hxk
      have hts := insT_le hxk
      have hbs := unhide HSZ k hk
      have HLN : Hid (bodyN xs k ++ insT xs[k] ++ endB = bodyN xs (k + 1)) := body_step hkl
      have HTK := hide (tab_stays Text.gPow (unhide HTB) (bl_trans hBx (below_alloc1 wr (.cells #[.int .i64 xs[k].o, .int .i64 xs[k].n, .string xs[k].s] 53))) (Nat.le_refl _))
      have HI2 := hide (bld_below (unhide HI) (below_alloc1 wr (.cells #[.int .i64 xs[k].o, .int .i64 xs[k].n, .string xs[k].s] 53)))
      have hB2 := hB.alloc hsz0 (.cells #[.int .i64 xs[k].o, .int .i64 xs[k].n, .string xs[k].s] 53)
      have hbt : k * 1101 ≤ 11010 := by omega
      have hti : insT xs[k] = textA xs[k].o xs[k].n xs[k].s := rfl
      rw [hti] at HLN hts
      generalize xs[k] = x at *
      generalize bodyN xs k = s0 at *
      clear hti hxk hk
      go_wp2_with fail
      refine (implText_any x.o x.n x.s _ (by omega) (unhide HTK)).mono ?_
      rintro e w5 ⟨rfl, hb5⟩
      have HI5 := hide (bld_below (unhide HI2) hb5)
      have hs5 : gb + 1 ≤ w5.heap.size := by have := hb5.size; rw [World.size_alloc] at this; omega
      have hB5 : Below (gb + 1) wB w5 := hB2.trans (hb5.mono (by rw [World.size_alloc]; omega))
      clear HI HI2 hb5 hB2 hB hBx c0 c1 c2 HTK
      generalize textA x.o x.n x.s = tt at *
      go_wp2_with fail
      refine (writeString_any (gb + 1) (gb + 1) _ tt _ (unhide HI5) (by rw [bc_len]; omega) hs5).mono ?_
      rintro e w6 ⟨rfl, hI6, hb6, _⟩
      have HI6 := hide hI6
      have hB6 := Below.trans hB5 hb6
      have hs6 := Nat.le_trans hs5 hb6.size
      clear HI5 hI6 hb6 hB5
      go_wp2_with fail
      refine (writeByte_any (gb + 1) (gb + 1) _ _ _ (unhide HI6) (by rw [List.length_append, bc_len, Lib.strCells_length]; omega) hs6).mono ?_
      rintro e w7 ⟨rfl, hI7, hb7, _⟩
      rw [line_cells, unhide HLN] at hI7
      have HI7 := hide hI7
      have hB7 := Below.trans hB6 hb7
      clear HI6 hI7 hb7 hB6
      go_wp2_with fail
      exact ⟨⟨k + 1, by omega, by go_num, HI7, hB7⟩, by simp [intOf]; omega⟩
    · have hkl' : ¬ (k : Int) < (xs.length : Int) := by omega
      have hke : k = xs.length := by omega
      have HI2 : Hid (Lib.IsBuilderF BT U8 (gb + 1) (gb + 1) (Lib.byteCells (bodyT xs).data.toList) wr) := by unfold bodyT; rw [← hke]; exact HI
      clear hke HI
      go_wp2_with fail
      refine (Tryd.Builder_String_any_f (gb + 1) (gb + 1) _ _ (unhide HI2) hsz0).mono ?_
      rintro e w3 ⟨rfl, _, hb3⟩
      go_wp2_with fail
      go_ret
      exact ⟨ret_str rfl, bl_trans hB0 (by rw [unhide HBB]; exact Below.trans hB hb3)⟩
end Go.Proofs.YthbbmookhcalkaaDoor.BTxt
