/- The texts of images: ImageText of both sides. -/
import Derived.Test.YthbbmookhcalkaaDoorBTxt
import Derived.Test.YthbbmookhcalkaaDoorImgOk
namespace Go.Proofs.YthbbmookhcalkaaDoor.ITxt
open Go.ChangeShapes Go.WideShapes Go.ChangeAt Go.RowKit Go.Joins Go.Deep
open Go.Proofs.YthbbmookhcalkaaDoor.Base Go.Proofs.YthbbmookhcalkaaDoor.InsA Go.Proofs.YthbbmookhcalkaaDoor.InsB Go.Proofs.YthbbmookhcalkaaDoor.Dec Go.Proofs.YthbbmookhcalkaaDoor.Text Go.Proofs.YthbbmookhcalkaaDoor.Funs Go.Proofs.YthbbmookhcalkaaDoor.Open Go.Proofs.YthbbmookhcalkaaDoor.Keep Go.Proofs.YthbbmookhcalkaaDoor.CellA Go.Proofs.YthbbmookhcalkaaDoor.ImgD Go.Proofs.YthbbmookhcalkaaDoor.ImgOk Go.Proofs.YthbbmookhcalkaaDoor.Bld
open Go.Proofs.YthbbmookhcalkaaDoor.BTxt (bld_below bld_new bc_len cells_str line_cells)
set_option linter.unusedVariables false
set_option maxRecDepth 100000

def cellW (o : Int) : ByteArray := if o = 8 then ⟨#[102, 97, 114]⟩ else wordA o
def hasN (o : Int) : Bool := (o == 8 || o == 2) || refsB o
/-- The line of a cell. -/
def cellT (x : CellD) : ByteArray := if hasN x.f then (cellW x.f ++ ⟨#[32]⟩) ++ ⟨(Lib.itoa x.p).toArray⟩ else cellW x.f
def imgN (l : List CellD) : Nat → ByteArray
  | 0 => ⟨#[]⟩
  | k + 1 => imgN l k ++ cellT (cellOf l k) ++ ⟨#[10]⟩
/-- What ImageText answers. -/
def imageTextB (l : List CellD) : ByteArray := if imageB l 100 then imgN l l.length else ⟨#[]⟩
theorem cellW_le (o : Int) : (cellW o).size ≤ 4 := by
  unfold cellW
  split
  · decide
  · exact wordA_le o
theorem cellT_le {x : CellD} (h0 : -1000 ≤ x.p) (h1 : x.p ≤ 1000) : (cellT x).size ≤ 1100 := by
  have hw := cellW_le x.f
  have hi := ilen x.p
  unfold cellT
  split
  · simp only [ByteArray.size_append]
    have e1 : (⟨#[32]⟩ : ByteArray).size = 1 := rfl
    have e2 : (⟨(Lib.itoa x.p).toArray⟩ : ByteArray).size = (Lib.itoa x.p).length := rfl
    omega
  · omega
theorem img_small {l : List CellD} (h : imageB l 100 = true) {k : Nat} (hk : k < l.length) : -1000 ≤ l[k].p ∧ l[k].p ≤ 1000 ∧ 1 ≤ l[k].f ∧ l[k].f ≤ 8 := by
  have := cell_small h (q := (k : Int)) ⟨by omega, by omega⟩
  rwa [cellOf_at hk] at this
theorem imgN_le {l : List CellD} (h : imageB l 100 = true) : ∀ k, k ≤ l.length → (imgN l k).size ≤ k * 1101
  | 0, _ => by show (⟨#[]⟩ : ByteArray).size ≤ _; decide
  | k + 1, hk => by
    have ih := imgN_le h k (by omega)
    have hs := img_small h (show k < l.length by omega)
    have hc := cellT_le hs.1 hs.2.1
    show (imgN l k ++ cellT (cellOf l k) ++ ⟨#[10]⟩).size ≤ _
    rw [cellOf_at (by omega)]
    simp only [ByteArray.size_append]
    have e1 : (⟨#[10]⟩ : ByteArray).size = 1 := rfl
    omega
theorem img_step {l : List CellD} {k : Nat} (hk : k < l.length) : imgN l k ++ cellT l[k] ++ ⟨#[10]⟩ = imgN l (k + 1) := by
  show _ = imgN l k ++ cellT (cellOf l k) ++ ⟨#[10]⟩
  rw [cellOf_at hk]
theorem img_len {l : List CellD} (h : imageB l 100 = true) : 1 ≤ l.length ∧ l.length ≤ 800 := by
  obtain ⟨h0, _⟩ := image_parts h
  have := head_parts h0
  omega
theorem cellWord_any (o : Int) (w : World) : Calls Tryd.prog 60 #[.int .i64 o] w fun e w' => e = .returned (.string (cellW o)) ∧ w' = w := by
  by_cases h8 : o = 8
  · subst h8
    go_enter Tryd.func60, Tryd.ntmps60
    go_wp2_with fail
    go_ret
    exact ⟨ret_str rfl, rfl⟩
  · have HE : Hid (wordA o = cellW o) := by show _ = _; unfold cellW; rw [if_neg h8]
    go_enter Tryd.func60, Tryd.ntmps60
    go_wp2_with fail
    refine (word_any _ _).mono ?_
    rintro e w1 ⟨rfl, rfl⟩
    go_wp2_with fail
    go_ret
    exact ⟨ret_str (unhide HE), rfl⟩
theorem cellNum_any (o : Int) (w : World) : Calls Tryd.prog 59 #[.int .i64 o] w fun e w' => e = .returned (.bool (hasN o)) ∧ w' = w := by
  by_cases h8 : o = 8
  · subst h8
    go_enter Tryd.func59, Tryd.ntmps59
    go_wp2_with fail
    go_ret
    exact ⟨rfl, rfl⟩
  · have h8' : (o == 8) = false := by simpa using h8
    cases h2 : (o == 2)
    · have HE : Hid (refsB o = hasN o) := by show _ = _; unfold hasN; rw [h8', h2]; rfl
      go_enter Tryd.func59, Tryd.ntmps59
      go_wp2_with fail
      refine (hasNumber_any _ _).mono ?_
      rw [h2]
      rintro e w1 ⟨rfl, rfl⟩
      go_wp2_with fail
      refine (hasName_any _ _).mono ?_
      rintro e w1 ⟨rfl, rfl⟩
      go_wp2_with fail
      go_ret
      exact ⟨ret_bool (unhide HE), rfl⟩
    · have HE : Hid (true = hasN o) := by show _ = _; unfold hasN; rw [h8', h2]; rfl
      go_enter Tryd.func59, Tryd.ntmps59
      go_wp2_with fail
      refine (hasNumber_any _ _).mono ?_
      rw [h2]
      rintro e w1 ⟨rfl, rfl⟩
      go_wp2_with fail
      go_ret
      exact ⟨ret_bool (unhide HE), rfl⟩
set_option maxHeartbeats 1000000 in
theorem cellText_any (f p : Int) (w : World) (h0 : -1000 ≤ p) (h1 : p ≤ 1000) (HT : Hid (Lib.TabIs Tryd.prog w "internal/strconv.uint64pow10" .u64 Lib.pow10Tab)) :
    Calls Tryd.prog 37 #[.agg #[.int .i64 f, .int .i64 p]] w fun e w' => e = .returned (.string (cellT ⟨f, p⟩)) ∧ Below w.heap.size w w' := by
  have hB := below_alloc1 w (.cells #[.int .i64 f, .int .i64 p] 65)
  have hil := ilen p
  have hwd := cellW_le f
  cases hn : hasN f
  · have HE : Hid (cellW f = cellT ⟨f, p⟩) := by show _ = _; unfold cellT; rw [hn]; rfl
    go_enter Tryd.func37, Tryd.ntmps37
    go_wp2_with fail
    refine (cellNum_any _ _).mono ?_
    rw [hn]
    rintro e w1 ⟨rfl, rfl⟩
    go_wp2_with fail
    refine (cellWord_any _ _).mono ?_
    rintro e w1 ⟨rfl, rfl⟩
    go_wp2_with fail
    go_ret
    exact ⟨ret_str (unhide HE), hB⟩
  · have HE : Hid ((cellW f ++ ⟨#[32]⟩) ++ ⟨(Lib.itoa p).toArray⟩ = cellT ⟨f, p⟩) := by show _ = _; unfold cellT; rw [hn]; rfl
    have q1 : ¬ 9223372036854775807 < (cellW f).size + 1 := by omega
    have q2 : ¬ 9223372036854775807 < (cellW f).size + 1 + (Lib.itoa p).length := by omega
    go_enter Tryd.func37, Tryd.ntmps37
    go_wp2_with fail
    refine (cellNum_any _ _).mono ?_
    rw [hn]
    rintro e w1 ⟨rfl, rfl⟩
    have hS0 : (w.alloc (.cells #[.int .i64 f, .int .i64 p] 65)).cell? ⟨w.heap.size, 1, none⟩ = some (.int .i64 p) ∧ Below w.heap.size w (w.alloc (.cells #[.int .i64 f, .int .i64 p] 65)) := ⟨by rw [cell_of_block (new_block w _)]; rfl, hB⟩
    clear hil hwd hB
    go_wp2_with fail
    go_region_held3 (fun w' => w'.cell? ⟨w.heap.size, 1, none⟩ = some (.int .i64 p) ∧ Below w.heap.size w w') (first | assumption | (refine keep_grow ?_ _ _; assumption) | (refine keep_drew ?_; assumption)) (first | (go_at_call 60; refine (cellWord_any _ _).mono ?_; rintro e wk ⟨rfl, rfl⟩) | (go_at_call 61; refine (Tryd.strconv_Itoa p (by omega) (by omega) _ ?_).mono ?_; (exact itab HT (by assumption)); rintro e wk ⟨rfl, k, os, rfl⟩))
    have hS1 := keep_here (by assumption)
    go_wp2_with fail
    go_ret
    exact ⟨ret_str (unhide HE), hS1⟩
set_option maxHeartbeats 4000000 in
theorem implImageText_any (a : Option Addr) (cap : Nat) (l : List CellD) (w : World) (hcap : l.length ≤ cap) (hcm : cap ≤ maxLen) (hR : CellRow w a l) (HT : Hid (Lib.TabIs Tryd.prog w "internal/strconv.uint64pow10" .u64 Lib.pow10Tab)) :
    Calls Tryd.prog 16 #[.slice a l.length cap] w fun e w' => e = .returned (.string (imageTextB l)) ∧ Below w.heap.size w w' := by
  have HR0 := hide hR
  clear hR
  cases hok : imageB l 100
  · have HE : Hid (⟨#[]⟩ = imageTextB l) := by show _ = _; unfold imageTextB; rw [hok]; rfl
    go_enter Tryd.func16, Tryd.ntmps16
    go_wp2_with fail
    refine (implImageOk_any a cap l 100 _ hcap hcm (unhide HR0)).mono ?_
    rw [hok]
    rintro e w1 ⟨rfl, hb1⟩
    go_wp2_with fail
    go_ret
    exact ⟨ret_str (unhide HE), hb1⟩
  have hlen := img_len hok
  have HSZ := hide (imgN_le hok)
  have HSM := hide (fun k (hk : k < l.length) => img_small hok hk)
  have HE : Hid (imgN l l.length = imageTextB l) := by show _ = _; unfold imageTextB; rw [hok]; rfl
  have hln : (l.length : Int) ≤ 9223372036854775807 := by omega
  go_enter Tryd.func16, Tryd.ntmps16
  go_wp2_with fail
  refine (implImageOk_any a cap l 100 _ hcap hcm (unhide HR0)).mono ?_
  rw [hok]
  rintro e wB ⟨rfl, hB0⟩
  have HR := hide ((unhide HR0).below hB0)
  have HTB := hide (tab_stays Text.gPow (unhide HT) hB0 (Nat.le_refl _))
  obtain ⟨gb, hgb⟩ : ∃ gb, wB.heap.size = gb := ⟨_, rfl⟩
  have HBN := hide (bld_new wB gb hgb.symm)
  have HBL := hide (below_alloc1 wB (.cells #[.pointer none, .slice none 0 0] 57))
  rw [hgb] at HBL
  have HG := hide hgb
  clear HR0 hok hgb
  go_wp2_with fail
  rw [unhide HG]
  go_loopw [11] (fun i w' => ∃ k : Nat, k ≤ l.length ∧ i = .int .i64 k ∧ Hid (Lib.IsBuilderF BT U8 gb gb (Lib.byteCells (imgN l k).data.toList) w') ∧ Below gb wB w') (fun i _ => l.length - (intOf i).toNat)
  case atStart => exact ⟨0, Nat.zero_le _, rfl, unhide HBN, unhide HBL⟩
  case round =>
    obtain ⟨k, hk, rfl, HI, hB⟩ := hrel
    clear HBN HBL
    have hBx : Below wB.heap.size wB wr := by rw [unhide HG]; exact hB
    have hsz0 : gb ≤ wr.heap.size := by rw [← unhide HG]; exact hBx.size
    by_cases hkl : k < l.length
    · have hkl' : (k : Int) < (l.length : Int) := by omega
      have hk0 : (0 : Int) ≤ (k : Int) := by omega
      obtain ⟨b, off, rfl⟩ := (unhide HR).get (by omega)
      obtain ⟨c0, c1⟩ := ((unhide HR).below hBx).cells hkl
      obtain ⟨p0, p1, _, _⟩ := unhide HSM k hkl
      have hts := cellT_le p0 p1
      have hbs := unhide HSZ k hk
      have HLN : Hid (imgN l k ++ cellT l[k] ++ ⟨#[10]⟩ = imgN l (k + 1)) := img_step hkl
      have HTK := hide (tab_stays Text.gPow (unhide HTB) (bl_trans hBx (below_alloc1 wr (.cells #[.int .i64 l[k].f, .int .i64 l[k].p] 65))) (Nat.le_refl _))
      have HI2 := hide (bld_below (unhide HI) (below_alloc1 wr (.cells #[.int .i64 l[k].f, .int .i64 l[k].p] 65)))
      have hB2 := hB.alloc hsz0 (.cells #[.int .i64 l[k].f, .int .i64 l[k].p] 65)
      have hbt : k * 1101 ≤ 880800 := by omega
      generalize l[k] = x at *
      obtain ⟨f, p⟩ := x
      dsimp only at *
      generalize imgN l k = s0 at *
      clear hk
      go_wp2_with fail
      refine (cellText_any f p _ p0 p1 HTK).mono ?_
      rintro e w5 ⟨rfl, hb5⟩
      have HI5 := hide (bld_below (unhide HI2) hb5)
      have hs5 : gb ≤ w5.heap.size := by have := hb5.size; rw [World.size_alloc] at this; omega
      have hB5 : Below gb wB w5 := hB2.trans (hb5.mono (by rw [World.size_alloc]; omega))
      clear HI HI2 hb5 hB2 hB hBx c0 c1 HTK
      generalize cellT ⟨f, p⟩ = tt at *
      go_wp2_with fail
      refine (writeString_any gb gb _ tt _ (unhide HI5) (by rw [bc_len]; omega) hs5).mono ?_
      rintro e w6 ⟨rfl, hI6, hb6, _⟩
      have HI6 := hide hI6
      have hB6 := Below.trans hB5 hb6
      have hs6 := Nat.le_trans hs5 hb6.size
      clear HI5 hI6 hb6 hB5
      go_wp2_with fail
      refine (writeByte_any gb gb _ _ _ (unhide HI6) (by rw [List.length_append, bc_len, Lib.strCells_length]; omega) hs6).mono ?_
      rintro e w7 ⟨rfl, hI7, hb7, _⟩
      rw [line_cells] at hI7
      have hI8 : Lib.IsBuilderF BT U8 gb gb (Lib.byteCells (s0 ++ tt ++ ⟨#[10]⟩).data.toList) w7 := hI7
      rw [unhide HLN] at hI8
      have HI7 := hide hI8
      have hB7 := Below.trans hB6 hb7
      clear HI6 hI7 hI8 hb7 hB6
      go_wp2_with fail
      exact ⟨⟨k + 1, by omega, by go_num, HI7, hB7⟩, by simp [intOf]; omega⟩
    · have hkl' : ¬ (k : Int) < (l.length : Int) := by omega
      have hke : k = l.length := by omega
      have HI2 : Hid (Lib.IsBuilderF BT U8 gb gb (Lib.byteCells (imageTextB l).data.toList) wr) := by rw [← unhide HE, ← hke]; exact HI
      clear hke HI
      go_wp2_with fail
      refine (Tryd.Builder_String_any_f gb gb _ _ (unhide HI2) hsz0).mono ?_
      rintro e w3 ⟨rfl, _, hb3⟩
      go_wp2_with fail
      go_ret
      exact ⟨ret_str rfl, bl_trans hB0 (by rw [unhide HG]; exact Below.trans hB hb3)⟩
theorem below_of_words {w w' : World} (h : w' = w.alloc (.cells #[.string ⟨#[]⟩, .string ⟨#[115, 97, 121]⟩, .string ⟨#[97, 100, 100]⟩, .string ⟨#[99, 97, 108, 108]⟩, .string ⟨#[103, 111]⟩, .string ⟨#[105, 102]⟩, .string ⟨#[114, 101, 116]⟩, .string ⟨#[101, 110, 100]⟩] 9)) : Below w.heap.size w w' := by rw [h]; exact below_alloc1 _ _
theorem box_of_words {w w' : World} (h : w' = w.alloc (.cells #[.string ⟨#[]⟩, .string ⟨#[115, 97, 121]⟩, .string ⟨#[97, 100, 100]⟩, .string ⟨#[99, 97, 108, 108]⟩, .string ⟨#[103, 111]⟩, .string ⟨#[105, 102]⟩, .string ⟨#[114, 101, 116]⟩, .string ⟨#[101, 110, 100]⟩] 9)) : w'.heap[w.heap.size]? = some (.cells #[.string ⟨#[]⟩, .string ⟨#[115, 97, 121]⟩, .string ⟨#[97, 100, 100]⟩, .string ⟨#[99, 97, 108, 108]⟩, .string ⟨#[103, 111]⟩, .string ⟨#[105, 102]⟩, .string ⟨#[114, 101, 116]⟩, .string ⟨#[101, 110, 100]⟩] 9) := by rw [h]; exact new_block w _
theorem word_box1 {w : World} {B : Nat} (h : w.heap[B]? = some (.cells #[.string ⟨#[]⟩, .string ⟨#[115, 97, 121]⟩, .string ⟨#[97, 100, 100]⟩, .string ⟨#[99, 97, 108, 108]⟩, .string ⟨#[103, 111]⟩, .string ⟨#[105, 102]⟩, .string ⟨#[114, 101, 116]⟩, .string ⟨#[101, 110, 100]⟩] 9)) : w.cell? ⟨B, 1, none⟩ = some (.string ⟨#[115, 97, 121]⟩) := by rw [cell_of_block h]; rfl
theorem bare_line1 (s : ByteArray) (p : Int) : ((s ++ ⟨#[115, 97, 121]⟩) ++ ⟨#[10]⟩) = s ++ cellT ⟨1, p⟩ ++ ⟨#[10]⟩ := rfl
theorem word_box2 {w : World} {B : Nat} (h : w.heap[B]? = some (.cells #[.string ⟨#[]⟩, .string ⟨#[115, 97, 121]⟩, .string ⟨#[97, 100, 100]⟩, .string ⟨#[99, 97, 108, 108]⟩, .string ⟨#[103, 111]⟩, .string ⟨#[105, 102]⟩, .string ⟨#[114, 101, 116]⟩, .string ⟨#[101, 110, 100]⟩] 9)) : w.cell? ⟨B, 2, none⟩ = some (.string ⟨#[97, 100, 100]⟩) := by rw [cell_of_block h]; rfl
theorem num_line2 (s : ByteArray) (p : Int) : ((((s ++ ⟨#[97, 100, 100]⟩) ++ ⟨#[32]⟩) ++ ⟨(Lib.itoa p).toArray⟩) ++ ⟨#[10]⟩) = s ++ cellT ⟨2, p⟩ ++ ⟨#[10]⟩ := by
  have e : cellT ⟨2, p⟩ = (⟨#[97, 100, 100]⟩ ++ ⟨#[32]⟩) ++ ⟨(Lib.itoa p).toArray⟩ := rfl
  rw [e]
  simp only [ByteArray.append_assoc]
theorem word_box3 {w : World} {B : Nat} (h : w.heap[B]? = some (.cells #[.string ⟨#[]⟩, .string ⟨#[115, 97, 121]⟩, .string ⟨#[97, 100, 100]⟩, .string ⟨#[99, 97, 108, 108]⟩, .string ⟨#[103, 111]⟩, .string ⟨#[105, 102]⟩, .string ⟨#[114, 101, 116]⟩, .string ⟨#[101, 110, 100]⟩] 9)) : w.cell? ⟨B, 3, none⟩ = some (.string ⟨#[99, 97, 108, 108]⟩) := by rw [cell_of_block h]; rfl
theorem num_line3 (s : ByteArray) (p : Int) : ((((s ++ ⟨#[99, 97, 108, 108]⟩) ++ ⟨#[32]⟩) ++ ⟨(Lib.itoa p).toArray⟩) ++ ⟨#[10]⟩) = s ++ cellT ⟨3, p⟩ ++ ⟨#[10]⟩ := by
  have e : cellT ⟨3, p⟩ = (⟨#[99, 97, 108, 108]⟩ ++ ⟨#[32]⟩) ++ ⟨(Lib.itoa p).toArray⟩ := rfl
  rw [e]
  simp only [ByteArray.append_assoc]
theorem word_box4 {w : World} {B : Nat} (h : w.heap[B]? = some (.cells #[.string ⟨#[]⟩, .string ⟨#[115, 97, 121]⟩, .string ⟨#[97, 100, 100]⟩, .string ⟨#[99, 97, 108, 108]⟩, .string ⟨#[103, 111]⟩, .string ⟨#[105, 102]⟩, .string ⟨#[114, 101, 116]⟩, .string ⟨#[101, 110, 100]⟩] 9)) : w.cell? ⟨B, 4, none⟩ = some (.string ⟨#[103, 111]⟩) := by rw [cell_of_block h]; rfl
theorem num_line4 (s : ByteArray) (p : Int) : ((((s ++ ⟨#[103, 111]⟩) ++ ⟨#[32]⟩) ++ ⟨(Lib.itoa p).toArray⟩) ++ ⟨#[10]⟩) = s ++ cellT ⟨4, p⟩ ++ ⟨#[10]⟩ := by
  have e : cellT ⟨4, p⟩ = (⟨#[103, 111]⟩ ++ ⟨#[32]⟩) ++ ⟨(Lib.itoa p).toArray⟩ := rfl
  rw [e]
  simp only [ByteArray.append_assoc]
theorem word_box5 {w : World} {B : Nat} (h : w.heap[B]? = some (.cells #[.string ⟨#[]⟩, .string ⟨#[115, 97, 121]⟩, .string ⟨#[97, 100, 100]⟩, .string ⟨#[99, 97, 108, 108]⟩, .string ⟨#[103, 111]⟩, .string ⟨#[105, 102]⟩, .string ⟨#[114, 101, 116]⟩, .string ⟨#[101, 110, 100]⟩] 9)) : w.cell? ⟨B, 5, none⟩ = some (.string ⟨#[105, 102]⟩) := by rw [cell_of_block h]; rfl
theorem num_line5 (s : ByteArray) (p : Int) : ((((s ++ ⟨#[105, 102]⟩) ++ ⟨#[32]⟩) ++ ⟨(Lib.itoa p).toArray⟩) ++ ⟨#[10]⟩) = s ++ cellT ⟨5, p⟩ ++ ⟨#[10]⟩ := by
  have e : cellT ⟨5, p⟩ = (⟨#[105, 102]⟩ ++ ⟨#[32]⟩) ++ ⟨(Lib.itoa p).toArray⟩ := rfl
  rw [e]
  simp only [ByteArray.append_assoc]
theorem word_box6 {w : World} {B : Nat} (h : w.heap[B]? = some (.cells #[.string ⟨#[]⟩, .string ⟨#[115, 97, 121]⟩, .string ⟨#[97, 100, 100]⟩, .string ⟨#[99, 97, 108, 108]⟩, .string ⟨#[103, 111]⟩, .string ⟨#[105, 102]⟩, .string ⟨#[114, 101, 116]⟩, .string ⟨#[101, 110, 100]⟩] 9)) : w.cell? ⟨B, 6, none⟩ = some (.string ⟨#[114, 101, 116]⟩) := by rw [cell_of_block h]; rfl
theorem bare_line6 (s : ByteArray) (p : Int) : ((s ++ ⟨#[114, 101, 116]⟩) ++ ⟨#[10]⟩) = s ++ cellT ⟨6, p⟩ ++ ⟨#[10]⟩ := rfl
theorem word_box7 {w : World} {B : Nat} (h : w.heap[B]? = some (.cells #[.string ⟨#[]⟩, .string ⟨#[115, 97, 121]⟩, .string ⟨#[97, 100, 100]⟩, .string ⟨#[99, 97, 108, 108]⟩, .string ⟨#[103, 111]⟩, .string ⟨#[105, 102]⟩, .string ⟨#[114, 101, 116]⟩, .string ⟨#[101, 110, 100]⟩] 9)) : w.cell? ⟨B, 7, none⟩ = some (.string ⟨#[101, 110, 100]⟩) := by rw [cell_of_block h]; rfl
theorem bare_line7 (s : ByteArray) (p : Int) : ((s ++ ⟨#[101, 110, 100]⟩) ++ ⟨#[10]⟩) = s ++ cellT ⟨7, p⟩ ++ ⟨#[10]⟩ := rfl
theorem far_line (s : ByteArray) (p : Int) : ((s ++ ⟨#[102, 97, 114, 32]⟩) ++ ⟨(Lib.itoa p).toArray⟩) ++ ⟨#[10]⟩ = s ++ cellT ⟨8, p⟩ ++ ⟨#[10]⟩ := by
  have e : cellT ⟨8, p⟩ = ⟨#[102, 97, 114, 32]⟩ ++ ⟨(Lib.itoa p).toArray⟩ := rfl
  rw [e]
  simp only [ByteArray.append_assoc]
set_option maxHeartbeats 8000000 in
theorem specImageText_any (a : Option Addr) (cap : Nat) (l : List CellD) (w : World) (hcap : l.length ≤ cap) (hcm : cap ≤ maxLen) (hR : CellRow w a l) :
    Calls Tryd.prog 14 #[.slice a l.length cap] w fun e w' => e = .returned (.string (imageTextB l)) ∧ Below w.heap.size w w' := by
  have HR := hide hR
  clear hR
  cases hok : imageB l 100
  · have HE : Hid (⟨#[]⟩ = imageTextB l) := by show _ = _; unfold imageTextB; rw [hok]; rfl
    have hln : (l.length : Int) ≤ 9223372036854775807 := by unfold maxLen at hcm; omega
    by_cases h0 : 0 < l.length
    · have h0' : (0 : Int) < (l.length : Int) := by omega
      go_enter Tryd.func14, Tryd.ntmps14
      go_wp2_with fail
      go_loopw [3, 4] (fun s i w' => s = .string ⟨#[]⟩ ∧ i = .int .i64 0 ∧ w' = w) (fun _ i _ => 0)
      case atStart => exact ⟨rfl, rfl, rfl⟩
      case round =>
        obtain ⟨rfl, rfl, rfl⟩ := hrel
        go_wp2_with fail
        refine (specImageOk_any a cap l 100 _ hcap hcm (unhide HR)).mono ?_
        rw [hok]
        rintro e w1 ⟨rfl, hb1⟩
        go_wp2_with fail
        go_ret
        exact ⟨ret_str (unhide HE), hb1⟩
    · have h0' : ¬ (0 : Int) < (l.length : Int) := by omega
      go_enter Tryd.func14, Tryd.ntmps14
      go_wp2_with fail
      go_loopw [3, 4] (fun s i w' => s = .string ⟨#[]⟩ ∧ i = .int .i64 0 ∧ w' = w) (fun _ i _ => 0)
      case atStart => exact ⟨rfl, rfl, rfl⟩
      case round =>
        obtain ⟨rfl, rfl, rfl⟩ := hrel
        go_wp2_with fail
        go_ret
        exact ⟨ret_str (unhide HE), Below.refl _ _⟩
  have hlen := img_len hok
  have HSZ := hide (imgN_le hok)
  have HSM := hide (fun k (hk : k < l.length) => img_small hok hk)
  have HE : Hid (imgN l l.length = imageTextB l) := by show _ = _; unfold imageTextB; rw [hok]; rfl
  have hln : (l.length : Int) ≤ 9223372036854775807 := by omega
  go_enter Tryd.func14, Tryd.ntmps14
  go_wp2_with fail
  go_loopw [3, 4] (fun s i w' => ∃ k : Nat, k ≤ l.length ∧ s = .string (imgN l k) ∧ i = .int .i64 k ∧ Below w.heap.size w w') (fun _ i _ => l.length - (intOf i).toNat)
  case atStart => exact ⟨0, Nat.zero_le _, rfl, rfl, Below.refl _ _⟩
  case round =>
    obtain ⟨k, hk, rfl, rfl, hB⟩ := hrel
    by_cases hkl : k < l.length
    · have hkl' : (k : Int) < (l.length : Int) := by omega
      have hk0 : (0 : Int) ≤ (k : Int) := by omega
      obtain ⟨b, off, rfl⟩ := (unhide HR).get (by omega)
      have HR1 := hide ((unhide HR).below hB)
      go_wp2_with fail
      refine (specImageOk_any _ cap l 100 _ hcap hcm (unhide HR1)).mono ?_
      rw [hok]
      rintro e w2 ⟨rfl, hb2⟩
      have hB2 := bl_trans hB hb2
      obtain ⟨c0, c1⟩ := ((unhide HR).below hB2).cells hkl
      obtain ⟨p0, p1, f0, f1⟩ := unhide HSM k hkl
      have hbs := unhide HSZ k hk
      have HST0 : Hid (imgN l k ++ cellT l[k] ++ ⟨#[10]⟩ = imgN l (k + 1)) := img_step hkl
      have hbt : k * 1101 ≤ 880800 := by omega
      have hil := ilen l[k].p
      have hil2 : (Lib.itoa l[k].p).length ≤ 1002 := by omega
      clear hb2 hB HR1 hil
      generalize l[k] = x at *
      obtain ⟨f, p⟩ := x
      dsimp only at *
      generalize imgN l k = s0 at *
      have hs0 : s0.size ≤ 880800 := by omega
      clear hbs hbt hk
      have hfs : f = 1 ∨ f = 2 ∨ f = 3 ∨ f = 4 ∨ f = 5 ∨ f = 6 ∨ f = 7 ∨ f = 8 := by omega
      clear f0 f1
      rcases hfs with rfl | rfl | rfl | rfl | rfl | rfl | rfl | rfl
      · have HLN : Hid (((s0 ++ ⟨#[115, 97, 121]⟩) ++ ⟨#[10]⟩) = imgN l (k + 1)) := by
          show _ = _
          rw [← unhide HST0]
          exact bare_line1 s0 p
        go_wp2_with fail
        refine (l8Refs_any _ _ _).mono ?_
        rintro e w3 ⟨rfl, hb3⟩
        rw [show refsB 1 = false from by decide]
        replace c0 := (hb3.cell (World.block_lt_of_cell? _ _ c0)).trans c0
        replace c1 := (hb3.cell (World.block_lt_of_cell? _ _ c1)).trans c1
        have hB3 := bl_trans hB2 hb3
        clear hB2 hb3
        have hS : (fun w' => w'.cell? ⟨b, off + k * 2, none⟩ = some (.int .i64 1) ∧ w'.cell? ⟨b, off + k * 2 + 1, none⟩ = some (.int .i64 p) ∧ Below w.heap.size w w') w3 := ⟨c0, c1, hB3⟩
        have HST : Hid (Stable (fun w' => w'.cell? ⟨b, off + k * 2, none⟩ = some (.int .i64 1) ∧ w'.cell? ⟨b, off + k * 2 + 1, none⟩ = some (.int .i64 p) ∧ Below w.heap.size w w')) := ((Stable.cell _ _).and ((Stable.cell _ _).and (Stable.below w)))
        clear c0 c1 hB3
        go_upto_region 5 with fail
        have q1 : ¬ 9223372036854775807 < s0.size + 3 := by omega
        have q2 : ¬ 9223372036854775807 < s0.size + 3 + 1 := by omega
        have q3 : ¬ 9223372036854775807 < s0.size + 3 + 1 + (Lib.itoa p).length := by omega
        have q4 : ¬ 9223372036854775807 < s0.size + 3 + 1 + (Lib.itoa p).length + 1 := by omega
        have HS := hide hS
        clear hS
        refine wp_region_held_drew (S := (fun w' => w'.cell? ⟨b, off + k * 2, none⟩ = some (.int .i64 1) ∧ w'.cell? ⟨b, off + k * 2 + 1, none⟩ = some (.int .i64 p) ∧ Below w.heap.size w w')) (by kernel_rfl) ((unhide HST).2 _ (unhide HS)) (fun hHeld => ?_)
        generalize w3.drew = wa at *
        refine wpAnyH_take (i := 0) (oi := { dst := some 15, op := Go.Op.move (Go.Operand.tmp 3), type := 9, pos := "l8_image.go:95", after := #[], guard := none }) (v := ?v1_0) rfl (by kernel_rfl) (by kernel_rfl) (by kernel_rfl) (fun _ _ _ h => h) (Or.inl ⟨by rfl, ?y1_0⟩) (by assumption) ?r1_0
        case y1_0 => (intro w hSw; (try dsimp only at hSw); go_simp; try (with_reducible rfl))
        try simp only [Act.put, List.setIfInBounds_toArray, List.set_cons_zero, List.set_cons_succ]
        refine wpAnyH_take (i := 2) (oi := { dst := some 17, op := Go.Op.move (Go.Operand.tmp 0), type := 34, pos := "l8_image.go:95", after := #[], guard := none }) (v := ?v2_2) rfl (by kernel_rfl) (by kernel_rfl) (by kernel_rfl) (fun _ _ _ h => h) (Or.inl ⟨by rfl, ?y2_2⟩) (by assumption) ?r2_2
        case y2_2 => (intro w hSw; (try dsimp only at hSw); go_simp; try (with_reducible rfl))
        try simp only [Act.put, List.setIfInBounds_toArray, List.set_cons_zero, List.set_cons_succ]
        refine wpAnyH_take (i := 3) (oi := { dst := some 18, op := Go.Op.move (Go.Operand.tmp 4), type := 3, pos := "l8_image.go:95", after := #[], guard := none }) (v := ?v3_3) rfl (by kernel_rfl) (by kernel_rfl) (by kernel_rfl) (fun _ _ _ h => h) (Or.inl ⟨by rfl, ?y3_3⟩) (by assumption) ?r3_3
        case y3_3 => (intro w hSw; (try dsimp only at hSw); go_simp; try (with_reducible rfl))
        try simp only [Act.put, List.setIfInBounds_toArray, List.set_cons_zero, List.set_cons_succ]
        refine wpAnyH_take (i := 4) (oi := { dst := some 19, op := Go.Op.indexAddr 34 (Go.Operand.tmp 17) (Go.Operand.tmp 18), type := 0, pos := "l8_image.go:95", after := #[{ on := 2, ground := Go.Ground.data }, { on := 3, ground := Go.Ground.data }], guard := none }) (v := ?v4_4) rfl (by kernel_rfl) (by kernel_rfl) (by kernel_rfl) (fun _ _ _ h => h) (Or.inl ⟨by rfl, ?y4_4⟩) (by assumption) ?r4_4
        case y4_4 => (intro w hSw; (try dsimp only at hSw); go_simp; try (with_reducible rfl))
        try simp only [Act.put, List.setIfInBounds_toArray, List.set_cons_zero, List.set_cons_succ]
        refine wpAnyH_take (i := 5) (oi := { dst := some 20, op := Go.Op.fieldAddr 65 (Go.Operand.tmp 19) 0, type := 0, pos := "l8_image.go:95", after := #[{ on := 4, ground := Go.Ground.data }], guard := none }) (v := ?v5_5) rfl (by kernel_rfl) (by kernel_rfl) (by kernel_rfl) (fun _ _ _ h => h) (Or.inl ⟨by rfl, ?y5_5⟩) (by assumption) ?r5_5
        case y5_5 => (intro w hSw; (try dsimp only at hSw); go_simp; try (with_reducible rfl))
        try simp only [Act.put, List.setIfInBounds_toArray, List.set_cons_zero, List.set_cons_succ]
        refine wpAnyH_take (i := 6) (oi := { dst := some 21, op := Go.Op.load 3 (Go.Operand.tmp 20), type := 3, pos := "l8_image.go:95", after := #[{ on := 5, ground := Go.Ground.data }], guard := none }) (v := ?v6_6) rfl (by kernel_rfl) (by kernel_rfl) (by kernel_rfl) (fun _ _ _ h => h) (Or.inl ⟨by rfl, ?y6_6⟩) (by assumption) ?r6_6
        case y6_6 => (intro w hSw; (try dsimp only at hSw); go_simp; try (with_reducible rfl))
        try simp only [Act.put, List.setIfInBounds_toArray, List.set_cons_zero, List.set_cons_succ]
        refine wpAnyH_ready (rs := [1]) (by kernel_rfl) (by simp) ?_
        refine AllReadyH.cons (o := { dst := some 16, op := Go.Op.call { callee := Go.Callee.value (Go.Operand.func 34), args := #[], argTypes := #[] }, type := 68, pos := "l8_image.go:95", after := #[], guard := none }) rfl (fun K hK => ?_) AllReadyH.nil
        go_simp
        go_at_call 34
        refine (words_any _).mono ?_
        rintro e wb ⟨rfl, hwk⟩
        have hbk := below_of_words hwk
        have hW := box_of_words hwk
        clear hwk
        replace hHeld := (unhide HST).1 _ _ hbk hHeld
        clear hbk
        go_wp2_with fail
        refine hK.out _ _ hHeld (fun _ => ?_)
        clear hK K
        try simp only [Act.put, List.setIfInBounds_toArray, List.set_cons_zero, List.set_cons_succ]
        refine wpAnyH_take (i := 7) (oi := { dst := some 22, op := Go.Op.indexAddr 68 (Go.Operand.tmp 16) (Go.Operand.tmp 21), type := 0, pos := "l8_image.go:95", after := #[{ on := 1, ground := Go.Ground.data }, { on := 6, ground := Go.Ground.data }], guard := none }) (v := ?v7_7) rfl (by kernel_rfl) (by kernel_rfl) (by kernel_rfl) (fun _ _ _ h => h) (Or.inl ⟨by rfl, ?y7_7⟩) (by assumption) ?r7_7
        case y7_7 => (intro w hSw; (try dsimp only at hSw); go_simp; try (with_reducible rfl))
        try simp only [Act.put, List.setIfInBounds_toArray, List.set_cons_zero, List.set_cons_succ]
        refine wpAnyH_ready (rs := [8]) (by kernel_rfl) (by simp) ?_
        refine AllReadyH.cons (o := { dst := some 23, op := Go.Op.load 9 (Go.Operand.tmp 22), type := 9, pos := "l8_image.go:95", after := #[{ on := 7, ground := Go.Ground.data }], guard := none }) rfl (fun K hK => ?_) AllReadyH.nil
        have hn1 := word_box1 hW
        go_simp
        clear hn1
        refine hK.out _ _ hHeld (fun _ => ?_)
        clear hK K
        try simp only [Act.put, List.setIfInBounds_toArray, List.set_cons_zero, List.set_cons_succ]
        refine wpAnyH_take (i := 9) (oi := { dst := some 24, op := Go.Op.binOp Go.BinOp.add 9 (Go.Operand.tmp 15) (Go.Operand.tmp 23) 9, type := 9, pos := "l8_image.go:95", after := #[{ on := 0, ground := Go.Ground.data }, { on := 8, ground := Go.Ground.data }], guard := none }) (v := ?v8_9) rfl (by kernel_rfl) (by kernel_rfl) (by kernel_rfl) (fun _ _ _ h => h) (Or.inl ⟨by rfl, ?y8_9⟩) (by assumption) ?r8_9
        case y8_9 => (intro w hSw; (try dsimp only at hSw); go_simp; try (with_reducible rfl))
        try simp only [Act.put, List.setIfInBounds_toArray, List.set_cons_zero, List.set_cons_succ]
        refine wpAnyH_take (i := 10) (oi := { dst := some 25, op := Go.Op.binOp Go.BinOp.add 9 (Go.Operand.tmp 24) (Go.Operand.const (Go.Value.string { data := #[10] })) 9, type := 9, pos := "l8_image.go:95", after := #[{ on := 9, ground := Go.Ground.data }], guard := none }) (v := ?v9_10) rfl (by kernel_rfl) (by kernel_rfl) (by kernel_rfl) (fun _ _ _ h => h) (Or.inl ⟨by rfl, ?y9_10⟩) (by assumption) ?r9_10
        case y9_10 => (intro w hSw; (try dsimp only at hSw); go_simp; try (with_reducible rfl))
        try simp only [Act.put, List.setIfInBounds_toArray, List.set_cons_zero, List.set_cons_succ]
        refine wpAnyH_take (i := 11) (oi := { dst := some 3, op := Go.Op.assign (Go.Operand.tmp 25), type := 9, pos := "l8_image.go:95", after := #[{ on := 10, ground := Go.Ground.data }, { on := 1, ground := Go.Ground.chain }, { on := 0, ground := Go.Ground.phase }, { on := 1, ground := Go.Ground.phase }, { on := 2, ground := Go.Ground.phase }, { on := 3, ground := Go.Ground.phase }, { on := 4, ground := Go.Ground.phase }, { on := 5, ground := Go.Ground.phase }, { on := 6, ground := Go.Ground.phase }, { on := 7, ground := Go.Ground.phase }, { on := 8, ground := Go.Ground.phase }, { on := 9, ground := Go.Ground.phase }, { on := 10, ground := Go.Ground.phase }], guard := none }) (v := ?v10_11) rfl (by kernel_rfl) (by kernel_rfl) (by kernel_rfl) (fun _ _ _ h => h) (Or.inl ⟨by rfl, ?y10_11⟩) (by assumption) ?r10_11
        case y10_11 => (intro w hSw; (try dsimp only at hSw); go_simp; try (with_reducible rfl))
        try simp only [Act.put, List.setIfInBounds_toArray, List.set_cons_zero, List.set_cons_succ]
        refine wpAnyH_done (by kernel_rfl) ?_ _
        have hB9 := hHeld.2.2
        clear hHeld
        go_wp2_with fail
        exact ⟨⟨k + 1, by omega, by rw [unhide HLN], by go_num, hB9⟩, by simp [intOf]; omega⟩
      · have HLN : Hid (((((s0 ++ ⟨#[97, 100, 100]⟩) ++ ⟨#[32]⟩) ++ ⟨(Lib.itoa p).toArray⟩) ++ ⟨#[10]⟩) = imgN l (k + 1)) := by
          show _ = _
          rw [← unhide HST0]
          exact num_line2 s0 p
        go_wp2_with fail
        refine (l8Refs_any _ _ _).mono ?_
        rintro e w3 ⟨rfl, hb3⟩
        rw [show refsB 2 = false from by decide]
        replace c0 := (hb3.cell (World.block_lt_of_cell? _ _ c0)).trans c0
        replace c1 := (hb3.cell (World.block_lt_of_cell? _ _ c1)).trans c1
        have hB3 := bl_trans hB2 hb3
        clear hB2 hb3
        have hS : (fun w' => w'.cell? ⟨b, off + k * 2, none⟩ = some (.int .i64 2) ∧ w'.cell? ⟨b, off + k * 2 + 1, none⟩ = some (.int .i64 p) ∧ Below w.heap.size w w') w3 := ⟨c0, c1, hB3⟩
        have HST : Hid (Stable (fun w' => w'.cell? ⟨b, off + k * 2, none⟩ = some (.int .i64 2) ∧ w'.cell? ⟨b, off + k * 2 + 1, none⟩ = some (.int .i64 p) ∧ Below w.heap.size w w')) := ((Stable.cell _ _).and ((Stable.cell _ _).and (Stable.below w)))
        clear c0 c1 hB3
        go_upto_region 9 with fail
        have q1 : ¬ 9223372036854775807 < s0.size + 3 := by omega
        have q2 : ¬ 9223372036854775807 < s0.size + 3 + 1 := by omega
        have q3 : ¬ 9223372036854775807 < s0.size + 3 + 1 + (Lib.itoa p).length := by omega
        have q4 : ¬ 9223372036854775807 < s0.size + 3 + 1 + (Lib.itoa p).length + 1 := by omega
        have HS := hide hS
        clear hS
        refine wp_region_held_drew (S := (fun w' => w'.cell? ⟨b, off + k * 2, none⟩ = some (.int .i64 2) ∧ w'.cell? ⟨b, off + k * 2 + 1, none⟩ = some (.int .i64 p) ∧ Below w.heap.size w w')) (by kernel_rfl) ((unhide HST).2 _ (unhide HS)) (fun hHeld => ?_)
        generalize w3.drew = wa at *
        refine wpAnyH_take (i := 0) (oi := { dst := some 57, op := Go.Op.move (Go.Operand.tmp 3), type := 9, pos := "l8_image.go:93", after := #[], guard := none }) (v := ?v11_0) rfl (by kernel_rfl) (by kernel_rfl) (by kernel_rfl) (fun _ _ _ h => h) (Or.inl ⟨by rfl, ?y11_0⟩) (by assumption) ?r11_0
        case y11_0 => (intro w hSw; (try dsimp only at hSw); go_simp; try (with_reducible rfl))
        try simp only [Act.put, List.setIfInBounds_toArray, List.set_cons_zero, List.set_cons_succ]
        refine wpAnyH_take (i := 2) (oi := { dst := some 59, op := Go.Op.move (Go.Operand.tmp 0), type := 34, pos := "l8_image.go:93", after := #[], guard := none }) (v := ?v12_2) rfl (by kernel_rfl) (by kernel_rfl) (by kernel_rfl) (fun _ _ _ h => h) (Or.inl ⟨by rfl, ?y12_2⟩) (by assumption) ?r12_2
        case y12_2 => (intro w hSw; (try dsimp only at hSw); go_simp; try (with_reducible rfl))
        try simp only [Act.put, List.setIfInBounds_toArray, List.set_cons_zero, List.set_cons_succ]
        refine wpAnyH_take (i := 3) (oi := { dst := some 60, op := Go.Op.move (Go.Operand.tmp 4), type := 3, pos := "l8_image.go:93", after := #[], guard := none }) (v := ?v13_3) rfl (by kernel_rfl) (by kernel_rfl) (by kernel_rfl) (fun _ _ _ h => h) (Or.inl ⟨by rfl, ?y13_3⟩) (by assumption) ?r13_3
        case y13_3 => (intro w hSw; (try dsimp only at hSw); go_simp; try (with_reducible rfl))
        try simp only [Act.put, List.setIfInBounds_toArray, List.set_cons_zero, List.set_cons_succ]
        refine wpAnyH_take (i := 4) (oi := { dst := some 61, op := Go.Op.indexAddr 34 (Go.Operand.tmp 59) (Go.Operand.tmp 60), type := 0, pos := "l8_image.go:93", after := #[{ on := 2, ground := Go.Ground.data }, { on := 3, ground := Go.Ground.data }], guard := none }) (v := ?v14_4) rfl (by kernel_rfl) (by kernel_rfl) (by kernel_rfl) (fun _ _ _ h => h) (Or.inl ⟨by rfl, ?y14_4⟩) (by assumption) ?r14_4
        case y14_4 => (intro w hSw; (try dsimp only at hSw); go_simp; try (with_reducible rfl))
        try simp only [Act.put, List.setIfInBounds_toArray, List.set_cons_zero, List.set_cons_succ]
        refine wpAnyH_take (i := 5) (oi := { dst := some 62, op := Go.Op.fieldAddr 65 (Go.Operand.tmp 61) 0, type := 0, pos := "l8_image.go:93", after := #[{ on := 4, ground := Go.Ground.data }], guard := none }) (v := ?v15_5) rfl (by kernel_rfl) (by kernel_rfl) (by kernel_rfl) (fun _ _ _ h => h) (Or.inl ⟨by rfl, ?y15_5⟩) (by assumption) ?r15_5
        case y15_5 => (intro w hSw; (try dsimp only at hSw); go_simp; try (with_reducible rfl))
        try simp only [Act.put, List.setIfInBounds_toArray, List.set_cons_zero, List.set_cons_succ]
        refine wpAnyH_take (i := 6) (oi := { dst := some 63, op := Go.Op.load 3 (Go.Operand.tmp 62), type := 3, pos := "l8_image.go:93", after := #[{ on := 5, ground := Go.Ground.data }], guard := none }) (v := ?v16_6) rfl (by kernel_rfl) (by kernel_rfl) (by kernel_rfl) (fun _ _ _ h => h) (Or.inl ⟨by rfl, ?y16_6⟩) (by assumption) ?r16_6
        case y16_6 => (intro w hSw; (try dsimp only at hSw); go_simp; try (with_reducible rfl))
        try simp only [Act.put, List.setIfInBounds_toArray, List.set_cons_zero, List.set_cons_succ]
        refine wpAnyH_take (i := 11) (oi := { dst := some 68, op := Go.Op.move (Go.Operand.tmp 0), type := 34, pos := "l8_image.go:93", after := #[], guard := none }) (v := ?v17_11) rfl (by kernel_rfl) (by kernel_rfl) (by kernel_rfl) (fun _ _ _ h => h) (Or.inl ⟨by rfl, ?y17_11⟩) (by assumption) ?r17_11
        case y17_11 => (intro w hSw; (try dsimp only at hSw); go_simp; try (with_reducible rfl))
        try simp only [Act.put, List.setIfInBounds_toArray, List.set_cons_zero, List.set_cons_succ]
        refine wpAnyH_take (i := 12) (oi := { dst := some 69, op := Go.Op.move (Go.Operand.tmp 4), type := 3, pos := "l8_image.go:93", after := #[], guard := none }) (v := ?v18_12) rfl (by kernel_rfl) (by kernel_rfl) (by kernel_rfl) (fun _ _ _ h => h) (Or.inl ⟨by rfl, ?y18_12⟩) (by assumption) ?r18_12
        case y18_12 => (intro w hSw; (try dsimp only at hSw); go_simp; try (with_reducible rfl))
        try simp only [Act.put, List.setIfInBounds_toArray, List.set_cons_zero, List.set_cons_succ]
        refine wpAnyH_take (i := 13) (oi := { dst := some 70, op := Go.Op.indexAddr 34 (Go.Operand.tmp 68) (Go.Operand.tmp 69), type := 0, pos := "l8_image.go:93", after := #[{ on := 11, ground := Go.Ground.data }, { on := 12, ground := Go.Ground.data }], guard := none }) (v := ?v19_13) rfl (by kernel_rfl) (by kernel_rfl) (by kernel_rfl) (fun _ _ _ h => h) (Or.inl ⟨by rfl, ?y19_13⟩) (by assumption) ?r19_13
        case y19_13 => (intro w hSw; (try dsimp only at hSw); go_simp; try (with_reducible rfl))
        try simp only [Act.put, List.setIfInBounds_toArray, List.set_cons_zero, List.set_cons_succ]
        refine wpAnyH_take (i := 14) (oi := { dst := some 71, op := Go.Op.fieldAddr 65 (Go.Operand.tmp 70) 1, type := 0, pos := "l8_image.go:93", after := #[{ on := 13, ground := Go.Ground.data }], guard := none }) (v := ?v20_14) rfl (by kernel_rfl) (by kernel_rfl) (by kernel_rfl) (fun _ _ _ h => h) (Or.inl ⟨by rfl, ?y20_14⟩) (by assumption) ?r20_14
        case y20_14 => (intro w hSw; (try dsimp only at hSw); go_simp; try (with_reducible rfl))
        try simp only [Act.put, List.setIfInBounds_toArray, List.set_cons_zero, List.set_cons_succ]
        refine wpAnyH_take (i := 15) (oi := { dst := some 72, op := Go.Op.load 3 (Go.Operand.tmp 71), type := 3, pos := "l8_image.go:93", after := #[{ on := 14, ground := Go.Ground.data }], guard := none }) (v := ?v21_15) rfl (by kernel_rfl) (by kernel_rfl) (by kernel_rfl) (fun _ _ _ h => h) (Or.inl ⟨by rfl, ?y21_15⟩) (by assumption) ?r21_15
        case y21_15 => (intro w hSw; (try dsimp only at hSw); go_simp; try (with_reducible rfl))
        try simp only [Act.put, List.setIfInBounds_toArray, List.set_cons_zero, List.set_cons_succ]
        refine wpAnyH_ready (rs := [1]) (by kernel_rfl) (by simp) ?_
        refine AllReadyH.cons (o := { dst := some 58, op := Go.Op.call { callee := Go.Callee.value (Go.Operand.func 34), args := #[], argTypes := #[] }, type := 68, pos := "l8_image.go:93", after := #[], guard := none }) rfl (fun K hK => ?_) AllReadyH.nil
        go_simp
        go_at_call 34
        refine (words_any _).mono ?_
        rintro e wb ⟨rfl, hwk⟩
        have hbk := below_of_words hwk
        have hW := box_of_words hwk
        clear hwk
        replace hHeld := (unhide HST).1 _ _ hbk hHeld
        clear hbk
        go_wp2_with fail
        refine hK.out _ _ hHeld (fun _ => ?_)
        clear hK K
        try simp only [Act.put, List.setIfInBounds_toArray, List.set_cons_zero, List.set_cons_succ]
        refine wpAnyH_take (i := 7) (oi := { dst := some 64, op := Go.Op.indexAddr 68 (Go.Operand.tmp 58) (Go.Operand.tmp 63), type := 0, pos := "l8_image.go:93", after := #[{ on := 1, ground := Go.Ground.data }, { on := 6, ground := Go.Ground.data }], guard := none }) (v := ?v22_7) rfl (by kernel_rfl) (by kernel_rfl) (by kernel_rfl) (fun _ _ _ h => h) (Or.inl ⟨by rfl, ?y22_7⟩) (by assumption) ?r22_7
        case y22_7 => (intro w hSw; (try dsimp only at hSw); go_simp; try (with_reducible rfl))
        try simp only [Act.put, List.setIfInBounds_toArray, List.set_cons_zero, List.set_cons_succ]
        refine wpAnyH_ready (rs := [8, 16]) (by kernel_rfl) (by simp) ?_
        refine AllReadyH.cons (o := { dst := some 65, op := Go.Op.load 9 (Go.Operand.tmp 64), type := 9, pos := "l8_image.go:93", after := #[{ on := 7, ground := Go.Ground.data }], guard := none }) rfl (fun K hK => ?_) ?_
        · skip
          have hn1 := word_box2 hW
          go_simp
          clear hn1
          refine hK.out _ _ hHeld (fun _ => ?_)
          clear hK K
          try simp only [Act.put, List.setIfInBounds_toArray, List.set_cons_zero, List.set_cons_succ]
          refine wpAnyH_take (i := 9) (oi := { dst := some 66, op := Go.Op.binOp Go.BinOp.add 9 (Go.Operand.tmp 57) (Go.Operand.tmp 65) 9, type := 9, pos := "l8_image.go:93", after := #[{ on := 0, ground := Go.Ground.data }, { on := 8, ground := Go.Ground.data }], guard := none }) (v := ?v23_9) rfl (by kernel_rfl) (by kernel_rfl) (by kernel_rfl) (fun _ _ _ h => h) (Or.inl ⟨by rfl, ?y23_9⟩) (by assumption) ?r23_9
          case y23_9 => (intro w hSw; (try dsimp only at hSw); go_simp; try (with_reducible rfl))
          try simp only [Act.put, List.setIfInBounds_toArray, List.set_cons_zero, List.set_cons_succ]
          refine wpAnyH_take (i := 10) (oi := { dst := some 67, op := Go.Op.binOp Go.BinOp.add 9 (Go.Operand.tmp 66) (Go.Operand.const (Go.Value.string { data := #[32] })) 9, type := 9, pos := "l8_image.go:93", after := #[{ on := 9, ground := Go.Ground.data }], guard := none }) (v := ?v24_10) rfl (by kernel_rfl) (by kernel_rfl) (by kernel_rfl) (fun _ _ _ h => h) (Or.inl ⟨by rfl, ?y24_10⟩) (by assumption) ?r24_10
          case y24_10 => (intro w hSw; (try dsimp only at hSw); go_simp; try (with_reducible rfl))
          try simp only [Act.put, List.setIfInBounds_toArray, List.set_cons_zero, List.set_cons_succ]
          refine wpAnyH_ready (rs := [16]) (by kernel_rfl) (by simp) ?_
          refine AllReadyH.cons (o := { dst := some 73, op := Go.Op.call { callee := Go.Callee.value (Go.Operand.func 32), args := #[Go.Operand.tmp 72], argTypes := #[3] }, type := 9, pos := "l8_image.go:93", after := #[{ on := 15, ground := Go.Ground.data }, { on := 1, ground := Go.Ground.chain }], guard := none }) rfl (fun K hK => ?_) AllReadyH.nil
          go_simp
          go_at_call 32
          refine (dec_any p _ (by omega) (by omega)).mono ?_
          rintro e wc ⟨rfl, hbk⟩
          replace hW := box_below hW hbk
          replace hHeld := (unhide HST).1 _ _ hbk hHeld
          clear hbk
          go_wp2_with fail
          refine hK.out _ _ hHeld (fun _ => ?_)
          clear hK K
          try simp only [Act.put, List.setIfInBounds_toArray, List.set_cons_zero, List.set_cons_succ]
          refine wpAnyH_take (i := 17) (oi := { dst := some 74, op := Go.Op.binOp Go.BinOp.add 9 (Go.Operand.tmp 67) (Go.Operand.tmp 73) 9, type := 9, pos := "l8_image.go:93", after := #[{ on := 10, ground := Go.Ground.data }, { on := 16, ground := Go.Ground.data }], guard := none }) (v := ?v25_17) rfl (by kernel_rfl) (by kernel_rfl) (by kernel_rfl) (fun _ _ _ h => h) (Or.inl ⟨by rfl, ?y25_17⟩) (by assumption) ?r25_17
          case y25_17 => (intro w hSw; (try dsimp only at hSw); go_simp; try (with_reducible rfl))
          try simp only [Act.put, List.setIfInBounds_toArray, List.set_cons_zero, List.set_cons_succ]
          refine wpAnyH_take (i := 18) (oi := { dst := some 75, op := Go.Op.binOp Go.BinOp.add 9 (Go.Operand.tmp 74) (Go.Operand.const (Go.Value.string { data := #[10] })) 9, type := 9, pos := "l8_image.go:93", after := #[{ on := 17, ground := Go.Ground.data }], guard := none }) (v := ?v26_18) rfl (by kernel_rfl) (by kernel_rfl) (by kernel_rfl) (fun _ _ _ h => h) (Or.inl ⟨by rfl, ?y26_18⟩) (by assumption) ?r26_18
          case y26_18 => (intro w hSw; (try dsimp only at hSw); go_simp; try (with_reducible rfl))
          try simp only [Act.put, List.setIfInBounds_toArray, List.set_cons_zero, List.set_cons_succ]
          refine wpAnyH_take (i := 19) (oi := { dst := some 3, op := Go.Op.assign (Go.Operand.tmp 75), type := 9, pos := "l8_image.go:93", after := #[{ on := 18, ground := Go.Ground.data }, { on := 16, ground := Go.Ground.chain }, { on := 0, ground := Go.Ground.phase }, { on := 1, ground := Go.Ground.phase }, { on := 2, ground := Go.Ground.phase }, { on := 3, ground := Go.Ground.phase }, { on := 4, ground := Go.Ground.phase }, { on := 5, ground := Go.Ground.phase }, { on := 6, ground := Go.Ground.phase }, { on := 7, ground := Go.Ground.phase }, { on := 8, ground := Go.Ground.phase }, { on := 9, ground := Go.Ground.phase }, { on := 10, ground := Go.Ground.phase }, { on := 11, ground := Go.Ground.phase }, { on := 12, ground := Go.Ground.phase }, { on := 13, ground := Go.Ground.phase }, { on := 14, ground := Go.Ground.phase }, { on := 15, ground := Go.Ground.phase }, { on := 16, ground := Go.Ground.phase }, { on := 17, ground := Go.Ground.phase }, { on := 18, ground := Go.Ground.phase }], guard := none }) (v := ?v27_19) rfl (by kernel_rfl) (by kernel_rfl) (by kernel_rfl) (fun _ _ _ h => h) (Or.inl ⟨by rfl, ?y27_19⟩) (by assumption) ?r27_19
          case y27_19 => (intro w hSw; (try dsimp only at hSw); go_simp; try (with_reducible rfl))
          try simp only [Act.put, List.setIfInBounds_toArray, List.set_cons_zero, List.set_cons_succ]
          refine wpAnyH_done (by kernel_rfl) ?_ _
          have hB9 := hHeld.2.2
          clear hHeld
          go_wp2_with fail
          exact ⟨⟨k + 1, by omega, by rw [unhide HLN], by go_num, hB9⟩, by simp [intOf]; omega⟩
        refine AllReadyH.cons (o := { dst := some 73, op := Go.Op.call { callee := Go.Callee.value (Go.Operand.func 32), args := #[Go.Operand.tmp 72], argTypes := #[3] }, type := 9, pos := "l8_image.go:93", after := #[{ on := 15, ground := Go.Ground.data }, { on := 1, ground := Go.Ground.chain }], guard := none }) rfl (fun K hK => ?_) AllReadyH.nil
        go_simp
        go_at_call 32
        refine (dec_any p _ (by omega) (by omega)).mono ?_
        rintro e wc ⟨rfl, hbk⟩
        replace hW := box_below hW hbk
        replace hHeld := (unhide HST).1 _ _ hbk hHeld
        clear hbk
        go_wp2_with fail
        refine hK.out _ _ hHeld (fun _ => ?_)
        clear hK K
        try simp only [Act.put, List.setIfInBounds_toArray, List.set_cons_zero, List.set_cons_succ]
        refine wpAnyH_ready (rs := [8]) (by kernel_rfl) (by simp) ?_
        refine AllReadyH.cons (o := { dst := some 65, op := Go.Op.load 9 (Go.Operand.tmp 64), type := 9, pos := "l8_image.go:93", after := #[{ on := 7, ground := Go.Ground.data }], guard := none }) rfl (fun K hK => ?_) AllReadyH.nil
        have hn1 := word_box2 hW
        go_simp
        clear hn1
        refine hK.out _ _ hHeld (fun _ => ?_)
        clear hK K
        try simp only [Act.put, List.setIfInBounds_toArray, List.set_cons_zero, List.set_cons_succ]
        refine wpAnyH_take (i := 9) (oi := { dst := some 66, op := Go.Op.binOp Go.BinOp.add 9 (Go.Operand.tmp 57) (Go.Operand.tmp 65) 9, type := 9, pos := "l8_image.go:93", after := #[{ on := 0, ground := Go.Ground.data }, { on := 8, ground := Go.Ground.data }], guard := none }) (v := ?v28_9) rfl (by kernel_rfl) (by kernel_rfl) (by kernel_rfl) (fun _ _ _ h => h) (Or.inl ⟨by rfl, ?y28_9⟩) (by assumption) ?r28_9
        case y28_9 => (intro w hSw; (try dsimp only at hSw); go_simp; try (with_reducible rfl))
        try simp only [Act.put, List.setIfInBounds_toArray, List.set_cons_zero, List.set_cons_succ]
        refine wpAnyH_take (i := 10) (oi := { dst := some 67, op := Go.Op.binOp Go.BinOp.add 9 (Go.Operand.tmp 66) (Go.Operand.const (Go.Value.string { data := #[32] })) 9, type := 9, pos := "l8_image.go:93", after := #[{ on := 9, ground := Go.Ground.data }], guard := none }) (v := ?v29_10) rfl (by kernel_rfl) (by kernel_rfl) (by kernel_rfl) (fun _ _ _ h => h) (Or.inl ⟨by rfl, ?y29_10⟩) (by assumption) ?r29_10
        case y29_10 => (intro w hSw; (try dsimp only at hSw); go_simp; try (with_reducible rfl))
        try simp only [Act.put, List.setIfInBounds_toArray, List.set_cons_zero, List.set_cons_succ]
        refine wpAnyH_take (i := 17) (oi := { dst := some 74, op := Go.Op.binOp Go.BinOp.add 9 (Go.Operand.tmp 67) (Go.Operand.tmp 73) 9, type := 9, pos := "l8_image.go:93", after := #[{ on := 10, ground := Go.Ground.data }, { on := 16, ground := Go.Ground.data }], guard := none }) (v := ?v30_17) rfl (by kernel_rfl) (by kernel_rfl) (by kernel_rfl) (fun _ _ _ h => h) (Or.inl ⟨by rfl, ?y30_17⟩) (by assumption) ?r30_17
        case y30_17 => (intro w hSw; (try dsimp only at hSw); go_simp; try (with_reducible rfl))
        try simp only [Act.put, List.setIfInBounds_toArray, List.set_cons_zero, List.set_cons_succ]
        refine wpAnyH_take (i := 18) (oi := { dst := some 75, op := Go.Op.binOp Go.BinOp.add 9 (Go.Operand.tmp 74) (Go.Operand.const (Go.Value.string { data := #[10] })) 9, type := 9, pos := "l8_image.go:93", after := #[{ on := 17, ground := Go.Ground.data }], guard := none }) (v := ?v31_18) rfl (by kernel_rfl) (by kernel_rfl) (by kernel_rfl) (fun _ _ _ h => h) (Or.inl ⟨by rfl, ?y31_18⟩) (by assumption) ?r31_18
        case y31_18 => (intro w hSw; (try dsimp only at hSw); go_simp; try (with_reducible rfl))
        try simp only [Act.put, List.setIfInBounds_toArray, List.set_cons_zero, List.set_cons_succ]
        refine wpAnyH_take (i := 19) (oi := { dst := some 3, op := Go.Op.assign (Go.Operand.tmp 75), type := 9, pos := "l8_image.go:93", after := #[{ on := 18, ground := Go.Ground.data }, { on := 16, ground := Go.Ground.chain }, { on := 0, ground := Go.Ground.phase }, { on := 1, ground := Go.Ground.phase }, { on := 2, ground := Go.Ground.phase }, { on := 3, ground := Go.Ground.phase }, { on := 4, ground := Go.Ground.phase }, { on := 5, ground := Go.Ground.phase }, { on := 6, ground := Go.Ground.phase }, { on := 7, ground := Go.Ground.phase }, { on := 8, ground := Go.Ground.phase }, { on := 9, ground := Go.Ground.phase }, { on := 10, ground := Go.Ground.phase }, { on := 11, ground := Go.Ground.phase }, { on := 12, ground := Go.Ground.phase }, { on := 13, ground := Go.Ground.phase }, { on := 14, ground := Go.Ground.phase }, { on := 15, ground := Go.Ground.phase }, { on := 16, ground := Go.Ground.phase }, { on := 17, ground := Go.Ground.phase }, { on := 18, ground := Go.Ground.phase }], guard := none }) (v := ?v32_19) rfl (by kernel_rfl) (by kernel_rfl) (by kernel_rfl) (fun _ _ _ h => h) (Or.inl ⟨by rfl, ?y32_19⟩) (by assumption) ?r32_19
        case y32_19 => (intro w hSw; (try dsimp only at hSw); go_simp; try (with_reducible rfl))
        try simp only [Act.put, List.setIfInBounds_toArray, List.set_cons_zero, List.set_cons_succ]
        refine wpAnyH_done (by kernel_rfl) ?_ _
        have hB9 := hHeld.2.2
        clear hHeld
        go_wp2_with fail
        exact ⟨⟨k + 1, by omega, by rw [unhide HLN], by go_num, hB9⟩, by simp [intOf]; omega⟩
      · have HLN : Hid (((((s0 ++ ⟨#[99, 97, 108, 108]⟩) ++ ⟨#[32]⟩) ++ ⟨(Lib.itoa p).toArray⟩) ++ ⟨#[10]⟩) = imgN l (k + 1)) := by
          show _ = _
          rw [← unhide HST0]
          exact num_line3 s0 p
        go_wp2_with fail
        refine (l8Refs_any _ _ _).mono ?_
        rintro e w3 ⟨rfl, hb3⟩
        rw [show refsB 3 = true from by decide]
        replace c0 := (hb3.cell (World.block_lt_of_cell? _ _ c0)).trans c0
        replace c1 := (hb3.cell (World.block_lt_of_cell? _ _ c1)).trans c1
        have hB3 := bl_trans hB2 hb3
        clear hB2 hb3
        have hS : (fun w' => w'.cell? ⟨b, off + k * 2, none⟩ = some (.int .i64 3) ∧ w'.cell? ⟨b, off + k * 2 + 1, none⟩ = some (.int .i64 p) ∧ Below w.heap.size w w') w3 := ⟨c0, c1, hB3⟩
        have HST : Hid (Stable (fun w' => w'.cell? ⟨b, off + k * 2, none⟩ = some (.int .i64 3) ∧ w'.cell? ⟨b, off + k * 2 + 1, none⟩ = some (.int .i64 p) ∧ Below w.heap.size w w')) := ((Stable.cell _ _).and ((Stable.cell _ _).and (Stable.below w)))
        clear c0 c1 hB3
        go_upto_region 9 with fail
        have q1 : ¬ 9223372036854775807 < s0.size + 4 := by omega
        have q2 : ¬ 9223372036854775807 < s0.size + 4 + 1 := by omega
        have q3 : ¬ 9223372036854775807 < s0.size + 4 + 1 + (Lib.itoa p).length := by omega
        have q4 : ¬ 9223372036854775807 < s0.size + 4 + 1 + (Lib.itoa p).length + 1 := by omega
        have HS := hide hS
        clear hS
        refine wp_region_held_drew (S := (fun w' => w'.cell? ⟨b, off + k * 2, none⟩ = some (.int .i64 3) ∧ w'.cell? ⟨b, off + k * 2 + 1, none⟩ = some (.int .i64 p) ∧ Below w.heap.size w w')) (by kernel_rfl) ((unhide HST).2 _ (unhide HS)) (fun hHeld => ?_)
        generalize w3.drew = wa at *
        refine wpAnyH_take (i := 0) (oi := { dst := some 57, op := Go.Op.move (Go.Operand.tmp 3), type := 9, pos := "l8_image.go:93", after := #[], guard := none }) (v := ?v33_0) rfl (by kernel_rfl) (by kernel_rfl) (by kernel_rfl) (fun _ _ _ h => h) (Or.inl ⟨by rfl, ?y33_0⟩) (by assumption) ?r33_0
        case y33_0 => (intro w hSw; (try dsimp only at hSw); go_simp; try (with_reducible rfl))
        try simp only [Act.put, List.setIfInBounds_toArray, List.set_cons_zero, List.set_cons_succ]
        refine wpAnyH_take (i := 2) (oi := { dst := some 59, op := Go.Op.move (Go.Operand.tmp 0), type := 34, pos := "l8_image.go:93", after := #[], guard := none }) (v := ?v34_2) rfl (by kernel_rfl) (by kernel_rfl) (by kernel_rfl) (fun _ _ _ h => h) (Or.inl ⟨by rfl, ?y34_2⟩) (by assumption) ?r34_2
        case y34_2 => (intro w hSw; (try dsimp only at hSw); go_simp; try (with_reducible rfl))
        try simp only [Act.put, List.setIfInBounds_toArray, List.set_cons_zero, List.set_cons_succ]
        refine wpAnyH_take (i := 3) (oi := { dst := some 60, op := Go.Op.move (Go.Operand.tmp 4), type := 3, pos := "l8_image.go:93", after := #[], guard := none }) (v := ?v35_3) rfl (by kernel_rfl) (by kernel_rfl) (by kernel_rfl) (fun _ _ _ h => h) (Or.inl ⟨by rfl, ?y35_3⟩) (by assumption) ?r35_3
        case y35_3 => (intro w hSw; (try dsimp only at hSw); go_simp; try (with_reducible rfl))
        try simp only [Act.put, List.setIfInBounds_toArray, List.set_cons_zero, List.set_cons_succ]
        refine wpAnyH_take (i := 4) (oi := { dst := some 61, op := Go.Op.indexAddr 34 (Go.Operand.tmp 59) (Go.Operand.tmp 60), type := 0, pos := "l8_image.go:93", after := #[{ on := 2, ground := Go.Ground.data }, { on := 3, ground := Go.Ground.data }], guard := none }) (v := ?v36_4) rfl (by kernel_rfl) (by kernel_rfl) (by kernel_rfl) (fun _ _ _ h => h) (Or.inl ⟨by rfl, ?y36_4⟩) (by assumption) ?r36_4
        case y36_4 => (intro w hSw; (try dsimp only at hSw); go_simp; try (with_reducible rfl))
        try simp only [Act.put, List.setIfInBounds_toArray, List.set_cons_zero, List.set_cons_succ]
        refine wpAnyH_take (i := 5) (oi := { dst := some 62, op := Go.Op.fieldAddr 65 (Go.Operand.tmp 61) 0, type := 0, pos := "l8_image.go:93", after := #[{ on := 4, ground := Go.Ground.data }], guard := none }) (v := ?v37_5) rfl (by kernel_rfl) (by kernel_rfl) (by kernel_rfl) (fun _ _ _ h => h) (Or.inl ⟨by rfl, ?y37_5⟩) (by assumption) ?r37_5
        case y37_5 => (intro w hSw; (try dsimp only at hSw); go_simp; try (with_reducible rfl))
        try simp only [Act.put, List.setIfInBounds_toArray, List.set_cons_zero, List.set_cons_succ]
        refine wpAnyH_take (i := 6) (oi := { dst := some 63, op := Go.Op.load 3 (Go.Operand.tmp 62), type := 3, pos := "l8_image.go:93", after := #[{ on := 5, ground := Go.Ground.data }], guard := none }) (v := ?v38_6) rfl (by kernel_rfl) (by kernel_rfl) (by kernel_rfl) (fun _ _ _ h => h) (Or.inl ⟨by rfl, ?y38_6⟩) (by assumption) ?r38_6
        case y38_6 => (intro w hSw; (try dsimp only at hSw); go_simp; try (with_reducible rfl))
        try simp only [Act.put, List.setIfInBounds_toArray, List.set_cons_zero, List.set_cons_succ]
        refine wpAnyH_take (i := 11) (oi := { dst := some 68, op := Go.Op.move (Go.Operand.tmp 0), type := 34, pos := "l8_image.go:93", after := #[], guard := none }) (v := ?v39_11) rfl (by kernel_rfl) (by kernel_rfl) (by kernel_rfl) (fun _ _ _ h => h) (Or.inl ⟨by rfl, ?y39_11⟩) (by assumption) ?r39_11
        case y39_11 => (intro w hSw; (try dsimp only at hSw); go_simp; try (with_reducible rfl))
        try simp only [Act.put, List.setIfInBounds_toArray, List.set_cons_zero, List.set_cons_succ]
        refine wpAnyH_take (i := 12) (oi := { dst := some 69, op := Go.Op.move (Go.Operand.tmp 4), type := 3, pos := "l8_image.go:93", after := #[], guard := none }) (v := ?v40_12) rfl (by kernel_rfl) (by kernel_rfl) (by kernel_rfl) (fun _ _ _ h => h) (Or.inl ⟨by rfl, ?y40_12⟩) (by assumption) ?r40_12
        case y40_12 => (intro w hSw; (try dsimp only at hSw); go_simp; try (with_reducible rfl))
        try simp only [Act.put, List.setIfInBounds_toArray, List.set_cons_zero, List.set_cons_succ]
        refine wpAnyH_take (i := 13) (oi := { dst := some 70, op := Go.Op.indexAddr 34 (Go.Operand.tmp 68) (Go.Operand.tmp 69), type := 0, pos := "l8_image.go:93", after := #[{ on := 11, ground := Go.Ground.data }, { on := 12, ground := Go.Ground.data }], guard := none }) (v := ?v41_13) rfl (by kernel_rfl) (by kernel_rfl) (by kernel_rfl) (fun _ _ _ h => h) (Or.inl ⟨by rfl, ?y41_13⟩) (by assumption) ?r41_13
        case y41_13 => (intro w hSw; (try dsimp only at hSw); go_simp; try (with_reducible rfl))
        try simp only [Act.put, List.setIfInBounds_toArray, List.set_cons_zero, List.set_cons_succ]
        refine wpAnyH_take (i := 14) (oi := { dst := some 71, op := Go.Op.fieldAddr 65 (Go.Operand.tmp 70) 1, type := 0, pos := "l8_image.go:93", after := #[{ on := 13, ground := Go.Ground.data }], guard := none }) (v := ?v42_14) rfl (by kernel_rfl) (by kernel_rfl) (by kernel_rfl) (fun _ _ _ h => h) (Or.inl ⟨by rfl, ?y42_14⟩) (by assumption) ?r42_14
        case y42_14 => (intro w hSw; (try dsimp only at hSw); go_simp; try (with_reducible rfl))
        try simp only [Act.put, List.setIfInBounds_toArray, List.set_cons_zero, List.set_cons_succ]
        refine wpAnyH_take (i := 15) (oi := { dst := some 72, op := Go.Op.load 3 (Go.Operand.tmp 71), type := 3, pos := "l8_image.go:93", after := #[{ on := 14, ground := Go.Ground.data }], guard := none }) (v := ?v43_15) rfl (by kernel_rfl) (by kernel_rfl) (by kernel_rfl) (fun _ _ _ h => h) (Or.inl ⟨by rfl, ?y43_15⟩) (by assumption) ?r43_15
        case y43_15 => (intro w hSw; (try dsimp only at hSw); go_simp; try (with_reducible rfl))
        try simp only [Act.put, List.setIfInBounds_toArray, List.set_cons_zero, List.set_cons_succ]
        refine wpAnyH_ready (rs := [1]) (by kernel_rfl) (by simp) ?_
        refine AllReadyH.cons (o := { dst := some 58, op := Go.Op.call { callee := Go.Callee.value (Go.Operand.func 34), args := #[], argTypes := #[] }, type := 68, pos := "l8_image.go:93", after := #[], guard := none }) rfl (fun K hK => ?_) AllReadyH.nil
        go_simp
        go_at_call 34
        refine (words_any _).mono ?_
        rintro e wb ⟨rfl, hwk⟩
        have hbk := below_of_words hwk
        have hW := box_of_words hwk
        clear hwk
        replace hHeld := (unhide HST).1 _ _ hbk hHeld
        clear hbk
        go_wp2_with fail
        refine hK.out _ _ hHeld (fun _ => ?_)
        clear hK K
        try simp only [Act.put, List.setIfInBounds_toArray, List.set_cons_zero, List.set_cons_succ]
        refine wpAnyH_take (i := 7) (oi := { dst := some 64, op := Go.Op.indexAddr 68 (Go.Operand.tmp 58) (Go.Operand.tmp 63), type := 0, pos := "l8_image.go:93", after := #[{ on := 1, ground := Go.Ground.data }, { on := 6, ground := Go.Ground.data }], guard := none }) (v := ?v44_7) rfl (by kernel_rfl) (by kernel_rfl) (by kernel_rfl) (fun _ _ _ h => h) (Or.inl ⟨by rfl, ?y44_7⟩) (by assumption) ?r44_7
        case y44_7 => (intro w hSw; (try dsimp only at hSw); go_simp; try (with_reducible rfl))
        try simp only [Act.put, List.setIfInBounds_toArray, List.set_cons_zero, List.set_cons_succ]
        refine wpAnyH_ready (rs := [8, 16]) (by kernel_rfl) (by simp) ?_
        refine AllReadyH.cons (o := { dst := some 65, op := Go.Op.load 9 (Go.Operand.tmp 64), type := 9, pos := "l8_image.go:93", after := #[{ on := 7, ground := Go.Ground.data }], guard := none }) rfl (fun K hK => ?_) ?_
        · skip
          have hn1 := word_box3 hW
          go_simp
          clear hn1
          refine hK.out _ _ hHeld (fun _ => ?_)
          clear hK K
          try simp only [Act.put, List.setIfInBounds_toArray, List.set_cons_zero, List.set_cons_succ]
          refine wpAnyH_take (i := 9) (oi := { dst := some 66, op := Go.Op.binOp Go.BinOp.add 9 (Go.Operand.tmp 57) (Go.Operand.tmp 65) 9, type := 9, pos := "l8_image.go:93", after := #[{ on := 0, ground := Go.Ground.data }, { on := 8, ground := Go.Ground.data }], guard := none }) (v := ?v45_9) rfl (by kernel_rfl) (by kernel_rfl) (by kernel_rfl) (fun _ _ _ h => h) (Or.inl ⟨by rfl, ?y45_9⟩) (by assumption) ?r45_9
          case y45_9 => (intro w hSw; (try dsimp only at hSw); go_simp; try (with_reducible rfl))
          try simp only [Act.put, List.setIfInBounds_toArray, List.set_cons_zero, List.set_cons_succ]
          refine wpAnyH_take (i := 10) (oi := { dst := some 67, op := Go.Op.binOp Go.BinOp.add 9 (Go.Operand.tmp 66) (Go.Operand.const (Go.Value.string { data := #[32] })) 9, type := 9, pos := "l8_image.go:93", after := #[{ on := 9, ground := Go.Ground.data }], guard := none }) (v := ?v46_10) rfl (by kernel_rfl) (by kernel_rfl) (by kernel_rfl) (fun _ _ _ h => h) (Or.inl ⟨by rfl, ?y46_10⟩) (by assumption) ?r46_10
          case y46_10 => (intro w hSw; (try dsimp only at hSw); go_simp; try (with_reducible rfl))
          try simp only [Act.put, List.setIfInBounds_toArray, List.set_cons_zero, List.set_cons_succ]
          refine wpAnyH_ready (rs := [16]) (by kernel_rfl) (by simp) ?_
          refine AllReadyH.cons (o := { dst := some 73, op := Go.Op.call { callee := Go.Callee.value (Go.Operand.func 32), args := #[Go.Operand.tmp 72], argTypes := #[3] }, type := 9, pos := "l8_image.go:93", after := #[{ on := 15, ground := Go.Ground.data }, { on := 1, ground := Go.Ground.chain }], guard := none }) rfl (fun K hK => ?_) AllReadyH.nil
          go_simp
          go_at_call 32
          refine (dec_any p _ (by omega) (by omega)).mono ?_
          rintro e wc ⟨rfl, hbk⟩
          replace hW := box_below hW hbk
          replace hHeld := (unhide HST).1 _ _ hbk hHeld
          clear hbk
          go_wp2_with fail
          refine hK.out _ _ hHeld (fun _ => ?_)
          clear hK K
          try simp only [Act.put, List.setIfInBounds_toArray, List.set_cons_zero, List.set_cons_succ]
          refine wpAnyH_take (i := 17) (oi := { dst := some 74, op := Go.Op.binOp Go.BinOp.add 9 (Go.Operand.tmp 67) (Go.Operand.tmp 73) 9, type := 9, pos := "l8_image.go:93", after := #[{ on := 10, ground := Go.Ground.data }, { on := 16, ground := Go.Ground.data }], guard := none }) (v := ?v47_17) rfl (by kernel_rfl) (by kernel_rfl) (by kernel_rfl) (fun _ _ _ h => h) (Or.inl ⟨by rfl, ?y47_17⟩) (by assumption) ?r47_17
          case y47_17 => (intro w hSw; (try dsimp only at hSw); go_simp; try (with_reducible rfl))
          try simp only [Act.put, List.setIfInBounds_toArray, List.set_cons_zero, List.set_cons_succ]
          refine wpAnyH_take (i := 18) (oi := { dst := some 75, op := Go.Op.binOp Go.BinOp.add 9 (Go.Operand.tmp 74) (Go.Operand.const (Go.Value.string { data := #[10] })) 9, type := 9, pos := "l8_image.go:93", after := #[{ on := 17, ground := Go.Ground.data }], guard := none }) (v := ?v48_18) rfl (by kernel_rfl) (by kernel_rfl) (by kernel_rfl) (fun _ _ _ h => h) (Or.inl ⟨by rfl, ?y48_18⟩) (by assumption) ?r48_18
          case y48_18 => (intro w hSw; (try dsimp only at hSw); go_simp; try (with_reducible rfl))
          try simp only [Act.put, List.setIfInBounds_toArray, List.set_cons_zero, List.set_cons_succ]
          refine wpAnyH_take (i := 19) (oi := { dst := some 3, op := Go.Op.assign (Go.Operand.tmp 75), type := 9, pos := "l8_image.go:93", after := #[{ on := 18, ground := Go.Ground.data }, { on := 16, ground := Go.Ground.chain }, { on := 0, ground := Go.Ground.phase }, { on := 1, ground := Go.Ground.phase }, { on := 2, ground := Go.Ground.phase }, { on := 3, ground := Go.Ground.phase }, { on := 4, ground := Go.Ground.phase }, { on := 5, ground := Go.Ground.phase }, { on := 6, ground := Go.Ground.phase }, { on := 7, ground := Go.Ground.phase }, { on := 8, ground := Go.Ground.phase }, { on := 9, ground := Go.Ground.phase }, { on := 10, ground := Go.Ground.phase }, { on := 11, ground := Go.Ground.phase }, { on := 12, ground := Go.Ground.phase }, { on := 13, ground := Go.Ground.phase }, { on := 14, ground := Go.Ground.phase }, { on := 15, ground := Go.Ground.phase }, { on := 16, ground := Go.Ground.phase }, { on := 17, ground := Go.Ground.phase }, { on := 18, ground := Go.Ground.phase }], guard := none }) (v := ?v49_19) rfl (by kernel_rfl) (by kernel_rfl) (by kernel_rfl) (fun _ _ _ h => h) (Or.inl ⟨by rfl, ?y49_19⟩) (by assumption) ?r49_19
          case y49_19 => (intro w hSw; (try dsimp only at hSw); go_simp; try (with_reducible rfl))
          try simp only [Act.put, List.setIfInBounds_toArray, List.set_cons_zero, List.set_cons_succ]
          refine wpAnyH_done (by kernel_rfl) ?_ _
          have hB9 := hHeld.2.2
          clear hHeld
          go_wp2_with fail
          exact ⟨⟨k + 1, by omega, by rw [unhide HLN], by go_num, hB9⟩, by simp [intOf]; omega⟩
        refine AllReadyH.cons (o := { dst := some 73, op := Go.Op.call { callee := Go.Callee.value (Go.Operand.func 32), args := #[Go.Operand.tmp 72], argTypes := #[3] }, type := 9, pos := "l8_image.go:93", after := #[{ on := 15, ground := Go.Ground.data }, { on := 1, ground := Go.Ground.chain }], guard := none }) rfl (fun K hK => ?_) AllReadyH.nil
        go_simp
        go_at_call 32
        refine (dec_any p _ (by omega) (by omega)).mono ?_
        rintro e wc ⟨rfl, hbk⟩
        replace hW := box_below hW hbk
        replace hHeld := (unhide HST).1 _ _ hbk hHeld
        clear hbk
        go_wp2_with fail
        refine hK.out _ _ hHeld (fun _ => ?_)
        clear hK K
        try simp only [Act.put, List.setIfInBounds_toArray, List.set_cons_zero, List.set_cons_succ]
        refine wpAnyH_ready (rs := [8]) (by kernel_rfl) (by simp) ?_
        refine AllReadyH.cons (o := { dst := some 65, op := Go.Op.load 9 (Go.Operand.tmp 64), type := 9, pos := "l8_image.go:93", after := #[{ on := 7, ground := Go.Ground.data }], guard := none }) rfl (fun K hK => ?_) AllReadyH.nil
        have hn1 := word_box3 hW
        go_simp
        clear hn1
        refine hK.out _ _ hHeld (fun _ => ?_)
        clear hK K
        try simp only [Act.put, List.setIfInBounds_toArray, List.set_cons_zero, List.set_cons_succ]
        refine wpAnyH_take (i := 9) (oi := { dst := some 66, op := Go.Op.binOp Go.BinOp.add 9 (Go.Operand.tmp 57) (Go.Operand.tmp 65) 9, type := 9, pos := "l8_image.go:93", after := #[{ on := 0, ground := Go.Ground.data }, { on := 8, ground := Go.Ground.data }], guard := none }) (v := ?v50_9) rfl (by kernel_rfl) (by kernel_rfl) (by kernel_rfl) (fun _ _ _ h => h) (Or.inl ⟨by rfl, ?y50_9⟩) (by assumption) ?r50_9
        case y50_9 => (intro w hSw; (try dsimp only at hSw); go_simp; try (with_reducible rfl))
        try simp only [Act.put, List.setIfInBounds_toArray, List.set_cons_zero, List.set_cons_succ]
        refine wpAnyH_take (i := 10) (oi := { dst := some 67, op := Go.Op.binOp Go.BinOp.add 9 (Go.Operand.tmp 66) (Go.Operand.const (Go.Value.string { data := #[32] })) 9, type := 9, pos := "l8_image.go:93", after := #[{ on := 9, ground := Go.Ground.data }], guard := none }) (v := ?v51_10) rfl (by kernel_rfl) (by kernel_rfl) (by kernel_rfl) (fun _ _ _ h => h) (Or.inl ⟨by rfl, ?y51_10⟩) (by assumption) ?r51_10
        case y51_10 => (intro w hSw; (try dsimp only at hSw); go_simp; try (with_reducible rfl))
        try simp only [Act.put, List.setIfInBounds_toArray, List.set_cons_zero, List.set_cons_succ]
        refine wpAnyH_take (i := 17) (oi := { dst := some 74, op := Go.Op.binOp Go.BinOp.add 9 (Go.Operand.tmp 67) (Go.Operand.tmp 73) 9, type := 9, pos := "l8_image.go:93", after := #[{ on := 10, ground := Go.Ground.data }, { on := 16, ground := Go.Ground.data }], guard := none }) (v := ?v52_17) rfl (by kernel_rfl) (by kernel_rfl) (by kernel_rfl) (fun _ _ _ h => h) (Or.inl ⟨by rfl, ?y52_17⟩) (by assumption) ?r52_17
        case y52_17 => (intro w hSw; (try dsimp only at hSw); go_simp; try (with_reducible rfl))
        try simp only [Act.put, List.setIfInBounds_toArray, List.set_cons_zero, List.set_cons_succ]
        refine wpAnyH_take (i := 18) (oi := { dst := some 75, op := Go.Op.binOp Go.BinOp.add 9 (Go.Operand.tmp 74) (Go.Operand.const (Go.Value.string { data := #[10] })) 9, type := 9, pos := "l8_image.go:93", after := #[{ on := 17, ground := Go.Ground.data }], guard := none }) (v := ?v53_18) rfl (by kernel_rfl) (by kernel_rfl) (by kernel_rfl) (fun _ _ _ h => h) (Or.inl ⟨by rfl, ?y53_18⟩) (by assumption) ?r53_18
        case y53_18 => (intro w hSw; (try dsimp only at hSw); go_simp; try (with_reducible rfl))
        try simp only [Act.put, List.setIfInBounds_toArray, List.set_cons_zero, List.set_cons_succ]
        refine wpAnyH_take (i := 19) (oi := { dst := some 3, op := Go.Op.assign (Go.Operand.tmp 75), type := 9, pos := "l8_image.go:93", after := #[{ on := 18, ground := Go.Ground.data }, { on := 16, ground := Go.Ground.chain }, { on := 0, ground := Go.Ground.phase }, { on := 1, ground := Go.Ground.phase }, { on := 2, ground := Go.Ground.phase }, { on := 3, ground := Go.Ground.phase }, { on := 4, ground := Go.Ground.phase }, { on := 5, ground := Go.Ground.phase }, { on := 6, ground := Go.Ground.phase }, { on := 7, ground := Go.Ground.phase }, { on := 8, ground := Go.Ground.phase }, { on := 9, ground := Go.Ground.phase }, { on := 10, ground := Go.Ground.phase }, { on := 11, ground := Go.Ground.phase }, { on := 12, ground := Go.Ground.phase }, { on := 13, ground := Go.Ground.phase }, { on := 14, ground := Go.Ground.phase }, { on := 15, ground := Go.Ground.phase }, { on := 16, ground := Go.Ground.phase }, { on := 17, ground := Go.Ground.phase }, { on := 18, ground := Go.Ground.phase }], guard := none }) (v := ?v54_19) rfl (by kernel_rfl) (by kernel_rfl) (by kernel_rfl) (fun _ _ _ h => h) (Or.inl ⟨by rfl, ?y54_19⟩) (by assumption) ?r54_19
        case y54_19 => (intro w hSw; (try dsimp only at hSw); go_simp; try (with_reducible rfl))
        try simp only [Act.put, List.setIfInBounds_toArray, List.set_cons_zero, List.set_cons_succ]
        refine wpAnyH_done (by kernel_rfl) ?_ _
        have hB9 := hHeld.2.2
        clear hHeld
        go_wp2_with fail
        exact ⟨⟨k + 1, by omega, by rw [unhide HLN], by go_num, hB9⟩, by simp [intOf]; omega⟩
      · have HLN : Hid (((((s0 ++ ⟨#[103, 111]⟩) ++ ⟨#[32]⟩) ++ ⟨(Lib.itoa p).toArray⟩) ++ ⟨#[10]⟩) = imgN l (k + 1)) := by
          show _ = _
          rw [← unhide HST0]
          exact num_line4 s0 p
        go_wp2_with fail
        refine (l8Refs_any _ _ _).mono ?_
        rintro e w3 ⟨rfl, hb3⟩
        rw [show refsB 4 = true from by decide]
        replace c0 := (hb3.cell (World.block_lt_of_cell? _ _ c0)).trans c0
        replace c1 := (hb3.cell (World.block_lt_of_cell? _ _ c1)).trans c1
        have hB3 := bl_trans hB2 hb3
        clear hB2 hb3
        have hS : (fun w' => w'.cell? ⟨b, off + k * 2, none⟩ = some (.int .i64 4) ∧ w'.cell? ⟨b, off + k * 2 + 1, none⟩ = some (.int .i64 p) ∧ Below w.heap.size w w') w3 := ⟨c0, c1, hB3⟩
        have HST : Hid (Stable (fun w' => w'.cell? ⟨b, off + k * 2, none⟩ = some (.int .i64 4) ∧ w'.cell? ⟨b, off + k * 2 + 1, none⟩ = some (.int .i64 p) ∧ Below w.heap.size w w')) := ((Stable.cell _ _).and ((Stable.cell _ _).and (Stable.below w)))
        clear c0 c1 hB3
        go_upto_region 9 with fail
        have q1 : ¬ 9223372036854775807 < s0.size + 2 := by omega
        have q2 : ¬ 9223372036854775807 < s0.size + 2 + 1 := by omega
        have q3 : ¬ 9223372036854775807 < s0.size + 2 + 1 + (Lib.itoa p).length := by omega
        have q4 : ¬ 9223372036854775807 < s0.size + 2 + 1 + (Lib.itoa p).length + 1 := by omega
        have HS := hide hS
        clear hS
        refine wp_region_held_drew (S := (fun w' => w'.cell? ⟨b, off + k * 2, none⟩ = some (.int .i64 4) ∧ w'.cell? ⟨b, off + k * 2 + 1, none⟩ = some (.int .i64 p) ∧ Below w.heap.size w w')) (by kernel_rfl) ((unhide HST).2 _ (unhide HS)) (fun hHeld => ?_)
        generalize w3.drew = wa at *
        refine wpAnyH_take (i := 0) (oi := { dst := some 57, op := Go.Op.move (Go.Operand.tmp 3), type := 9, pos := "l8_image.go:93", after := #[], guard := none }) (v := ?v55_0) rfl (by kernel_rfl) (by kernel_rfl) (by kernel_rfl) (fun _ _ _ h => h) (Or.inl ⟨by rfl, ?y55_0⟩) (by assumption) ?r55_0
        case y55_0 => (intro w hSw; (try dsimp only at hSw); go_simp; try (with_reducible rfl))
        try simp only [Act.put, List.setIfInBounds_toArray, List.set_cons_zero, List.set_cons_succ]
        refine wpAnyH_take (i := 2) (oi := { dst := some 59, op := Go.Op.move (Go.Operand.tmp 0), type := 34, pos := "l8_image.go:93", after := #[], guard := none }) (v := ?v56_2) rfl (by kernel_rfl) (by kernel_rfl) (by kernel_rfl) (fun _ _ _ h => h) (Or.inl ⟨by rfl, ?y56_2⟩) (by assumption) ?r56_2
        case y56_2 => (intro w hSw; (try dsimp only at hSw); go_simp; try (with_reducible rfl))
        try simp only [Act.put, List.setIfInBounds_toArray, List.set_cons_zero, List.set_cons_succ]
        refine wpAnyH_take (i := 3) (oi := { dst := some 60, op := Go.Op.move (Go.Operand.tmp 4), type := 3, pos := "l8_image.go:93", after := #[], guard := none }) (v := ?v57_3) rfl (by kernel_rfl) (by kernel_rfl) (by kernel_rfl) (fun _ _ _ h => h) (Or.inl ⟨by rfl, ?y57_3⟩) (by assumption) ?r57_3
        case y57_3 => (intro w hSw; (try dsimp only at hSw); go_simp; try (with_reducible rfl))
        try simp only [Act.put, List.setIfInBounds_toArray, List.set_cons_zero, List.set_cons_succ]
        refine wpAnyH_take (i := 4) (oi := { dst := some 61, op := Go.Op.indexAddr 34 (Go.Operand.tmp 59) (Go.Operand.tmp 60), type := 0, pos := "l8_image.go:93", after := #[{ on := 2, ground := Go.Ground.data }, { on := 3, ground := Go.Ground.data }], guard := none }) (v := ?v58_4) rfl (by kernel_rfl) (by kernel_rfl) (by kernel_rfl) (fun _ _ _ h => h) (Or.inl ⟨by rfl, ?y58_4⟩) (by assumption) ?r58_4
        case y58_4 => (intro w hSw; (try dsimp only at hSw); go_simp; try (with_reducible rfl))
        try simp only [Act.put, List.setIfInBounds_toArray, List.set_cons_zero, List.set_cons_succ]
        refine wpAnyH_take (i := 5) (oi := { dst := some 62, op := Go.Op.fieldAddr 65 (Go.Operand.tmp 61) 0, type := 0, pos := "l8_image.go:93", after := #[{ on := 4, ground := Go.Ground.data }], guard := none }) (v := ?v59_5) rfl (by kernel_rfl) (by kernel_rfl) (by kernel_rfl) (fun _ _ _ h => h) (Or.inl ⟨by rfl, ?y59_5⟩) (by assumption) ?r59_5
        case y59_5 => (intro w hSw; (try dsimp only at hSw); go_simp; try (with_reducible rfl))
        try simp only [Act.put, List.setIfInBounds_toArray, List.set_cons_zero, List.set_cons_succ]
        refine wpAnyH_take (i := 6) (oi := { dst := some 63, op := Go.Op.load 3 (Go.Operand.tmp 62), type := 3, pos := "l8_image.go:93", after := #[{ on := 5, ground := Go.Ground.data }], guard := none }) (v := ?v60_6) rfl (by kernel_rfl) (by kernel_rfl) (by kernel_rfl) (fun _ _ _ h => h) (Or.inl ⟨by rfl, ?y60_6⟩) (by assumption) ?r60_6
        case y60_6 => (intro w hSw; (try dsimp only at hSw); go_simp; try (with_reducible rfl))
        try simp only [Act.put, List.setIfInBounds_toArray, List.set_cons_zero, List.set_cons_succ]
        refine wpAnyH_take (i := 11) (oi := { dst := some 68, op := Go.Op.move (Go.Operand.tmp 0), type := 34, pos := "l8_image.go:93", after := #[], guard := none }) (v := ?v61_11) rfl (by kernel_rfl) (by kernel_rfl) (by kernel_rfl) (fun _ _ _ h => h) (Or.inl ⟨by rfl, ?y61_11⟩) (by assumption) ?r61_11
        case y61_11 => (intro w hSw; (try dsimp only at hSw); go_simp; try (with_reducible rfl))
        try simp only [Act.put, List.setIfInBounds_toArray, List.set_cons_zero, List.set_cons_succ]
        refine wpAnyH_take (i := 12) (oi := { dst := some 69, op := Go.Op.move (Go.Operand.tmp 4), type := 3, pos := "l8_image.go:93", after := #[], guard := none }) (v := ?v62_12) rfl (by kernel_rfl) (by kernel_rfl) (by kernel_rfl) (fun _ _ _ h => h) (Or.inl ⟨by rfl, ?y62_12⟩) (by assumption) ?r62_12
        case y62_12 => (intro w hSw; (try dsimp only at hSw); go_simp; try (with_reducible rfl))
        try simp only [Act.put, List.setIfInBounds_toArray, List.set_cons_zero, List.set_cons_succ]
        refine wpAnyH_take (i := 13) (oi := { dst := some 70, op := Go.Op.indexAddr 34 (Go.Operand.tmp 68) (Go.Operand.tmp 69), type := 0, pos := "l8_image.go:93", after := #[{ on := 11, ground := Go.Ground.data }, { on := 12, ground := Go.Ground.data }], guard := none }) (v := ?v63_13) rfl (by kernel_rfl) (by kernel_rfl) (by kernel_rfl) (fun _ _ _ h => h) (Or.inl ⟨by rfl, ?y63_13⟩) (by assumption) ?r63_13
        case y63_13 => (intro w hSw; (try dsimp only at hSw); go_simp; try (with_reducible rfl))
        try simp only [Act.put, List.setIfInBounds_toArray, List.set_cons_zero, List.set_cons_succ]
        refine wpAnyH_take (i := 14) (oi := { dst := some 71, op := Go.Op.fieldAddr 65 (Go.Operand.tmp 70) 1, type := 0, pos := "l8_image.go:93", after := #[{ on := 13, ground := Go.Ground.data }], guard := none }) (v := ?v64_14) rfl (by kernel_rfl) (by kernel_rfl) (by kernel_rfl) (fun _ _ _ h => h) (Or.inl ⟨by rfl, ?y64_14⟩) (by assumption) ?r64_14
        case y64_14 => (intro w hSw; (try dsimp only at hSw); go_simp; try (with_reducible rfl))
        try simp only [Act.put, List.setIfInBounds_toArray, List.set_cons_zero, List.set_cons_succ]
        refine wpAnyH_take (i := 15) (oi := { dst := some 72, op := Go.Op.load 3 (Go.Operand.tmp 71), type := 3, pos := "l8_image.go:93", after := #[{ on := 14, ground := Go.Ground.data }], guard := none }) (v := ?v65_15) rfl (by kernel_rfl) (by kernel_rfl) (by kernel_rfl) (fun _ _ _ h => h) (Or.inl ⟨by rfl, ?y65_15⟩) (by assumption) ?r65_15
        case y65_15 => (intro w hSw; (try dsimp only at hSw); go_simp; try (with_reducible rfl))
        try simp only [Act.put, List.setIfInBounds_toArray, List.set_cons_zero, List.set_cons_succ]
        refine wpAnyH_ready (rs := [1]) (by kernel_rfl) (by simp) ?_
        refine AllReadyH.cons (o := { dst := some 58, op := Go.Op.call { callee := Go.Callee.value (Go.Operand.func 34), args := #[], argTypes := #[] }, type := 68, pos := "l8_image.go:93", after := #[], guard := none }) rfl (fun K hK => ?_) AllReadyH.nil
        go_simp
        go_at_call 34
        refine (words_any _).mono ?_
        rintro e wb ⟨rfl, hwk⟩
        have hbk := below_of_words hwk
        have hW := box_of_words hwk
        clear hwk
        replace hHeld := (unhide HST).1 _ _ hbk hHeld
        clear hbk
        go_wp2_with fail
        refine hK.out _ _ hHeld (fun _ => ?_)
        clear hK K
        try simp only [Act.put, List.setIfInBounds_toArray, List.set_cons_zero, List.set_cons_succ]
        refine wpAnyH_take (i := 7) (oi := { dst := some 64, op := Go.Op.indexAddr 68 (Go.Operand.tmp 58) (Go.Operand.tmp 63), type := 0, pos := "l8_image.go:93", after := #[{ on := 1, ground := Go.Ground.data }, { on := 6, ground := Go.Ground.data }], guard := none }) (v := ?v66_7) rfl (by kernel_rfl) (by kernel_rfl) (by kernel_rfl) (fun _ _ _ h => h) (Or.inl ⟨by rfl, ?y66_7⟩) (by assumption) ?r66_7
        case y66_7 => (intro w hSw; (try dsimp only at hSw); go_simp; try (with_reducible rfl))
        try simp only [Act.put, List.setIfInBounds_toArray, List.set_cons_zero, List.set_cons_succ]
        refine wpAnyH_ready (rs := [8, 16]) (by kernel_rfl) (by simp) ?_
        refine AllReadyH.cons (o := { dst := some 65, op := Go.Op.load 9 (Go.Operand.tmp 64), type := 9, pos := "l8_image.go:93", after := #[{ on := 7, ground := Go.Ground.data }], guard := none }) rfl (fun K hK => ?_) ?_
        · skip
          have hn1 := word_box4 hW
          go_simp
          clear hn1
          refine hK.out _ _ hHeld (fun _ => ?_)
          clear hK K
          try simp only [Act.put, List.setIfInBounds_toArray, List.set_cons_zero, List.set_cons_succ]
          refine wpAnyH_take (i := 9) (oi := { dst := some 66, op := Go.Op.binOp Go.BinOp.add 9 (Go.Operand.tmp 57) (Go.Operand.tmp 65) 9, type := 9, pos := "l8_image.go:93", after := #[{ on := 0, ground := Go.Ground.data }, { on := 8, ground := Go.Ground.data }], guard := none }) (v := ?v67_9) rfl (by kernel_rfl) (by kernel_rfl) (by kernel_rfl) (fun _ _ _ h => h) (Or.inl ⟨by rfl, ?y67_9⟩) (by assumption) ?r67_9
          case y67_9 => (intro w hSw; (try dsimp only at hSw); go_simp; try (with_reducible rfl))
          try simp only [Act.put, List.setIfInBounds_toArray, List.set_cons_zero, List.set_cons_succ]
          refine wpAnyH_take (i := 10) (oi := { dst := some 67, op := Go.Op.binOp Go.BinOp.add 9 (Go.Operand.tmp 66) (Go.Operand.const (Go.Value.string { data := #[32] })) 9, type := 9, pos := "l8_image.go:93", after := #[{ on := 9, ground := Go.Ground.data }], guard := none }) (v := ?v68_10) rfl (by kernel_rfl) (by kernel_rfl) (by kernel_rfl) (fun _ _ _ h => h) (Or.inl ⟨by rfl, ?y68_10⟩) (by assumption) ?r68_10
          case y68_10 => (intro w hSw; (try dsimp only at hSw); go_simp; try (with_reducible rfl))
          try simp only [Act.put, List.setIfInBounds_toArray, List.set_cons_zero, List.set_cons_succ]
          refine wpAnyH_ready (rs := [16]) (by kernel_rfl) (by simp) ?_
          refine AllReadyH.cons (o := { dst := some 73, op := Go.Op.call { callee := Go.Callee.value (Go.Operand.func 32), args := #[Go.Operand.tmp 72], argTypes := #[3] }, type := 9, pos := "l8_image.go:93", after := #[{ on := 15, ground := Go.Ground.data }, { on := 1, ground := Go.Ground.chain }], guard := none }) rfl (fun K hK => ?_) AllReadyH.nil
          go_simp
          go_at_call 32
          refine (dec_any p _ (by omega) (by omega)).mono ?_
          rintro e wc ⟨rfl, hbk⟩
          replace hW := box_below hW hbk
          replace hHeld := (unhide HST).1 _ _ hbk hHeld
          clear hbk
          go_wp2_with fail
          refine hK.out _ _ hHeld (fun _ => ?_)
          clear hK K
          try simp only [Act.put, List.setIfInBounds_toArray, List.set_cons_zero, List.set_cons_succ]
          refine wpAnyH_take (i := 17) (oi := { dst := some 74, op := Go.Op.binOp Go.BinOp.add 9 (Go.Operand.tmp 67) (Go.Operand.tmp 73) 9, type := 9, pos := "l8_image.go:93", after := #[{ on := 10, ground := Go.Ground.data }, { on := 16, ground := Go.Ground.data }], guard := none }) (v := ?v69_17) rfl (by kernel_rfl) (by kernel_rfl) (by kernel_rfl) (fun _ _ _ h => h) (Or.inl ⟨by rfl, ?y69_17⟩) (by assumption) ?r69_17
          case y69_17 => (intro w hSw; (try dsimp only at hSw); go_simp; try (with_reducible rfl))
          try simp only [Act.put, List.setIfInBounds_toArray, List.set_cons_zero, List.set_cons_succ]
          refine wpAnyH_take (i := 18) (oi := { dst := some 75, op := Go.Op.binOp Go.BinOp.add 9 (Go.Operand.tmp 74) (Go.Operand.const (Go.Value.string { data := #[10] })) 9, type := 9, pos := "l8_image.go:93", after := #[{ on := 17, ground := Go.Ground.data }], guard := none }) (v := ?v70_18) rfl (by kernel_rfl) (by kernel_rfl) (by kernel_rfl) (fun _ _ _ h => h) (Or.inl ⟨by rfl, ?y70_18⟩) (by assumption) ?r70_18
          case y70_18 => (intro w hSw; (try dsimp only at hSw); go_simp; try (with_reducible rfl))
          try simp only [Act.put, List.setIfInBounds_toArray, List.set_cons_zero, List.set_cons_succ]
          refine wpAnyH_take (i := 19) (oi := { dst := some 3, op := Go.Op.assign (Go.Operand.tmp 75), type := 9, pos := "l8_image.go:93", after := #[{ on := 18, ground := Go.Ground.data }, { on := 16, ground := Go.Ground.chain }, { on := 0, ground := Go.Ground.phase }, { on := 1, ground := Go.Ground.phase }, { on := 2, ground := Go.Ground.phase }, { on := 3, ground := Go.Ground.phase }, { on := 4, ground := Go.Ground.phase }, { on := 5, ground := Go.Ground.phase }, { on := 6, ground := Go.Ground.phase }, { on := 7, ground := Go.Ground.phase }, { on := 8, ground := Go.Ground.phase }, { on := 9, ground := Go.Ground.phase }, { on := 10, ground := Go.Ground.phase }, { on := 11, ground := Go.Ground.phase }, { on := 12, ground := Go.Ground.phase }, { on := 13, ground := Go.Ground.phase }, { on := 14, ground := Go.Ground.phase }, { on := 15, ground := Go.Ground.phase }, { on := 16, ground := Go.Ground.phase }, { on := 17, ground := Go.Ground.phase }, { on := 18, ground := Go.Ground.phase }], guard := none }) (v := ?v71_19) rfl (by kernel_rfl) (by kernel_rfl) (by kernel_rfl) (fun _ _ _ h => h) (Or.inl ⟨by rfl, ?y71_19⟩) (by assumption) ?r71_19
          case y71_19 => (intro w hSw; (try dsimp only at hSw); go_simp; try (with_reducible rfl))
          try simp only [Act.put, List.setIfInBounds_toArray, List.set_cons_zero, List.set_cons_succ]
          refine wpAnyH_done (by kernel_rfl) ?_ _
          have hB9 := hHeld.2.2
          clear hHeld
          go_wp2_with fail
          exact ⟨⟨k + 1, by omega, by rw [unhide HLN], by go_num, hB9⟩, by simp [intOf]; omega⟩
        refine AllReadyH.cons (o := { dst := some 73, op := Go.Op.call { callee := Go.Callee.value (Go.Operand.func 32), args := #[Go.Operand.tmp 72], argTypes := #[3] }, type := 9, pos := "l8_image.go:93", after := #[{ on := 15, ground := Go.Ground.data }, { on := 1, ground := Go.Ground.chain }], guard := none }) rfl (fun K hK => ?_) AllReadyH.nil
        go_simp
        go_at_call 32
        refine (dec_any p _ (by omega) (by omega)).mono ?_
        rintro e wc ⟨rfl, hbk⟩
        replace hW := box_below hW hbk
        replace hHeld := (unhide HST).1 _ _ hbk hHeld
        clear hbk
        go_wp2_with fail
        refine hK.out _ _ hHeld (fun _ => ?_)
        clear hK K
        try simp only [Act.put, List.setIfInBounds_toArray, List.set_cons_zero, List.set_cons_succ]
        refine wpAnyH_ready (rs := [8]) (by kernel_rfl) (by simp) ?_
        refine AllReadyH.cons (o := { dst := some 65, op := Go.Op.load 9 (Go.Operand.tmp 64), type := 9, pos := "l8_image.go:93", after := #[{ on := 7, ground := Go.Ground.data }], guard := none }) rfl (fun K hK => ?_) AllReadyH.nil
        have hn1 := word_box4 hW
        go_simp
        clear hn1
        refine hK.out _ _ hHeld (fun _ => ?_)
        clear hK K
        try simp only [Act.put, List.setIfInBounds_toArray, List.set_cons_zero, List.set_cons_succ]
        refine wpAnyH_take (i := 9) (oi := { dst := some 66, op := Go.Op.binOp Go.BinOp.add 9 (Go.Operand.tmp 57) (Go.Operand.tmp 65) 9, type := 9, pos := "l8_image.go:93", after := #[{ on := 0, ground := Go.Ground.data }, { on := 8, ground := Go.Ground.data }], guard := none }) (v := ?v72_9) rfl (by kernel_rfl) (by kernel_rfl) (by kernel_rfl) (fun _ _ _ h => h) (Or.inl ⟨by rfl, ?y72_9⟩) (by assumption) ?r72_9
        case y72_9 => (intro w hSw; (try dsimp only at hSw); go_simp; try (with_reducible rfl))
        try simp only [Act.put, List.setIfInBounds_toArray, List.set_cons_zero, List.set_cons_succ]
        refine wpAnyH_take (i := 10) (oi := { dst := some 67, op := Go.Op.binOp Go.BinOp.add 9 (Go.Operand.tmp 66) (Go.Operand.const (Go.Value.string { data := #[32] })) 9, type := 9, pos := "l8_image.go:93", after := #[{ on := 9, ground := Go.Ground.data }], guard := none }) (v := ?v73_10) rfl (by kernel_rfl) (by kernel_rfl) (by kernel_rfl) (fun _ _ _ h => h) (Or.inl ⟨by rfl, ?y73_10⟩) (by assumption) ?r73_10
        case y73_10 => (intro w hSw; (try dsimp only at hSw); go_simp; try (with_reducible rfl))
        try simp only [Act.put, List.setIfInBounds_toArray, List.set_cons_zero, List.set_cons_succ]
        refine wpAnyH_take (i := 17) (oi := { dst := some 74, op := Go.Op.binOp Go.BinOp.add 9 (Go.Operand.tmp 67) (Go.Operand.tmp 73) 9, type := 9, pos := "l8_image.go:93", after := #[{ on := 10, ground := Go.Ground.data }, { on := 16, ground := Go.Ground.data }], guard := none }) (v := ?v74_17) rfl (by kernel_rfl) (by kernel_rfl) (by kernel_rfl) (fun _ _ _ h => h) (Or.inl ⟨by rfl, ?y74_17⟩) (by assumption) ?r74_17
        case y74_17 => (intro w hSw; (try dsimp only at hSw); go_simp; try (with_reducible rfl))
        try simp only [Act.put, List.setIfInBounds_toArray, List.set_cons_zero, List.set_cons_succ]
        refine wpAnyH_take (i := 18) (oi := { dst := some 75, op := Go.Op.binOp Go.BinOp.add 9 (Go.Operand.tmp 74) (Go.Operand.const (Go.Value.string { data := #[10] })) 9, type := 9, pos := "l8_image.go:93", after := #[{ on := 17, ground := Go.Ground.data }], guard := none }) (v := ?v75_18) rfl (by kernel_rfl) (by kernel_rfl) (by kernel_rfl) (fun _ _ _ h => h) (Or.inl ⟨by rfl, ?y75_18⟩) (by assumption) ?r75_18
        case y75_18 => (intro w hSw; (try dsimp only at hSw); go_simp; try (with_reducible rfl))
        try simp only [Act.put, List.setIfInBounds_toArray, List.set_cons_zero, List.set_cons_succ]
        refine wpAnyH_take (i := 19) (oi := { dst := some 3, op := Go.Op.assign (Go.Operand.tmp 75), type := 9, pos := "l8_image.go:93", after := #[{ on := 18, ground := Go.Ground.data }, { on := 16, ground := Go.Ground.chain }, { on := 0, ground := Go.Ground.phase }, { on := 1, ground := Go.Ground.phase }, { on := 2, ground := Go.Ground.phase }, { on := 3, ground := Go.Ground.phase }, { on := 4, ground := Go.Ground.phase }, { on := 5, ground := Go.Ground.phase }, { on := 6, ground := Go.Ground.phase }, { on := 7, ground := Go.Ground.phase }, { on := 8, ground := Go.Ground.phase }, { on := 9, ground := Go.Ground.phase }, { on := 10, ground := Go.Ground.phase }, { on := 11, ground := Go.Ground.phase }, { on := 12, ground := Go.Ground.phase }, { on := 13, ground := Go.Ground.phase }, { on := 14, ground := Go.Ground.phase }, { on := 15, ground := Go.Ground.phase }, { on := 16, ground := Go.Ground.phase }, { on := 17, ground := Go.Ground.phase }, { on := 18, ground := Go.Ground.phase }], guard := none }) (v := ?v76_19) rfl (by kernel_rfl) (by kernel_rfl) (by kernel_rfl) (fun _ _ _ h => h) (Or.inl ⟨by rfl, ?y76_19⟩) (by assumption) ?r76_19
        case y76_19 => (intro w hSw; (try dsimp only at hSw); go_simp; try (with_reducible rfl))
        try simp only [Act.put, List.setIfInBounds_toArray, List.set_cons_zero, List.set_cons_succ]
        refine wpAnyH_done (by kernel_rfl) ?_ _
        have hB9 := hHeld.2.2
        clear hHeld
        go_wp2_with fail
        exact ⟨⟨k + 1, by omega, by rw [unhide HLN], by go_num, hB9⟩, by simp [intOf]; omega⟩
      · have HLN : Hid (((((s0 ++ ⟨#[105, 102]⟩) ++ ⟨#[32]⟩) ++ ⟨(Lib.itoa p).toArray⟩) ++ ⟨#[10]⟩) = imgN l (k + 1)) := by
          show _ = _
          rw [← unhide HST0]
          exact num_line5 s0 p
        go_wp2_with fail
        refine (l8Refs_any _ _ _).mono ?_
        rintro e w3 ⟨rfl, hb3⟩
        rw [show refsB 5 = true from by decide]
        replace c0 := (hb3.cell (World.block_lt_of_cell? _ _ c0)).trans c0
        replace c1 := (hb3.cell (World.block_lt_of_cell? _ _ c1)).trans c1
        have hB3 := bl_trans hB2 hb3
        clear hB2 hb3
        have hS : (fun w' => w'.cell? ⟨b, off + k * 2, none⟩ = some (.int .i64 5) ∧ w'.cell? ⟨b, off + k * 2 + 1, none⟩ = some (.int .i64 p) ∧ Below w.heap.size w w') w3 := ⟨c0, c1, hB3⟩
        have HST : Hid (Stable (fun w' => w'.cell? ⟨b, off + k * 2, none⟩ = some (.int .i64 5) ∧ w'.cell? ⟨b, off + k * 2 + 1, none⟩ = some (.int .i64 p) ∧ Below w.heap.size w w')) := ((Stable.cell _ _).and ((Stable.cell _ _).and (Stable.below w)))
        clear c0 c1 hB3
        go_upto_region 9 with fail
        have q1 : ¬ 9223372036854775807 < s0.size + 2 := by omega
        have q2 : ¬ 9223372036854775807 < s0.size + 2 + 1 := by omega
        have q3 : ¬ 9223372036854775807 < s0.size + 2 + 1 + (Lib.itoa p).length := by omega
        have q4 : ¬ 9223372036854775807 < s0.size + 2 + 1 + (Lib.itoa p).length + 1 := by omega
        have HS := hide hS
        clear hS
        refine wp_region_held_drew (S := (fun w' => w'.cell? ⟨b, off + k * 2, none⟩ = some (.int .i64 5) ∧ w'.cell? ⟨b, off + k * 2 + 1, none⟩ = some (.int .i64 p) ∧ Below w.heap.size w w')) (by kernel_rfl) ((unhide HST).2 _ (unhide HS)) (fun hHeld => ?_)
        generalize w3.drew = wa at *
        refine wpAnyH_take (i := 0) (oi := { dst := some 57, op := Go.Op.move (Go.Operand.tmp 3), type := 9, pos := "l8_image.go:93", after := #[], guard := none }) (v := ?v77_0) rfl (by kernel_rfl) (by kernel_rfl) (by kernel_rfl) (fun _ _ _ h => h) (Or.inl ⟨by rfl, ?y77_0⟩) (by assumption) ?r77_0
        case y77_0 => (intro w hSw; (try dsimp only at hSw); go_simp; try (with_reducible rfl))
        try simp only [Act.put, List.setIfInBounds_toArray, List.set_cons_zero, List.set_cons_succ]
        refine wpAnyH_take (i := 2) (oi := { dst := some 59, op := Go.Op.move (Go.Operand.tmp 0), type := 34, pos := "l8_image.go:93", after := #[], guard := none }) (v := ?v78_2) rfl (by kernel_rfl) (by kernel_rfl) (by kernel_rfl) (fun _ _ _ h => h) (Or.inl ⟨by rfl, ?y78_2⟩) (by assumption) ?r78_2
        case y78_2 => (intro w hSw; (try dsimp only at hSw); go_simp; try (with_reducible rfl))
        try simp only [Act.put, List.setIfInBounds_toArray, List.set_cons_zero, List.set_cons_succ]
        refine wpAnyH_take (i := 3) (oi := { dst := some 60, op := Go.Op.move (Go.Operand.tmp 4), type := 3, pos := "l8_image.go:93", after := #[], guard := none }) (v := ?v79_3) rfl (by kernel_rfl) (by kernel_rfl) (by kernel_rfl) (fun _ _ _ h => h) (Or.inl ⟨by rfl, ?y79_3⟩) (by assumption) ?r79_3
        case y79_3 => (intro w hSw; (try dsimp only at hSw); go_simp; try (with_reducible rfl))
        try simp only [Act.put, List.setIfInBounds_toArray, List.set_cons_zero, List.set_cons_succ]
        refine wpAnyH_take (i := 4) (oi := { dst := some 61, op := Go.Op.indexAddr 34 (Go.Operand.tmp 59) (Go.Operand.tmp 60), type := 0, pos := "l8_image.go:93", after := #[{ on := 2, ground := Go.Ground.data }, { on := 3, ground := Go.Ground.data }], guard := none }) (v := ?v80_4) rfl (by kernel_rfl) (by kernel_rfl) (by kernel_rfl) (fun _ _ _ h => h) (Or.inl ⟨by rfl, ?y80_4⟩) (by assumption) ?r80_4
        case y80_4 => (intro w hSw; (try dsimp only at hSw); go_simp; try (with_reducible rfl))
        try simp only [Act.put, List.setIfInBounds_toArray, List.set_cons_zero, List.set_cons_succ]
        refine wpAnyH_take (i := 5) (oi := { dst := some 62, op := Go.Op.fieldAddr 65 (Go.Operand.tmp 61) 0, type := 0, pos := "l8_image.go:93", after := #[{ on := 4, ground := Go.Ground.data }], guard := none }) (v := ?v81_5) rfl (by kernel_rfl) (by kernel_rfl) (by kernel_rfl) (fun _ _ _ h => h) (Or.inl ⟨by rfl, ?y81_5⟩) (by assumption) ?r81_5
        case y81_5 => (intro w hSw; (try dsimp only at hSw); go_simp; try (with_reducible rfl))
        try simp only [Act.put, List.setIfInBounds_toArray, List.set_cons_zero, List.set_cons_succ]
        refine wpAnyH_take (i := 6) (oi := { dst := some 63, op := Go.Op.load 3 (Go.Operand.tmp 62), type := 3, pos := "l8_image.go:93", after := #[{ on := 5, ground := Go.Ground.data }], guard := none }) (v := ?v82_6) rfl (by kernel_rfl) (by kernel_rfl) (by kernel_rfl) (fun _ _ _ h => h) (Or.inl ⟨by rfl, ?y82_6⟩) (by assumption) ?r82_6
        case y82_6 => (intro w hSw; (try dsimp only at hSw); go_simp; try (with_reducible rfl))
        try simp only [Act.put, List.setIfInBounds_toArray, List.set_cons_zero, List.set_cons_succ]
        refine wpAnyH_take (i := 11) (oi := { dst := some 68, op := Go.Op.move (Go.Operand.tmp 0), type := 34, pos := "l8_image.go:93", after := #[], guard := none }) (v := ?v83_11) rfl (by kernel_rfl) (by kernel_rfl) (by kernel_rfl) (fun _ _ _ h => h) (Or.inl ⟨by rfl, ?y83_11⟩) (by assumption) ?r83_11
        case y83_11 => (intro w hSw; (try dsimp only at hSw); go_simp; try (with_reducible rfl))
        try simp only [Act.put, List.setIfInBounds_toArray, List.set_cons_zero, List.set_cons_succ]
        refine wpAnyH_take (i := 12) (oi := { dst := some 69, op := Go.Op.move (Go.Operand.tmp 4), type := 3, pos := "l8_image.go:93", after := #[], guard := none }) (v := ?v84_12) rfl (by kernel_rfl) (by kernel_rfl) (by kernel_rfl) (fun _ _ _ h => h) (Or.inl ⟨by rfl, ?y84_12⟩) (by assumption) ?r84_12
        case y84_12 => (intro w hSw; (try dsimp only at hSw); go_simp; try (with_reducible rfl))
        try simp only [Act.put, List.setIfInBounds_toArray, List.set_cons_zero, List.set_cons_succ]
        refine wpAnyH_take (i := 13) (oi := { dst := some 70, op := Go.Op.indexAddr 34 (Go.Operand.tmp 68) (Go.Operand.tmp 69), type := 0, pos := "l8_image.go:93", after := #[{ on := 11, ground := Go.Ground.data }, { on := 12, ground := Go.Ground.data }], guard := none }) (v := ?v85_13) rfl (by kernel_rfl) (by kernel_rfl) (by kernel_rfl) (fun _ _ _ h => h) (Or.inl ⟨by rfl, ?y85_13⟩) (by assumption) ?r85_13
        case y85_13 => (intro w hSw; (try dsimp only at hSw); go_simp; try (with_reducible rfl))
        try simp only [Act.put, List.setIfInBounds_toArray, List.set_cons_zero, List.set_cons_succ]
        refine wpAnyH_take (i := 14) (oi := { dst := some 71, op := Go.Op.fieldAddr 65 (Go.Operand.tmp 70) 1, type := 0, pos := "l8_image.go:93", after := #[{ on := 13, ground := Go.Ground.data }], guard := none }) (v := ?v86_14) rfl (by kernel_rfl) (by kernel_rfl) (by kernel_rfl) (fun _ _ _ h => h) (Or.inl ⟨by rfl, ?y86_14⟩) (by assumption) ?r86_14
        case y86_14 => (intro w hSw; (try dsimp only at hSw); go_simp; try (with_reducible rfl))
        try simp only [Act.put, List.setIfInBounds_toArray, List.set_cons_zero, List.set_cons_succ]
        refine wpAnyH_take (i := 15) (oi := { dst := some 72, op := Go.Op.load 3 (Go.Operand.tmp 71), type := 3, pos := "l8_image.go:93", after := #[{ on := 14, ground := Go.Ground.data }], guard := none }) (v := ?v87_15) rfl (by kernel_rfl) (by kernel_rfl) (by kernel_rfl) (fun _ _ _ h => h) (Or.inl ⟨by rfl, ?y87_15⟩) (by assumption) ?r87_15
        case y87_15 => (intro w hSw; (try dsimp only at hSw); go_simp; try (with_reducible rfl))
        try simp only [Act.put, List.setIfInBounds_toArray, List.set_cons_zero, List.set_cons_succ]
        refine wpAnyH_ready (rs := [1]) (by kernel_rfl) (by simp) ?_
        refine AllReadyH.cons (o := { dst := some 58, op := Go.Op.call { callee := Go.Callee.value (Go.Operand.func 34), args := #[], argTypes := #[] }, type := 68, pos := "l8_image.go:93", after := #[], guard := none }) rfl (fun K hK => ?_) AllReadyH.nil
        go_simp
        go_at_call 34
        refine (words_any _).mono ?_
        rintro e wb ⟨rfl, hwk⟩
        have hbk := below_of_words hwk
        have hW := box_of_words hwk
        clear hwk
        replace hHeld := (unhide HST).1 _ _ hbk hHeld
        clear hbk
        go_wp2_with fail
        refine hK.out _ _ hHeld (fun _ => ?_)
        clear hK K
        try simp only [Act.put, List.setIfInBounds_toArray, List.set_cons_zero, List.set_cons_succ]
        refine wpAnyH_take (i := 7) (oi := { dst := some 64, op := Go.Op.indexAddr 68 (Go.Operand.tmp 58) (Go.Operand.tmp 63), type := 0, pos := "l8_image.go:93", after := #[{ on := 1, ground := Go.Ground.data }, { on := 6, ground := Go.Ground.data }], guard := none }) (v := ?v88_7) rfl (by kernel_rfl) (by kernel_rfl) (by kernel_rfl) (fun _ _ _ h => h) (Or.inl ⟨by rfl, ?y88_7⟩) (by assumption) ?r88_7
        case y88_7 => (intro w hSw; (try dsimp only at hSw); go_simp; try (with_reducible rfl))
        try simp only [Act.put, List.setIfInBounds_toArray, List.set_cons_zero, List.set_cons_succ]
        refine wpAnyH_ready (rs := [8, 16]) (by kernel_rfl) (by simp) ?_
        refine AllReadyH.cons (o := { dst := some 65, op := Go.Op.load 9 (Go.Operand.tmp 64), type := 9, pos := "l8_image.go:93", after := #[{ on := 7, ground := Go.Ground.data }], guard := none }) rfl (fun K hK => ?_) ?_
        · skip
          have hn1 := word_box5 hW
          go_simp
          clear hn1
          refine hK.out _ _ hHeld (fun _ => ?_)
          clear hK K
          try simp only [Act.put, List.setIfInBounds_toArray, List.set_cons_zero, List.set_cons_succ]
          refine wpAnyH_take (i := 9) (oi := { dst := some 66, op := Go.Op.binOp Go.BinOp.add 9 (Go.Operand.tmp 57) (Go.Operand.tmp 65) 9, type := 9, pos := "l8_image.go:93", after := #[{ on := 0, ground := Go.Ground.data }, { on := 8, ground := Go.Ground.data }], guard := none }) (v := ?v89_9) rfl (by kernel_rfl) (by kernel_rfl) (by kernel_rfl) (fun _ _ _ h => h) (Or.inl ⟨by rfl, ?y89_9⟩) (by assumption) ?r89_9
          case y89_9 => (intro w hSw; (try dsimp only at hSw); go_simp; try (with_reducible rfl))
          try simp only [Act.put, List.setIfInBounds_toArray, List.set_cons_zero, List.set_cons_succ]
          refine wpAnyH_take (i := 10) (oi := { dst := some 67, op := Go.Op.binOp Go.BinOp.add 9 (Go.Operand.tmp 66) (Go.Operand.const (Go.Value.string { data := #[32] })) 9, type := 9, pos := "l8_image.go:93", after := #[{ on := 9, ground := Go.Ground.data }], guard := none }) (v := ?v90_10) rfl (by kernel_rfl) (by kernel_rfl) (by kernel_rfl) (fun _ _ _ h => h) (Or.inl ⟨by rfl, ?y90_10⟩) (by assumption) ?r90_10
          case y90_10 => (intro w hSw; (try dsimp only at hSw); go_simp; try (with_reducible rfl))
          try simp only [Act.put, List.setIfInBounds_toArray, List.set_cons_zero, List.set_cons_succ]
          refine wpAnyH_ready (rs := [16]) (by kernel_rfl) (by simp) ?_
          refine AllReadyH.cons (o := { dst := some 73, op := Go.Op.call { callee := Go.Callee.value (Go.Operand.func 32), args := #[Go.Operand.tmp 72], argTypes := #[3] }, type := 9, pos := "l8_image.go:93", after := #[{ on := 15, ground := Go.Ground.data }, { on := 1, ground := Go.Ground.chain }], guard := none }) rfl (fun K hK => ?_) AllReadyH.nil
          go_simp
          go_at_call 32
          refine (dec_any p _ (by omega) (by omega)).mono ?_
          rintro e wc ⟨rfl, hbk⟩
          replace hW := box_below hW hbk
          replace hHeld := (unhide HST).1 _ _ hbk hHeld
          clear hbk
          go_wp2_with fail
          refine hK.out _ _ hHeld (fun _ => ?_)
          clear hK K
          try simp only [Act.put, List.setIfInBounds_toArray, List.set_cons_zero, List.set_cons_succ]
          refine wpAnyH_take (i := 17) (oi := { dst := some 74, op := Go.Op.binOp Go.BinOp.add 9 (Go.Operand.tmp 67) (Go.Operand.tmp 73) 9, type := 9, pos := "l8_image.go:93", after := #[{ on := 10, ground := Go.Ground.data }, { on := 16, ground := Go.Ground.data }], guard := none }) (v := ?v91_17) rfl (by kernel_rfl) (by kernel_rfl) (by kernel_rfl) (fun _ _ _ h => h) (Or.inl ⟨by rfl, ?y91_17⟩) (by assumption) ?r91_17
          case y91_17 => (intro w hSw; (try dsimp only at hSw); go_simp; try (with_reducible rfl))
          try simp only [Act.put, List.setIfInBounds_toArray, List.set_cons_zero, List.set_cons_succ]
          refine wpAnyH_take (i := 18) (oi := { dst := some 75, op := Go.Op.binOp Go.BinOp.add 9 (Go.Operand.tmp 74) (Go.Operand.const (Go.Value.string { data := #[10] })) 9, type := 9, pos := "l8_image.go:93", after := #[{ on := 17, ground := Go.Ground.data }], guard := none }) (v := ?v92_18) rfl (by kernel_rfl) (by kernel_rfl) (by kernel_rfl) (fun _ _ _ h => h) (Or.inl ⟨by rfl, ?y92_18⟩) (by assumption) ?r92_18
          case y92_18 => (intro w hSw; (try dsimp only at hSw); go_simp; try (with_reducible rfl))
          try simp only [Act.put, List.setIfInBounds_toArray, List.set_cons_zero, List.set_cons_succ]
          refine wpAnyH_take (i := 19) (oi := { dst := some 3, op := Go.Op.assign (Go.Operand.tmp 75), type := 9, pos := "l8_image.go:93", after := #[{ on := 18, ground := Go.Ground.data }, { on := 16, ground := Go.Ground.chain }, { on := 0, ground := Go.Ground.phase }, { on := 1, ground := Go.Ground.phase }, { on := 2, ground := Go.Ground.phase }, { on := 3, ground := Go.Ground.phase }, { on := 4, ground := Go.Ground.phase }, { on := 5, ground := Go.Ground.phase }, { on := 6, ground := Go.Ground.phase }, { on := 7, ground := Go.Ground.phase }, { on := 8, ground := Go.Ground.phase }, { on := 9, ground := Go.Ground.phase }, { on := 10, ground := Go.Ground.phase }, { on := 11, ground := Go.Ground.phase }, { on := 12, ground := Go.Ground.phase }, { on := 13, ground := Go.Ground.phase }, { on := 14, ground := Go.Ground.phase }, { on := 15, ground := Go.Ground.phase }, { on := 16, ground := Go.Ground.phase }, { on := 17, ground := Go.Ground.phase }, { on := 18, ground := Go.Ground.phase }], guard := none }) (v := ?v93_19) rfl (by kernel_rfl) (by kernel_rfl) (by kernel_rfl) (fun _ _ _ h => h) (Or.inl ⟨by rfl, ?y93_19⟩) (by assumption) ?r93_19
          case y93_19 => (intro w hSw; (try dsimp only at hSw); go_simp; try (with_reducible rfl))
          try simp only [Act.put, List.setIfInBounds_toArray, List.set_cons_zero, List.set_cons_succ]
          refine wpAnyH_done (by kernel_rfl) ?_ _
          have hB9 := hHeld.2.2
          clear hHeld
          go_wp2_with fail
          exact ⟨⟨k + 1, by omega, by rw [unhide HLN], by go_num, hB9⟩, by simp [intOf]; omega⟩
        refine AllReadyH.cons (o := { dst := some 73, op := Go.Op.call { callee := Go.Callee.value (Go.Operand.func 32), args := #[Go.Operand.tmp 72], argTypes := #[3] }, type := 9, pos := "l8_image.go:93", after := #[{ on := 15, ground := Go.Ground.data }, { on := 1, ground := Go.Ground.chain }], guard := none }) rfl (fun K hK => ?_) AllReadyH.nil
        go_simp
        go_at_call 32
        refine (dec_any p _ (by omega) (by omega)).mono ?_
        rintro e wc ⟨rfl, hbk⟩
        replace hW := box_below hW hbk
        replace hHeld := (unhide HST).1 _ _ hbk hHeld
        clear hbk
        go_wp2_with fail
        refine hK.out _ _ hHeld (fun _ => ?_)
        clear hK K
        try simp only [Act.put, List.setIfInBounds_toArray, List.set_cons_zero, List.set_cons_succ]
        refine wpAnyH_ready (rs := [8]) (by kernel_rfl) (by simp) ?_
        refine AllReadyH.cons (o := { dst := some 65, op := Go.Op.load 9 (Go.Operand.tmp 64), type := 9, pos := "l8_image.go:93", after := #[{ on := 7, ground := Go.Ground.data }], guard := none }) rfl (fun K hK => ?_) AllReadyH.nil
        have hn1 := word_box5 hW
        go_simp
        clear hn1
        refine hK.out _ _ hHeld (fun _ => ?_)
        clear hK K
        try simp only [Act.put, List.setIfInBounds_toArray, List.set_cons_zero, List.set_cons_succ]
        refine wpAnyH_take (i := 9) (oi := { dst := some 66, op := Go.Op.binOp Go.BinOp.add 9 (Go.Operand.tmp 57) (Go.Operand.tmp 65) 9, type := 9, pos := "l8_image.go:93", after := #[{ on := 0, ground := Go.Ground.data }, { on := 8, ground := Go.Ground.data }], guard := none }) (v := ?v94_9) rfl (by kernel_rfl) (by kernel_rfl) (by kernel_rfl) (fun _ _ _ h => h) (Or.inl ⟨by rfl, ?y94_9⟩) (by assumption) ?r94_9
        case y94_9 => (intro w hSw; (try dsimp only at hSw); go_simp; try (with_reducible rfl))
        try simp only [Act.put, List.setIfInBounds_toArray, List.set_cons_zero, List.set_cons_succ]
        refine wpAnyH_take (i := 10) (oi := { dst := some 67, op := Go.Op.binOp Go.BinOp.add 9 (Go.Operand.tmp 66) (Go.Operand.const (Go.Value.string { data := #[32] })) 9, type := 9, pos := "l8_image.go:93", after := #[{ on := 9, ground := Go.Ground.data }], guard := none }) (v := ?v95_10) rfl (by kernel_rfl) (by kernel_rfl) (by kernel_rfl) (fun _ _ _ h => h) (Or.inl ⟨by rfl, ?y95_10⟩) (by assumption) ?r95_10
        case y95_10 => (intro w hSw; (try dsimp only at hSw); go_simp; try (with_reducible rfl))
        try simp only [Act.put, List.setIfInBounds_toArray, List.set_cons_zero, List.set_cons_succ]
        refine wpAnyH_take (i := 17) (oi := { dst := some 74, op := Go.Op.binOp Go.BinOp.add 9 (Go.Operand.tmp 67) (Go.Operand.tmp 73) 9, type := 9, pos := "l8_image.go:93", after := #[{ on := 10, ground := Go.Ground.data }, { on := 16, ground := Go.Ground.data }], guard := none }) (v := ?v96_17) rfl (by kernel_rfl) (by kernel_rfl) (by kernel_rfl) (fun _ _ _ h => h) (Or.inl ⟨by rfl, ?y96_17⟩) (by assumption) ?r96_17
        case y96_17 => (intro w hSw; (try dsimp only at hSw); go_simp; try (with_reducible rfl))
        try simp only [Act.put, List.setIfInBounds_toArray, List.set_cons_zero, List.set_cons_succ]
        refine wpAnyH_take (i := 18) (oi := { dst := some 75, op := Go.Op.binOp Go.BinOp.add 9 (Go.Operand.tmp 74) (Go.Operand.const (Go.Value.string { data := #[10] })) 9, type := 9, pos := "l8_image.go:93", after := #[{ on := 17, ground := Go.Ground.data }], guard := none }) (v := ?v97_18) rfl (by kernel_rfl) (by kernel_rfl) (by kernel_rfl) (fun _ _ _ h => h) (Or.inl ⟨by rfl, ?y97_18⟩) (by assumption) ?r97_18
        case y97_18 => (intro w hSw; (try dsimp only at hSw); go_simp; try (with_reducible rfl))
        try simp only [Act.put, List.setIfInBounds_toArray, List.set_cons_zero, List.set_cons_succ]
        refine wpAnyH_take (i := 19) (oi := { dst := some 3, op := Go.Op.assign (Go.Operand.tmp 75), type := 9, pos := "l8_image.go:93", after := #[{ on := 18, ground := Go.Ground.data }, { on := 16, ground := Go.Ground.chain }, { on := 0, ground := Go.Ground.phase }, { on := 1, ground := Go.Ground.phase }, { on := 2, ground := Go.Ground.phase }, { on := 3, ground := Go.Ground.phase }, { on := 4, ground := Go.Ground.phase }, { on := 5, ground := Go.Ground.phase }, { on := 6, ground := Go.Ground.phase }, { on := 7, ground := Go.Ground.phase }, { on := 8, ground := Go.Ground.phase }, { on := 9, ground := Go.Ground.phase }, { on := 10, ground := Go.Ground.phase }, { on := 11, ground := Go.Ground.phase }, { on := 12, ground := Go.Ground.phase }, { on := 13, ground := Go.Ground.phase }, { on := 14, ground := Go.Ground.phase }, { on := 15, ground := Go.Ground.phase }, { on := 16, ground := Go.Ground.phase }, { on := 17, ground := Go.Ground.phase }, { on := 18, ground := Go.Ground.phase }], guard := none }) (v := ?v98_19) rfl (by kernel_rfl) (by kernel_rfl) (by kernel_rfl) (fun _ _ _ h => h) (Or.inl ⟨by rfl, ?y98_19⟩) (by assumption) ?r98_19
        case y98_19 => (intro w hSw; (try dsimp only at hSw); go_simp; try (with_reducible rfl))
        try simp only [Act.put, List.setIfInBounds_toArray, List.set_cons_zero, List.set_cons_succ]
        refine wpAnyH_done (by kernel_rfl) ?_ _
        have hB9 := hHeld.2.2
        clear hHeld
        go_wp2_with fail
        exact ⟨⟨k + 1, by omega, by rw [unhide HLN], by go_num, hB9⟩, by simp [intOf]; omega⟩
      · have HLN : Hid (((s0 ++ ⟨#[114, 101, 116]⟩) ++ ⟨#[10]⟩) = imgN l (k + 1)) := by
          show _ = _
          rw [← unhide HST0]
          exact bare_line6 s0 p
        go_wp2_with fail
        refine (l8Refs_any _ _ _).mono ?_
        rintro e w3 ⟨rfl, hb3⟩
        rw [show refsB 6 = false from by decide]
        replace c0 := (hb3.cell (World.block_lt_of_cell? _ _ c0)).trans c0
        replace c1 := (hb3.cell (World.block_lt_of_cell? _ _ c1)).trans c1
        have hB3 := bl_trans hB2 hb3
        clear hB2 hb3
        have hS : (fun w' => w'.cell? ⟨b, off + k * 2, none⟩ = some (.int .i64 6) ∧ w'.cell? ⟨b, off + k * 2 + 1, none⟩ = some (.int .i64 p) ∧ Below w.heap.size w w') w3 := ⟨c0, c1, hB3⟩
        have HST : Hid (Stable (fun w' => w'.cell? ⟨b, off + k * 2, none⟩ = some (.int .i64 6) ∧ w'.cell? ⟨b, off + k * 2 + 1, none⟩ = some (.int .i64 p) ∧ Below w.heap.size w w')) := ((Stable.cell _ _).and ((Stable.cell _ _).and (Stable.below w)))
        clear c0 c1 hB3
        go_upto_region 5 with fail
        have q1 : ¬ 9223372036854775807 < s0.size + 3 := by omega
        have q2 : ¬ 9223372036854775807 < s0.size + 3 + 1 := by omega
        have q3 : ¬ 9223372036854775807 < s0.size + 3 + 1 + (Lib.itoa p).length := by omega
        have q4 : ¬ 9223372036854775807 < s0.size + 3 + 1 + (Lib.itoa p).length + 1 := by omega
        have HS := hide hS
        clear hS
        refine wp_region_held_drew (S := (fun w' => w'.cell? ⟨b, off + k * 2, none⟩ = some (.int .i64 6) ∧ w'.cell? ⟨b, off + k * 2 + 1, none⟩ = some (.int .i64 p) ∧ Below w.heap.size w w')) (by kernel_rfl) ((unhide HST).2 _ (unhide HS)) (fun hHeld => ?_)
        generalize w3.drew = wa at *
        refine wpAnyH_take (i := 0) (oi := { dst := some 15, op := Go.Op.move (Go.Operand.tmp 3), type := 9, pos := "l8_image.go:95", after := #[], guard := none }) (v := ?v99_0) rfl (by kernel_rfl) (by kernel_rfl) (by kernel_rfl) (fun _ _ _ h => h) (Or.inl ⟨by rfl, ?y99_0⟩) (by assumption) ?r99_0
        case y99_0 => (intro w hSw; (try dsimp only at hSw); go_simp; try (with_reducible rfl))
        try simp only [Act.put, List.setIfInBounds_toArray, List.set_cons_zero, List.set_cons_succ]
        refine wpAnyH_take (i := 2) (oi := { dst := some 17, op := Go.Op.move (Go.Operand.tmp 0), type := 34, pos := "l8_image.go:95", after := #[], guard := none }) (v := ?v100_2) rfl (by kernel_rfl) (by kernel_rfl) (by kernel_rfl) (fun _ _ _ h => h) (Or.inl ⟨by rfl, ?y100_2⟩) (by assumption) ?r100_2
        case y100_2 => (intro w hSw; (try dsimp only at hSw); go_simp; try (with_reducible rfl))
        try simp only [Act.put, List.setIfInBounds_toArray, List.set_cons_zero, List.set_cons_succ]
        refine wpAnyH_take (i := 3) (oi := { dst := some 18, op := Go.Op.move (Go.Operand.tmp 4), type := 3, pos := "l8_image.go:95", after := #[], guard := none }) (v := ?v101_3) rfl (by kernel_rfl) (by kernel_rfl) (by kernel_rfl) (fun _ _ _ h => h) (Or.inl ⟨by rfl, ?y101_3⟩) (by assumption) ?r101_3
        case y101_3 => (intro w hSw; (try dsimp only at hSw); go_simp; try (with_reducible rfl))
        try simp only [Act.put, List.setIfInBounds_toArray, List.set_cons_zero, List.set_cons_succ]
        refine wpAnyH_take (i := 4) (oi := { dst := some 19, op := Go.Op.indexAddr 34 (Go.Operand.tmp 17) (Go.Operand.tmp 18), type := 0, pos := "l8_image.go:95", after := #[{ on := 2, ground := Go.Ground.data }, { on := 3, ground := Go.Ground.data }], guard := none }) (v := ?v102_4) rfl (by kernel_rfl) (by kernel_rfl) (by kernel_rfl) (fun _ _ _ h => h) (Or.inl ⟨by rfl, ?y102_4⟩) (by assumption) ?r102_4
        case y102_4 => (intro w hSw; (try dsimp only at hSw); go_simp; try (with_reducible rfl))
        try simp only [Act.put, List.setIfInBounds_toArray, List.set_cons_zero, List.set_cons_succ]
        refine wpAnyH_take (i := 5) (oi := { dst := some 20, op := Go.Op.fieldAddr 65 (Go.Operand.tmp 19) 0, type := 0, pos := "l8_image.go:95", after := #[{ on := 4, ground := Go.Ground.data }], guard := none }) (v := ?v103_5) rfl (by kernel_rfl) (by kernel_rfl) (by kernel_rfl) (fun _ _ _ h => h) (Or.inl ⟨by rfl, ?y103_5⟩) (by assumption) ?r103_5
        case y103_5 => (intro w hSw; (try dsimp only at hSw); go_simp; try (with_reducible rfl))
        try simp only [Act.put, List.setIfInBounds_toArray, List.set_cons_zero, List.set_cons_succ]
        refine wpAnyH_take (i := 6) (oi := { dst := some 21, op := Go.Op.load 3 (Go.Operand.tmp 20), type := 3, pos := "l8_image.go:95", after := #[{ on := 5, ground := Go.Ground.data }], guard := none }) (v := ?v104_6) rfl (by kernel_rfl) (by kernel_rfl) (by kernel_rfl) (fun _ _ _ h => h) (Or.inl ⟨by rfl, ?y104_6⟩) (by assumption) ?r104_6
        case y104_6 => (intro w hSw; (try dsimp only at hSw); go_simp; try (with_reducible rfl))
        try simp only [Act.put, List.setIfInBounds_toArray, List.set_cons_zero, List.set_cons_succ]
        refine wpAnyH_ready (rs := [1]) (by kernel_rfl) (by simp) ?_
        refine AllReadyH.cons (o := { dst := some 16, op := Go.Op.call { callee := Go.Callee.value (Go.Operand.func 34), args := #[], argTypes := #[] }, type := 68, pos := "l8_image.go:95", after := #[], guard := none }) rfl (fun K hK => ?_) AllReadyH.nil
        go_simp
        go_at_call 34
        refine (words_any _).mono ?_
        rintro e wb ⟨rfl, hwk⟩
        have hbk := below_of_words hwk
        have hW := box_of_words hwk
        clear hwk
        replace hHeld := (unhide HST).1 _ _ hbk hHeld
        clear hbk
        go_wp2_with fail
        refine hK.out _ _ hHeld (fun _ => ?_)
        clear hK K
        try simp only [Act.put, List.setIfInBounds_toArray, List.set_cons_zero, List.set_cons_succ]
        refine wpAnyH_take (i := 7) (oi := { dst := some 22, op := Go.Op.indexAddr 68 (Go.Operand.tmp 16) (Go.Operand.tmp 21), type := 0, pos := "l8_image.go:95", after := #[{ on := 1, ground := Go.Ground.data }, { on := 6, ground := Go.Ground.data }], guard := none }) (v := ?v105_7) rfl (by kernel_rfl) (by kernel_rfl) (by kernel_rfl) (fun _ _ _ h => h) (Or.inl ⟨by rfl, ?y105_7⟩) (by assumption) ?r105_7
        case y105_7 => (intro w hSw; (try dsimp only at hSw); go_simp; try (with_reducible rfl))
        try simp only [Act.put, List.setIfInBounds_toArray, List.set_cons_zero, List.set_cons_succ]
        refine wpAnyH_ready (rs := [8]) (by kernel_rfl) (by simp) ?_
        refine AllReadyH.cons (o := { dst := some 23, op := Go.Op.load 9 (Go.Operand.tmp 22), type := 9, pos := "l8_image.go:95", after := #[{ on := 7, ground := Go.Ground.data }], guard := none }) rfl (fun K hK => ?_) AllReadyH.nil
        have hn1 := word_box6 hW
        go_simp
        clear hn1
        refine hK.out _ _ hHeld (fun _ => ?_)
        clear hK K
        try simp only [Act.put, List.setIfInBounds_toArray, List.set_cons_zero, List.set_cons_succ]
        refine wpAnyH_take (i := 9) (oi := { dst := some 24, op := Go.Op.binOp Go.BinOp.add 9 (Go.Operand.tmp 15) (Go.Operand.tmp 23) 9, type := 9, pos := "l8_image.go:95", after := #[{ on := 0, ground := Go.Ground.data }, { on := 8, ground := Go.Ground.data }], guard := none }) (v := ?v106_9) rfl (by kernel_rfl) (by kernel_rfl) (by kernel_rfl) (fun _ _ _ h => h) (Or.inl ⟨by rfl, ?y106_9⟩) (by assumption) ?r106_9
        case y106_9 => (intro w hSw; (try dsimp only at hSw); go_simp; try (with_reducible rfl))
        try simp only [Act.put, List.setIfInBounds_toArray, List.set_cons_zero, List.set_cons_succ]
        refine wpAnyH_take (i := 10) (oi := { dst := some 25, op := Go.Op.binOp Go.BinOp.add 9 (Go.Operand.tmp 24) (Go.Operand.const (Go.Value.string { data := #[10] })) 9, type := 9, pos := "l8_image.go:95", after := #[{ on := 9, ground := Go.Ground.data }], guard := none }) (v := ?v107_10) rfl (by kernel_rfl) (by kernel_rfl) (by kernel_rfl) (fun _ _ _ h => h) (Or.inl ⟨by rfl, ?y107_10⟩) (by assumption) ?r107_10
        case y107_10 => (intro w hSw; (try dsimp only at hSw); go_simp; try (with_reducible rfl))
        try simp only [Act.put, List.setIfInBounds_toArray, List.set_cons_zero, List.set_cons_succ]
        refine wpAnyH_take (i := 11) (oi := { dst := some 3, op := Go.Op.assign (Go.Operand.tmp 25), type := 9, pos := "l8_image.go:95", after := #[{ on := 10, ground := Go.Ground.data }, { on := 1, ground := Go.Ground.chain }, { on := 0, ground := Go.Ground.phase }, { on := 1, ground := Go.Ground.phase }, { on := 2, ground := Go.Ground.phase }, { on := 3, ground := Go.Ground.phase }, { on := 4, ground := Go.Ground.phase }, { on := 5, ground := Go.Ground.phase }, { on := 6, ground := Go.Ground.phase }, { on := 7, ground := Go.Ground.phase }, { on := 8, ground := Go.Ground.phase }, { on := 9, ground := Go.Ground.phase }, { on := 10, ground := Go.Ground.phase }], guard := none }) (v := ?v108_11) rfl (by kernel_rfl) (by kernel_rfl) (by kernel_rfl) (fun _ _ _ h => h) (Or.inl ⟨by rfl, ?y108_11⟩) (by assumption) ?r108_11
        case y108_11 => (intro w hSw; (try dsimp only at hSw); go_simp; try (with_reducible rfl))
        try simp only [Act.put, List.setIfInBounds_toArray, List.set_cons_zero, List.set_cons_succ]
        refine wpAnyH_done (by kernel_rfl) ?_ _
        have hB9 := hHeld.2.2
        clear hHeld
        go_wp2_with fail
        exact ⟨⟨k + 1, by omega, by rw [unhide HLN], by go_num, hB9⟩, by simp [intOf]; omega⟩
      · have HLN : Hid (((s0 ++ ⟨#[101, 110, 100]⟩) ++ ⟨#[10]⟩) = imgN l (k + 1)) := by
          show _ = _
          rw [← unhide HST0]
          exact bare_line7 s0 p
        go_wp2_with fail
        refine (l8Refs_any _ _ _).mono ?_
        rintro e w3 ⟨rfl, hb3⟩
        rw [show refsB 7 = false from by decide]
        replace c0 := (hb3.cell (World.block_lt_of_cell? _ _ c0)).trans c0
        replace c1 := (hb3.cell (World.block_lt_of_cell? _ _ c1)).trans c1
        have hB3 := bl_trans hB2 hb3
        clear hB2 hb3
        have hS : (fun w' => w'.cell? ⟨b, off + k * 2, none⟩ = some (.int .i64 7) ∧ w'.cell? ⟨b, off + k * 2 + 1, none⟩ = some (.int .i64 p) ∧ Below w.heap.size w w') w3 := ⟨c0, c1, hB3⟩
        have HST : Hid (Stable (fun w' => w'.cell? ⟨b, off + k * 2, none⟩ = some (.int .i64 7) ∧ w'.cell? ⟨b, off + k * 2 + 1, none⟩ = some (.int .i64 p) ∧ Below w.heap.size w w')) := ((Stable.cell _ _).and ((Stable.cell _ _).and (Stable.below w)))
        clear c0 c1 hB3
        go_upto_region 5 with fail
        have q1 : ¬ 9223372036854775807 < s0.size + 3 := by omega
        have q2 : ¬ 9223372036854775807 < s0.size + 3 + 1 := by omega
        have q3 : ¬ 9223372036854775807 < s0.size + 3 + 1 + (Lib.itoa p).length := by omega
        have q4 : ¬ 9223372036854775807 < s0.size + 3 + 1 + (Lib.itoa p).length + 1 := by omega
        have HS := hide hS
        clear hS
        refine wp_region_held_drew (S := (fun w' => w'.cell? ⟨b, off + k * 2, none⟩ = some (.int .i64 7) ∧ w'.cell? ⟨b, off + k * 2 + 1, none⟩ = some (.int .i64 p) ∧ Below w.heap.size w w')) (by kernel_rfl) ((unhide HST).2 _ (unhide HS)) (fun hHeld => ?_)
        generalize w3.drew = wa at *
        refine wpAnyH_take (i := 0) (oi := { dst := some 15, op := Go.Op.move (Go.Operand.tmp 3), type := 9, pos := "l8_image.go:95", after := #[], guard := none }) (v := ?v109_0) rfl (by kernel_rfl) (by kernel_rfl) (by kernel_rfl) (fun _ _ _ h => h) (Or.inl ⟨by rfl, ?y109_0⟩) (by assumption) ?r109_0
        case y109_0 => (intro w hSw; (try dsimp only at hSw); go_simp; try (with_reducible rfl))
        try simp only [Act.put, List.setIfInBounds_toArray, List.set_cons_zero, List.set_cons_succ]
        refine wpAnyH_take (i := 2) (oi := { dst := some 17, op := Go.Op.move (Go.Operand.tmp 0), type := 34, pos := "l8_image.go:95", after := #[], guard := none }) (v := ?v110_2) rfl (by kernel_rfl) (by kernel_rfl) (by kernel_rfl) (fun _ _ _ h => h) (Or.inl ⟨by rfl, ?y110_2⟩) (by assumption) ?r110_2
        case y110_2 => (intro w hSw; (try dsimp only at hSw); go_simp; try (with_reducible rfl))
        try simp only [Act.put, List.setIfInBounds_toArray, List.set_cons_zero, List.set_cons_succ]
        refine wpAnyH_take (i := 3) (oi := { dst := some 18, op := Go.Op.move (Go.Operand.tmp 4), type := 3, pos := "l8_image.go:95", after := #[], guard := none }) (v := ?v111_3) rfl (by kernel_rfl) (by kernel_rfl) (by kernel_rfl) (fun _ _ _ h => h) (Or.inl ⟨by rfl, ?y111_3⟩) (by assumption) ?r111_3
        case y111_3 => (intro w hSw; (try dsimp only at hSw); go_simp; try (with_reducible rfl))
        try simp only [Act.put, List.setIfInBounds_toArray, List.set_cons_zero, List.set_cons_succ]
        refine wpAnyH_take (i := 4) (oi := { dst := some 19, op := Go.Op.indexAddr 34 (Go.Operand.tmp 17) (Go.Operand.tmp 18), type := 0, pos := "l8_image.go:95", after := #[{ on := 2, ground := Go.Ground.data }, { on := 3, ground := Go.Ground.data }], guard := none }) (v := ?v112_4) rfl (by kernel_rfl) (by kernel_rfl) (by kernel_rfl) (fun _ _ _ h => h) (Or.inl ⟨by rfl, ?y112_4⟩) (by assumption) ?r112_4
        case y112_4 => (intro w hSw; (try dsimp only at hSw); go_simp; try (with_reducible rfl))
        try simp only [Act.put, List.setIfInBounds_toArray, List.set_cons_zero, List.set_cons_succ]
        refine wpAnyH_take (i := 5) (oi := { dst := some 20, op := Go.Op.fieldAddr 65 (Go.Operand.tmp 19) 0, type := 0, pos := "l8_image.go:95", after := #[{ on := 4, ground := Go.Ground.data }], guard := none }) (v := ?v113_5) rfl (by kernel_rfl) (by kernel_rfl) (by kernel_rfl) (fun _ _ _ h => h) (Or.inl ⟨by rfl, ?y113_5⟩) (by assumption) ?r113_5
        case y113_5 => (intro w hSw; (try dsimp only at hSw); go_simp; try (with_reducible rfl))
        try simp only [Act.put, List.setIfInBounds_toArray, List.set_cons_zero, List.set_cons_succ]
        refine wpAnyH_take (i := 6) (oi := { dst := some 21, op := Go.Op.load 3 (Go.Operand.tmp 20), type := 3, pos := "l8_image.go:95", after := #[{ on := 5, ground := Go.Ground.data }], guard := none }) (v := ?v114_6) rfl (by kernel_rfl) (by kernel_rfl) (by kernel_rfl) (fun _ _ _ h => h) (Or.inl ⟨by rfl, ?y114_6⟩) (by assumption) ?r114_6
        case y114_6 => (intro w hSw; (try dsimp only at hSw); go_simp; try (with_reducible rfl))
        try simp only [Act.put, List.setIfInBounds_toArray, List.set_cons_zero, List.set_cons_succ]
        refine wpAnyH_ready (rs := [1]) (by kernel_rfl) (by simp) ?_
        refine AllReadyH.cons (o := { dst := some 16, op := Go.Op.call { callee := Go.Callee.value (Go.Operand.func 34), args := #[], argTypes := #[] }, type := 68, pos := "l8_image.go:95", after := #[], guard := none }) rfl (fun K hK => ?_) AllReadyH.nil
        go_simp
        go_at_call 34
        refine (words_any _).mono ?_
        rintro e wb ⟨rfl, hwk⟩
        have hbk := below_of_words hwk
        have hW := box_of_words hwk
        clear hwk
        replace hHeld := (unhide HST).1 _ _ hbk hHeld
        clear hbk
        go_wp2_with fail
        refine hK.out _ _ hHeld (fun _ => ?_)
        clear hK K
        try simp only [Act.put, List.setIfInBounds_toArray, List.set_cons_zero, List.set_cons_succ]
        refine wpAnyH_take (i := 7) (oi := { dst := some 22, op := Go.Op.indexAddr 68 (Go.Operand.tmp 16) (Go.Operand.tmp 21), type := 0, pos := "l8_image.go:95", after := #[{ on := 1, ground := Go.Ground.data }, { on := 6, ground := Go.Ground.data }], guard := none }) (v := ?v115_7) rfl (by kernel_rfl) (by kernel_rfl) (by kernel_rfl) (fun _ _ _ h => h) (Or.inl ⟨by rfl, ?y115_7⟩) (by assumption) ?r115_7
        case y115_7 => (intro w hSw; (try dsimp only at hSw); go_simp; try (with_reducible rfl))
        try simp only [Act.put, List.setIfInBounds_toArray, List.set_cons_zero, List.set_cons_succ]
        refine wpAnyH_ready (rs := [8]) (by kernel_rfl) (by simp) ?_
        refine AllReadyH.cons (o := { dst := some 23, op := Go.Op.load 9 (Go.Operand.tmp 22), type := 9, pos := "l8_image.go:95", after := #[{ on := 7, ground := Go.Ground.data }], guard := none }) rfl (fun K hK => ?_) AllReadyH.nil
        have hn1 := word_box7 hW
        go_simp
        clear hn1
        refine hK.out _ _ hHeld (fun _ => ?_)
        clear hK K
        try simp only [Act.put, List.setIfInBounds_toArray, List.set_cons_zero, List.set_cons_succ]
        refine wpAnyH_take (i := 9) (oi := { dst := some 24, op := Go.Op.binOp Go.BinOp.add 9 (Go.Operand.tmp 15) (Go.Operand.tmp 23) 9, type := 9, pos := "l8_image.go:95", after := #[{ on := 0, ground := Go.Ground.data }, { on := 8, ground := Go.Ground.data }], guard := none }) (v := ?v116_9) rfl (by kernel_rfl) (by kernel_rfl) (by kernel_rfl) (fun _ _ _ h => h) (Or.inl ⟨by rfl, ?y116_9⟩) (by assumption) ?r116_9
        case y116_9 => (intro w hSw; (try dsimp only at hSw); go_simp; try (with_reducible rfl))
        try simp only [Act.put, List.setIfInBounds_toArray, List.set_cons_zero, List.set_cons_succ]
        refine wpAnyH_take (i := 10) (oi := { dst := some 25, op := Go.Op.binOp Go.BinOp.add 9 (Go.Operand.tmp 24) (Go.Operand.const (Go.Value.string { data := #[10] })) 9, type := 9, pos := "l8_image.go:95", after := #[{ on := 9, ground := Go.Ground.data }], guard := none }) (v := ?v117_10) rfl (by kernel_rfl) (by kernel_rfl) (by kernel_rfl) (fun _ _ _ h => h) (Or.inl ⟨by rfl, ?y117_10⟩) (by assumption) ?r117_10
        case y117_10 => (intro w hSw; (try dsimp only at hSw); go_simp; try (with_reducible rfl))
        try simp only [Act.put, List.setIfInBounds_toArray, List.set_cons_zero, List.set_cons_succ]
        refine wpAnyH_take (i := 11) (oi := { dst := some 3, op := Go.Op.assign (Go.Operand.tmp 25), type := 9, pos := "l8_image.go:95", after := #[{ on := 10, ground := Go.Ground.data }, { on := 1, ground := Go.Ground.chain }, { on := 0, ground := Go.Ground.phase }, { on := 1, ground := Go.Ground.phase }, { on := 2, ground := Go.Ground.phase }, { on := 3, ground := Go.Ground.phase }, { on := 4, ground := Go.Ground.phase }, { on := 5, ground := Go.Ground.phase }, { on := 6, ground := Go.Ground.phase }, { on := 7, ground := Go.Ground.phase }, { on := 8, ground := Go.Ground.phase }, { on := 9, ground := Go.Ground.phase }, { on := 10, ground := Go.Ground.phase }], guard := none }) (v := ?v118_11) rfl (by kernel_rfl) (by kernel_rfl) (by kernel_rfl) (fun _ _ _ h => h) (Or.inl ⟨by rfl, ?y118_11⟩) (by assumption) ?r118_11
        case y118_11 => (intro w hSw; (try dsimp only at hSw); go_simp; try (with_reducible rfl))
        try simp only [Act.put, List.setIfInBounds_toArray, List.set_cons_zero, List.set_cons_succ]
        refine wpAnyH_done (by kernel_rfl) ?_ _
        have hB9 := hHeld.2.2
        clear hHeld
        go_wp2_with fail
        exact ⟨⟨k + 1, by omega, by rw [unhide HLN], by go_num, hB9⟩, by simp [intOf]; omega⟩
      · have HLN : Hid (((s0 ++ ⟨#[102, 97, 114, 32]⟩) ++ ⟨(Lib.itoa p).toArray⟩) ++ ⟨#[10]⟩ = imgN l (k + 1)) := by
          show _ = _
          rw [← unhide HST0]
          exact far_line s0 p
        go_wp2_with fail
        refine (dec_any p _ (by omega) (by omega)).mono ?_
        rintro e w3 ⟨rfl, hb3⟩
        have hB9 := bl_trans hB2 hb3
        clear c0 c1 hb3 hB2
        go_wp2_with fail
        exact ⟨⟨k + 1, by omega, by rw [unhide HLN], by go_num, hB9⟩, by simp [intOf]; omega⟩
    · have hkl' : ¬ (k : Int) < (l.length : Int) := by omega
      have hke : k = l.length := by omega
      subst hke
      go_wp2_with fail
      go_ret
      exact ⟨ret_str (unhide HE), hB⟩
end Go.Proofs.YthbbmookhcalkaaDoor.ITxt
