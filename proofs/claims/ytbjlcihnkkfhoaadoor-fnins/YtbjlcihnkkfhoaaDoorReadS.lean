/- The contract of the specification's InsRead. -/
import Derived.Test.YtbjlcihnkkfhoaaDoorReadI
namespace Go.Proofs.YtbjlcihnkkfhoaaDoor.ReadS
open Go.ChangeShapes Go.WideShapes Go.ChangeAt Go.RowKit Go.Joins
open Go.Proofs.YtbjlcihnkkfhoaaDoor.Base Go.Proofs.YtbjlcihnkkfhoaaDoor.Num Go.Proofs.YtbjlcihnkkfhoaaDoor.InsA Go.Proofs.YtbjlcihnkkfhoaaDoor.InsB Go.Proofs.YtbjlcihnkkfhoaaDoor.Split Go.Proofs.YtbjlcihnkkfhoaaDoor.Read Go.Proofs.YtbjlcihnkkfhoaaDoor.ReadI
open Go.Proofs.YtbjlcihnkkfhoaaDoor.Name (nameB)
open Go.Proofs.YtbjlcihnkkfhoaaDoor.Text (wordA words_any)
open Go.Proofs.YtbjlcihnkkfhoaaDoor.NumA (NumRes NumLeft num_any)
open Go.Lib (decDigits itoa)
set_option linter.unusedVariables false

/-- No kind below k is that of this text. -/
def NoneBelow (wd rs : ByteArray) (sp : Bool) (k : Nat) : Prop := ∀ (o n : Int) t, o < k → ¬ InsGood wd rs sp o n t
theorem nb_step {wd rs : ByteArray} {sp : Bool} {k : Nat} (h : NoneBelow wd rs sp k) (hk : ∀ n t, ¬ InsGood wd rs sp k n t) : NoneBelow wd rs sp (k + 1) := fun o n t ho => by
  rcases Int.lt_or_eq_of_le (show o ≤ k by omega) with h' | h'
  · exact h o n t h'
  · rw [h']; exact hk n t
theorem nb_one (wd rs : ByteArray) (sp : Bool) : NoneBelow wd rs sp 1 := fun o n t ho h => by have := (good_kind h).1; omega
theorem nb_all {wd rs : ByteArray} {sp : Bool} (h : NoneBelow wd rs sp 8) : ∀ o n t, ¬ InsGood wd rs sp o n t := fun o n t hg => h o n t (by have := (good_kind hg).1; omega) hg
theorem word_cell (k : Nat) (h1 : 1 ≤ k) (h7 : k ≤ 7) (wx : World) :
    (wx.alloc (.cells #[.string ⟨#[]⟩, .string ⟨#[115, 97, 121]⟩, .string ⟨#[97, 100, 100]⟩, .string ⟨#[99, 97, 108, 108]⟩, .string ⟨#[103, 111]⟩, .string ⟨#[105, 102]⟩, .string ⟨#[114, 101, 116]⟩, .string ⟨#[101, 110, 100]⟩] 9)).cell? ⟨wx.heap.size, k, none⟩ = some (.string (wordA k)) := by
  rw [cell_of_block (new_block wx _)]
  have hk : k = 1 ∨ k = 2 ∨ k = 3 ∨ k = 4 ∨ k = 5 ∨ k = 6 ∨ k = 7 := by omega
  rcases hk with rfl | rfl | rfl | rfl | rfl | rfl | rfl <;> rfl

theorem out_two {m : Int} (h : m < -1000 ∨ 1000 < m) : insOkB 2 m ⟨#[]⟩ = false := by
  unfold insOkB; rw [if_pos rfl]; simp; omega
theorem no_out {m : Int} {l : List UInt8} (hm : itoa m = l) (h : m < -1000 ∨ 1000 < m) : NoNum l := fun n h1 h2 e => by
  have := itoa_inj (e.trans hm.symm)
  omega
theorem none_of {s : ByteArray} (h : ¬ ∃ j, FirstAt s 32 j) : NoneTo s 32 s.size := by
  have key : ∀ k, k ≤ s.size → NoneTo s 32 k := by
    intro k
    induction k with
    | zero => intro _; exact none_zero s 32
    | succ k ih =>
      intro hk
      have hn := ih (by omega)
      exact none_step hn (by omega) (fun e => h ⟨k, by omega, e, hn⟩)
  exact key _ (Nat.le_refl _)

set_option maxHeartbeats 4000000 in
theorem spec_no (s : ByteArray) (w : World) (hs : s.size ≤ maxLen) (hn : NoneTo s 32 s.size) :
    Calls Tryd.prog 12 #[.string s] w (ReadLeft s w) := by
  have HP : Hid (Parted s s ⟨#[]⟩ false) := .inl ⟨rfl, hn, rfl, rfl⟩
  have HN := hide hn
  clear hn
  have hrs' : (⟨#[]⟩ : ByteArray).size ≤ maxLen := by decide
  go_enter Tryd.func12, Tryd.ntmps12
  go_wp2_with fail
  refine (find_any s 32 _ hs).mono ?_
  rintro e w1 ⟨rfl, hf⟩
  rcases hf with ⟨_, rfl⟩ | ⟨k, hk, rfl⟩
  · go_wp2_with fail
    go_loopw [7] (fun op w' => ∃ k : Nat, 1 ≤ k ∧ k ≤ 8 ∧ op = .int .i64 k ∧ NoneBelow (s) (⟨#[]⟩) false k ∧ w'.heap[w.heap.size]? = some (.cells #[.int .i64 0, .int .i64 0, .string ⟨#[]⟩] 24) ∧ Below w.heap.size w w') (fun op _ => 8 - (intOf op).toNat)
    case atStart => exact ⟨1, by omega, by omega, rfl, nb_one _ _ _, new_block w _, below_alloc1 _ _⟩
    case round =>
      obtain ⟨k, hk1, hk2, rfl, hnb, hbx, hB⟩ := hrel
      have HNb := hide hnb
      have HX := hide hbx
      have hlt := (Array.getElem?_eq_some_iff.1 hbx).1
      clear hnb hbx
      by_cases h8 : k = 8
      · subst h8
        obtain ⟨⟨c0, c1, c2⟩, f0, f1, f2⟩ := box3 (unhide HX)
        go_wp2_with fail
        exact bodyPost_ret (v := .tuple #[.agg #[.int .i64 0, .int .i64 0, .string ⟨#[]⟩], .bool false]) (by simp [results, Tryd.results12, go_sem, c0, c1, c2]) rfl ⟨_, _, false, 0, 0, ⟨#[]⟩, false, rfl, unhide HP, .inr ⟨rfl, rfl, rfl, rfl, nb_all (unhide HNb)⟩, (((hB).setCell (Nat.le_refl _) _).setCell (Nat.le_refl _) _).setCell (Nat.le_refl _) _⟩
      · have h7 : k ≤ 7 := by omega
        by_cases hw : s = wordA k
        · have hk7 : k = 1 ∨ k = 2 ∨ k = 3 ∨ k = 4 ∨ k = 5 ∨ k = 6 ∨ k = 7 := by omega
          rcases hk7 with rfl | rfl | rfl | rfl | rfl | rfl | rfl
          · have hw' : s = wordA 1 := hw
            have hwc := word_cell 1 (by omega) (by omega) wr
            have hwb : ((wordA 1).toList == (s).toList) = true := by rw [← hw']; simp
            have HW := hide hw'
            have hrB : refsB 1 = false := by decide
            clear hw hw'
            have HXa := hide (box_below (box_below (unhide HX) (below_alloc1 wr (.cells #[.string ⟨#[]⟩, .string ⟨#[115, 97, 121]⟩, .string ⟨#[97, 100, 100]⟩, .string ⟨#[99, 97, 108, 108]⟩, .string ⟨#[103, 111]⟩, .string ⟨#[105, 102]⟩, .string ⟨#[114, 101, 116]⟩, .string ⟨#[101, 110, 100]⟩] 9))) (below_alloc1 _ (.cells #[.int .i64 1, .int .i64 0, .string ⟨#[]⟩] 24)))
            have HYa : Hid (((wr.alloc (.cells #[.string ⟨#[]⟩, .string ⟨#[115, 97, 121]⟩, .string ⟨#[97, 100, 100]⟩, .string ⟨#[99, 97, 108, 108]⟩, .string ⟨#[103, 111]⟩, .string ⟨#[105, 102]⟩, .string ⟨#[114, 101, 116]⟩, .string ⟨#[101, 110, 100]⟩] 9)).alloc (.cells #[.int .i64 1, .int .i64 0, .string ⟨#[]⟩] 24)).heap[wr.heap.size + 1]? = some (.cells #[.int .i64 1, .int .i64 0, .string ⟨#[]⟩] 24)) := by
              have h := new_block (wr.alloc (.cells #[.string ⟨#[]⟩, .string ⟨#[115, 97, 121]⟩, .string ⟨#[97, 100, 100]⟩, .string ⟨#[99, 97, 108, 108]⟩, .string ⟨#[103, 111]⟩, .string ⟨#[105, 102]⟩, .string ⟨#[114, 101, 116]⟩, .string ⟨#[101, 110, 100]⟩] 9)) (.cells #[.int .i64 1, .int .i64 0, .string ⟨#[]⟩] 24)
              rw [World.size_alloc] at h
              exact h
            have hBa := bl_alloc (bl_alloc hB (.cells #[.string ⟨#[]⟩, .string ⟨#[115, 97, 121]⟩, .string ⟨#[97, 100, 100]⟩, .string ⟨#[99, 97, 108, 108]⟩, .string ⟨#[103, 111]⟩, .string ⟨#[105, 102]⟩, .string ⟨#[114, 101, 116]⟩, .string ⟨#[101, 110, 100]⟩] 9)) (.cells #[.int .i64 1, .int .i64 0, .string ⟨#[]⟩] 24)
            go_wp2_with (go_at_call 30; refine (words_any _).mono ?_; rintro e wk ⟨rfl, rfl⟩)
            refine (specRefs_any _ _ _ _).mono ?_
            rintro e w3 ⟨rfl, hb3⟩
            have hB3 := bl_trans hBa hb3
            have HX3 := hide (box_below (unhide HXa) hb3)
            have HY3 := hide (box_below (unhide HYa) hb3)
            clear hb3
            obtain ⟨⟨d0, d1, d2⟩, g0, g1, g2⟩ := box3 (unhide HY3)
            have eok := ok_bare (o := 1) (by omega)
            go_wp2_with fail
            refine (specOk_any _ _ _ _ (by decide)).mono ?_
            rintro e w4 ⟨rfl, hb4⟩
            have hB4 := bl_trans hB3 hb4
            have HX4 := box_below (unhide HX3) hb4
            have HY4 := box_below (unhide HY3) hb4
            clear hb4 d0 d1 d2 g0 g1 g2
            obtain ⟨⟨c0, c1, c2⟩, f0, f1, f2⟩ := box3 HX4
            obtain ⟨⟨d0, d1, d2⟩, g0, g1, g2⟩ := box3 HY4
            clear HX4 HY4
            go_wp2_with fail
            exact bodyPost_ret (v := .tuple #[.agg #[.int .i64 1, .int .i64 0, .string ⟨#[]⟩], .bool true]) (by simp [results, Tryd.results12, go_sem, c0, c1, c2]) rfl ⟨_, _, false, 1, 0, ⟨#[]⟩, true, rfl, unhide HP, .inl ⟨rfl, .inr (.inr ⟨by omega, unhide HW, rfl, rfl, rfl⟩)⟩, (((hB4).setCell (Nat.le_refl _) _).setCell (Nat.le_refl _) _).setCell (Nat.le_refl _) _⟩
          · have hw' : s = wordA 2 := hw
            have hwc := word_cell 2 (by omega) (by omega) wr
            have hwb : ((wordA 2).toList == (s).toList) = true := by rw [← hw']; simp
            have HW := hide hw'
            have hrB : refsB 2 = false := by decide
            clear hw hw'
            have HXa := hide (box_below (box_below (unhide HX) (below_alloc1 wr (.cells #[.string ⟨#[]⟩, .string ⟨#[115, 97, 121]⟩, .string ⟨#[97, 100, 100]⟩, .string ⟨#[99, 97, 108, 108]⟩, .string ⟨#[103, 111]⟩, .string ⟨#[105, 102]⟩, .string ⟨#[114, 101, 116]⟩, .string ⟨#[101, 110, 100]⟩] 9))) (below_alloc1 _ (.cells #[.int .i64 2, .int .i64 0, .string ⟨#[]⟩] 24)))
            have HYa : Hid (((wr.alloc (.cells #[.string ⟨#[]⟩, .string ⟨#[115, 97, 121]⟩, .string ⟨#[97, 100, 100]⟩, .string ⟨#[99, 97, 108, 108]⟩, .string ⟨#[103, 111]⟩, .string ⟨#[105, 102]⟩, .string ⟨#[114, 101, 116]⟩, .string ⟨#[101, 110, 100]⟩] 9)).alloc (.cells #[.int .i64 2, .int .i64 0, .string ⟨#[]⟩] 24)).heap[wr.heap.size + 1]? = some (.cells #[.int .i64 2, .int .i64 0, .string ⟨#[]⟩] 24)) := by
              have h := new_block (wr.alloc (.cells #[.string ⟨#[]⟩, .string ⟨#[115, 97, 121]⟩, .string ⟨#[97, 100, 100]⟩, .string ⟨#[99, 97, 108, 108]⟩, .string ⟨#[103, 111]⟩, .string ⟨#[105, 102]⟩, .string ⟨#[114, 101, 116]⟩, .string ⟨#[101, 110, 100]⟩] 9)) (.cells #[.int .i64 2, .int .i64 0, .string ⟨#[]⟩] 24)
              rw [World.size_alloc] at h
              exact h
            have hBa := bl_alloc (bl_alloc hB (.cells #[.string ⟨#[]⟩, .string ⟨#[115, 97, 121]⟩, .string ⟨#[97, 100, 100]⟩, .string ⟨#[99, 97, 108, 108]⟩, .string ⟨#[103, 111]⟩, .string ⟨#[105, 102]⟩, .string ⟨#[114, 101, 116]⟩, .string ⟨#[101, 110, 100]⟩] 9)) (.cells #[.int .i64 2, .int .i64 0, .string ⟨#[]⟩] 24)
            go_wp2_with (go_at_call 30; refine (words_any _).mono ?_; rintro e wk ⟨rfl, rfl⟩)
            refine (num_any _ _ hrs').mono ?_
            rintro e w3 ⟨rfl, m, ok, rfl, hR⟩
            clear HXa HYa hBa
            have HXa := hide (box_below (box_below (unhide HX) (below_alloc1 wr (.cells #[.string ⟨#[]⟩, .string ⟨#[115, 97, 121]⟩, .string ⟨#[97, 100, 100]⟩, .string ⟨#[99, 97, 108, 108]⟩, .string ⟨#[103, 111]⟩, .string ⟨#[105, 102]⟩, .string ⟨#[114, 101, 116]⟩, .string ⟨#[101, 110, 100]⟩] 9))) (below_alloc1 _ (.cells #[.int .i64 2, .int .i64 m, .string ⟨#[]⟩] 24)))
            have HYa : Hid (((wr.alloc (.cells #[.string ⟨#[]⟩, .string ⟨#[115, 97, 121]⟩, .string ⟨#[97, 100, 100]⟩, .string ⟨#[99, 97, 108, 108]⟩, .string ⟨#[103, 111]⟩, .string ⟨#[105, 102]⟩, .string ⟨#[114, 101, 116]⟩, .string ⟨#[101, 110, 100]⟩] 9)).alloc (.cells #[.int .i64 2, .int .i64 m, .string ⟨#[]⟩] 24)).heap[wr.heap.size + 1]? = some (.cells #[.int .i64 2, .int .i64 m, .string ⟨#[]⟩] 24)) := by
              have h := new_block (wr.alloc (.cells #[.string ⟨#[]⟩, .string ⟨#[115, 97, 121]⟩, .string ⟨#[97, 100, 100]⟩, .string ⟨#[99, 97, 108, 108]⟩, .string ⟨#[103, 111]⟩, .string ⟨#[105, 102]⟩, .string ⟨#[114, 101, 116]⟩, .string ⟨#[101, 110, 100]⟩] 9)) (.cells #[.int .i64 2, .int .i64 m, .string ⟨#[]⟩] 24)
              rw [World.size_alloc] at h
              exact h
            have hBa := bl_alloc (bl_alloc hB (.cells #[.string ⟨#[]⟩, .string ⟨#[115, 97, 121]⟩, .string ⟨#[97, 100, 100]⟩, .string ⟨#[99, 97, 108, 108]⟩, .string ⟨#[103, 111]⟩, .string ⟨#[105, 102]⟩, .string ⟨#[114, 101, 116]⟩, .string ⟨#[101, 110, 100]⟩] 9)) (.cells #[.int .i64 2, .int .i64 m, .string ⟨#[]⟩] 24)
            rcases hR with ⟨rfl, hm, hm1, hm2⟩ | ⟨rfl, rfl, hno⟩
            · have HM := hide hm
              clear hm
              go_wp2_with fail
              refine (specOk_any _ _ _ _ (by decide)).mono ?_
              rintro e w4 ⟨rfl, hb4⟩
              have hB4 := bl_trans hBa hb4
              have HX4 := hide (box_below (unhide HXa) hb4)
              have HY4 := hide (box_below (unhide HYa) hb4)
              clear hb4
              obtain ⟨⟨c0, c1, c2⟩, f0, f1, f2⟩ := box3 (unhide HX4)
              obtain ⟨⟨d0, d1, d2⟩, g0, g1, g2⟩ := box3 (unhide HY4)
              by_cases hin : -1000 ≤ m ∧ m ≤ 1000
              · have eok := ok_two hin.1 hin.2
                go_wp2_with fail
                exact bodyPost_ret (v := .tuple #[.agg #[.int .i64 2, .int .i64 m, .string ⟨#[]⟩], .bool true]) (by simp [results, Tryd.results12, go_sem, c0, c1, c2]) rfl ⟨_, _, false, 2, m, ⟨#[]⟩, true, rfl, unhide HP, .inl ⟨rfl, .inl ⟨rfl, unhide HW, hin.1, hin.2, unhide HM, rfl⟩⟩, (((hB4).setCell (Nat.le_refl _) _).setCell (Nat.le_refl _) _).setCell (Nat.le_refl _) _⟩
              · have eok := out_two (m := m) (by omega)
                go_wp2_with fail
                exact ⟨⟨2 + 1, by omega, by omega, by go_num, nb_step (unhide HNb) (fun n t => bad_two (unhide HW) (no_out (unhide HM) (by omega)) _ n t), unhide HX4, hB4⟩, by simp [intOf]⟩
            · have HNo := hide hno
              clear hno
              go_wp2_with fail
              exact ⟨⟨2 + 1, by omega, by omega, by go_num, nb_step (unhide HNb) (fun n t => bad_two (unhide HW) (unhide HNo) _ n t), unhide HXa, hBa⟩, by simp [intOf]⟩
          · have hw' : s = wordA 3 := hw
            have hwc := word_cell 3 (by omega) (by omega) wr
            have hwb : ((wordA 3).toList == (s).toList) = true := by rw [← hw']; simp
            have HW := hide hw'
            have hrB : refsB 3 = true := by decide
            clear hw hw'
            have HXa := hide (box_below (box_below (unhide HX) (below_alloc1 wr (.cells #[.string ⟨#[]⟩, .string ⟨#[115, 97, 121]⟩, .string ⟨#[97, 100, 100]⟩, .string ⟨#[99, 97, 108, 108]⟩, .string ⟨#[103, 111]⟩, .string ⟨#[105, 102]⟩, .string ⟨#[114, 101, 116]⟩, .string ⟨#[101, 110, 100]⟩] 9))) (below_alloc1 _ (.cells #[.int .i64 3, .int .i64 0, .string ⟨#[]⟩] 24)))
            have HYa : Hid (((wr.alloc (.cells #[.string ⟨#[]⟩, .string ⟨#[115, 97, 121]⟩, .string ⟨#[97, 100, 100]⟩, .string ⟨#[99, 97, 108, 108]⟩, .string ⟨#[103, 111]⟩, .string ⟨#[105, 102]⟩, .string ⟨#[114, 101, 116]⟩, .string ⟨#[101, 110, 100]⟩] 9)).alloc (.cells #[.int .i64 3, .int .i64 0, .string ⟨#[]⟩] 24)).heap[wr.heap.size + 1]? = some (.cells #[.int .i64 3, .int .i64 0, .string ⟨#[]⟩] 24)) := by
              have h := new_block (wr.alloc (.cells #[.string ⟨#[]⟩, .string ⟨#[115, 97, 121]⟩, .string ⟨#[97, 100, 100]⟩, .string ⟨#[99, 97, 108, 108]⟩, .string ⟨#[103, 111]⟩, .string ⟨#[105, 102]⟩, .string ⟨#[114, 101, 116]⟩, .string ⟨#[101, 110, 100]⟩] 9)) (.cells #[.int .i64 3, .int .i64 0, .string ⟨#[]⟩] 24)
              rw [World.size_alloc] at h
              exact h
            have hBa := bl_alloc (bl_alloc hB (.cells #[.string ⟨#[]⟩, .string ⟨#[115, 97, 121]⟩, .string ⟨#[97, 100, 100]⟩, .string ⟨#[99, 97, 108, 108]⟩, .string ⟨#[103, 111]⟩, .string ⟨#[105, 102]⟩, .string ⟨#[114, 101, 116]⟩, .string ⟨#[101, 110, 100]⟩] 9)) (.cells #[.int .i64 3, .int .i64 0, .string ⟨#[]⟩] 24)
            go_wp2_with (go_at_call 30; refine (words_any _).mono ?_; rintro e wk ⟨rfl, rfl⟩)
            refine (specRefs_any _ _ _ _).mono ?_
            rintro e w3 ⟨rfl, hb3⟩
            have hB3 := bl_trans hBa hb3
            have HX3 := hide (box_below (unhide HXa) hb3)
            have HY3 := hide (box_below (unhide HYa) hb3)
            clear hb3
            obtain ⟨⟨d0, d1, d2⟩, g0, g1, g2⟩ := box3 (unhide HY3)
            have eok := ok_refs (o := 3) (by omega) (⟨#[]⟩)
            have HYs : Hid ((w3.setCell ⟨wr.heap.size + 1, 2, none⟩ (.string (⟨#[]⟩))).heap[wr.heap.size + 1]? = some (.cells #[.int .i64 3, .int .i64 0, .string (⟨#[]⟩)] 24)) := block_setCell (unhide HY3) (.string (⟨#[]⟩))
            have HXs : Hid ((w3.setCell ⟨wr.heap.size + 1, 2, none⟩ (.string (⟨#[]⟩))).heap[w.heap.size]? = some (.cells #[.int .i64 0, .int .i64 0, .string ⟨#[]⟩] 24)) := (Below.heap_setCell w3 ⟨wr.heap.size + 1, 2, none⟩ (.string (⟨#[]⟩)) w.heap.size (by show w.heap.size ≠ wr.heap.size + 1; omega)).trans (unhide HX3)
            have hBs := hB3.setCell (p := ⟨wr.heap.size + 1, 2, none⟩) (show w.heap.size ≤ wr.heap.size + 1 by omega) (.string (⟨#[]⟩))
            go_wp2_with fail
            refine (specOk_any _ _ _ _ hrs').mono ?_
            rintro e w4 ⟨rfl, hb4⟩
            have hB4 := bl_trans hBs hb4
            have HX4 := hide (box_below (unhide HXs) hb4)
            have HY4 := hide (box_below (unhide HYs) hb4)
            clear hb4 d0 d1 d2 g0 g1 g2
            obtain ⟨⟨c0, c1, c2⟩, f0, f1, f2⟩ := box3 (unhide HX4)
            obtain ⟨⟨d0, d1, d2⟩, g0, g1, g2⟩ := box3 (unhide HY4)
            cases hnb : nameB (⟨#[]⟩)
            · rw [hnb] at eok
              go_wp2_with fail
              exact ⟨⟨3 + 1, by omega, by omega, by go_num, nb_step (unhide HNb) (fun n t => bad_refs (o := 3) (by omega) (unhide HW) hnb _ n t), unhide HX4, hB4⟩, by simp [intOf]⟩
            · rw [hnb] at eok
              go_wp2_with fail
              exact bodyPost_ret (v := .tuple #[.agg #[.int .i64 3, .int .i64 0, .string (⟨#[]⟩)], .bool true]) (by simp [results, Tryd.results12, go_sem, c0, c1, c2]) rfl ⟨_, _, false, 3, 0, (⟨#[]⟩), true, rfl, unhide HP, .inl ⟨rfl, .inr (.inl ⟨by omega, unhide HW, rfl, rfl, hnb⟩)⟩, (((hB4).setCell (Nat.le_refl _) _).setCell (Nat.le_refl _) _).setCell (Nat.le_refl _) _⟩
          · have hw' : s = wordA 4 := hw
            have hwc := word_cell 4 (by omega) (by omega) wr
            have hwb : ((wordA 4).toList == (s).toList) = true := by rw [← hw']; simp
            have HW := hide hw'
            have hrB : refsB 4 = true := by decide
            clear hw hw'
            have HXa := hide (box_below (box_below (unhide HX) (below_alloc1 wr (.cells #[.string ⟨#[]⟩, .string ⟨#[115, 97, 121]⟩, .string ⟨#[97, 100, 100]⟩, .string ⟨#[99, 97, 108, 108]⟩, .string ⟨#[103, 111]⟩, .string ⟨#[105, 102]⟩, .string ⟨#[114, 101, 116]⟩, .string ⟨#[101, 110, 100]⟩] 9))) (below_alloc1 _ (.cells #[.int .i64 4, .int .i64 0, .string ⟨#[]⟩] 24)))
            have HYa : Hid (((wr.alloc (.cells #[.string ⟨#[]⟩, .string ⟨#[115, 97, 121]⟩, .string ⟨#[97, 100, 100]⟩, .string ⟨#[99, 97, 108, 108]⟩, .string ⟨#[103, 111]⟩, .string ⟨#[105, 102]⟩, .string ⟨#[114, 101, 116]⟩, .string ⟨#[101, 110, 100]⟩] 9)).alloc (.cells #[.int .i64 4, .int .i64 0, .string ⟨#[]⟩] 24)).heap[wr.heap.size + 1]? = some (.cells #[.int .i64 4, .int .i64 0, .string ⟨#[]⟩] 24)) := by
              have h := new_block (wr.alloc (.cells #[.string ⟨#[]⟩, .string ⟨#[115, 97, 121]⟩, .string ⟨#[97, 100, 100]⟩, .string ⟨#[99, 97, 108, 108]⟩, .string ⟨#[103, 111]⟩, .string ⟨#[105, 102]⟩, .string ⟨#[114, 101, 116]⟩, .string ⟨#[101, 110, 100]⟩] 9)) (.cells #[.int .i64 4, .int .i64 0, .string ⟨#[]⟩] 24)
              rw [World.size_alloc] at h
              exact h
            have hBa := bl_alloc (bl_alloc hB (.cells #[.string ⟨#[]⟩, .string ⟨#[115, 97, 121]⟩, .string ⟨#[97, 100, 100]⟩, .string ⟨#[99, 97, 108, 108]⟩, .string ⟨#[103, 111]⟩, .string ⟨#[105, 102]⟩, .string ⟨#[114, 101, 116]⟩, .string ⟨#[101, 110, 100]⟩] 9)) (.cells #[.int .i64 4, .int .i64 0, .string ⟨#[]⟩] 24)
            go_wp2_with (go_at_call 30; refine (words_any _).mono ?_; rintro e wk ⟨rfl, rfl⟩)
            refine (specRefs_any _ _ _ _).mono ?_
            rintro e w3 ⟨rfl, hb3⟩
            have hB3 := bl_trans hBa hb3
            have HX3 := hide (box_below (unhide HXa) hb3)
            have HY3 := hide (box_below (unhide HYa) hb3)
            clear hb3
            obtain ⟨⟨d0, d1, d2⟩, g0, g1, g2⟩ := box3 (unhide HY3)
            have eok := ok_refs (o := 4) (by omega) (⟨#[]⟩)
            have HYs : Hid ((w3.setCell ⟨wr.heap.size + 1, 2, none⟩ (.string (⟨#[]⟩))).heap[wr.heap.size + 1]? = some (.cells #[.int .i64 4, .int .i64 0, .string (⟨#[]⟩)] 24)) := block_setCell (unhide HY3) (.string (⟨#[]⟩))
            have HXs : Hid ((w3.setCell ⟨wr.heap.size + 1, 2, none⟩ (.string (⟨#[]⟩))).heap[w.heap.size]? = some (.cells #[.int .i64 0, .int .i64 0, .string ⟨#[]⟩] 24)) := (Below.heap_setCell w3 ⟨wr.heap.size + 1, 2, none⟩ (.string (⟨#[]⟩)) w.heap.size (by show w.heap.size ≠ wr.heap.size + 1; omega)).trans (unhide HX3)
            have hBs := hB3.setCell (p := ⟨wr.heap.size + 1, 2, none⟩) (show w.heap.size ≤ wr.heap.size + 1 by omega) (.string (⟨#[]⟩))
            go_wp2_with fail
            refine (specOk_any _ _ _ _ hrs').mono ?_
            rintro e w4 ⟨rfl, hb4⟩
            have hB4 := bl_trans hBs hb4
            have HX4 := hide (box_below (unhide HXs) hb4)
            have HY4 := hide (box_below (unhide HYs) hb4)
            clear hb4 d0 d1 d2 g0 g1 g2
            obtain ⟨⟨c0, c1, c2⟩, f0, f1, f2⟩ := box3 (unhide HX4)
            obtain ⟨⟨d0, d1, d2⟩, g0, g1, g2⟩ := box3 (unhide HY4)
            cases hnb : nameB (⟨#[]⟩)
            · rw [hnb] at eok
              go_wp2_with fail
              exact ⟨⟨4 + 1, by omega, by omega, by go_num, nb_step (unhide HNb) (fun n t => bad_refs (o := 4) (by omega) (unhide HW) hnb _ n t), unhide HX4, hB4⟩, by simp [intOf]⟩
            · rw [hnb] at eok
              go_wp2_with fail
              exact bodyPost_ret (v := .tuple #[.agg #[.int .i64 4, .int .i64 0, .string (⟨#[]⟩)], .bool true]) (by simp [results, Tryd.results12, go_sem, c0, c1, c2]) rfl ⟨_, _, false, 4, 0, (⟨#[]⟩), true, rfl, unhide HP, .inl ⟨rfl, .inr (.inl ⟨by omega, unhide HW, rfl, rfl, hnb⟩)⟩, (((hB4).setCell (Nat.le_refl _) _).setCell (Nat.le_refl _) _).setCell (Nat.le_refl _) _⟩
          · have hw' : s = wordA 5 := hw
            have hwc := word_cell 5 (by omega) (by omega) wr
            have hwb : ((wordA 5).toList == (s).toList) = true := by rw [← hw']; simp
            have HW := hide hw'
            have hrB : refsB 5 = true := by decide
            clear hw hw'
            have HXa := hide (box_below (box_below (unhide HX) (below_alloc1 wr (.cells #[.string ⟨#[]⟩, .string ⟨#[115, 97, 121]⟩, .string ⟨#[97, 100, 100]⟩, .string ⟨#[99, 97, 108, 108]⟩, .string ⟨#[103, 111]⟩, .string ⟨#[105, 102]⟩, .string ⟨#[114, 101, 116]⟩, .string ⟨#[101, 110, 100]⟩] 9))) (below_alloc1 _ (.cells #[.int .i64 5, .int .i64 0, .string ⟨#[]⟩] 24)))
            have HYa : Hid (((wr.alloc (.cells #[.string ⟨#[]⟩, .string ⟨#[115, 97, 121]⟩, .string ⟨#[97, 100, 100]⟩, .string ⟨#[99, 97, 108, 108]⟩, .string ⟨#[103, 111]⟩, .string ⟨#[105, 102]⟩, .string ⟨#[114, 101, 116]⟩, .string ⟨#[101, 110, 100]⟩] 9)).alloc (.cells #[.int .i64 5, .int .i64 0, .string ⟨#[]⟩] 24)).heap[wr.heap.size + 1]? = some (.cells #[.int .i64 5, .int .i64 0, .string ⟨#[]⟩] 24)) := by
              have h := new_block (wr.alloc (.cells #[.string ⟨#[]⟩, .string ⟨#[115, 97, 121]⟩, .string ⟨#[97, 100, 100]⟩, .string ⟨#[99, 97, 108, 108]⟩, .string ⟨#[103, 111]⟩, .string ⟨#[105, 102]⟩, .string ⟨#[114, 101, 116]⟩, .string ⟨#[101, 110, 100]⟩] 9)) (.cells #[.int .i64 5, .int .i64 0, .string ⟨#[]⟩] 24)
              rw [World.size_alloc] at h
              exact h
            have hBa := bl_alloc (bl_alloc hB (.cells #[.string ⟨#[]⟩, .string ⟨#[115, 97, 121]⟩, .string ⟨#[97, 100, 100]⟩, .string ⟨#[99, 97, 108, 108]⟩, .string ⟨#[103, 111]⟩, .string ⟨#[105, 102]⟩, .string ⟨#[114, 101, 116]⟩, .string ⟨#[101, 110, 100]⟩] 9)) (.cells #[.int .i64 5, .int .i64 0, .string ⟨#[]⟩] 24)
            go_wp2_with (go_at_call 30; refine (words_any _).mono ?_; rintro e wk ⟨rfl, rfl⟩)
            refine (specRefs_any _ _ _ _).mono ?_
            rintro e w3 ⟨rfl, hb3⟩
            have hB3 := bl_trans hBa hb3
            have HX3 := hide (box_below (unhide HXa) hb3)
            have HY3 := hide (box_below (unhide HYa) hb3)
            clear hb3
            obtain ⟨⟨d0, d1, d2⟩, g0, g1, g2⟩ := box3 (unhide HY3)
            have eok := ok_refs (o := 5) (by omega) (⟨#[]⟩)
            have HYs : Hid ((w3.setCell ⟨wr.heap.size + 1, 2, none⟩ (.string (⟨#[]⟩))).heap[wr.heap.size + 1]? = some (.cells #[.int .i64 5, .int .i64 0, .string (⟨#[]⟩)] 24)) := block_setCell (unhide HY3) (.string (⟨#[]⟩))
            have HXs : Hid ((w3.setCell ⟨wr.heap.size + 1, 2, none⟩ (.string (⟨#[]⟩))).heap[w.heap.size]? = some (.cells #[.int .i64 0, .int .i64 0, .string ⟨#[]⟩] 24)) := (Below.heap_setCell w3 ⟨wr.heap.size + 1, 2, none⟩ (.string (⟨#[]⟩)) w.heap.size (by show w.heap.size ≠ wr.heap.size + 1; omega)).trans (unhide HX3)
            have hBs := hB3.setCell (p := ⟨wr.heap.size + 1, 2, none⟩) (show w.heap.size ≤ wr.heap.size + 1 by omega) (.string (⟨#[]⟩))
            go_wp2_with fail
            refine (specOk_any _ _ _ _ hrs').mono ?_
            rintro e w4 ⟨rfl, hb4⟩
            have hB4 := bl_trans hBs hb4
            have HX4 := hide (box_below (unhide HXs) hb4)
            have HY4 := hide (box_below (unhide HYs) hb4)
            clear hb4 d0 d1 d2 g0 g1 g2
            obtain ⟨⟨c0, c1, c2⟩, f0, f1, f2⟩ := box3 (unhide HX4)
            obtain ⟨⟨d0, d1, d2⟩, g0, g1, g2⟩ := box3 (unhide HY4)
            cases hnb : nameB (⟨#[]⟩)
            · rw [hnb] at eok
              go_wp2_with fail
              exact ⟨⟨5 + 1, by omega, by omega, by go_num, nb_step (unhide HNb) (fun n t => bad_refs (o := 5) (by omega) (unhide HW) hnb _ n t), unhide HX4, hB4⟩, by simp [intOf]⟩
            · rw [hnb] at eok
              go_wp2_with fail
              exact bodyPost_ret (v := .tuple #[.agg #[.int .i64 5, .int .i64 0, .string (⟨#[]⟩)], .bool true]) (by simp [results, Tryd.results12, go_sem, c0, c1, c2]) rfl ⟨_, _, false, 5, 0, (⟨#[]⟩), true, rfl, unhide HP, .inl ⟨rfl, .inr (.inl ⟨by omega, unhide HW, rfl, rfl, hnb⟩)⟩, (((hB4).setCell (Nat.le_refl _) _).setCell (Nat.le_refl _) _).setCell (Nat.le_refl _) _⟩
          · have hw' : s = wordA 6 := hw
            have hwc := word_cell 6 (by omega) (by omega) wr
            have hwb : ((wordA 6).toList == (s).toList) = true := by rw [← hw']; simp
            have HW := hide hw'
            have hrB : refsB 6 = false := by decide
            clear hw hw'
            have HXa := hide (box_below (box_below (unhide HX) (below_alloc1 wr (.cells #[.string ⟨#[]⟩, .string ⟨#[115, 97, 121]⟩, .string ⟨#[97, 100, 100]⟩, .string ⟨#[99, 97, 108, 108]⟩, .string ⟨#[103, 111]⟩, .string ⟨#[105, 102]⟩, .string ⟨#[114, 101, 116]⟩, .string ⟨#[101, 110, 100]⟩] 9))) (below_alloc1 _ (.cells #[.int .i64 6, .int .i64 0, .string ⟨#[]⟩] 24)))
            have HYa : Hid (((wr.alloc (.cells #[.string ⟨#[]⟩, .string ⟨#[115, 97, 121]⟩, .string ⟨#[97, 100, 100]⟩, .string ⟨#[99, 97, 108, 108]⟩, .string ⟨#[103, 111]⟩, .string ⟨#[105, 102]⟩, .string ⟨#[114, 101, 116]⟩, .string ⟨#[101, 110, 100]⟩] 9)).alloc (.cells #[.int .i64 6, .int .i64 0, .string ⟨#[]⟩] 24)).heap[wr.heap.size + 1]? = some (.cells #[.int .i64 6, .int .i64 0, .string ⟨#[]⟩] 24)) := by
              have h := new_block (wr.alloc (.cells #[.string ⟨#[]⟩, .string ⟨#[115, 97, 121]⟩, .string ⟨#[97, 100, 100]⟩, .string ⟨#[99, 97, 108, 108]⟩, .string ⟨#[103, 111]⟩, .string ⟨#[105, 102]⟩, .string ⟨#[114, 101, 116]⟩, .string ⟨#[101, 110, 100]⟩] 9)) (.cells #[.int .i64 6, .int .i64 0, .string ⟨#[]⟩] 24)
              rw [World.size_alloc] at h
              exact h
            have hBa := bl_alloc (bl_alloc hB (.cells #[.string ⟨#[]⟩, .string ⟨#[115, 97, 121]⟩, .string ⟨#[97, 100, 100]⟩, .string ⟨#[99, 97, 108, 108]⟩, .string ⟨#[103, 111]⟩, .string ⟨#[105, 102]⟩, .string ⟨#[114, 101, 116]⟩, .string ⟨#[101, 110, 100]⟩] 9)) (.cells #[.int .i64 6, .int .i64 0, .string ⟨#[]⟩] 24)
            go_wp2_with (go_at_call 30; refine (words_any _).mono ?_; rintro e wk ⟨rfl, rfl⟩)
            refine (specRefs_any _ _ _ _).mono ?_
            rintro e w3 ⟨rfl, hb3⟩
            have hB3 := bl_trans hBa hb3
            have HX3 := hide (box_below (unhide HXa) hb3)
            have HY3 := hide (box_below (unhide HYa) hb3)
            clear hb3
            obtain ⟨⟨d0, d1, d2⟩, g0, g1, g2⟩ := box3 (unhide HY3)
            have eok := ok_bare (o := 6) (by omega)
            go_wp2_with fail
            refine (specOk_any _ _ _ _ (by decide)).mono ?_
            rintro e w4 ⟨rfl, hb4⟩
            have hB4 := bl_trans hB3 hb4
            have HX4 := box_below (unhide HX3) hb4
            have HY4 := box_below (unhide HY3) hb4
            clear hb4 d0 d1 d2 g0 g1 g2
            obtain ⟨⟨c0, c1, c2⟩, f0, f1, f2⟩ := box3 HX4
            obtain ⟨⟨d0, d1, d2⟩, g0, g1, g2⟩ := box3 HY4
            clear HX4 HY4
            go_wp2_with fail
            exact bodyPost_ret (v := .tuple #[.agg #[.int .i64 6, .int .i64 0, .string ⟨#[]⟩], .bool true]) (by simp [results, Tryd.results12, go_sem, c0, c1, c2]) rfl ⟨_, _, false, 6, 0, ⟨#[]⟩, true, rfl, unhide HP, .inl ⟨rfl, .inr (.inr ⟨by omega, unhide HW, rfl, rfl, rfl⟩)⟩, (((hB4).setCell (Nat.le_refl _) _).setCell (Nat.le_refl _) _).setCell (Nat.le_refl _) _⟩
          · have hw' : s = wordA 7 := hw
            have hwc := word_cell 7 (by omega) (by omega) wr
            have hwb : ((wordA 7).toList == (s).toList) = true := by rw [← hw']; simp
            have HW := hide hw'
            have hrB : refsB 7 = false := by decide
            clear hw hw'
            have HXa := hide (box_below (box_below (unhide HX) (below_alloc1 wr (.cells #[.string ⟨#[]⟩, .string ⟨#[115, 97, 121]⟩, .string ⟨#[97, 100, 100]⟩, .string ⟨#[99, 97, 108, 108]⟩, .string ⟨#[103, 111]⟩, .string ⟨#[105, 102]⟩, .string ⟨#[114, 101, 116]⟩, .string ⟨#[101, 110, 100]⟩] 9))) (below_alloc1 _ (.cells #[.int .i64 7, .int .i64 0, .string ⟨#[]⟩] 24)))
            have HYa : Hid (((wr.alloc (.cells #[.string ⟨#[]⟩, .string ⟨#[115, 97, 121]⟩, .string ⟨#[97, 100, 100]⟩, .string ⟨#[99, 97, 108, 108]⟩, .string ⟨#[103, 111]⟩, .string ⟨#[105, 102]⟩, .string ⟨#[114, 101, 116]⟩, .string ⟨#[101, 110, 100]⟩] 9)).alloc (.cells #[.int .i64 7, .int .i64 0, .string ⟨#[]⟩] 24)).heap[wr.heap.size + 1]? = some (.cells #[.int .i64 7, .int .i64 0, .string ⟨#[]⟩] 24)) := by
              have h := new_block (wr.alloc (.cells #[.string ⟨#[]⟩, .string ⟨#[115, 97, 121]⟩, .string ⟨#[97, 100, 100]⟩, .string ⟨#[99, 97, 108, 108]⟩, .string ⟨#[103, 111]⟩, .string ⟨#[105, 102]⟩, .string ⟨#[114, 101, 116]⟩, .string ⟨#[101, 110, 100]⟩] 9)) (.cells #[.int .i64 7, .int .i64 0, .string ⟨#[]⟩] 24)
              rw [World.size_alloc] at h
              exact h
            have hBa := bl_alloc (bl_alloc hB (.cells #[.string ⟨#[]⟩, .string ⟨#[115, 97, 121]⟩, .string ⟨#[97, 100, 100]⟩, .string ⟨#[99, 97, 108, 108]⟩, .string ⟨#[103, 111]⟩, .string ⟨#[105, 102]⟩, .string ⟨#[114, 101, 116]⟩, .string ⟨#[101, 110, 100]⟩] 9)) (.cells #[.int .i64 7, .int .i64 0, .string ⟨#[]⟩] 24)
            go_wp2_with (go_at_call 30; refine (words_any _).mono ?_; rintro e wk ⟨rfl, rfl⟩)
            refine (specRefs_any _ _ _ _).mono ?_
            rintro e w3 ⟨rfl, hb3⟩
            have hB3 := bl_trans hBa hb3
            have HX3 := hide (box_below (unhide HXa) hb3)
            have HY3 := hide (box_below (unhide HYa) hb3)
            clear hb3
            obtain ⟨⟨d0, d1, d2⟩, g0, g1, g2⟩ := box3 (unhide HY3)
            have eok := ok_bare (o := 7) (by omega)
            go_wp2_with fail
            refine (specOk_any _ _ _ _ (by decide)).mono ?_
            rintro e w4 ⟨rfl, hb4⟩
            have hB4 := bl_trans hB3 hb4
            have HX4 := box_below (unhide HX3) hb4
            have HY4 := box_below (unhide HY3) hb4
            clear hb4 d0 d1 d2 g0 g1 g2
            obtain ⟨⟨c0, c1, c2⟩, f0, f1, f2⟩ := box3 HX4
            obtain ⟨⟨d0, d1, d2⟩, g0, g1, g2⟩ := box3 HY4
            clear HX4 HY4
            go_wp2_with fail
            exact bodyPost_ret (v := .tuple #[.agg #[.int .i64 7, .int .i64 0, .string ⟨#[]⟩], .bool true]) (by simp [results, Tryd.results12, go_sem, c0, c1, c2]) rfl ⟨_, _, false, 7, 0, ⟨#[]⟩, true, rfl, unhide HP, .inl ⟨rfl, .inr (.inr ⟨by omega, unhide HW, rfl, rfl, rfl⟩)⟩, (((hB4).setCell (Nat.le_refl _) _).setCell (Nat.le_refl _) _).setCell (Nat.le_refl _) _⟩
        · have hwc := word_cell k hk1 h7 wr
          have hwb : ((wordA (k : Int)).toList == (s).toList) = false := by
            rw [beq_eq_false_iff_ne, ByteArray.toList_eq, ByteArray.toList_eq]; intro e; exact hw (bytes_inj e.symm)
          have HW := hide hw
          clear hw
          have hk8 : (k : Int) ≤ 7 := by omega
          have hk9 : (k : Int) < 8 := by omega
          go_wp2_with (go_at_call 30; refine (words_any _).mono ?_; rintro e wk ⟨rfl, rfl⟩)
          exact ⟨⟨k + 1, by omega, by omega, by go_num, nb_step (unhide HNb) (fun n t h => unhide HW (good_kind h).2), box_below (unhide HX) (below_alloc1 _ _), bl_alloc hB _⟩, by simp [intOf]; omega⟩

  · exact (first_not_none hk (unhide HN)).elim

set_option maxHeartbeats 4000000 in
theorem spec_yes (s : ByteArray) (w : World) (hs : s.size ≤ maxLen) (j : Nat) (hj : FirstAt s 32 j) :
    Calls Tryd.prog 12 #[.string s] w (ReadLeft s w) := by
  have HP : Hid (Parted s (s.extract 0 j) (s.extract (j + 1) s.size) true) := .inr ⟨rfl, j, hj, rfl, rfl⟩
  have HJ := hide hj
  have hjs : j < s.size := hj.1
  clear hj
  have hj1 : (0 : Int) ≤ (j : Int) := by omega
  have hj2 : (j : Int) < (s.size : Int) := by omega
  have hj3 : (j : Int) + 1 ≤ (s.size : Int) := by omega
  have hrs' : (s.extract (j + 1) s.size).size ≤ maxLen := by rw [ByteArray.size_extract]; omega
  have hs2 := hs
  unfold maxLen at hs2
  go_enter Tryd.func12, Tryd.ntmps12
  go_wp2_with fail
  refine (find_any s 32 _ hs).mono ?_
  rintro e w1 ⟨rfl, hf⟩
  rcases hf with ⟨hn, rfl⟩ | ⟨k, hk, rfl⟩
  · exact (first_not_none (unhide HJ) hn).elim
  · obtain rfl := first_unique (unhide HJ) hk
    clear hk
    go_wp2_with fail
    go_loopw [7] (fun op w' => ∃ k : Nat, 1 ≤ k ∧ k ≤ 8 ∧ op = .int .i64 k ∧ NoneBelow (s.extract 0 j) (s.extract (j + 1) s.size) true k ∧ w'.heap[w.heap.size]? = some (.cells #[.int .i64 0, .int .i64 0, .string ⟨#[]⟩] 24) ∧ Below w.heap.size w w') (fun op _ => 8 - (intOf op).toNat)
    case atStart => exact ⟨1, by omega, by omega, rfl, nb_one _ _ _, new_block w _, below_alloc1 _ _⟩
    case round =>
      obtain ⟨k, hk1, hk2, rfl, hnb, hbx, hB⟩ := hrel
      have HNb := hide hnb
      have HX := hide hbx
      have hlt := (Array.getElem?_eq_some_iff.1 hbx).1
      clear hnb hbx
      by_cases h8 : k = 8
      · subst h8
        obtain ⟨⟨c0, c1, c2⟩, f0, f1, f2⟩ := box3 (unhide HX)
        go_wp2_with fail
        exact bodyPost_ret (v := .tuple #[.agg #[.int .i64 0, .int .i64 0, .string ⟨#[]⟩], .bool false]) (by simp [results, Tryd.results12, go_sem, c0, c1, c2]) rfl ⟨_, _, true, 0, 0, ⟨#[]⟩, false, rfl, unhide HP, .inr ⟨rfl, rfl, rfl, rfl, nb_all (unhide HNb)⟩, (((hB).setCell (Nat.le_refl _) _).setCell (Nat.le_refl _) _).setCell (Nat.le_refl _) _⟩
      · have h7 : k ≤ 7 := by omega
        by_cases hw : s.extract 0 j = wordA k
        · have hk7 : k = 1 ∨ k = 2 ∨ k = 3 ∨ k = 4 ∨ k = 5 ∨ k = 6 ∨ k = 7 := by omega
          rcases hk7 with rfl | rfl | rfl | rfl | rfl | rfl | rfl
          · have hw' : s.extract 0 j = wordA 1 := hw
            have hwc := word_cell 1 (by omega) (by omega) wr
            have hwb : ((wordA 1).toList == (s.extract 0 j).toList) = true := by rw [← hw']; simp
            have HW := hide hw'
            have hrB : refsB 1 = false := by decide
            clear hw hw'
            have HXa := hide (box_below (box_below (unhide HX) (below_alloc1 wr (.cells #[.string ⟨#[]⟩, .string ⟨#[115, 97, 121]⟩, .string ⟨#[97, 100, 100]⟩, .string ⟨#[99, 97, 108, 108]⟩, .string ⟨#[103, 111]⟩, .string ⟨#[105, 102]⟩, .string ⟨#[114, 101, 116]⟩, .string ⟨#[101, 110, 100]⟩] 9))) (below_alloc1 _ (.cells #[.int .i64 1, .int .i64 0, .string ⟨#[]⟩] 24)))
            have HYa : Hid (((wr.alloc (.cells #[.string ⟨#[]⟩, .string ⟨#[115, 97, 121]⟩, .string ⟨#[97, 100, 100]⟩, .string ⟨#[99, 97, 108, 108]⟩, .string ⟨#[103, 111]⟩, .string ⟨#[105, 102]⟩, .string ⟨#[114, 101, 116]⟩, .string ⟨#[101, 110, 100]⟩] 9)).alloc (.cells #[.int .i64 1, .int .i64 0, .string ⟨#[]⟩] 24)).heap[wr.heap.size + 1]? = some (.cells #[.int .i64 1, .int .i64 0, .string ⟨#[]⟩] 24)) := by
              have h := new_block (wr.alloc (.cells #[.string ⟨#[]⟩, .string ⟨#[115, 97, 121]⟩, .string ⟨#[97, 100, 100]⟩, .string ⟨#[99, 97, 108, 108]⟩, .string ⟨#[103, 111]⟩, .string ⟨#[105, 102]⟩, .string ⟨#[114, 101, 116]⟩, .string ⟨#[101, 110, 100]⟩] 9)) (.cells #[.int .i64 1, .int .i64 0, .string ⟨#[]⟩] 24)
              rw [World.size_alloc] at h
              exact h
            have hBa := bl_alloc (bl_alloc hB (.cells #[.string ⟨#[]⟩, .string ⟨#[115, 97, 121]⟩, .string ⟨#[97, 100, 100]⟩, .string ⟨#[99, 97, 108, 108]⟩, .string ⟨#[103, 111]⟩, .string ⟨#[105, 102]⟩, .string ⟨#[114, 101, 116]⟩, .string ⟨#[101, 110, 100]⟩] 9)) (.cells #[.int .i64 1, .int .i64 0, .string ⟨#[]⟩] 24)
            go_wp2_with (go_at_call 30; refine (words_any _).mono ?_; rintro e wk ⟨rfl, rfl⟩)
            refine (specRefs_any _ _ _ _).mono ?_
            rintro e w3 ⟨rfl, hb3⟩
            have hB3 := bl_trans hBa hb3
            have HX3 := hide (box_below (unhide HXa) hb3)
            have HY3 := hide (box_below (unhide HYa) hb3)
            clear hb3
            obtain ⟨⟨d0, d1, d2⟩, g0, g1, g2⟩ := box3 (unhide HY3)
            go_wp2_with fail
            exact ⟨⟨1 + 1, by omega, by omega, by go_num, nb_step (unhide HNb) (fun n t => bad_bare (o := 1) (by omega) (unhide HW) _ n t), unhide HX3, hB3⟩, by simp [intOf]⟩
          · have hw' : s.extract 0 j = wordA 2 := hw
            have hwc := word_cell 2 (by omega) (by omega) wr
            have hwb : ((wordA 2).toList == (s.extract 0 j).toList) = true := by rw [← hw']; simp
            have HW := hide hw'
            have hrB : refsB 2 = false := by decide
            clear hw hw'
            have HXa := hide (box_below (box_below (unhide HX) (below_alloc1 wr (.cells #[.string ⟨#[]⟩, .string ⟨#[115, 97, 121]⟩, .string ⟨#[97, 100, 100]⟩, .string ⟨#[99, 97, 108, 108]⟩, .string ⟨#[103, 111]⟩, .string ⟨#[105, 102]⟩, .string ⟨#[114, 101, 116]⟩, .string ⟨#[101, 110, 100]⟩] 9))) (below_alloc1 _ (.cells #[.int .i64 2, .int .i64 0, .string ⟨#[]⟩] 24)))
            have HYa : Hid (((wr.alloc (.cells #[.string ⟨#[]⟩, .string ⟨#[115, 97, 121]⟩, .string ⟨#[97, 100, 100]⟩, .string ⟨#[99, 97, 108, 108]⟩, .string ⟨#[103, 111]⟩, .string ⟨#[105, 102]⟩, .string ⟨#[114, 101, 116]⟩, .string ⟨#[101, 110, 100]⟩] 9)).alloc (.cells #[.int .i64 2, .int .i64 0, .string ⟨#[]⟩] 24)).heap[wr.heap.size + 1]? = some (.cells #[.int .i64 2, .int .i64 0, .string ⟨#[]⟩] 24)) := by
              have h := new_block (wr.alloc (.cells #[.string ⟨#[]⟩, .string ⟨#[115, 97, 121]⟩, .string ⟨#[97, 100, 100]⟩, .string ⟨#[99, 97, 108, 108]⟩, .string ⟨#[103, 111]⟩, .string ⟨#[105, 102]⟩, .string ⟨#[114, 101, 116]⟩, .string ⟨#[101, 110, 100]⟩] 9)) (.cells #[.int .i64 2, .int .i64 0, .string ⟨#[]⟩] 24)
              rw [World.size_alloc] at h
              exact h
            have hBa := bl_alloc (bl_alloc hB (.cells #[.string ⟨#[]⟩, .string ⟨#[115, 97, 121]⟩, .string ⟨#[97, 100, 100]⟩, .string ⟨#[99, 97, 108, 108]⟩, .string ⟨#[103, 111]⟩, .string ⟨#[105, 102]⟩, .string ⟨#[114, 101, 116]⟩, .string ⟨#[101, 110, 100]⟩] 9)) (.cells #[.int .i64 2, .int .i64 0, .string ⟨#[]⟩] 24)
            go_wp2_with (go_at_call 30; refine (words_any _).mono ?_; rintro e wk ⟨rfl, rfl⟩)
            refine (num_any _ _ hrs').mono ?_
            rintro e w3 ⟨rfl, m, ok, rfl, hR⟩
            clear HXa HYa hBa
            have HXa := hide (box_below (box_below (unhide HX) (below_alloc1 wr (.cells #[.string ⟨#[]⟩, .string ⟨#[115, 97, 121]⟩, .string ⟨#[97, 100, 100]⟩, .string ⟨#[99, 97, 108, 108]⟩, .string ⟨#[103, 111]⟩, .string ⟨#[105, 102]⟩, .string ⟨#[114, 101, 116]⟩, .string ⟨#[101, 110, 100]⟩] 9))) (below_alloc1 _ (.cells #[.int .i64 2, .int .i64 m, .string ⟨#[]⟩] 24)))
            have HYa : Hid (((wr.alloc (.cells #[.string ⟨#[]⟩, .string ⟨#[115, 97, 121]⟩, .string ⟨#[97, 100, 100]⟩, .string ⟨#[99, 97, 108, 108]⟩, .string ⟨#[103, 111]⟩, .string ⟨#[105, 102]⟩, .string ⟨#[114, 101, 116]⟩, .string ⟨#[101, 110, 100]⟩] 9)).alloc (.cells #[.int .i64 2, .int .i64 m, .string ⟨#[]⟩] 24)).heap[wr.heap.size + 1]? = some (.cells #[.int .i64 2, .int .i64 m, .string ⟨#[]⟩] 24)) := by
              have h := new_block (wr.alloc (.cells #[.string ⟨#[]⟩, .string ⟨#[115, 97, 121]⟩, .string ⟨#[97, 100, 100]⟩, .string ⟨#[99, 97, 108, 108]⟩, .string ⟨#[103, 111]⟩, .string ⟨#[105, 102]⟩, .string ⟨#[114, 101, 116]⟩, .string ⟨#[101, 110, 100]⟩] 9)) (.cells #[.int .i64 2, .int .i64 m, .string ⟨#[]⟩] 24)
              rw [World.size_alloc] at h
              exact h
            have hBa := bl_alloc (bl_alloc hB (.cells #[.string ⟨#[]⟩, .string ⟨#[115, 97, 121]⟩, .string ⟨#[97, 100, 100]⟩, .string ⟨#[99, 97, 108, 108]⟩, .string ⟨#[103, 111]⟩, .string ⟨#[105, 102]⟩, .string ⟨#[114, 101, 116]⟩, .string ⟨#[101, 110, 100]⟩] 9)) (.cells #[.int .i64 2, .int .i64 m, .string ⟨#[]⟩] 24)
            rcases hR with ⟨rfl, hm, hm1, hm2⟩ | ⟨rfl, rfl, hno⟩
            · have HM := hide hm
              clear hm
              go_wp2_with fail
              refine (specOk_any _ _ _ _ (by decide)).mono ?_
              rintro e w4 ⟨rfl, hb4⟩
              have hB4 := bl_trans hBa hb4
              have HX4 := hide (box_below (unhide HXa) hb4)
              have HY4 := hide (box_below (unhide HYa) hb4)
              clear hb4
              obtain ⟨⟨c0, c1, c2⟩, f0, f1, f2⟩ := box3 (unhide HX4)
              obtain ⟨⟨d0, d1, d2⟩, g0, g1, g2⟩ := box3 (unhide HY4)
              by_cases hin : -1000 ≤ m ∧ m ≤ 1000
              · have eok := ok_two hin.1 hin.2
                go_wp2_with fail
                exact bodyPost_ret (v := .tuple #[.agg #[.int .i64 2, .int .i64 m, .string ⟨#[]⟩], .bool true]) (by simp [results, Tryd.results12, go_sem, c0, c1, c2]) rfl ⟨_, _, true, 2, m, ⟨#[]⟩, true, rfl, unhide HP, .inl ⟨rfl, .inl ⟨rfl, unhide HW, hin.1, hin.2, unhide HM, rfl⟩⟩, (((hB4).setCell (Nat.le_refl _) _).setCell (Nat.le_refl _) _).setCell (Nat.le_refl _) _⟩
              · have eok := out_two (m := m) (by omega)
                go_wp2_with fail
                exact ⟨⟨2 + 1, by omega, by omega, by go_num, nb_step (unhide HNb) (fun n t => bad_two (unhide HW) (no_out (unhide HM) (by omega)) _ n t), unhide HX4, hB4⟩, by simp [intOf]⟩
            · have HNo := hide hno
              clear hno
              go_wp2_with fail
              exact ⟨⟨2 + 1, by omega, by omega, by go_num, nb_step (unhide HNb) (fun n t => bad_two (unhide HW) (unhide HNo) _ n t), unhide HXa, hBa⟩, by simp [intOf]⟩
          · have hw' : s.extract 0 j = wordA 3 := hw
            have hwc := word_cell 3 (by omega) (by omega) wr
            have hwb : ((wordA 3).toList == (s.extract 0 j).toList) = true := by rw [← hw']; simp
            have HW := hide hw'
            have hrB : refsB 3 = true := by decide
            clear hw hw'
            have HXa := hide (box_below (box_below (unhide HX) (below_alloc1 wr (.cells #[.string ⟨#[]⟩, .string ⟨#[115, 97, 121]⟩, .string ⟨#[97, 100, 100]⟩, .string ⟨#[99, 97, 108, 108]⟩, .string ⟨#[103, 111]⟩, .string ⟨#[105, 102]⟩, .string ⟨#[114, 101, 116]⟩, .string ⟨#[101, 110, 100]⟩] 9))) (below_alloc1 _ (.cells #[.int .i64 3, .int .i64 0, .string ⟨#[]⟩] 24)))
            have HYa : Hid (((wr.alloc (.cells #[.string ⟨#[]⟩, .string ⟨#[115, 97, 121]⟩, .string ⟨#[97, 100, 100]⟩, .string ⟨#[99, 97, 108, 108]⟩, .string ⟨#[103, 111]⟩, .string ⟨#[105, 102]⟩, .string ⟨#[114, 101, 116]⟩, .string ⟨#[101, 110, 100]⟩] 9)).alloc (.cells #[.int .i64 3, .int .i64 0, .string ⟨#[]⟩] 24)).heap[wr.heap.size + 1]? = some (.cells #[.int .i64 3, .int .i64 0, .string ⟨#[]⟩] 24)) := by
              have h := new_block (wr.alloc (.cells #[.string ⟨#[]⟩, .string ⟨#[115, 97, 121]⟩, .string ⟨#[97, 100, 100]⟩, .string ⟨#[99, 97, 108, 108]⟩, .string ⟨#[103, 111]⟩, .string ⟨#[105, 102]⟩, .string ⟨#[114, 101, 116]⟩, .string ⟨#[101, 110, 100]⟩] 9)) (.cells #[.int .i64 3, .int .i64 0, .string ⟨#[]⟩] 24)
              rw [World.size_alloc] at h
              exact h
            have hBa := bl_alloc (bl_alloc hB (.cells #[.string ⟨#[]⟩, .string ⟨#[115, 97, 121]⟩, .string ⟨#[97, 100, 100]⟩, .string ⟨#[99, 97, 108, 108]⟩, .string ⟨#[103, 111]⟩, .string ⟨#[105, 102]⟩, .string ⟨#[114, 101, 116]⟩, .string ⟨#[101, 110, 100]⟩] 9)) (.cells #[.int .i64 3, .int .i64 0, .string ⟨#[]⟩] 24)
            go_wp2_with (go_at_call 30; refine (words_any _).mono ?_; rintro e wk ⟨rfl, rfl⟩)
            refine (specRefs_any _ _ _ _).mono ?_
            rintro e w3 ⟨rfl, hb3⟩
            have hB3 := bl_trans hBa hb3
            have HX3 := hide (box_below (unhide HXa) hb3)
            have HY3 := hide (box_below (unhide HYa) hb3)
            clear hb3
            obtain ⟨⟨d0, d1, d2⟩, g0, g1, g2⟩ := box3 (unhide HY3)
            have eok := ok_refs (o := 3) (by omega) (s.extract (j + 1) s.size)
            have HYs : Hid ((w3.setCell ⟨wr.heap.size + 1, 2, none⟩ (.string (s.extract (j + 1) s.size))).heap[wr.heap.size + 1]? = some (.cells #[.int .i64 3, .int .i64 0, .string (s.extract (j + 1) s.size)] 24)) := block_setCell (unhide HY3) (.string (s.extract (j + 1) s.size))
            have HXs : Hid ((w3.setCell ⟨wr.heap.size + 1, 2, none⟩ (.string (s.extract (j + 1) s.size))).heap[w.heap.size]? = some (.cells #[.int .i64 0, .int .i64 0, .string ⟨#[]⟩] 24)) := (Below.heap_setCell w3 ⟨wr.heap.size + 1, 2, none⟩ (.string (s.extract (j + 1) s.size)) w.heap.size (by show w.heap.size ≠ wr.heap.size + 1; omega)).trans (unhide HX3)
            have hBs := hB3.setCell (p := ⟨wr.heap.size + 1, 2, none⟩) (show w.heap.size ≤ wr.heap.size + 1 by omega) (.string (s.extract (j + 1) s.size))
            go_wp2_with fail
            refine (specOk_any _ _ _ _ hrs').mono ?_
            rintro e w4 ⟨rfl, hb4⟩
            have hB4 := bl_trans hBs hb4
            have HX4 := hide (box_below (unhide HXs) hb4)
            have HY4 := hide (box_below (unhide HYs) hb4)
            clear hb4 d0 d1 d2 g0 g1 g2
            obtain ⟨⟨c0, c1, c2⟩, f0, f1, f2⟩ := box3 (unhide HX4)
            obtain ⟨⟨d0, d1, d2⟩, g0, g1, g2⟩ := box3 (unhide HY4)
            cases hnb : nameB (s.extract (j + 1) s.size)
            · rw [hnb] at eok
              go_wp2_with fail
              exact ⟨⟨3 + 1, by omega, by omega, by go_num, nb_step (unhide HNb) (fun n t => bad_refs (o := 3) (by omega) (unhide HW) hnb _ n t), unhide HX4, hB4⟩, by simp [intOf]⟩
            · rw [hnb] at eok
              go_wp2_with fail
              exact bodyPost_ret (v := .tuple #[.agg #[.int .i64 3, .int .i64 0, .string (s.extract (j + 1) s.size)], .bool true]) (by simp [results, Tryd.results12, go_sem, c0, c1, c2]) rfl ⟨_, _, true, 3, 0, (s.extract (j + 1) s.size), true, rfl, unhide HP, .inl ⟨rfl, .inr (.inl ⟨by omega, unhide HW, rfl, rfl, hnb⟩)⟩, (((hB4).setCell (Nat.le_refl _) _).setCell (Nat.le_refl _) _).setCell (Nat.le_refl _) _⟩
          · have hw' : s.extract 0 j = wordA 4 := hw
            have hwc := word_cell 4 (by omega) (by omega) wr
            have hwb : ((wordA 4).toList == (s.extract 0 j).toList) = true := by rw [← hw']; simp
            have HW := hide hw'
            have hrB : refsB 4 = true := by decide
            clear hw hw'
            have HXa := hide (box_below (box_below (unhide HX) (below_alloc1 wr (.cells #[.string ⟨#[]⟩, .string ⟨#[115, 97, 121]⟩, .string ⟨#[97, 100, 100]⟩, .string ⟨#[99, 97, 108, 108]⟩, .string ⟨#[103, 111]⟩, .string ⟨#[105, 102]⟩, .string ⟨#[114, 101, 116]⟩, .string ⟨#[101, 110, 100]⟩] 9))) (below_alloc1 _ (.cells #[.int .i64 4, .int .i64 0, .string ⟨#[]⟩] 24)))
            have HYa : Hid (((wr.alloc (.cells #[.string ⟨#[]⟩, .string ⟨#[115, 97, 121]⟩, .string ⟨#[97, 100, 100]⟩, .string ⟨#[99, 97, 108, 108]⟩, .string ⟨#[103, 111]⟩, .string ⟨#[105, 102]⟩, .string ⟨#[114, 101, 116]⟩, .string ⟨#[101, 110, 100]⟩] 9)).alloc (.cells #[.int .i64 4, .int .i64 0, .string ⟨#[]⟩] 24)).heap[wr.heap.size + 1]? = some (.cells #[.int .i64 4, .int .i64 0, .string ⟨#[]⟩] 24)) := by
              have h := new_block (wr.alloc (.cells #[.string ⟨#[]⟩, .string ⟨#[115, 97, 121]⟩, .string ⟨#[97, 100, 100]⟩, .string ⟨#[99, 97, 108, 108]⟩, .string ⟨#[103, 111]⟩, .string ⟨#[105, 102]⟩, .string ⟨#[114, 101, 116]⟩, .string ⟨#[101, 110, 100]⟩] 9)) (.cells #[.int .i64 4, .int .i64 0, .string ⟨#[]⟩] 24)
              rw [World.size_alloc] at h
              exact h
            have hBa := bl_alloc (bl_alloc hB (.cells #[.string ⟨#[]⟩, .string ⟨#[115, 97, 121]⟩, .string ⟨#[97, 100, 100]⟩, .string ⟨#[99, 97, 108, 108]⟩, .string ⟨#[103, 111]⟩, .string ⟨#[105, 102]⟩, .string ⟨#[114, 101, 116]⟩, .string ⟨#[101, 110, 100]⟩] 9)) (.cells #[.int .i64 4, .int .i64 0, .string ⟨#[]⟩] 24)
            go_wp2_with (go_at_call 30; refine (words_any _).mono ?_; rintro e wk ⟨rfl, rfl⟩)
            refine (specRefs_any _ _ _ _).mono ?_
            rintro e w3 ⟨rfl, hb3⟩
            have hB3 := bl_trans hBa hb3
            have HX3 := hide (box_below (unhide HXa) hb3)
            have HY3 := hide (box_below (unhide HYa) hb3)
            clear hb3
            obtain ⟨⟨d0, d1, d2⟩, g0, g1, g2⟩ := box3 (unhide HY3)
            have eok := ok_refs (o := 4) (by omega) (s.extract (j + 1) s.size)
            have HYs : Hid ((w3.setCell ⟨wr.heap.size + 1, 2, none⟩ (.string (s.extract (j + 1) s.size))).heap[wr.heap.size + 1]? = some (.cells #[.int .i64 4, .int .i64 0, .string (s.extract (j + 1) s.size)] 24)) := block_setCell (unhide HY3) (.string (s.extract (j + 1) s.size))
            have HXs : Hid ((w3.setCell ⟨wr.heap.size + 1, 2, none⟩ (.string (s.extract (j + 1) s.size))).heap[w.heap.size]? = some (.cells #[.int .i64 0, .int .i64 0, .string ⟨#[]⟩] 24)) := (Below.heap_setCell w3 ⟨wr.heap.size + 1, 2, none⟩ (.string (s.extract (j + 1) s.size)) w.heap.size (by show w.heap.size ≠ wr.heap.size + 1; omega)).trans (unhide HX3)
            have hBs := hB3.setCell (p := ⟨wr.heap.size + 1, 2, none⟩) (show w.heap.size ≤ wr.heap.size + 1 by omega) (.string (s.extract (j + 1) s.size))
            go_wp2_with fail
            refine (specOk_any _ _ _ _ hrs').mono ?_
            rintro e w4 ⟨rfl, hb4⟩
            have hB4 := bl_trans hBs hb4
            have HX4 := hide (box_below (unhide HXs) hb4)
            have HY4 := hide (box_below (unhide HYs) hb4)
            clear hb4 d0 d1 d2 g0 g1 g2
            obtain ⟨⟨c0, c1, c2⟩, f0, f1, f2⟩ := box3 (unhide HX4)
            obtain ⟨⟨d0, d1, d2⟩, g0, g1, g2⟩ := box3 (unhide HY4)
            cases hnb : nameB (s.extract (j + 1) s.size)
            · rw [hnb] at eok
              go_wp2_with fail
              exact ⟨⟨4 + 1, by omega, by omega, by go_num, nb_step (unhide HNb) (fun n t => bad_refs (o := 4) (by omega) (unhide HW) hnb _ n t), unhide HX4, hB4⟩, by simp [intOf]⟩
            · rw [hnb] at eok
              go_wp2_with fail
              exact bodyPost_ret (v := .tuple #[.agg #[.int .i64 4, .int .i64 0, .string (s.extract (j + 1) s.size)], .bool true]) (by simp [results, Tryd.results12, go_sem, c0, c1, c2]) rfl ⟨_, _, true, 4, 0, (s.extract (j + 1) s.size), true, rfl, unhide HP, .inl ⟨rfl, .inr (.inl ⟨by omega, unhide HW, rfl, rfl, hnb⟩)⟩, (((hB4).setCell (Nat.le_refl _) _).setCell (Nat.le_refl _) _).setCell (Nat.le_refl _) _⟩
          · have hw' : s.extract 0 j = wordA 5 := hw
            have hwc := word_cell 5 (by omega) (by omega) wr
            have hwb : ((wordA 5).toList == (s.extract 0 j).toList) = true := by rw [← hw']; simp
            have HW := hide hw'
            have hrB : refsB 5 = true := by decide
            clear hw hw'
            have HXa := hide (box_below (box_below (unhide HX) (below_alloc1 wr (.cells #[.string ⟨#[]⟩, .string ⟨#[115, 97, 121]⟩, .string ⟨#[97, 100, 100]⟩, .string ⟨#[99, 97, 108, 108]⟩, .string ⟨#[103, 111]⟩, .string ⟨#[105, 102]⟩, .string ⟨#[114, 101, 116]⟩, .string ⟨#[101, 110, 100]⟩] 9))) (below_alloc1 _ (.cells #[.int .i64 5, .int .i64 0, .string ⟨#[]⟩] 24)))
            have HYa : Hid (((wr.alloc (.cells #[.string ⟨#[]⟩, .string ⟨#[115, 97, 121]⟩, .string ⟨#[97, 100, 100]⟩, .string ⟨#[99, 97, 108, 108]⟩, .string ⟨#[103, 111]⟩, .string ⟨#[105, 102]⟩, .string ⟨#[114, 101, 116]⟩, .string ⟨#[101, 110, 100]⟩] 9)).alloc (.cells #[.int .i64 5, .int .i64 0, .string ⟨#[]⟩] 24)).heap[wr.heap.size + 1]? = some (.cells #[.int .i64 5, .int .i64 0, .string ⟨#[]⟩] 24)) := by
              have h := new_block (wr.alloc (.cells #[.string ⟨#[]⟩, .string ⟨#[115, 97, 121]⟩, .string ⟨#[97, 100, 100]⟩, .string ⟨#[99, 97, 108, 108]⟩, .string ⟨#[103, 111]⟩, .string ⟨#[105, 102]⟩, .string ⟨#[114, 101, 116]⟩, .string ⟨#[101, 110, 100]⟩] 9)) (.cells #[.int .i64 5, .int .i64 0, .string ⟨#[]⟩] 24)
              rw [World.size_alloc] at h
              exact h
            have hBa := bl_alloc (bl_alloc hB (.cells #[.string ⟨#[]⟩, .string ⟨#[115, 97, 121]⟩, .string ⟨#[97, 100, 100]⟩, .string ⟨#[99, 97, 108, 108]⟩, .string ⟨#[103, 111]⟩, .string ⟨#[105, 102]⟩, .string ⟨#[114, 101, 116]⟩, .string ⟨#[101, 110, 100]⟩] 9)) (.cells #[.int .i64 5, .int .i64 0, .string ⟨#[]⟩] 24)
            go_wp2_with (go_at_call 30; refine (words_any _).mono ?_; rintro e wk ⟨rfl, rfl⟩)
            refine (specRefs_any _ _ _ _).mono ?_
            rintro e w3 ⟨rfl, hb3⟩
            have hB3 := bl_trans hBa hb3
            have HX3 := hide (box_below (unhide HXa) hb3)
            have HY3 := hide (box_below (unhide HYa) hb3)
            clear hb3
            obtain ⟨⟨d0, d1, d2⟩, g0, g1, g2⟩ := box3 (unhide HY3)
            have eok := ok_refs (o := 5) (by omega) (s.extract (j + 1) s.size)
            have HYs : Hid ((w3.setCell ⟨wr.heap.size + 1, 2, none⟩ (.string (s.extract (j + 1) s.size))).heap[wr.heap.size + 1]? = some (.cells #[.int .i64 5, .int .i64 0, .string (s.extract (j + 1) s.size)] 24)) := block_setCell (unhide HY3) (.string (s.extract (j + 1) s.size))
            have HXs : Hid ((w3.setCell ⟨wr.heap.size + 1, 2, none⟩ (.string (s.extract (j + 1) s.size))).heap[w.heap.size]? = some (.cells #[.int .i64 0, .int .i64 0, .string ⟨#[]⟩] 24)) := (Below.heap_setCell w3 ⟨wr.heap.size + 1, 2, none⟩ (.string (s.extract (j + 1) s.size)) w.heap.size (by show w.heap.size ≠ wr.heap.size + 1; omega)).trans (unhide HX3)
            have hBs := hB3.setCell (p := ⟨wr.heap.size + 1, 2, none⟩) (show w.heap.size ≤ wr.heap.size + 1 by omega) (.string (s.extract (j + 1) s.size))
            go_wp2_with fail
            refine (specOk_any _ _ _ _ hrs').mono ?_
            rintro e w4 ⟨rfl, hb4⟩
            have hB4 := bl_trans hBs hb4
            have HX4 := hide (box_below (unhide HXs) hb4)
            have HY4 := hide (box_below (unhide HYs) hb4)
            clear hb4 d0 d1 d2 g0 g1 g2
            obtain ⟨⟨c0, c1, c2⟩, f0, f1, f2⟩ := box3 (unhide HX4)
            obtain ⟨⟨d0, d1, d2⟩, g0, g1, g2⟩ := box3 (unhide HY4)
            cases hnb : nameB (s.extract (j + 1) s.size)
            · rw [hnb] at eok
              go_wp2_with fail
              exact ⟨⟨5 + 1, by omega, by omega, by go_num, nb_step (unhide HNb) (fun n t => bad_refs (o := 5) (by omega) (unhide HW) hnb _ n t), unhide HX4, hB4⟩, by simp [intOf]⟩
            · rw [hnb] at eok
              go_wp2_with fail
              exact bodyPost_ret (v := .tuple #[.agg #[.int .i64 5, .int .i64 0, .string (s.extract (j + 1) s.size)], .bool true]) (by simp [results, Tryd.results12, go_sem, c0, c1, c2]) rfl ⟨_, _, true, 5, 0, (s.extract (j + 1) s.size), true, rfl, unhide HP, .inl ⟨rfl, .inr (.inl ⟨by omega, unhide HW, rfl, rfl, hnb⟩)⟩, (((hB4).setCell (Nat.le_refl _) _).setCell (Nat.le_refl _) _).setCell (Nat.le_refl _) _⟩
          · have hw' : s.extract 0 j = wordA 6 := hw
            have hwc := word_cell 6 (by omega) (by omega) wr
            have hwb : ((wordA 6).toList == (s.extract 0 j).toList) = true := by rw [← hw']; simp
            have HW := hide hw'
            have hrB : refsB 6 = false := by decide
            clear hw hw'
            have HXa := hide (box_below (box_below (unhide HX) (below_alloc1 wr (.cells #[.string ⟨#[]⟩, .string ⟨#[115, 97, 121]⟩, .string ⟨#[97, 100, 100]⟩, .string ⟨#[99, 97, 108, 108]⟩, .string ⟨#[103, 111]⟩, .string ⟨#[105, 102]⟩, .string ⟨#[114, 101, 116]⟩, .string ⟨#[101, 110, 100]⟩] 9))) (below_alloc1 _ (.cells #[.int .i64 6, .int .i64 0, .string ⟨#[]⟩] 24)))
            have HYa : Hid (((wr.alloc (.cells #[.string ⟨#[]⟩, .string ⟨#[115, 97, 121]⟩, .string ⟨#[97, 100, 100]⟩, .string ⟨#[99, 97, 108, 108]⟩, .string ⟨#[103, 111]⟩, .string ⟨#[105, 102]⟩, .string ⟨#[114, 101, 116]⟩, .string ⟨#[101, 110, 100]⟩] 9)).alloc (.cells #[.int .i64 6, .int .i64 0, .string ⟨#[]⟩] 24)).heap[wr.heap.size + 1]? = some (.cells #[.int .i64 6, .int .i64 0, .string ⟨#[]⟩] 24)) := by
              have h := new_block (wr.alloc (.cells #[.string ⟨#[]⟩, .string ⟨#[115, 97, 121]⟩, .string ⟨#[97, 100, 100]⟩, .string ⟨#[99, 97, 108, 108]⟩, .string ⟨#[103, 111]⟩, .string ⟨#[105, 102]⟩, .string ⟨#[114, 101, 116]⟩, .string ⟨#[101, 110, 100]⟩] 9)) (.cells #[.int .i64 6, .int .i64 0, .string ⟨#[]⟩] 24)
              rw [World.size_alloc] at h
              exact h
            have hBa := bl_alloc (bl_alloc hB (.cells #[.string ⟨#[]⟩, .string ⟨#[115, 97, 121]⟩, .string ⟨#[97, 100, 100]⟩, .string ⟨#[99, 97, 108, 108]⟩, .string ⟨#[103, 111]⟩, .string ⟨#[105, 102]⟩, .string ⟨#[114, 101, 116]⟩, .string ⟨#[101, 110, 100]⟩] 9)) (.cells #[.int .i64 6, .int .i64 0, .string ⟨#[]⟩] 24)
            go_wp2_with (go_at_call 30; refine (words_any _).mono ?_; rintro e wk ⟨rfl, rfl⟩)
            refine (specRefs_any _ _ _ _).mono ?_
            rintro e w3 ⟨rfl, hb3⟩
            have hB3 := bl_trans hBa hb3
            have HX3 := hide (box_below (unhide HXa) hb3)
            have HY3 := hide (box_below (unhide HYa) hb3)
            clear hb3
            obtain ⟨⟨d0, d1, d2⟩, g0, g1, g2⟩ := box3 (unhide HY3)
            go_wp2_with fail
            exact ⟨⟨6 + 1, by omega, by omega, by go_num, nb_step (unhide HNb) (fun n t => bad_bare (o := 6) (by omega) (unhide HW) _ n t), unhide HX3, hB3⟩, by simp [intOf]⟩
          · have hw' : s.extract 0 j = wordA 7 := hw
            have hwc := word_cell 7 (by omega) (by omega) wr
            have hwb : ((wordA 7).toList == (s.extract 0 j).toList) = true := by rw [← hw']; simp
            have HW := hide hw'
            have hrB : refsB 7 = false := by decide
            clear hw hw'
            have HXa := hide (box_below (box_below (unhide HX) (below_alloc1 wr (.cells #[.string ⟨#[]⟩, .string ⟨#[115, 97, 121]⟩, .string ⟨#[97, 100, 100]⟩, .string ⟨#[99, 97, 108, 108]⟩, .string ⟨#[103, 111]⟩, .string ⟨#[105, 102]⟩, .string ⟨#[114, 101, 116]⟩, .string ⟨#[101, 110, 100]⟩] 9))) (below_alloc1 _ (.cells #[.int .i64 7, .int .i64 0, .string ⟨#[]⟩] 24)))
            have HYa : Hid (((wr.alloc (.cells #[.string ⟨#[]⟩, .string ⟨#[115, 97, 121]⟩, .string ⟨#[97, 100, 100]⟩, .string ⟨#[99, 97, 108, 108]⟩, .string ⟨#[103, 111]⟩, .string ⟨#[105, 102]⟩, .string ⟨#[114, 101, 116]⟩, .string ⟨#[101, 110, 100]⟩] 9)).alloc (.cells #[.int .i64 7, .int .i64 0, .string ⟨#[]⟩] 24)).heap[wr.heap.size + 1]? = some (.cells #[.int .i64 7, .int .i64 0, .string ⟨#[]⟩] 24)) := by
              have h := new_block (wr.alloc (.cells #[.string ⟨#[]⟩, .string ⟨#[115, 97, 121]⟩, .string ⟨#[97, 100, 100]⟩, .string ⟨#[99, 97, 108, 108]⟩, .string ⟨#[103, 111]⟩, .string ⟨#[105, 102]⟩, .string ⟨#[114, 101, 116]⟩, .string ⟨#[101, 110, 100]⟩] 9)) (.cells #[.int .i64 7, .int .i64 0, .string ⟨#[]⟩] 24)
              rw [World.size_alloc] at h
              exact h
            have hBa := bl_alloc (bl_alloc hB (.cells #[.string ⟨#[]⟩, .string ⟨#[115, 97, 121]⟩, .string ⟨#[97, 100, 100]⟩, .string ⟨#[99, 97, 108, 108]⟩, .string ⟨#[103, 111]⟩, .string ⟨#[105, 102]⟩, .string ⟨#[114, 101, 116]⟩, .string ⟨#[101, 110, 100]⟩] 9)) (.cells #[.int .i64 7, .int .i64 0, .string ⟨#[]⟩] 24)
            go_wp2_with (go_at_call 30; refine (words_any _).mono ?_; rintro e wk ⟨rfl, rfl⟩)
            refine (specRefs_any _ _ _ _).mono ?_
            rintro e w3 ⟨rfl, hb3⟩
            have hB3 := bl_trans hBa hb3
            have HX3 := hide (box_below (unhide HXa) hb3)
            have HY3 := hide (box_below (unhide HYa) hb3)
            clear hb3
            obtain ⟨⟨d0, d1, d2⟩, g0, g1, g2⟩ := box3 (unhide HY3)
            go_wp2_with fail
            exact ⟨⟨7 + 1, by omega, by omega, by go_num, nb_step (unhide HNb) (fun n t => bad_bare (o := 7) (by omega) (unhide HW) _ n t), unhide HX3, hB3⟩, by simp [intOf]⟩
        · have hwc := word_cell k hk1 h7 wr
          have hwb : ((wordA (k : Int)).toList == (s.extract 0 j).toList) = false := by
            rw [beq_eq_false_iff_ne, ByteArray.toList_eq, ByteArray.toList_eq]; intro e; exact hw (bytes_inj e.symm)
          have HW := hide hw
          clear hw
          have hk8 : (k : Int) ≤ 7 := by omega
          have hk9 : (k : Int) < 8 := by omega
          go_wp2_with (go_at_call 30; refine (words_any _).mono ?_; rintro e wk ⟨rfl, rfl⟩)
          exact ⟨⟨k + 1, by omega, by omega, by go_num, nb_step (unhide HNb) (fun n t h => unhide HW (good_kind h).2), box_below (unhide HX) (below_alloc1 _ _), bl_alloc hB _⟩, by simp [intOf]; omega⟩


theorem spec_any (s : ByteArray) (w : World) (hs : s.size ≤ maxLen) : Calls Tryd.prog 12 #[.string s] w (ReadLeft s w) := by
  by_cases h : ∃ j, FirstAt s 32 j
  · obtain ⟨j, hj⟩ := h
    exact spec_yes s w hs j hj
  · exact spec_no s w hs (none_of h)
end Go.Proofs.YtbjlcihnkkfhoaaDoor.ReadS
