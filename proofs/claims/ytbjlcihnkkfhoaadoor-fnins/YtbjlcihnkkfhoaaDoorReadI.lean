/- The contract of the program's InsRead. -/
import Derived.Test.YtbjlcihnkkfhoaaDoorRead
namespace Go.Proofs.YtbjlcihnkkfhoaaDoor.ReadI
open Go.ChangeShapes Go.WideShapes Go.ChangeAt Go.RowKit Go.Joins
open Go.Proofs.YtbjlcihnkkfhoaaDoor.Base Go.Proofs.YtbjlcihnkkfhoaaDoor.Num Go.Proofs.YtbjlcihnkkfhoaaDoor.InsA Go.Proofs.YtbjlcihnkkfhoaaDoor.InsB Go.Proofs.YtbjlcihnkkfhoaaDoor.Split Go.Proofs.YtbjlcihnkkfhoaaDoor.Read
open Go.Proofs.YtbjlcihnkkfhoaaDoor.Name (nameB)
open Go.Proofs.YtbjlcihnkkfhoaaDoor.Text (gPow wordA words_any word_any)
open Go.Proofs.YtbjlcihnkkfhoaaDoor.NumB (NumResB NumLeftB readN_any)
open Go.Lib (decDigits itoa)
set_option linter.unusedVariables false

theorem ok_two {m : Int} (h1 : -1000 ≤ m) (h2 : m ≤ 1000) : insOkB 2 m ⟨#[]⟩ = true := by
  unfold insOkB; rw [if_pos rfl]; simp; exact ⟨h1, h2⟩
theorem ok_refs {o : Int} (h : o = 3 ∨ o = 4 ∨ o = 5) (t : ByteArray) : insOkB o 0 t = nameB t := by
  unfold insOkB; rw [if_neg (by omega), if_pos h]; simp
theorem ok_bare {o : Int} (h : o = 1 ∨ o = 6 ∨ o = 7) : insOkB o 0 ⟨#[]⟩ = true := by
  unfold insOkB; rw [if_neg (by omega), if_neg (by omega), if_pos h]; simp
theorem ok_none : insOkB 0 0 ⟨#[]⟩ = false := by
  unfold insOkB; rw [if_neg (by omega), if_neg (by omega), if_neg (by omega)]
theorem parted_rs {s wd rs : ByteArray} {sp : Bool} (h : Parted s wd rs sp) : rs.size ≤ s.size ∧ wd.size ≤ s.size ∧ (sp = true → wd.size < s.size) ∧ (sp = false → wd = s) := by
  rcases h with ⟨rfl, _, rfl, rfl⟩ | ⟨rfl, k, ⟨hk, _⟩, rfl, rfl⟩
  · exact ⟨Nat.zero_le _, Nat.le_refl _, (fun e => nomatch e), fun _ => rfl⟩
  · refine ⟨?_, ?_, fun _ => ?_, (fun e => nomatch e)⟩
    · rw [ByteArray.size_extract]; omega
    · rw [ByteArray.size_extract]; omega
    · rw [ByteArray.size_extract]; omega

theorem bad_two {wd rs : ByteArray} {sp : Bool} (hw : wd = wordA 2) (hn : NoNum rs.data.toList) : ∀ o n t, ¬ InsGood wd rs sp o n t := by
  intro o n t h
  have k := good_kind h
  have e : o = 2 := word_inj k.1 (by omega) (k.2.symm.trans hw)
  rcases h with ⟨_, _, h1, h2, h3, _⟩ | ⟨h1, _⟩ | ⟨h1, _⟩
  · exact hn n h1 h2 h3
  · omega
  · omega
theorem bad_refs {wd rs : ByteArray} {sp : Bool} {o : Int} (ho : o = 3 ∨ o = 4 ∨ o = 5) (hw : wd = wordA o) (hn : nameB rs = false) : ∀ o n t, ¬ InsGood wd rs sp o n t := by
  intro p n t h
  have k := good_kind h
  have e : p = o := word_inj k.1 (by omega) (k.2.symm.trans hw)
  rcases h with ⟨h1, _⟩ | ⟨_, _, _, _, h1⟩ | ⟨h1, _⟩
  · omega
  · rw [hn] at h1; cases h1
  · omega
theorem bad_bare {wd rs : ByteArray} {o : Int} (ho : o = 1 ∨ o = 6 ∨ o = 7) (hw : wd = wordA o) : ∀ o n t, ¬ InsGood wd rs true o n t := by
  intro p n t h
  have k := good_kind h
  have e : p = o := word_inj k.1 (by omega) (k.2.symm.trans hw)
  rcases h with ⟨h1, _⟩ | ⟨h1, _⟩ | ⟨_, _, h1, _⟩
  · omega
  · omega
  · cases h1
theorem bad_none {wd rs : ByteArray} {sp : Bool} (hn : ∀ p : Int, 1 ≤ p → p ≤ 7 → wd ≠ wordA p) : ∀ o n t, ¬ InsGood wd rs sp o n t := by
  intro p n t h
  have k := good_kind h
  exact hn p (by omega) (by omega) k.2

set_option maxHeartbeats 1000000 in
theorem impl_any (s : ByteArray) (w : World) (hs : s.size ≤ maxLen) (htab : Lib.TabIs Tryd.prog w "internal/strconv.uint64pow10" .u64 Lib.pow10Tab) :
    Calls Tryd.prog 7 #[.string s] w (ReadLeft s w) := by
  have HT := hide htab
  clear htab
  go_enter Tryd.func7, Tryd.ntmps7
  go_wp2_with fail
  refine (split_any s _ hs).mono ?_
  rintro e w1 ⟨wd, rs, sp, rfl, hP, hb1⟩
  have HX := hide (box_below (new_block w _) hb1)
  have hB1 := bl_trans (below_alloc1 w _) hb1
  have hz1 := hb1.size
  simp only [World.size_alloc] at hz1
  clear hb1
  obtain ⟨hrs, hwds, hsp1, hsp0⟩ := parted_rs hP
  have HP := hide hP
  clear hP
  go_wp2_with fail
  refine (kind_any wd _).mono ?_
  rintro e w2 ⟨rfl, o, rfl, hK⟩
  have HK := hide hK
  have hrs' : rs.size ≤ maxLen := Nat.le_trans hrs hs
  rcases hK with ⟨hK, hwd⟩ | ⟨rfl, hno⟩
  · have HW := hide hwd
    clear hwd
    by_cases h2 : o = 2
    · subst h2
      clear hK
      go_wp2_with (first | (go_at_call 23; refine (hasNumber_any _ _).mono ?_; rintro e w' ⟨rfl, rfl⟩) | (go_at_call 26; refine (hasName_any _ _).mono ?_; rintro e w' ⟨rfl, rfl⟩))
      refine (readN_any rs _ hrs' (tab_stays gPow (unhide HT) (bl_alloc hB1 _) (Nat.le_refl _))).mono ?_
      rintro e w3 ⟨m, ok, rfl, hR, hb3⟩
      have hB3 := bl_trans (bl_alloc hB1 _) hb3
      have HX3 := hide (box_below (box_below (unhide HX) (below_alloc1 w2 _)) hb3)
      have HY3 := hide (box_below (new_block w2 _) hb3)
      have hz3 := hb3.size
      simp only [World.size_alloc] at hz3
      clear hb3
      obtain ⟨⟨c0, c1, c2⟩, f0, f1, f2⟩ := box3 (unhide HX3)
      obtain ⟨⟨d0, d1, d2⟩, g0, g1, g2⟩ := box3 (unhide HY3)
      rcases hR with ⟨rfl, hm, hm1, hm2⟩ | ⟨rfl, rfl, hno⟩
      · have HM := hide hm
        have eok := ok_two hm1 hm2
        clear hm
        have HYs : Hid ((w3.setCell ⟨w2.heap.size, 1, none⟩ (.int .i64 m)).heap[w2.heap.size]? = some (.cells #[.int .i64 2, .int .i64 m, .string ⟨#[]⟩] 24)) := block_setCell (unhide HY3) (.int .i64 m)
        have HXs : Hid ((w3.setCell ⟨w2.heap.size, 1, none⟩ (.int .i64 m)).heap[w.heap.size]? = some (.cells #[.int .i64 0, .int .i64 0, .string ⟨#[]⟩] 24)) := (Below.heap_setCell w3 ⟨w2.heap.size, 1, none⟩ (.int .i64 m) w.heap.size (by show w.heap.size ≠ w2.heap.size; omega)).trans (unhide HX3)
        have hBs := hB3.setCell (p := ⟨w2.heap.size, 1, none⟩) (show w.heap.size ≤ w2.heap.size by omega) (.int .i64 m)
        go_wp2_with fail
        refine (implOk_any _ _ _ _ (by decide)).mono ?_
        rintro e w4 ⟨rfl, hb4⟩
        have hB4 := bl_trans hBs hb4
        have HX4 := box_below (unhide HXs) hb4
        have HY4 := box_below (unhide HYs) hb4
        clear hb4 c0 c1 c2 f0 f1 f2 d0 d1 d2 g0 g1 g2 hBs
        obtain ⟨⟨c0, c1, c2⟩, f0, f1, f2⟩ := box3 HX4
        obtain ⟨⟨d0, d1, d2⟩, g0, g1, g2⟩ := box3 HY4
        clear HX4 HY4
        go_wp2_with fail
        exact bodyPost_ret (v := .tuple #[.agg #[.int .i64 2, .int .i64 m, .string ⟨#[]⟩], .bool true]) (by simp [results, Tryd.results7, go_sem, c0, c1, c2]) rfl ⟨wd, rs, sp, 2, m, ⟨#[]⟩, true, rfl, unhide HP, .inl ⟨rfl, .inl ⟨rfl, unhide HW, hm1, hm2, unhide HM, rfl⟩⟩, (((hB4).setCell (Nat.le_refl _) _).setCell (Nat.le_refl _) _).setCell (Nat.le_refl _) _⟩
      · have HNo := hide hno
        clear hno
        go_wp2_with fail
        exact bodyPost_ret (v := .tuple #[.agg #[.int .i64 0, .int .i64 0, .string ⟨#[]⟩], .bool false]) (by simp [results, Tryd.results7, go_sem, c0, c1, c2]) rfl ⟨wd, rs, sp, 0, 0, ⟨#[]⟩, false, rfl, unhide HP, .inr ⟨rfl, rfl, rfl, rfl, bad_two (unhide HW) (unhide HNo)⟩, (((hB3.setCell (p := ⟨w2.heap.size, 1, none⟩) (show w.heap.size ≤ w2.heap.size by omega) (.int .i64 0)).setCell (Nat.le_refl _) _).setCell (Nat.le_refl _) _).setCell (Nat.le_refl _) _⟩
    · have h2' : (o == 2) = false := by simp [h2]
      by_cases hr : o = 3 ∨ o = 4 ∨ o = 5
      · have hrB : refsB o = true := by rcases hr with rfl | rfl | rfl <;> rfl
        have eok := ok_refs hr rs
        have HRr := hide hr
        clear hr hK h2
        have HXa := box_below (unhide HX) (below_alloc1 w2 (.cells #[.int .i64 o, .int .i64 0, .string rs] 24))
        have HYa := new_block w2 (.cells #[.int .i64 o, .int .i64 0, .string rs] 24)
        go_wp2_with (first | (go_at_call 23; refine (hasNumber_any _ _).mono ?_; rintro e w' ⟨rfl, rfl⟩) | (go_at_call 26; refine (hasName_any _ _).mono ?_; rintro e w' ⟨rfl, rfl⟩))
        refine (implOk_any _ _ _ _ hrs').mono ?_
        rintro e w4 ⟨rfl, hb4⟩
        have hB4 := bl_trans (bl_alloc hB1 _) hb4
        have HX4 := box_below HXa hb4
        have HY4 := box_below HYa hb4
        clear hb4 HXa HYa
        obtain ⟨⟨c0, c1, c2⟩, f0, f1, f2⟩ := box3 HX4
        obtain ⟨⟨d0, d1, d2⟩, g0, g1, g2⟩ := box3 HY4
        clear HX4 HY4
        cases hnb : nameB rs
        · rw [hnb] at eok
          go_wp2_with fail
          exact bodyPost_ret (v := .tuple #[.agg #[.int .i64 0, .int .i64 0, .string ⟨#[]⟩], .bool false]) (by simp [results, Tryd.results7, go_sem, c0, c1, c2]) rfl ⟨wd, rs, sp, 0, 0, ⟨#[]⟩, false, rfl, unhide HP, .inr ⟨rfl, rfl, rfl, rfl, bad_refs (unhide HRr) (unhide HW) hnb⟩, (((hB4).setCell (Nat.le_refl _) _).setCell (Nat.le_refl _) _).setCell (Nat.le_refl _) _⟩
        · rw [hnb] at eok
          go_wp2_with fail
          exact bodyPost_ret (v := .tuple #[.agg #[.int .i64 o, .int .i64 0, .string rs], .bool true]) (by simp [results, Tryd.results7, go_sem, c0, c1, c2]) rfl ⟨wd, rs, sp, o, 0, rs, true, rfl, unhide HP, .inl ⟨rfl, .inr (.inl ⟨unhide HRr, unhide HW, rfl, rfl, hnb⟩)⟩, (((hB4).setCell (Nat.le_refl _) _).setCell (Nat.le_refl _) _).setCell (Nat.le_refl _) _⟩
      · have hb : o = 1 ∨ o = 6 ∨ o = 7 := by omega
        have hrB : refsB o = false := by rcases hb with rfl | rfl | rfl <;> rfl
        have eok := ok_bare hb
        have HRb := hide hb
        clear hr hK h2 hb
        cases sp
        · have hws := hsp0 rfl
          subst hws
          clear hsp1
          have HXa := box_below (unhide HX) (below_alloc1 w2 (.cells #[.int .i64 o, .int .i64 0, .string ⟨#[]⟩] 24))
          have HYa := new_block w2 (.cells #[.int .i64 o, .int .i64 0, .string ⟨#[]⟩] 24)
          go_wp2_with (first | (go_at_call 23; refine (hasNumber_any _ _).mono ?_; rintro e w' ⟨rfl, rfl⟩) | (go_at_call 26; refine (hasName_any _ _).mono ?_; rintro e w' ⟨rfl, rfl⟩))
          refine (implOk_any _ _ _ _ (by decide)).mono ?_
          rintro e w4 ⟨rfl, hb4⟩
          have hB4 := bl_trans (bl_alloc hB1 _) hb4
          have HX4 := box_below HXa hb4
          have HY4 := box_below HYa hb4
          clear hb4 HXa HYa
          obtain ⟨⟨c0, c1, c2⟩, f0, f1, f2⟩ := box3 HX4
          obtain ⟨⟨d0, d1, d2⟩, g0, g1, g2⟩ := box3 HY4
          clear HX4 HY4
          go_wp2_with fail
          exact bodyPost_ret (v := .tuple #[.agg #[.int .i64 o, .int .i64 0, .string ⟨#[]⟩], .bool true]) (by simp [results, Tryd.results7, go_sem, c0, c1, c2]) rfl ⟨wd, rs, false, o, 0, ⟨#[]⟩, true, rfl, unhide HP, .inl ⟨rfl, .inr (.inr ⟨unhide HRb, unhide HW, rfl, rfl, rfl⟩)⟩, (((hB4).setCell (Nat.le_refl _) _).setCell (Nat.le_refl _) _).setCell (Nat.le_refl _) _⟩
        · have hlt := hsp1 rfl
          have hne : (wd.toList == s.toList) = false := by
            rw [beq_eq_false_iff_ne, ByteArray.toList_eq, ByteArray.toList_eq]; intro e
            rw [bytes_inj e] at hlt; omega
          clear hsp1 hsp0 hlt
          have HXa := box_below (unhide HX) (below_alloc1 w2 (.cells #[.int .i64 o, .int .i64 0, .string ⟨#[]⟩] 24))
          obtain ⟨⟨c0, c1, c2⟩, f0, f1, f2⟩ := box3 HXa
          clear HXa
          go_wp2_with (first | (go_at_call 23; refine (hasNumber_any _ _).mono ?_; rintro e w' ⟨rfl, rfl⟩) | (go_at_call 26; refine (hasName_any _ _).mono ?_; rintro e w' ⟨rfl, rfl⟩))
          exact bodyPost_ret (v := .tuple #[.agg #[.int .i64 0, .int .i64 0, .string ⟨#[]⟩], .bool false]) (by simp [results, Tryd.results7, go_sem, c0, c1, c2]) rfl ⟨wd, rs, true, 0, 0, ⟨#[]⟩, false, rfl, unhide HP, .inr ⟨rfl, rfl, rfl, rfl, bad_bare (unhide HRb) (unhide HW)⟩, (((bl_alloc hB1 _).setCell (Nat.le_refl _) _).setCell (Nat.le_refl _) _).setCell (Nat.le_refl _) _⟩
  · have HNo := hide hno
    have eok := ok_none
    have hrB : refsB 0 = false := rfl
    clear hno
    cases sp
    · have hws := hsp0 rfl
      subst hws
      clear hsp1
      have HXa := box_below (unhide HX) (below_alloc1 w2 (.cells #[.int .i64 0, .int .i64 0, .string ⟨#[]⟩] 24))
      have HYa := new_block w2 (.cells #[.int .i64 0, .int .i64 0, .string ⟨#[]⟩] 24)
      go_wp2_with (first | (go_at_call 23; refine (hasNumber_any _ _).mono ?_; rintro e w' ⟨rfl, rfl⟩) | (go_at_call 26; refine (hasName_any _ _).mono ?_; rintro e w' ⟨rfl, rfl⟩))
      refine (implOk_any _ _ _ _ (by decide)).mono ?_
      rintro e w4 ⟨rfl, hb4⟩
      have hB4 := bl_trans (bl_alloc hB1 _) hb4
      have HX4 := box_below HXa hb4
      have HY4 := box_below HYa hb4
      clear hb4 HXa HYa
      obtain ⟨⟨c0, c1, c2⟩, f0, f1, f2⟩ := box3 HX4
      obtain ⟨⟨d0, d1, d2⟩, g0, g1, g2⟩ := box3 HY4
      clear HX4 HY4
      go_wp2_with fail
      exact bodyPost_ret (v := .tuple #[.agg #[.int .i64 0, .int .i64 0, .string ⟨#[]⟩], .bool false]) (by simp [results, Tryd.results7, go_sem, c0, c1, c2]) rfl ⟨wd, rs, false, 0, 0, ⟨#[]⟩, false, rfl, unhide HP, .inr ⟨rfl, rfl, rfl, rfl, bad_none (unhide HNo)⟩, (((hB4).setCell (Nat.le_refl _) _).setCell (Nat.le_refl _) _).setCell (Nat.le_refl _) _⟩
    · have hlt := hsp1 rfl
      have hne : (wd.toList == s.toList) = false := by
        rw [beq_eq_false_iff_ne, ByteArray.toList_eq, ByteArray.toList_eq]; intro e
        rw [bytes_inj e] at hlt; omega
      clear hsp1 hsp0 hlt
      have HXa := box_below (unhide HX) (below_alloc1 w2 (.cells #[.int .i64 0, .int .i64 0, .string ⟨#[]⟩] 24))
      obtain ⟨⟨c0, c1, c2⟩, f0, f1, f2⟩ := box3 HXa
      clear HXa
      go_wp2_with (first | (go_at_call 23; refine (hasNumber_any _ _).mono ?_; rintro e w' ⟨rfl, rfl⟩) | (go_at_call 26; refine (hasName_any _ _).mono ?_; rintro e w' ⟨rfl, rfl⟩))
      exact bodyPost_ret (v := .tuple #[.agg #[.int .i64 0, .int .i64 0, .string ⟨#[]⟩], .bool false]) (by simp [results, Tryd.results7, go_sem, c0, c1, c2]) rfl ⟨wd, rs, true, 0, 0, ⟨#[]⟩, false, rfl, unhide HP, .inr ⟨rfl, rfl, rfl, rfl, bad_none (unhide HNo)⟩, (((bl_alloc hB1 _).setCell (Nat.le_refl _) _).setCell (Nat.le_refl _) _).setCell (Nat.le_refl _) _⟩
end Go.Proofs.YtbjlcihnkkfhoaaDoor.ReadI
