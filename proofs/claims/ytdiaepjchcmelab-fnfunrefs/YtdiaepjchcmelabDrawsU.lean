/- The contracts of chapter 2's draws: units and functions that may be bent, as they are read. -/
import Derived.Test.YtdiaepjchcmelabDrawBent
namespace Go.Proofs.Ytdiaepjchcmelab.DrawsU
open Go.ChangeShapes Go.WideShapes Go.ChangeAt Go.RowKit Go.Joins
open Go.Proofs.Ytdiaepjchcmelab.Base Go.Proofs.Ytdiaepjchcmelab.InsA Go.Proofs.Ytdiaepjchcmelab.Funs Go.Proofs.Ytdiaepjchcmelab.Open Go.Proofs.Ytdiaepjchcmelab.FunS Go.Proofs.Ytdiaepjchcmelab.Keep Go.Proofs.Ytdiaepjchcmelab.UnitS Go.Proofs.Ytdiaepjchcmelab.Rd Go.Proofs.Ytdiaepjchcmelab.DrawIns Go.Proofs.Ytdiaepjchcmelab.DrawFun Go.Proofs.Ytdiaepjchcmelab.DrawUnit Go.Proofs.Ytdiaepjchcmelab.DrawUnitB Go.Proofs.Ytdiaepjchcmelab.DrawBent
set_option linter.unusedVariables false
set_option maxRecDepth 100000

theorem some_row {w : World} {B : Nat} {v : Value} {us : List (FunD × Value)} (h : UnitSome w B v us) (ht : mild us) (h1 : 1 ≤ us.length) (h4 : us.length ≤ 4) : ∃ (a : Option Addr) (cap : Nat) (fs : List FunD), v = .slice a fs.length cap ∧ fs.length ≤ cap ∧ cap ≤ maxLen ∧ 1 ≤ fs.length ∧ fs.length ≤ 4 ∧ FunRow w a fs := by
  obtain ⟨a, cap, hv, h5, h6, h7⟩ := h.row ht
  exact ⟨a, cap, us.map Prod.fst, hv, h5, h6, by simpa using h1, by simpa using h4, h7⟩

theorem ins_three {w : World} {B G : Nat} {v : Value} {xs : List InsD} {C : Array Value} {b : Option Addr} {c : Nat} (h : InsOwn w B v xs) (hG : w.heap[G]? = some (.cells C 30)) (hs : ∀ x ∈ xs, x.s.size ≤ maxLen) (hv : v = .slice b xs.length c) : ∀ x y z, InsRow (((w.setCell ⟨G, 0, none⟩ x).setCell ⟨G, 1, none⟩ y).setCell ⟨G, 2, none⟩ z) b xs := fun x y z => by
  obtain ⟨a', c', e, _, _, hr⟩ := InsOwn.row (own_three (a := x) (b := y) (c := z) h (own_box_ne h hG (by decide))) hs
  rw [hv] at e
  simp only [Value.slice.injEq] at e
  rw [e.1]
  exact hr
set_option maxHeartbeats 1000000 in
theorem drawFind_any (w : World) (a : Option Addr) (len cap : Nat) (hl : len ≤ cap) (hm : cap ≤ maxLen) (hb : len = 0 ∨ ∃ b off, a = some ⟨b, off, none⟩ ∧ b < w.heap.size ∧ ∀ i, i < len → ∃ c : Nat, c < 256 ∧ w.cell? ⟨b, off + i, none⟩ = some (.int .u8 c)) :
    Calls Try.prog 6 #[.slice a len cap] w fun e w' => ∃ (b : Option Addr) (c : Nat) (fs : List FunD) (x : ByteArray), e = .returned (.tuple #[.slice b fs.length c, .string x]) ∧ x.size ≤ 10 ∧ fs.length ≤ c ∧ c ≤ maxLen ∧ 1 ≤ fs.length ∧ fs.length ≤ 4 ∧ FunRow w' b fs ∧ Below w.heap.size w w' := by
  have Hb := hide hb
  clear hb
  go_enter Try.func6, Try.ntmps6
  go_wp2_with fail
  refine (open_any _ _ _ _ hl hm (unhide Hb)).mono ?_
  rintro e w1 ⟨rfl, hr, hb1, hz⟩
  have HR := hide hr
  clear hr
  go_wp2_with fail
  refine (bentUnit_draw _ _ _ (unhide HR) (by omega)).mono ?_
  rintro e w2 ⟨v, us, p', rfl, hU, hmi, hu1, hu4, hp', hr2, ht2⟩
  have HU := hide hU
  have HMI := hide hmi
  have HR2 := hide hr2
  have HT2 := hide ht2
  clear hU hmi hr2 ht2
  go_wp2_with fail
  refine (name_any _ _ p' (unhide HR2) (by omega)).mono ?_
  rintro e w3 ⟨x, hx, rfl, hr3, ht3⟩
  obtain ⟨b, c, fs, rfl, h1, h2, h3, h4, h5⟩ := some_row ((unhide HU).turns ht3 (by omega)) (unhide HMI) hu1 hu4
  have HROW := hide h5
  have HB := hide (hb1.trans (((unhide HT2).trans ht3).below (Nat.le_refl _) (by omega)))
  clear h5 hr3 ht3
  go_wp2_with fail
  go_ret2
  exact ⟨b, c, fs, x, rfl, hx, h1, h2, h3, h4, unhide HROW, unhide HB⟩
set_option maxHeartbeats 1000000 in
theorem funBent_any (w : World) (R p : Nat) (h : RdAt w R p) (hp : p ≤ 4294960000) :
    Calls Try.prog 27 #[.pointer (some ⟨R, 0, none⟩)] w fun e w' => ∃ (f : FunD) (b : Option Addr) (c : Nat), e = .returned (.agg #[.string f.nm, .bool f.wk, .slice b f.body.length c]) ∧ f.nm.size ≤ maxLen ∧ f.body.length ≤ c ∧ c ≤ maxLen ∧ InsRow w' b f.body ∧ (f.body ≠ [] → ∀ x, b = some x → w.heap.size ≤ x.block) ∧ Turns R w w' := by
  have hlt := rd_lt h
  have H := hide (rd_alloc h (.cells #[.string ⟨#[]⟩, .bool false, .slice none 0 0] 30))
  clear h
  go_enter Try.func27, Try.ntmps27
  go_wp2_with fail
  refine (bentUnit_draw _ R p (unhide H) (by omega)).mono ?_
  rintro e w2 ⟨v, us, p', rfl, hU, hmi, hu1, hu4, hp', hr2, ht2⟩
  obtain ⟨g, cap, C, rfl, hB, hg, hn, hm, hcc, hI⟩ := hU
  obtain ⟨h0, h1, h2⟩ := hcc 0 (by omega)
  obtain ⟨t1, t3⟩ := hmi us[0] (List.getElem_mem _)
  obtain ⟨b, c, e2, k1, k2, k3⟩ := (hI us[0] (List.getElem_mem _)).row (tame_max t3)
  rw [e2] at h2
  have c0 : w2.cell? ⟨g, 0, none⟩ = some (.string us[0].1.nm) := by rw [cell_of_block hg]; simpa using h0
  have c1 : w2.cell? ⟨g, 1, none⟩ = some (.bool us[0].1.wk) := by rw [cell_of_block hg]; simpa using h1
  have c2 : w2.cell? ⟨g, 2, none⟩ = some (.slice b us[0].1.body.length c) := by rw [cell_of_block hg]; simpa using h2
  have HX := hide (box_turns (new_block w _) ht2 (by omega))
  obtain ⟨⟨d0, d1, d2⟩, f0, f1, f2⟩ := box3 (unhide HX)
  have hul : (0 : Int) < (us.length : Int) := by omega
  have hnm : us[0].1.nm.size ≤ maxLen := by unfold maxLen; omega
  have HT := hide ((Turns.of_below (R := R) (below_alloc1 w _)).trans ht2)
  have HI := hide (ins_three (hI us[0] (List.getElem_mem _)) (unhide HX) (tame_max t3) e2)
  have hap : us[0].1.body ≠ [] → ∀ x, b = some x → w.heap.size ≤ x.block := fun _ x hx => by
    have := (World.ownsRow.lt (hI us[0] (List.getElem_mem _)) x.block (by rw [e2, hx]; rfl)).1
    simp at this
    omega
  generalize us[0] = u at *
  clear h0 h1 h2 hcc hI hg hmi k3 hr2 ht2 e2 t3
  go_wp2_with fail
  exact bodyPost_ret (v := .agg #[.string u.1.nm, .bool u.1.wk, .slice b u.1.body.length c]) (by simp [results, Try.results27, go_sem, d0, d1, d2]) rfl ⟨u.1, b, c, rfl, hnm, k1, k2, unhide HI _ _ _, hap, (((unhide HT).set (Nat.le_refl _) _).set (Nat.le_refl _) _).set (Nat.le_refl _) _⟩
theorem row_three {w : World} {G : Nat} {b : Option Addr} {xs : List InsD} (h : InsRow w b xs) (hG : xs ≠ [] → ∀ a, b = some a → a.block ≠ G) : ∀ x y z, InsRow (((w.setCell ⟨G, 0, none⟩ x).setCell ⟨G, 1, none⟩ y).setCell ⟨G, 2, none⟩ z) b xs := fun x y z => by
  rcases h with h | ⟨g, off, ha, h⟩
  · exact .inl h
  · by_cases e : xs = []
    · exact .inl e
    · have hne : g ≠ G := hG e _ ha
      refine .inr ⟨g, off, ha, fun i hi => ?_⟩
      obtain ⟨h0, h1, h2, h3⟩ := h i hi
      have t : ∀ o v, w.cell? ⟨g, o, none⟩ = some v → (((w.setCell ⟨G, 0, none⟩ x).setCell ⟨G, 1, none⟩ y).setCell ⟨G, 2, none⟩ z).cell? ⟨g, o, none⟩ = some v := fun o v hc => by
        rw [World.cell?_of_block (w := w) ((Below.heap_setCell _ ⟨G, 2, none⟩ z g hne).trans ((Below.heap_setCell _ ⟨G, 1, none⟩ y g hne).trans (Below.heap_setCell w ⟨G, 0, none⟩ x g hne)))]
        exact hc
      exact ⟨t _ _ h0, t _ _ h1, t _ _ h2, h3⟩
set_option maxHeartbeats 1000000 in
theorem drawRefsU_any (w : World) (a : Option Addr) (len cap : Nat) (hl : len ≤ cap) (hm : cap ≤ maxLen) (hb : len = 0 ∨ ∃ b off, a = some ⟨b, off, none⟩ ∧ b < w.heap.size ∧ ∀ i, i < len → ∃ c : Nat, c < 256 ∧ w.cell? ⟨b, off + i, none⟩ = some (.int .u8 c)) :
    Calls Try.prog 19 #[.slice a len cap] w fun e w' => ∃ (f : FunD) (b : Option Addr) (c : Nat), e = .returned (.agg #[.string f.nm, .bool f.wk, .slice b f.body.length c]) ∧ f.nm.size ≤ maxLen ∧ f.body.length ≤ c ∧ c ≤ maxLen ∧ InsRow w' b f.body ∧ Below w.heap.size w w' := by
  have Hb := hide hb
  clear hb
  go_enter Try.func19, Try.ntmps19
  go_wp2_with fail
  refine (open_any _ _ _ _ hl hm (bytes_alloc (unhide Hb) _)).mono ?_
  rintro e w1 ⟨rfl, hr, hb1, hz⟩
  have HX := hide (box_below (new_block w _) hb1)
  have HB := hide ((below_alloc1 w _).trans (hb1.mono (show w.heap.size ≤ (w.alloc _).heap.size by simp)))
  simp only [World.size_alloc] at hz hr
  have HR := hide hr
  clear hr hb1
  go_wp2_with fail
  refine (funBent_any _ _ _ (unhide HR) (by omega)).mono ?_
  rintro e w2 ⟨f, b, c, rfl, hnm, h1, h2, hrow, hap, ht2⟩
  obtain ⟨⟨c0, c1, c2⟩, f0, f1, f2⟩ := box3 (box_turns (unhide HX) ht2 (by omega))
  have HB2 := hide ((unhide HB).trans (ht2.below (show w.heap.size ≤ w.heap.size + 1 by omega) (by omega)))
  have HROW := hide (row_three (G := w.heap.size) hrow (fun h x hx => by have := hap h x hx; omega))
  clear ht2 hrow hap
  go_wp2_with fail
  exact bodyPost_ret (v := .agg #[.string f.nm, .bool f.wk, .slice b f.body.length c]) (by simp [results, Try.results19, go_sem, c0, c1, c2]) rfl ⟨f, b, c, rfl, hnm, h1, h2, unhide HROW _ _ _, (((unhide HB2).setCell (Nat.le_refl _) _).setCell (Nat.le_refl _) _).setCell (Nat.le_refl _) _⟩
end Go.Proofs.Ytdiaepjchcmelab.DrawsU
