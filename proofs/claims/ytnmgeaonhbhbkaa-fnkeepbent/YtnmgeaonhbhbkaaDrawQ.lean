/- The contracts of the specification's draws of programs: l4Prog, l4Bent, and the draws of chapter 4. -/
import Derived.Test.YtnmgeaonhbhbkaaDrawP
namespace Go.Proofs.Ytnmgeaonhbhbkaa.DrawQ
open Go.ChangeShapes Go.WideShapes Go.ChangeAt Go.RowKit Go.Joins Go.Deep
open Go.Proofs.Ytnmgeaonhbhbkaa.Base Go.Proofs.Ytnmgeaonhbhbkaa.InsA Go.Proofs.Ytnmgeaonhbhbkaa.Funs Go.Proofs.Ytnmgeaonhbhbkaa.Open Go.Proofs.Ytnmgeaonhbhbkaa.FunS Go.Proofs.Ytnmgeaonhbhbkaa.Keep Go.Proofs.Ytnmgeaonhbhbkaa.UnitS Go.Proofs.Ytnmgeaonhbhbkaa.Rd Go.Proofs.Ytnmgeaonhbhbkaa.DrawIns Go.Proofs.Ytnmgeaonhbhbkaa.UU Go.Proofs.Ytnmgeaonhbhbkaa.DrawUU Go.Proofs.Ytnmgeaonhbhbkaa.DrawLit Go.Proofs.Ytnmgeaonhbhbkaa.DrawK Go.Proofs.Ytnmgeaonhbhbkaa.PickD Go.Proofs.Ytnmgeaonhbhbkaa.Concat Go.Proofs.Ytnmgeaonhbhbkaa.KeepC Go.Proofs.Ytnmgeaonhbhbkaa.KeepD Go.Proofs.Ytnmgeaonhbhbkaa.KeepW Go.Proofs.Ytnmgeaonhbhbkaa.DrawP
open Go.Proofs.Ytnmgeaonhbhbkaa.DrawFun (short)
open Go.Proofs.Ytnmgeaonhbhbkaa.DrawThin (name_in)
set_option linter.unusedVariables false
set_option maxRecDepth 100000

def mainB : ByteArray := ⟨#[109, 97, 105, 110]⟩
theorem flat_lit {vs : List UnitV} (h : ∀ u ∈ vs, lit u) : (unitsD vs).flatten.length ≤ vs.length * 3 := by
  induction vs with
  | nil => simp [unitsD]
  | cons u r ih =>
    have h1 := (h u (List.mem_cons_self ..)).1
    have h2 := ih (fun x hx => h x (List.mem_cons_of_mem _ hx))
    have e : (unitsD (u :: r)).flatten.length = u.1.length + (unitsD r).flatten.length := by
      show ((u.1.map Prod.fst) :: unitsD r).flatten.length = _
      rw [List.flatten_cons, List.length_append, List.length_map]
    rw [e, List.length_cons, Nat.succ_mul]
    omega
theorem lit_small {vs : List UnitV} (h : ∀ u ∈ vs, lit u) (hl : vs.length ≤ 20) : Small (unitsD vs) := by
  have h1 := flat_lit h
  obtain ⟨_, h10, hsh⟩ := lit_units h
  refine ⟨by unfold flen; omega, fun f hf => ?_, fun f hf x hx => ?_⟩
  · obtain ⟨u, hu, hf⟩ := List.mem_flatten.1 hf
    have := h10 u hu f hf; omega
  · obtain ⟨u, hu, hf⟩ := List.mem_flatten.1 hf
    exact (hsh u hu f hf x hx).max
theorem walk_some {us : List (List FunD)} {s : ByteArray} {out : List FunD} (h : walkB us s = some out) : 1 ≤ out.length ∧ out.length ≤ us.flatten.length := by
  unfold walkB resK at h
  have hi := stK_inv us s (us.flatten.length + 1)
  have hb := stK_bound us s (us.flatten.length + 1)
  by_cases e : (stK us s (us.flatten.length + 1)).1.length = (stK us s (us.flatten.length + 1)).2.length
  · rw [if_pos e] at h
    cases h
    have := (List.getElem?_eq_some_iff.1 hi.head).1
    exact ⟨by omega, hb⟩
  · rw [if_neg e] at h; cases h
theorem walk_in {us : List (List FunD)} {s : ByteArray} {out : List FunD} (h : walkB us s = some out) : ∀ f ∈ out, f ∈ us.flatten := by
  unfold walkB resK at h
  have hi := stK_inv us s (us.flatten.length + 1)
  by_cases e : (stK us s (us.flatten.length + 1)).1.length = (stK us s (us.flatten.length + 1)).2.length
  · rw [if_pos e] at h
    cases h
    exact hi.mem
  · rw [if_neg e] at h; cases h
/-- The names of the functions are those that are drawn. -/
def NmOk (us : List (FunD × Value)) : Prop := ∀ u ∈ us, okN u.1.nm
theorem lit_names {vs : List UnitV} (h : ∀ u ∈ vs, lit u) : ∀ f ∈ (unitsD vs).flatten, okN f.nm := by
  intro f hf
  obtain ⟨u, hu, hf⟩ := List.mem_flatten.1 hf
  unfold unitsD at hu
  obtain ⟨v, hv, rfl⟩ := List.mem_map.1 hu
  obtain ⟨x, hx, rfl⟩ := List.mem_map.1 hf
  exact ((h v hv).2 x hx).1
/-- What l4Prog leaves. -/
def ProgLeft (R p : Nat) (w : World) (e : Ending) (w' : World) : Prop := ∃ v us p', e = .returned v ∧ ProgOwn w' w.heap.size v us ∧ 1 ≤ us.length ∧ us.length ≤ 40 ∧ Hid (NmOk us) ∧ p' ≤ p + 1000 ∧ RdAt w' R p' ∧ Turns R w w'
/-- The program that is taken where none is closed: three instructions in one block, one function in the next. -/
theorem prog_main (w : World) : ProgOwn ((w.alloc (.cells #[.int .i64 2, .int .i64 1, .string ⟨#[]⟩, .int .i64 1, .int .i64 0, .string ⟨#[]⟩, .int .i64 7, .int .i64 0, .string ⟨#[]⟩] 28)).alloc (.cells #[.string mainB, .bool false, .slice (some ⟨w.heap.size, 0, none⟩) 3 3] 31)) w.heap.size (.slice (some ⟨w.heap.size + 1, 0, none⟩) 1 1) [((⟨mainB, false, [⟨2, 1, ⟨#[]⟩⟩, ⟨1, 0, ⟨#[]⟩⟩, ⟨7, 0, ⟨#[]⟩⟩]⟩ : FunD), .slice (some ⟨w.heap.size, 0, none⟩) 3 3)] := by
  have h1 := new_block (w.alloc (.cells #[.int .i64 2, .int .i64 1, .string ⟨#[]⟩, .int .i64 1, .int .i64 0, .string ⟨#[]⟩, .int .i64 7, .int .i64 0, .string ⟨#[]⟩] 28)) (.cells #[.string mainB, .bool false, .slice (some ⟨w.heap.size, 0, none⟩) 3 3] 31)
  rw [World.size_alloc] at h1
  have h0 := box_below (new_block w (.cells #[.int .i64 2, .int .i64 1, .string ⟨#[]⟩, .int .i64 1, .int .i64 0, .string ⟨#[]⟩, .int .i64 7, .int .i64 0, .string ⟨#[]⟩] 28)) (below_alloc1 _ (.cells #[.string mainB, .bool false, .slice (some ⟨w.heap.size, 0, none⟩) 3 3] 31))
  refine ⟨⟨by simp [encV], .inr ⟨_, _, _, rfl, by omega, h1, Nat.le_refl _, by unfold maxLen; omega, rfl, rfl⟩⟩, fun u hu => ?_⟩
  rw [List.mem_singleton.1 hu]
  refine ⟨_, 3, rfl, by show (4 : Nat) ≤ maxLen; unfold maxLen; omega, Nat.le_refl _, by unfold maxLen; omega, .inr ⟨_, 0, rfl, fun i hi => ?_⟩, .inr ⟨_, 0, rfl, fun e => ?_, by simp; omega⟩⟩
  · have hi3 : i < 3 := by simpa using hi
    match i, hi3 with
    | 0, _ => exact ⟨by rw [cell_of_block h0]; rfl, by rw [cell_of_block h0]; rfl, by rw [cell_of_block h0]; rfl, Nat.zero_le _⟩
    | 1, _ => exact ⟨by rw [cell_of_block h0]; rfl, by rw [cell_of_block h0]; rfl, by rw [cell_of_block h0]; rfl, Nat.zero_le _⟩
    | 2, _ => exact ⟨by rw [cell_of_block h0]; rfl, by rw [cell_of_block h0]; rfl, by rw [cell_of_block h0]; rfl, Nat.zero_le _⟩
  · simp [Value.ownBlock] at e

set_option maxHeartbeats 4000000 in
theorem prog_draw (w : World) (R p : Nat) (h : RdAt w R p) (hp : p ≤ 4294900000) :
    Calls Try.prog 48 #[.pointer (some ⟨R, 0, none⟩)] w (ProgLeft R p w) := by
  have hlt := rd_lt h
  have H := hide h
  clear h
  go_enter Try.func48, Try.ntmps48
  go_wp2_with fail
  refine (units_lit _ R p 3 (unhide H) (by omega) (by omega)).mono ?_
  rintro e w1 ⟨v1, vs1, p1, rfl, hU1, hvm, hv3, hp1, hr1, ht1⟩
  have HU1 := hide hU1
  have HL1 := hide hv3
  have HR1 := hide hr1
  have HT1 := hide ht1
  clear hU1 hv3 hr1 ht1 H
  go_wp2_with fail
  refine (thin_lit _ _ _ v1 vs1 (unhide HU1) (by omega) (unhide HL1)).mono ?_
  rintro e w2 ⟨v2, vs2, rfl, hU2, hvl2, hv32, hb2⟩
  have HU2 := hide hU2
  have HL2 := hide hv32
  have HR2 := hide (rd_below (unhide HR1) hb2)
  have HT2 := hide ((unhide HT1).trans (Turns.of_below hb2))
  clear hU2 hv32 hb2 HU1 HL1 HR1 HT1
  go_wp2_with fail
  refine (close_draw _ R p1 _ _ v2 vs2 mainB (unhide HR2) (by omega) (unhide HU2) (by omega) (unhide HL2) (by decide)).mono ?_
  rintro e w3 ⟨v3, vs3, p3, rfl, hU3, hvl3, hL3, hp3, hr3, ht3⟩
  have HSM := hide (lit_small hL3 (by omega))
  have hfl := flat_lit hL3
  have HNM := hide (lit_names hL3)
  have HR3 := hide hr3
  have HT3 := hide ((unhide HT2).trans ht3)
  obtain ⟨a, cap, hv, hcap, hcm, hrow⟩ := hU3.row
  have HRW := hide hrow
  have hfl30 : (unitsD vs3).flatten.length ≤ 40 := by omega
  have HFL := hide hfl30
  subst hv
  clear hU3 hL3 hr3 ht3 hrow HU2 HL2 HR2 HT2 hfl hfl30
  generalize unitsD vs3 = us at *
  go_wp2_with fail
  refine (specWalk_any a cap us mainB _ (by decide) hcap hcm (unhide HSM) (unhide HRW)).mono ?_
  rintro e w4 ⟨v4, ok, rfl, hWk, hb4⟩
  have HR4 := hide (rd_below (unhide HR3) hb4)
  have HT4 := hide ((unhide HT3).trans (Turns.of_below hb4))
  have hs3 := (unhide HT3).size
  cases hw : walkB us mainB with
  | none =>
    rw [hw] at hWk
    obtain ⟨rfl, rfl⟩ := hWk
    have HPM := hide (prog_main w4)
    have hs4 := (unhide HT4).size
    clear HR3 HT3 HSM HRW hb4
    go_wp2_with fail
    go_ret
    exact ⟨_, _, p3, rfl, ⟨row_base (unhide HPM).1 hs4, (unhide HPM).2⟩, by simp, by simp, (fun u hu => by rw [List.mem_singleton.1 hu]; show okN mainB; decide), by omega, rd_alloc (rd_alloc (unhide HR4) _) _, ((unhide HT4).alloc _).alloc _⟩
  | some out =>
    rw [hw] at hWk
    obtain ⟨rfl, vs, hv, hbd, hO⟩ := hWk
    obtain ⟨ho1, hof⟩ := walk_some hw
    have hlen : vs.length = out.length := by rw [← hv, List.length_map]
    have HPO : Hid (ProgOwn w4 w.heap.size v4 vs) := ⟨row_base hO hs3, fun u hu => BodyOff.of (hbd u hu) hb4 (fun g hg => (World.ownsRow.lt hO g hg).1)⟩
    have hf40 := unhide HFL
    have HNV : Hid (NmOk vs) := fun u hu => unhide HNM _ (walk_in hw _ (by rw [← hv]; exact List.mem_map.2 ⟨u, hu, rfl⟩))
    have hv1 : 1 ≤ vs.length := by omega
    have hv40 : vs.length ≤ 40 := by omega
    obtain ⟨a4, c4, e4⟩ := row_form hO
    subst e4
    clear hv hbd hO HR3 HT3 HSM HRW hb4 hlen ho1 hof hf40
    go_wp2_with fail
    go_ret
    exact ⟨_, vs, p3, rfl, unhide HPO, hv1, hv40, unhide HNV, by omega, unhide HR4, unhide HT4⟩
end Go.Proofs.Ytnmgeaonhbhbkaa.DrawQ
