/- The contracts of FunSame of both sides. -/
import Derived.Test.YthbbmookhcalkaaGreatDoorOpen
import Derived.Deep.QuietTactic
import Derived.BigQuiet
import Derived.Laws.StructEq
import Derived.Shelf.SlicesE.Kit
namespace Go.Proofs.YthbbmookhcalkaaGreatDoor.Same
open Go.ChangeShapes Go.WideShapes Go.ChangeAt Go.RowKit Go.Joins
open Go.Proofs.YthbbmookhcalkaaGreatDoor.Base Go.Proofs.YthbbmookhcalkaaGreatDoor.InsA Go.Proofs.YthbbmookhcalkaaGreatDoor.Funs Go.Proofs.YthbbmookhcalkaaGreatDoor.Open
set_option linter.unusedVariables false
set_option maxRecDepth 100000

def insEqB (x y : InsD) : Bool := decide (x.o = y.o) && decide (x.n = y.n) && decide (x.s.toList = y.s.toList)
theorem bytes_eq {a b : ByteArray} : a.toList = b.toList ↔ a = b := by
  rw [ByteArray.toList_eq, ByteArray.toList_eq]
  obtain ⟨⟨x⟩⟩ := a
  obtain ⟨⟨y⟩⟩ := b
  simp
def bodyEqB : List InsD → List InsD → Bool
  | [], [] => true
  | x :: xs, y :: ys => insEqB x y && bodyEqB xs ys
  | _, _ => false
def funEqB (nm nm' : ByteArray) (wk wk' : Bool) (xs ys : List InsD) : Bool := decide (nm.toList = nm'.toList) && (wk == wk') && bodyEqB xs ys

theorem insEqB_iff (x y : InsD) : insEqB x y = true ↔ x = y := by
  obtain ⟨a, b, c⟩ := x
  obtain ⟨d, e, f⟩ := y
  simp [insEqB, and_assoc, bytes_eq]
theorem bodyEqB_iff (xs : List InsD) : ∀ ys, bodyEqB xs ys = true ↔ xs = ys := by
  induction xs with
  | nil => intro ys; cases ys <;> simp [bodyEqB]
  | cons x xs ih => intro ys; cases ys <;> simp [bodyEqB, insEqB_iff, ih]
theorem body_ne {xs ys : List InsD} (h : xs ≠ ys) : false = bodyEqB xs ys := by
  cases hb : bodyEqB xs ys
  · rfl
  · exact absurd ((bodyEqB_iff xs ys).1 hb) h
theorem body_len {xs ys : List InsD} (h : xs.length ≠ ys.length) : false = bodyEqB xs ys := body_ne (fun e => h (by rw [e]))
theorem body_at {xs ys : List InsD} {k : Nat} (hx : k < xs.length) (hy : k < ys.length) (h : insEqB xs[k] ys[k] = false) : false = bodyEqB xs ys := by
  refine body_ne (fun e => ?_)
  subst e
  rw [(insEqB_iff _ _).2 rfl] at h
  cases h
theorem take_step {xs ys : List InsD} {k : Nat} (hx : k < xs.length) (hy : k < ys.length) (h : insEqB xs[k] ys[k] = true) (ht : xs.take k = ys.take k) : xs.take (k + 1) = ys.take (k + 1) := by
  rw [List.take_succ_eq_append_getElem hx, List.take_succ_eq_append_getElem hy, ht, (insEqB_iff _ _).1 h]
theorem take_end {xs ys : List InsD} {k : Nat} (hl : ys.length = xs.length) (hk : ¬ k < xs.length) (ht : xs.take k = ys.take k) : true = bodyEqB xs ys := by
  rw [List.take_of_length_le (by omega), List.take_of_length_le (by omega)] at ht
  exact ((bodyEqB_iff _ _).2 ht).symm

theorem neqIns (x y : InsD) (w : World) : Sem.run Tryz.prog (binOp .neq 105 (.agg #[.int .i64 x.o, .int .i64 x.n, .string x.s]) (.agg #[.int .i64 y.o, .int .i64 y.n, .string y.s])) w = .ok (.bool (!insEqB x y)) w := by
  have u3 := Tryz.underlying3
  have a3 := Tryz.isAgg3
  have z3 := Tryz.sizeOf3
  have u9 := Tryz.underlying9
  have a9 := Tryz.isAgg9
  have z9 := Tryz.sizeOf9
  have hS : Tryz.prog.underlying 105 = some (.struct (Tryz.prog.fieldsOf 105)) := by kernel_rfl
  have hp : Tryz.prog.stoodInHeld 105 = false := by kernel_rfl
  rw [run_neq_struct, show (10000 : Nat) = 9999 + 1 from rfl, run_equalIn_agg w 9999 105 _ _ hS hp]
  simp only [Program.fieldsOf, Tryz.underlying105]
  go_simp
  by_cases h1 : x.o = y.o <;> by_cases h2 : x.n = y.n <;> by_cases h3 : x.s.toList = y.s.toList <;> simp [h1, h2, h3, insEqB]
theorem guardIns (op : BinOp) (a b : Operand) (x y : InsD) (w : World) : Sem.run Tryz.prog (eqGuard op 105 a b (.agg #[.int .i64 x.o, .int .i64 x.n, .string x.s]) (.agg #[.int .i64 y.o, .int .i64 y.n, .string y.s])) w = .ok () w :=
  run_eqGuard_agg w op _ a b _ _ (by kernel_rfl)

set_option maxHeartbeats 1000000 in
theorem specBody_any (a a' : Option Addr) (cap cap' : Nat) (xs ys : List InsD) (w : World) (hcap : xs.length ≤ cap) (hcm : cap ≤ maxLen) (hcap' : ys.length ≤ cap') (hcm' : cap' ≤ maxLen) (hR : InsRow w a xs) (hQ : InsRow w a' ys) :
    Calls Tryz.prog 108 #[.slice a xs.length cap, .slice a' ys.length cap'] w fun e w' => e = .returned (.bool (bodyEqB xs ys)) ∧ Below w.heap.size w w' := by
  have HR := hide hR
  have HQ := hide hQ
  clear hR hQ
  unfold maxLen at hcm hcm'
  have hlen : (xs.length : Int) ≤ 9223372036854775807 := by omega
  have hlen' : (ys.length : Int) ≤ 9223372036854775807 := by omega
  by_cases hne : xs.length = ys.length
  · have hyx := hide hne.symm
    rw [unhide hyx]
    clear hne hlen' hcap' hcm'
    go_enter Tryz.func108, Tryz.ntmps108
    go_wp2_with fail
    go_loopw [5] (fun i w' => ∃ k : Nat, k ≤ xs.length ∧ i = .int .i64 k ∧ xs.take k = ys.take k ∧ Below w.heap.size w w') (fun i _ => xs.length - (intOf i).toNat)
    case atStart => exact ⟨0, Nat.zero_le _, rfl, rfl, Below.refl _ _⟩
    case round =>
      obtain ⟨k, hk, rfl, ht, hB⟩ := hrel
      have HT := hide ht
      clear ht
      by_cases hkl : k < xs.length
      · have hkl2 : k < ys.length := by rw [unhide hyx]; exact hkl
        obtain ⟨b, off, rfl⟩ := (unhide HR).get (by omega)
        obtain ⟨b', off', rfl⟩ := (unhide HQ).get (by omega)
        obtain ⟨c0, c1, c2, _⟩ := ((unhide HR).below hB).cells hkl
        obtain ⟨d0, d1, d2, _⟩ := ((unhide HQ).below hB).cells hkl2
        have hkl' : (k : Int) < (xs.length : Int) := by omega
        have hk0 : (0 : Int) ≤ (k : Int) := by omega
        have HB1 := hide (body_at hkl hkl2)
        have HB2 := hide (fun h => take_step hkl hkl2 h (unhide HT))
        generalize xs[k] = x at *
        generalize ys[k] = y at *
        have hne' := neqIns x y
        have hgd' := fun op a b => guardIns op a b x y
        cases hxy : insEqB x y
        · go_wp2_with fail
          go_quiet (fail)
          go_wp2
          go_ret
          exact ⟨ret_bool (unhide HB1 hxy), bl_drewN hB _⟩
        · go_wp2_with fail
          go_quiet (fail)
          go_wp2
          exact ⟨⟨k + 1, by omega, by go_num, unhide HB2 hxy, bl_drewN hB _⟩, by simp [intOf]; omega⟩
      · go_wp2_with fail
        go_ret
        exact ⟨ret_bool (take_end (unhide hyx) hkl (unhide HT)), hB⟩
  · have hne' : ¬ (xs.length : Int) = (ys.length : Int) := by omega
    have HE := hide (body_len hne)
    go_enter Tryz.func108, Tryz.ntmps108
    go_wp2_with fail
    go_ret
    exact ⟨ret_bool (unhide HE), Below.refl _ _⟩



end Go.Proofs.YthbbmookhcalkaaGreatDoor.Same
