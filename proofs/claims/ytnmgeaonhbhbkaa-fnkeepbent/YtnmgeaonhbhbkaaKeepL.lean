/- The contract of the specification's l2Copy: functions in memory of their own. -/
import Derived.Test.YtnmgeaonhbhbkaaKeepO
import Derived.Deep.RegionLaw
import Derived.Deep.AppendLies
namespace Go.Proofs.Ytnmgeaonhbhbkaa.KeepL
open Go.ChangeShapes Go.WideShapes Go.ChangeAt Go.RowKit Go.Joins Go.Deep
open Go.Proofs.Ytnmgeaonhbhbkaa.Base Go.Proofs.Ytnmgeaonhbhbkaa.InsA Go.Proofs.Ytnmgeaonhbhbkaa.Funs Go.Proofs.Ytnmgeaonhbhbkaa.Open Go.Proofs.Ytnmgeaonhbhbkaa.Keep Go.Proofs.Ytnmgeaonhbhbkaa.UU Go.Proofs.Ytnmgeaonhbhbkaa.Concat Go.Proofs.Ytnmgeaonhbhbkaa.KeepC Go.Proofs.Ytnmgeaonhbhbkaa.KeepO
set_option linter.unusedVariables false
set_option maxRecDepth 100000

theorem row_form' {w : World} {B : Nat} {e : TypeId} {z n : Nat} {v : Value} {xs : List Value} (h : w.ownsRow B e z v n xs) : ∃ a c, v = .slice a n c := by
  obtain ⟨_, ⟨rfl, rfl⟩ | ⟨g, cap, cur, rfl, _⟩⟩ := h
  · exact ⟨_, _, rfl⟩
  · exact ⟨_, _, rfl⟩
/-- An append whose run is known, as one step of a region that draws. -/
theorem step_run {P : Program} {ops : Array Oper} {o : Oper} {a : Act} {w w' : World} {K : Act → World → Prop} {Q : Exit → Act → World → Prop} {E : Prop} (hgd : o.guard = none) (s x : Operand) (t tx : TypeId)
    (ho : o.op = Op.call { callee := Callee.builtin Builtin.append, args := #[s, x], argTypes := #[t, tx] }) (v u v' : Value) (hs : a.eval s = v) (hx : a.eval x = u) (hr : (Builtin.append_ #[t, tx] o.type #[v, u]).run P w = .ok v' w') (hK : K (a.put o.dst v') w') :
    if Region.wanted o (yielded ops a.tmps) = true then Oper.wp P o a w K Q else E := by
  have hw : Region.wanted o (yielded ops a.tmps) = true := by simp [Region.wanted, hgd]
  rw [if_pos hw]
  unfold Oper.wp
  simp [execOp, ho, resolve, invoke, builtin, hs, hx, hr, Result.andThen]
  exact hK
/-- The body's copy, behind the draw. -/
theorem copy_made {wr : World} {nm : ByteArray} {wk : Bool} {a : Option Addr} {ci : Nat} {xs : List InsD} (hr : InsRow wr a xs) (hn : nm.size ≤ maxLen) (h1 : 0 < xs.length) (hl : xs.length ≤ 1000) (ty : TypeId) :
    ∃ g c w2, (Builtin.append_ #[29, 29] ty #[.slice (some ⟨wr.heap.size, 0, none⟩) 0 0, .slice a xs.length ci]).run Try.prog (wr.alloc (.cells #[] 28)).drew = .ok (.slice (some ⟨g, 0, none⟩) xs.length c) w2 ∧ Below wr.heap.size wr w2 ∧ BodyO w2 wr.heap.size (⟨nm, wk, xs⟩, .slice (some ⟨g, 0, none⟩) xs.length c) := by
  have hb : Below wr.heap.size wr (wr.alloc (.cells #[] 28)).drew := (below_alloc1 wr _).drew
  have h0 : (wr.alloc (.cells #[] 28)).drew.ownsRow wr.heap.size 28 3 (.slice (some ⟨wr.heap.size, 0, none⟩) 0 0) 0 [] := ⟨by simp, .inr ⟨_, _, _, rfl, Nat.le_refl _, new_block wr _, Nat.le_refl _, Nat.zero_le _, rfl, rfl⟩⟩
  obtain ⟨v', w2, hrun, hO, hg, hne⟩ := append_body (ci := ci) ty hb.size h0 (hr.below hb) h1 (by omega)
  obtain ⟨g, c, e⟩ : ∃ g c, v' = .slice (some ⟨g, 0, none⟩) xs.length c := by
    obtain ⟨_, ⟨rfl, h0⟩ | ⟨g, cap, cur, e, _⟩⟩ := hO
    · omega
    · exact ⟨g, cap, e⟩
  subst e
  exact ⟨g, c, w2, hrun, hb.grown hg hb.size (fun j hj => by cases hj; exact Nat.le_refl _), hO, hn, hr.sizes, hne⟩
end Go.Proofs.Ytnmgeaonhbhbkaa.KeepL
