/- Plain facts on ways with calls: how many calls there are on one at most, told from behind and from the beginning on. -/
import Derived.Test.YtnmgeaonhbhbkaaKeepD
namespace Go.Proofs.Ytnmgeaonhbhbkaa.WayD
open Go.Proofs.Ytnmgeaonhbhbkaa.KeepD
set_option linter.unusedVariables false

/-- Where one goes on from each: to which, and whether it is called. -/
abbrev StepF := Nat → List (Nat × Bool)
def wt (b : Bool) : Nat := if b then 1 else 0
/-- A way of so many steps, with so many calls. -/
def WayG (E : StepF) : Nat → Nat → Nat → Nat → Prop
  | 0, u, c, v => c = 0 ∧ v = u
  | k + 1, u, c, v => ∃ t b c', (t, b) ∈ E u ∧ WayG E k t c' v ∧ c = wt b + c'
theorem way_nil (E : StepF) (u : Nat) : WayG E 0 u 0 u := ⟨rfl, rfl⟩
theorem way_app {E : StepF} : ∀ {k u c v k' c' x : Nat}, WayG E k u c v → WayG E k' v c' x → WayG E (k + k') u (c + c') x
  | 0, u, c, v, k', c', x, h, h' => by
    obtain ⟨rfl, rfl⟩ := h
    rw [Nat.zero_add, Nat.zero_add]
    exact h'
  | k + 1, u, c, v, k', c', x, h, h' => by
    obtain ⟨t, b, c1, h1, h2, rfl⟩ := h
    rw [Nat.add_right_comm]
    exact ⟨t, b, c1 + c', h1, way_app h2 h', by omega⟩
theorem way_cons {E : StepF} {k u t c v : Nat} {b : Bool} (h : (t, b) ∈ E u) (h' : WayG E k t c v) : WayG E (k + 1) u (wt b + c) v := ⟨t, b, c, h, h', rfl⟩
theorem way_one {E : StepF} {u t : Nat} {b : Bool} (h : (t, b) ∈ E u) : WayG E 1 u (wt b) t := ⟨t, b, 0, h, way_nil E t, rfl⟩
theorem way_snoc {E : StepF} {k u c v t : Nat} {b : Bool} (h : WayG E k u c v) (h' : (t, b) ∈ E v) : WayG E (k + 1) u (c + wt b) t := way_app h (way_one h')
theorem way_lt {E : StepF} {n : Nat} (hc : ∀ u, u < n → ∀ s ∈ E u, s.1 < n) : ∀ {k u c v : Nat}, u < n → WayG E k u c v → v < n
  | 0, u, c, v, hu, h => by obtain ⟨_, rfl⟩ := h; exact hu
  | k + 1, u, c, v, hu, h => by
    obtain ⟨t, b, c1, h1, h2, rfl⟩ := h
    exact way_lt hc (hc u hu _ h1) h2

/-- The most of a list. -/
def most (f : Nat × Bool → Nat) (l : List (Nat × Bool)) (m : Nat) : Nat := l.foldl (fun m s => max m (f s)) m
theorem most_ge (f : Nat × Bool → Nat) : ∀ (l : List (Nat × Bool)) (m : Nat), m ≤ most f l m ∧ ∀ s ∈ l, f s ≤ most f l m
  | [], m => ⟨Nat.le_refl _, fun s hs => by cases hs⟩
  | a :: l, m => by
    obtain ⟨h1, h2⟩ := most_ge f l (max m (f a))
    show m ≤ most f l (max m (f a)) ∧ ∀ s ∈ a :: l, f s ≤ most f l (max m (f a))
    refine ⟨by omega, fun s hs => ?_⟩
    rcases List.mem_cons.1 hs with rfl | hs
    · omega
    · exact h2 s hs
theorem most_is (f : Nat × Bool → Nat) : ∀ (l : List (Nat × Bool)) (m : Nat), most f l m = m ∨ ∃ s ∈ l, most f l m = f s
  | [], m => .inl rfl
  | a :: l, m => by
    show most f l (max m (f a)) = m ∨ ∃ s ∈ a :: l, most f l (max m (f a)) = f s
    rcases most_is f l (max m (f a)) with h | ⟨s, hs, h⟩
    · rcases Nat.le_total m (f a) with h1 | h1
      · exact .inr ⟨a, List.mem_cons_self .., by rw [h]; omega⟩
      · exact .inl (by rw [h]; omega)
    · exact .inr ⟨s, List.mem_cons_of_mem _ hs, h⟩
/-- From each on, within so many steps. -/
def deep (E : StepF) : Nat → Nat → Nat
  | 0, _ => 0
  | i + 1, u => most (fun s => wt s.2 + deep E i s.1) (E u) 0
theorem deep_ge {E : StepF} : ∀ {i k u c v : Nat}, WayG E k u c v → k ≤ i → c ≤ deep E i u
  | i, 0, u, c, v, h, _ => by obtain ⟨rfl, _⟩ := h; exact Nat.zero_le _
  | 0, k + 1, u, c, v, h, hk => by omega
  | i + 1, k + 1, u, c, v, h, hk => by
    obtain ⟨t, b, c1, h1, h2, rfl⟩ := h
    have h3 := deep_ge h2 (show k ≤ i by omega)
    have h4 := (most_ge (fun s => wt s.2 + deep E i s.1) (E u) 0).2 _ h1
    show _ ≤ most (fun s => wt s.2 + deep E i s.1) (E u) 0
    simp only at h4
    omega
theorem deep_way (E : StepF) : ∀ (i u : Nat), ∃ k v, k ≤ i ∧ WayG E k u (deep E i u) v
  | 0, u => ⟨0, u, Nat.le_refl _, way_nil E u⟩
  | i + 1, u => by
    show ∃ k v, k ≤ i + 1 ∧ WayG E k u (most (fun s => wt s.2 + deep E i s.1) (E u) 0) v
    rcases most_is (fun s => wt s.2 + deep E i s.1) (E u) 0 with h | ⟨⟨t, b⟩, hs, h⟩
    · exact ⟨0, u, by omega, h, rfl⟩
    · obtain ⟨k, v, hk, hw⟩ := deep_way E i t
      exact ⟨k + 1, v, by omega, t, b, _, hs, hw, h⟩
theorem deep_mono (E : StepF) (i u : Nat) : deep E i u ≤ deep E (i + 1) u := by
  obtain ⟨k, v, hk, hw⟩ := deep_way E i u
  exact deep_ge hw (by omega)
theorem deep_le (E : StepF) (u : Nat) {i j : Nat} (h : i ≤ j) : deep E i u ≤ deep E j u := by
  obtain ⟨k, v, hk, hw⟩ := deep_way E i u
  exact deep_ge hw (by omega)

def sumTo (f : Nat → Nat) : Nat → Nat
  | 0 => 0
  | n + 1 => sumTo f n + f n
theorem sum_le {f g : Nat → Nat} : ∀ {n : Nat}, (∀ u, u < n → f u ≤ g u) → sumTo f n ≤ sumTo g n
  | 0, _ => Nat.le_refl _
  | n + 1, h => by
    have h1 := sum_le (n := n) (fun u hu => h u (by omega))
    have h2 := h n (by omega)
    show sumTo f n + f n ≤ sumTo g n + g n
    omega
theorem sum_lt {f g : Nat → Nat} : ∀ {n : Nat}, (∀ u, u < n → f u ≤ g u) → (∃ u, u < n ∧ f u ≠ g u) → sumTo f n + 1 ≤ sumTo g n
  | 0, _, h => by obtain ⟨u, hu, _⟩ := h; omega
  | n + 1, h, ⟨u, hu, hne⟩ => by
    have h2 := h n (by omega)
    show sumTo f n + f n + 1 ≤ sumTo g n + g n
    by_cases e : u = n
    · subst e
      have h1 := sum_le (f := f) (g := g) (n := u) (fun u hu => h u (by omega))
      omega
    · have h1 := sum_lt (f := f) (g := g) (n := n) (fun u hu => h u (by omega)) ⟨u, by omega, hne⟩
      omega
theorem sum_bound {f : Nat → Nat} {m : Nat} : ∀ {n : Nat}, (∀ u, u < n → f u ≤ m) → sumTo f n ≤ n * m
  | 0, _ => Nat.zero_le _
  | n + 1, h => by
    have h1 := sum_bound (n := n) (fun u hu => h u (by omega))
    have h2 := h n (by omega)
    show sumTo f n + f n ≤ (n + 1) * m
    rw [Nat.succ_mul]
    omega
/-- What only grows, and is bounded, stands still somewhere. -/
theorem still {f : Nat → Nat → Nat} {n B : Nat} (mono : ∀ i, i ≤ B → ∀ u, u < n → f i u ≤ f (i + 1) u) (bd : sumTo (f (B + 1)) n ≤ B) : ∃ i, i ≤ B ∧ ∀ u, u < n → f (i + 1) u = f i u := by
  refine Classical.byContradiction fun hno => ?_
  have key : ∀ i, i ≤ B + 1 → i ≤ sumTo (f i) n := by
    intro i
    induction i with
    | zero => intro _; exact Nat.zero_le _
    | succ i ih =>
      intro hi
      have h1 := ih (by omega)
      have h2 : ∃ u, u < n ∧ f i u ≠ f (i + 1) u := by
        refine Classical.byContradiction fun h => hno ⟨i, by omega, fun u hu => ?_⟩
        exact Classical.byContradiction fun hne => h ⟨u, hu, fun e => hne e.symm⟩
      have h3 := sum_lt (mono i (by omega)) h2
      omega
  have := key (B + 1) (Nat.le_refl _)
  omega

/-- The most calls on a way from one on. -/
def Sup (E : StepF) (u m : Nat) : Prop := (∃ k v, WayG E k u m v) ∧ ∀ k c v, WayG E k u c v → c ≤ m
theorem sup_one {E : StepF} {u m m' : Nat} (h : Sup E u m) (h' : Sup E u m') : m = m' := by
  obtain ⟨⟨k, v, a⟩, b⟩ := h
  obtain ⟨⟨k', v', a'⟩, b'⟩ := h'
  have := b' k m v a
  have := b k' m' v' a'
  omega
theorem sup_of {E : StepF} {u : Nat} : ∀ (M : Nat), (∀ k c v, WayG E k u c v → c ≤ M) → ∃ m, Sup E u m
  | 0, h => ⟨0, ⟨0, u, way_nil E u⟩, h⟩
  | M + 1, h => by
    by_cases hw : ∃ k v, WayG E k u (M + 1) v
    · exact ⟨M + 1, hw, h⟩
    · refine sup_of M (fun k c v hkc => ?_)
      have h1 := h k c v hkc
      by_cases e : c = M + 1
      · subst e; exact absurd ⟨k, v, hkc⟩ hw
      · omega
theorem sup_step {E : StepF} {u t m m' : Nat} {b : Bool} (h : Sup E u m) (h' : Sup E t m') (hs : (t, b) ∈ E u) : wt b + m' ≤ m := by
  obtain ⟨⟨k', v', a'⟩, _⟩ := h'
  exact h.2 _ _ _ (way_cons hs a')
/-- Along a way with the most calls each number of calls is the most from some function on. -/
theorem sup_all {E : StepF} {n : Nat} (hc : ∀ u, u < n → ∀ s ∈ E u, s.1 < n) : ∀ {k u c v : Nat}, u < n → WayG E k u c v → Sup E u c → ∀ j, j ≤ c → ∃ x, x < n ∧ Sup E x j
  | 0, u, c, v, hu, h, hs, j, hj => by
    obtain ⟨rfl, _⟩ := h
    have : j = 0 := by omega
    subst this
    exact ⟨u, hu, hs⟩
  | k + 1, u, c, v, hu, h, hs, j, hj => by
    obtain ⟨t, b, c1, h1, h2, rfl⟩ := h
    by_cases e : j = wt b + c1
    · subst e; exact ⟨u, hu, hs⟩
    · have ht : Sup E t c1 := ⟨⟨k, v, h2⟩, fun k' c' v' hw => by
        have := hs.2 _ _ _ (way_cons h1 hw)
        omega⟩
      have hb : wt b ≤ 1 := by unfold wt; split <;> omega
      exact sup_all hc (hc u hu _ h1) h2 ht j (by omega)
/-- Where there is a most it is less than there are functions. -/
theorem sup_lt {E : StepF} {n u m : Nat} (hc : ∀ u, u < n → ∀ s ∈ E u, s.1 < n) (hu : u < n) (h : Sup E u m) : m < n := by
  obtain ⟨⟨k, v, hw⟩, hb⟩ := h
  have hall := sup_all hc hu hw ⟨⟨k, v, hw⟩, hb⟩
  let g : Nat → Nat := fun j => if hj : j ≤ m then Classical.choose (hall j hj) else 0
  have hg : ∀ j, j ≤ m → g j < n ∧ Sup E (g j) j := fun j hj => by
    have := Classical.choose_spec (hall j hj)
    simp only [g, hj, dite_true]
    exact this
  have hnd : ((List.range (m + 1)).map g).Nodup := by
    unfold List.Nodup
    rw [List.pairwise_map]
    refine List.Pairwise.imp_of_mem (R := fun a b => a ≠ b) (fun {a b} ha hb hne e => ?_) List.nodup_range
    have h1 := hg a (by have := List.mem_range.1 ha; omega)
    have h2 := hg b (by have := List.mem_range.1 hb; omega)
    rw [e] at h1
    exact hne (sup_one h1.2 h2.2)
  have := nodup_le hnd (m := List.range n) (fun x hx => by
    obtain ⟨j, hj, rfl⟩ := List.mem_map.1 hx
    exact List.mem_range.2 (hg j (by have := List.mem_range.1 hj; omega)).1)
  simp at this
  omega
/-- What GraphDeep tells. -/
def Deepest (E : StepF) (r : Int) : Prop := (∃ m : Nat, r = m ∧ Sup E 0 m) ∨ (r = -1 ∧ ∀ m, ¬ Sup E 0 m)
theorem deepest_one {E : StepF} {r r' : Int} (h : Deepest E r) (h' : Deepest E r') : r = r' := by
  rcases h with ⟨m, rfl, hm⟩ | ⟨rfl, hn⟩
  · rcases h' with ⟨m', rfl, hm'⟩ | ⟨rfl, hn'⟩
    · rw [sup_one hm hm']
    · exact absurd hm (hn' m)
  · rcases h' with ⟨m', rfl, hm'⟩ | ⟨rfl, hn'⟩
    · exact absurd hm' (hn m')
    · rfl
/-- A way with as many calls as there are functions: there is no most. -/
theorem deepest_far {E : StepF} {n k c v : Nat} (hc : ∀ u, u < n → ∀ s ∈ E u, s.1 < n) (h0 : 0 < n) (h : WayG E k 0 c v) (hn : n ≤ c) : Deepest E (-1) :=
  .inr ⟨rfl, fun m hm => by
    have h1 := sup_lt hc h0 hm
    have h2 := hm.2 _ _ _ h
    omega⟩
/-- Calls with which each is reached, that no step makes more. -/
theorem deepest_calls {E : StepF} {n m : Nat} {calls : Nat → Int} (hc : ∀ u, u < n → ∀ s ∈ E u, s.1 < n) (h0 : 0 < n) (hz : 0 ≤ calls 0) (hst : ∀ u, u < n → 0 ≤ calls u → ∀ s ∈ E u, calls u + wt s.2 ≤ calls s.1) (hle : ∀ u, u < n → calls u ≤ m) (hm : ∃ k v, WayG E k 0 m v) : Deepest E m := by
  refine .inl ⟨m, rfl, hm, ?_⟩
  have key : ∀ (k u c v : Nat), u < n → 0 ≤ calls u → WayG E k u c v → v < n ∧ calls u + c ≤ calls v := by
    intro k
    induction k with
    | zero =>
      intro u c v hu h1 h
      obtain ⟨rfl, rfl⟩ := h
      exact ⟨hu, by omega⟩
    | succ k ih =>
      intro u c v hu h1 h
      obtain ⟨t, b, c1, h2, h3, rfl⟩ := h
      have h4 := hst u hu h1 _ h2
      simp only at h4
      obtain ⟨h5, h6⟩ := ih t c1 v (hc u hu _ h2) (by omega) h3
      exact ⟨h5, by omega⟩
  intro k c v h
  obtain ⟨h1, h2⟩ := key k 0 c v h0 hz h
  have := hle v h1
  omega
/-- Where nothing grows any more all is told. -/
theorem deepest_still {E : StepF} {n i : Nat} (hc : ∀ u, u < n → ∀ s ∈ E u, s.1 < n) (h0 : 0 < n) (h : ∀ u, u < n → deep E (i + 1) u = deep E i u) : Deepest E (deep E i 0) := by
  obtain ⟨k, v, _, hw⟩ := deep_way E i 0
  refine .inl ⟨_, rfl, ⟨k, v, hw⟩, ?_⟩
  have key : ∀ (k u c v : Nat), u < n → WayG E k u c v → c ≤ deep E i u := by
    intro k
    induction k with
    | zero => intro u c v hu h; obtain ⟨rfl, _⟩ := h; exact Nat.zero_le _
    | succ k ih =>
      intro u c v hu h'
      obtain ⟨t, b, c1, h1, h2, rfl⟩ := h'
      have h3 := ih t c1 v (hc u hu _ h1) h2
      have h4 := (most_ge (fun s => wt s.2 + deep E i s.1) (E u) 0).2 _ h1
      have h5 := h u hu
      rw [← h5]
      show _ ≤ most (fun s => wt s.2 + deep E i s.1) (E u) 0
      simp only at h4
      omega
  exact fun k c v h' => key k 0 c v h0 h'
/-- Behind so many rounds all is told. -/
theorem deepest_long {E : StepF} {n N : Nat} (hc : ∀ u, u < n → ∀ s ∈ E u, s.1 < n) (h0 : 0 < n) (hN : n * n + n + 2 ≤ N) (h : deep E N 0 ≤ n) : Deepest E (deep E N 0) := by
  let A : Nat → Nat → Prop := fun i u => ∃ k c, k ≤ i ∧ WayG E k 0 c u
  have : ∀ i u, Decidable (A i u) := fun i u => Classical.propDecidable _
  let f : Nat → Nat → Nat := fun i u => if A i u then 1 else 0
  have hf : ∀ i u, f i u ≤ 1 := fun i u => by simp only [f]; split <;> omega
  have hfm : ∀ i u, f i u ≤ f (i + 1) u := fun i u => by
    simp only [f]
    by_cases hA : A i u
    · have hA' : A (i + 1) u := by obtain ⟨k, c, hk, hw⟩ := hA; exact ⟨k, c, by omega, hw⟩
      rw [if_pos hA, if_pos hA']; exact Nat.le_refl _
    · rw [if_neg hA]; exact Nat.zero_le _
  obtain ⟨j, hj, hjs⟩ := still (f := f) (n := n) (B := n) (fun i _ u _ => hfm i u) (by have := sum_bound (n := n) (f := f (n + 1)) (m := 1) (fun u _ => hf _ u); omega)
  have hR : ∀ u, u < n → A j u → ∀ s ∈ E u, A j s.1 := fun u hu hA s hs => by
    obtain ⟨k, c, hk, hw⟩ := hA
    have h1 : A (j + 1) s.1 := ⟨k + 1, _, by omega, way_snoc hw (show (s.1, s.2) ∈ E u from hs)⟩
    have h2 := hjs s.1 (hc u hu s hs)
    simp only [f] at h2
    rw [if_pos h1] at h2
    refine Classical.byContradiction fun h3 => ?_
    rw [if_neg h3] at h2
    omega
  have hb : ∀ i u, i + n ≤ N → A j u → deep E i u ≤ n := fun i u hi hA => by
    obtain ⟨k, c, hk, hw⟩ := hA
    obtain ⟨k', v, hk', hw'⟩ := deep_way E i u
    have := deep_ge (way_app hw hw') (show k + k' ≤ N by omega)
    omega
  let g : Nat → Nat → Nat := fun i u => if A j u then deep E i u else 0
  have hgm : ∀ i u, g i u ≤ g (i + 1) u := fun i u => by
    simp only [g]
    split
    · exact deep_mono E i u
    · exact Nat.le_refl _
  obtain ⟨i, hi, his⟩ := still (f := g) (n := n) (B := n * n) (fun i _ u _ => hgm i u) (sum_bound (fun u _ => by
    simp only [g]
    split
    · rename_i hA
      exact hb _ u (by omega) hA
    · exact Nat.zero_le _))
  have hst : ∀ u, u < n → A j u → deep E (i + 1) u = deep E i u := fun u hu hA => by
    have := his u hu
    simp only [g] at this
    rw [if_pos hA, if_pos hA] at this
    exact this
  have key : ∀ (k u c v : Nat), u < n → A j u → WayG E k u c v → c ≤ deep E i u := by
    intro k
    induction k with
    | zero => intro u c v hu _ h; obtain ⟨rfl, _⟩ := h; exact Nat.zero_le _
    | succ k ih =>
      intro u c v hu hA h'
      obtain ⟨t, b, c1, h1, h2, rfl⟩ := h'
      have h3 := ih t c1 v (hc u hu _ h1) (hR u hu hA _ h1) h2
      have h4 := (most_ge (fun s => wt s.2 + deep E i s.1) (E u) 0).2 _ h1
      have h5 := hst u hu hA
      rw [← h5]
      show _ ≤ most (fun s => wt s.2 + deep E i s.1) (E u) 0
      simp only at h4
      omega
  have hA0 : A j 0 := ⟨0, 0, Nat.zero_le _, way_nil E 0⟩
  obtain ⟨k, v, _, hw⟩ := deep_way E N 0
  refine .inl ⟨_, rfl, ⟨k, v, hw⟩, fun k c v h' => ?_⟩
  have h1 := key k 0 c v h0 hA0 h'
  have h2 := deep_le E 0 (show i ≤ N by omega)
  omega
theorem deepest_spec {E : StepF} {n N : Nat} (hc : ∀ u, u < n → ∀ s ∈ E u, s.1 < n) (h0 : 0 < n) (hN : n * n + n + 2 ≤ N) : Deepest E (if n < deep E N 0 then -1 else deep E N 0) := by
  split
  · obtain ⟨k, v, _, hw⟩ := deep_way E N 0
    exact deepest_far hc h0 hw (by omega)
  · exact deepest_long hc h0 hN (by omega)
end Go.Proofs.Ytnmgeaonhbhbkaa.WayD
