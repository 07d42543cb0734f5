/- The program's maps of where all stands: where each function begins, and the stones of each name. -/
import Derived.Test.YthbbmookhcalkaaGreatLayT
import Derived.Test.YthbbmookhcalkaaGreatUnitM
import Derived.Maps.GroupsBeside
namespace Go.Proofs.YthbbmookhcalkaaGreat.LayG
open Go.ChangeShapes Go.WideShapes Go.ChangeAt Go.RowKit Go.Joins Go.WideMaps Go.Maps
open Go.Proofs.YthbbmookhcalkaaGreat.Base Go.Proofs.YthbbmookhcalkaaGreat.InsA Go.Proofs.YthbbmookhcalkaaGreat.Funs Go.Proofs.YthbbmookhcalkaaGreat.Open Go.Proofs.YthbbmookhcalkaaGreat.Keep Go.Proofs.YthbbmookhcalkaaGreat.UnitS Go.Proofs.YthbbmookhcalkaaGreat.UnitM Go.Proofs.YthbbmookhcalkaaGreat.Refs Go.Proofs.YthbbmookhcalkaaGreat.LayN Go.Proofs.YthbbmookhcalkaaGreat.LayA Go.Proofs.YthbbmookhcalkaaGreat.LayD
set_option linter.unusedVariables false
set_option maxRecDepth 100000

/-- Where the first k functions begin, by their names. -/
def BD (fs : List FunD) (st : List (List ByteArray)) : Nat → DataW Unit
  | 0 => .map []
  | k + 1 => (BD fs st k).put (keyS (fs.getD k default).nm) (.lit (.int .i64 (place fs st k)))
theorem BD_tidy (fs : List FunD) (st : List (List ByteArray)) : ∀ k, Tidy (BD fs st k)
  | 0 => tidy_empty
  | k + 1 => (BD_tidy fs st k).put (keyS_is _) _
theorem BD_succ {fs : List FunD} {st : List (List ByteArray)} {k : Nat} (hk : k < fs.length) : BD fs st (k + 1) = (BD fs st k).put (keyS fs[k].nm) (.lit (.int .i64 (place fs st k))) := by
  rw [BD]; simp [List.getD, List.getElem?_eq_getElem hk]
theorem BD_at {fs : List FunD} {st : List (List ByteArray)} (hap : apartF fs = true) {t : Nat} {s : ByteArray} (z : DataW Unit) : ∀ k (hk : k ≤ fs.length) (ht : t < k), (fs[t]'(by omega)).nm.toList = s.toList → (BD fs st k).atKey (keyS s) z = .lit (.int .i64 (place fs st t)) ∧ has (BD fs st k) (keyS s) = true
  | 0, _, ht, _ => by omega
  | k + 1, hk, ht, he => by
    rw [BD_succ (by omega)]
    by_cases e : t = k
    · subst e
      rw [← keyS_eq he]
      exact ⟨atKey_put_same (BD_tidy fs st t).isMap (keyS_is _) _ z, has_put_same (BD_tidy fs st t).isMap (keyS_is _) _⟩
    · have hne : s.toList ≠ fs[k].nm.toList := by
        rw [← he]
        exact (apartF_iff fs).1 hap t k (by omega) (by omega) (by omega)
      obtain ⟨h1, h2⟩ := BD_at hap z k (by omega) (by omega) he
      exact ⟨by rw [atKey_put_other (keyS_ne hne)]; exact h1, by rw [has_put_other (keyS_ne hne)]; exact h2⟩
theorem BD_no {fs : List FunD} {st : List (List ByteArray)} {s : ByteArray} : ∀ k (hk : k ≤ fs.length), (∀ t (ht : t < k), (fs[t]'(by omega)).nm.toList ≠ s.toList) → has (BD fs st k) (keyS s) = false
  | 0, _, _ => rfl
  | k + 1, hk, h => by
    rw [BD_succ (by omega), has_put_other (keyS_ne (fun e => h k (by omega) e.symm))]
    exact BD_no k (by omega) (fun t ht => h t (by omega))
theorem find_at {fs : List FunD} {s : ByteArray} {t : Nat} (h : findI fs s = (t : Int)) : ∃ ht : t < fs.length, fs[t].nm.toList = s.toList := by
  unfold findI at h
  by_cases hlt : fs.findIdx (isNm s) < fs.length
  · rw [if_pos hlt] at h
    have e : fs.findIdx (isNm s) = t := by omega
    subst e
    exact ⟨hlt, isNm_iff.1 (List.findIdx_getElem (w := hlt))⟩
  · rw [if_neg hlt] at h; omega
theorem find_no {fs : List FunD} {s : ByteArray} (h : findI fs s < 0) : ∀ t (ht : t < fs.length), fs[t].nm.toList ≠ s.toList := by
  intro t ht e
  unfold findI at h
  have hlt : fs.findIdx (isNm s) < fs.length := List.findIdx_lt_length_of_exists ⟨fs[t], List.getElem_mem _, isNm_iff.2 e⟩
  rw [if_pos hlt] at h
  omega

/-- The places of the stones of one name. -/
def ofNm (l : List (ByteArray × Nat)) (s : ByteArray) : List Int := (l.filter fun x => x.1.toList == s.toList).map fun x => (x.2 : Int)
theorem ofNm_snoc (l : List (ByteArray × Nat)) (x : ByteArray × Nat) (s : ByteArray) : ofNm (l ++ [x]) s = if x.1.toList = s.toList then ofNm l s ++ [(x.2 : Int)] else ofNm l s := by
  unfold ofNm
  by_cases h : x.1.toList = s.toList
  · rw [if_pos h, List.filter_append, List.map_append]; simp [h]
  · rw [if_neg h, List.filter_append, List.map_append]; simp [h]
theorem ofNm_same {l : List (ByteArray × Nat)} {s t : ByteArray} (h : s.toList = t.toList) : ofNm l s = ofNm l t := by unfold ofNm; rw [h]
theorem ofNm_len (l : List (ByteArray × Nat)) (s : ByteArray) : (ofNm l s).length ≤ l.length := by unfold ofNm; rw [List.length_map]; exact List.length_filter_le _ _
def Reads (d : DataW Unit) (zs : List Int) : Prop := (d = .nil ∧ zs = []) ∨ d = .slice (lits .i64 zs) []
theorem lits_inj {a b : List Int} (h : (lits .i64 a : List (DataW Unit)) = lits .i64 b) : a = b := by
  unfold lits at h
  exact (List.map_inj_right (fun x y e => by simpa using e)).1 h
theorem Reads.one {d : DataW Unit} {a b : List Int} (h : Reads d a) (k : Reads d b) : a = b := by
  rcases h with ⟨e1, e2⟩ | e1 <;> rcases k with ⟨f1, f2⟩ | f1
  · rw [e2, f2]
  · rw [e1] at f1; cases f1
  · rw [e1] at f1; cases f1
  · rw [e1] at f1
    exact lits_inj (by simpa using f1)
/-- A map of stones that reads so. -/
def GR (D : DataW Unit) (l : List (ByteArray × Nat)) : Prop := ∀ s : ByteArray, Reads (D.atKey (keyS s) .nil) (ofNm l s)
theorem GR.nil : GR (.map []) [] := fun s => .inl ⟨rfl, rfl⟩
theorem GR.put {D : DataW Unit} {l : List (ByteArray × Nat)} (h : GR D l) (hD : IsMap D) {s : ByteArray} {x : Nat} {d : DataW Unit} (hd : d = .slice (lits .i64 (ofNm l s ++ [(x : Int)])) []) : GR (D.put (keyS s) d) (l ++ [(s, x)]) := fun t => by
  rw [ofNm_snoc]
  by_cases e : s.toList = t.toList
  · rw [if_pos e, ← keyS_eq e, atKey_put_same hD (keyS_is _), ← ofNm_same e, hd]
    exact .inr rfl
  · rw [if_neg e, atKey_put_other (keyS_ne (fun e' => e e'.symm))]
    exact h t

abbrev Grp (w : World) (base b n : Nat) (D : DataW Unit) : Prop := w.ownsGroups Tryz.prog 9 base 3 .i64 b n D
theorem info_int : ∃ i, Tryz.prog.info? 3 = some i ∧ i.zero = some (.int .i64 0) ∧ i.size = 1 ∧ i.bytes = 8 := by
  obtain ⟨i, hi, h⟩ := Option.map_eq_some_iff.1 infoInt
  simp only [Prod.mk.injEq] at h
  exact ⟨i, hi, h⟩
theorem nat_wf {x : Nat} (h : x ≤ 1000000000) : (Lit.int .i64 (x : Int)).wf = true := by
  unfold Lit.wf
  rw [Bool.and_eq_true, decide_eq_true_iff, decide_eq_true_iff]
  exact ⟨by show (-9223372036854775808 : Int) ≤ _; omega, by show _ ≤ (9223372036854775807 : Int); omega⟩
theorem zeroN (w : World) : (zeroValue 23).run Tryz.prog w = .ok (.slice none 0 0) w := by kernel_rfl
/-- 'm[s] = append(m[s], x)', looked up in L, appended in A: what is left. -/
theorem groups_more {L A : World} {base b n c : Nat} {D : DataW Unit} {l : List (ByteArray × Nat)} {No : Nat → Prop} (hown : Grp L base b n D) (hG : GR D l) (hsh : L.Shuns b No) (hNo : ∀ q, No q → q < L.heap.size) (hn : n ≤ 100000000) {s : ByteArray} (hs : s.size ≤ maxLen) {x : Nat} (hx : x ≤ 1000000000) (hLA : Below L.heap.size L A) (hbase : base ≤ L.heap.size) {B : Nat} (hBb : B ≤ b) (hc : A.heap[c]? = some (.cells #[.int .i64 (x : Int)] 3)) (ty : TypeId) :
    ∃ v, (Instr.lookup 56 (.map (some b)) (.string s) false).run Tryz.prog L = .ok v L ∧ ∃ v' A2, (Builtin.append_ #[23, 23] ty #[v, .slice (some ⟨c, 0, none⟩) 1 1]).run Tryz.prog A = .ok v' A2 ∧
      ∃ w3, (Instr.mapUpdate 56 (.map (some b)) (.string s) v').run Tryz.prog A2 = .ok () w3 ∧ ∃ D', Grp w3 base b (n + 1) D' ∧ GR D' (l ++ [(s, x)]) ∧ w3.Shuns b No ∧
        (∀ q, q < L.heap.size → q ≠ b → (No q ∨ q < base) → w3.heap[q]? = A.heap[q]?) ∧ Below B A w3 ∧ (∀ q, q < L.heap.size → (No q ∨ q < base) → A2.heap[q]? = A.heap[q]?) := by
  have hkey : keyOf Tryz.prog 9 (.string s) = some (keyS s) := keyOf_string_mk Tryz.underlying9 hs
  obtain ⟨v, zs, hrun, hat, hoi, hzl, hback⟩ := hown.at lawS Tryz.underlying56 (zeroN L) (by unfold maxLen; omega) hkey
  have hzs : zs = ofNm l s := by
    refine Reads.one (d := D.atKey (keyS s) .nil) ?_ (hG s)
    rw [hat]
    exact hoi.datum
  have hblk : ∀ g, v.ownBlock = some g → ¬ No g := by
    obtain ⟨es, clock, hb, F, _⟩ := hown
    rcases Maps.fit_look false lawS Tryz.underlying56 (zeroN L) hb F hkey with ⟨hrun', _, _⟩ | ⟨e0, y, hm0, _, hrun', _, _, _⟩
    · rw [hrun] at hrun'
      obtain rfl : v = .slice none 0 0 := by simpa using hrun'
      intro g hg'
      cases hg'
    · rw [hrun] at hrun'
      obtain rfl : v = e0.val := by simpa using hrun'
      exact fun g hg' => hsh es clock hb e0 hm0 g hg'
  have hgLA : L.grownBy A v.ownBlock := ⟨hLA.os, hLA.tape, hLA.output, hLA.size, fun q hq _ => hLA.block q hq⟩
  have hoA : A.ownsInts base 3 .i64 v zs := hoi.kept (row := none) ⟨hLA.os, hLA.tape, hLA.output, hLA.size, fun q hq _ => hLA.block q hq⟩ (by cases v.ownBlock <;> simp)
  obtain ⟨i, hi, hz0, hz1, hz2⟩ := info_int
  have hnews : ∀ q u, [Value.int .i64 (x : Int)][q]? = some u → A.cell? ((⟨c, 0, none⟩ : Addr).add q) = some u := fun q u hq => by
    rw [add_plain, cell_of_block hc]
    match q, hq with
    | 0, hq => exact hq
    | q + 1, hq => simp at hq
  have hbA : base ≤ A.heap.size := Nat.le_trans hbase hLA.size
  obtain ⟨v', A2, hrun2, ho2, hg2, _, hat2⟩ := run_append_own_at (P := Tryz.prog) A base 23 ty 3 i _ 1 8 Tryz.underlying23 hi hz0 hz1 hz2 rfl (by decide) v zs.length _ hoA.1 ⟨c, 0, none⟩ 1 1 [.int .i64 (x : Int)] rfl hnews (by simp [Value.oneCell']) (by unfold maxLen; omega) (by omega) hbA
  have hoi2 : A2.ownsInts base 3 .i64 v' (zs ++ [(x : Int)]) := hoA.appended ho2 (nat_wf hx)
  have hloc : v'.ownBlock = v.ownBlock ∨ ∃ g, v'.ownBlock = some g ∧ L.heap.size ≤ g := hat2.imp id (fun h => ⟨_, h, hLA.size⟩)
  obtain ⟨w3, hrun3, hown3, hg3⟩ := hback A2 v' (zs ++ [(x : Int)]) (hgLA.trans hg2) hoi2 (by simp; omega) hloc
  have hD : IsMap D := by obtain ⟨_, _, _, _, _, e, _⟩ := hown; exact ⟨_, e⟩
  have hvlo : ∀ g, v.ownBlock = some g → base ≤ g := fun g hg => (hoi.1.lt g hg).1
  have hbb : b < base := by obtain ⟨_, _, _, _, _, _, h, _⟩ := hown; exact h
  have hfr : ∀ q, q < L.heap.size → q ≠ b → (No q ∨ q < base) → w3.heap[q]? = A.heap[q]? := fun q hq hqb hqn => by
    have hqv : some q ≠ v.ownBlock := fun e => by
      rcases hqn with h | h
      · exact hblk q e.symm h
      · have := hvlo q e.symm; omega
    exact (hg3.block q (Nat.lt_of_lt_of_le hq (Nat.le_trans hLA.size hg2.size)) (fun e => hqb (by cases e; rfl))).trans (hg2.block q (Nat.lt_of_lt_of_le hq hLA.size) hqv)
  refine ⟨v, hrun, v', A2, hrun2, w3, hrun3, _, hown3, ?_, ?_, hfr, ?_⟩
  · exact hG.put hD (by rw [← hzs]; exact hoi2.datum_pos (by simp))
  · obtain ⟨es, clock, hb, F, hsz, _, _, _⟩ := hown
    have hblt : b < L.heap.size := (Array.getElem?_eq_some_iff.1 hb).1
    have hb1 : A2.heap[b]? = some (.map es clock) := ((hgLA.trans hg2).block b hblt (fun e1 => by have := hvlo b e1.symm; omega)).trans hb
    obtain ⟨es', clock', hb2, hwho⟩ := stored_who lawS Tryz.underlying56 hb1 F (Nat.lt_of_le_of_lt hsz (by unfold maxLen; omega)) hkey hrun3
    intro es2 clock2 hb2' y hy g hyg
    obtain ⟨rfl, rfl⟩ : es' = es2 ∧ clock' = clock2 := by rw [hb2] at hb2'; simpa using hb2'
    rcases hwho y hy with ⟨hy0, _⟩ | ⟨_, hval⟩
    · exact hsh es clock hb y hy0 g hyg
    · rw [hval] at hyg
      rcases hloc with h | ⟨g', h, hge⟩
      · exact hblk g (h ▸ hyg)
      · rw [h] at hyg
        cases hyg
        intro hN
        have := hNo _ hN
        omega
  · refine ⟨⟨hg3.os.trans hg2.os, hg3.tape.trans hg2.tape, hg3.output.trans hg2.output, Nat.le_trans hg2.size hg3.size, fun q hq => hfr q (by omega) (by omega) (.inr (by omega))⟩, fun q hq hqn => ?_⟩
    exact hg2.block q (Nat.lt_of_lt_of_le hq hLA.size) (fun e => by
      rcases hqn with h | h
      · exact hblk q e.symm h
      · have := hvlo q e.symm; omega)
end Go.Proofs.YthbbmookhcalkaaGreat.LayG
