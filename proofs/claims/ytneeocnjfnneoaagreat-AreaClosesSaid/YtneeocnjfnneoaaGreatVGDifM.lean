/-
 What became of a plan's elements in another plan: each element once, by kind and number; the other way round; counts; along a chain of plans.
 Conditions: none.
-/
import Derived.Test.YtneeocnjfnneoaaGreatVGPlnRefD
import Derived.Test.YtneeocnjfnneoaaGreatVGPlnRefC
import Derived.Test.YtneeocnjfnneoaaGreatVGPlnRefB
import Derived.Test.YtneeocnjfnneoaaGreatVGTrkRef
set_option linter.unusedVariables false
set_option linter.unusedSimpArgs false
set_option maxRecDepth 100000
namespace Go.Proofs.YtneeocnjfnneoaaGreat
open Go.RowKit

/-- Where a plan's element of a kind stands; -1: there is none. -/
def placeD (p : Pl) (kind : Int) (id : Int) : Int := if kind = 1 then atS p.secs id else if kind = 2 then at1 (fun x : Jn => x.1) p.pts id else if kind = 3 then at1 (fun x : Sg => x.1) p.sigs id else at1 (fun x : Rt => x.id) p.routes id
/-- An element of any kind. -/
inductive Any13 where
 | sec (s : Sec)
 | pt (x : Jn)
 | sig (x : Sg)
 | route (r : Rt)
 | none
def elD (p : Pl) (kind : Int) (id : Int) : Any13 :=
 if placeD p kind id < 0 then .none else
 if kind = 1 then .sec (p.secs.getD (placeD p kind id).toNat (0, 0, [])) else if kind = 2 then .pt (p.pts.getD (placeD p kind id).toNat (0, 0)) else if kind = 3 then .sig (p.sigs.getD (placeD p kind id).toNat (0, 0, 0)) else .route (p.routes.getD (placeD p kind id).toNat ⟨0, 0, 0, [], [], [], 0⟩)
theorem elD_none (p : Pl) (kind id : Int) : elD p kind id = .none ↔ placeD p kind id < 0 := by
 unfold elD
 split
 ·rename_i h; exact ⟨fun _ => h, fun _ => rfl⟩
 ·rename_i h
  refine ⟨fun e => ?_, fun e => absurd e h⟩
  repeat' split at e
  all_goals cases e
/-- What became of an element; 4: neither plan has it. -/
noncomputable def isD (a b : Pl) (kind id : Int) : Int :=
 if placeD a kind id < 0 then (if placeD b kind id < 0 then 4 else 2) else if placeD b kind id < 0 then 3 else if eqB (elD a kind id) (elD b kind id) then 0 else 1
theorem isD_range (a b : Pl) (kind id : Int) : 0 ≤ isD a b kind id ∧ isD a b kind id ≤ 4 := by
 unfold isD
 repeat' split
 all_goals omega
/-- The other way round. -/
def flipD (z : Int) : Int := if z = 2 then 3 else if z = 3 then 2 else z
theorem isD_flip (a b : Pl) (kind id : Int) : isD b a kind id = flipD (isD a b kind id) := by
 unfold isD
 have e : eqB (elD b kind id) (elD a kind id) = eqB (elD a kind id) (elD b kind id) := by
  by_cases h : elD a kind id = elD b kind id
  ·rw [eqB_true h, eqB_true h.symm]
  ·rw [eqB_false h, eqB_false fun g => h g.symm]
 rw [e]
 by_cases h1 : placeD a kind id < 0 <;> by_cases h2 : placeD b kind id < 0 <;> simp only [h1, h2, if_true, if_false]
 ·rfl
 ·rfl
 ·rfl
 ·cases eqB (elD a kind id) (elD b kind id) <;> rfl
theorem isD_zero {a b : Pl} {kind id : Int} : isD a b kind id = 0 ↔ elD a kind id = elD b kind id ∧ ¬ placeD a kind id < 0 := by
 unfold isD
 by_cases h1 : placeD a kind id < 0
 ·rw [if_pos h1]
  refine ⟨fun h => ?_, fun h => absurd h1 h.2⟩
  split at h <;> cases h
 ·rw [if_neg h1]
  by_cases h2 : placeD b kind id < 0
  ·rw [if_pos h2]
   refine ⟨fun h => (by cases h), fun h => ?_⟩
   have h3 := (elD_none b kind id).2 h2
   rw [← h.1] at h3
   exact absurd ((elD_none a kind id).1 h3) h1
  ·rw [if_neg h2]
   by_cases h3 : elD a kind id = elD b kind id
   ·rw [eqB_true h3]; exact ⟨fun _ => ⟨h3, h1⟩, fun _ => rfl⟩
   ·rw [eqB_false h3]; exact ⟨fun h => (by cases h), fun h => absurd h.1 h3⟩
/-- Neither has it: along a chain. -/
theorem isD_four {a b : Pl} {kind id : Int} : isD a b kind id = 4 ↔ placeD a kind id < 0 ∧ placeD b kind id < 0 := by
 unfold isD
 by_cases h1 : placeD a kind id < 0 <;> by_cases h2 : placeD b kind id < 0 <;> simp only [h1, h2, if_true, if_false]
 ·simp
 ·simp
 ·simp
 ·split <;> simp
abbrev Df := Int × Int × Int
/-- What became of all elements: by kind, then by number. -/
noncomputable def diffK (a b : Pl) (kind : Int) (n : Nat) : List Df := (List.range n).filterMap fun (j : Nat) => if isD a b kind ((j : Int) + 1) = 4 then none else some (kind, (j : Int) + 1, isD a b kind ((j : Int) + 1))
noncomputable def diffN (a b : Pl) (k : Nat) : List Df := (List.range k).flatMap fun (i : Nat) => diffK a b ((i : Int) + 1) 99
noncomputable def diffL (a b : Pl) : List Df := diffN a b 4
theorem diffK_succ (a b : Pl) (kind : Int) (n : Nat) : diffK a b kind (n + 1) = diffK a b kind n ++ if isD a b kind ((n : Int) + 1) = 4 then [] else [(kind, (n : Int) + 1, isD a b kind ((n : Int) + 1))] := by
 rw [diffK, List.range_succ, List.filterMap_append, diffK]
 congr 1
 by_cases h : isD a b kind ((n : Int) + 1) = 4
 ·simp [h]
 ·simp [h]
theorem diffN_succ (a b : Pl) (k : Nat) : diffN a b (k + 1) = diffN a b k ++ diffK a b ((k : Int) + 1) 99 := by rw [diffN, List.range_succ, List.flatMap_append, diffN]; simp
theorem diffK_mem {a b : Pl} {kind : Int} {n : Nat} {x : Df} : x ∈ diffK a b kind n ↔ x.1 = kind ∧ 1 ≤ x.2.1 ∧ x.2.1 ≤ n ∧ x.2.2 = isD a b kind x.2.1 ∧ x.2.2 ≠ 4 := by
 rw [diffK, List.mem_filterMap]
 constructor
 ·rintro ⟨j, hj, h⟩
  rw [List.mem_range] at hj
  split at h
  ·cases h
  ·rename_i h4
   cases h
   exact ⟨rfl, by dsimp only; omega, by dsimp only; omega, rfl, h4⟩
 ·rintro ⟨h1, h2, h3, h4, h5⟩
  obtain ⟨j, hj⟩ : ∃ j : Nat, x.2.1 = (j : Int) + 1 := ⟨(x.2.1 - 1).toNat, by omega⟩
  refine ⟨j, List.mem_range.2 (by omega), ?_⟩
  rw [← hj, ← h4, if_neg h5, ← h1]
theorem diffN_mem {a b : Pl} {k : Nat} {x : Df} : x ∈ diffN a b k ↔ 1 ≤ x.1 ∧ x.1 ≤ k ∧ 1 ≤ x.2.1 ∧ x.2.1 ≤ 99 ∧ x.2.2 = isD a b x.1 x.2.1 ∧ x.2.2 ≠ 4 := by
 rw [diffN, List.mem_flatMap]
 constructor
 ·rintro ⟨i, hi, h⟩
  rw [List.mem_range] at hi
  obtain ⟨h1, h2, h3, h4, h5⟩ := diffK_mem.1 h
  refine ⟨by omega, by omega, h2, by omega, ?_, h5⟩
  rw [h4, h1]
 ·rintro ⟨h1, h2, h3, h4, h5, h6⟩
  obtain ⟨i, hi⟩ : ∃ i : Nat, x.1 = (i : Int) + 1 := ⟨(x.1 - 1).toNat, by omega⟩
  exact ⟨i, List.mem_range.2 (by omega), diffK_mem.2 ⟨hi, h3, by omega, by rw [h5, hi], h6⟩⟩
/-- One is told ahead of another one. -/
def DfLt (x y : Df) : Prop := x.1 < y.1 ∨ (x.1 = y.1 ∧ x.2.1 < y.2.1)
theorem diffK_sorted (a b : Pl) (kind : Int) : ∀ n, (diffK a b kind n).Pairwise DfLt
 | 0 => by simp [diffK]
 | n + 1 => by
  rw [diffK_succ, List.pairwise_append]
  refine ⟨diffK_sorted a b kind n, ?_, fun x hx y hy => ?_⟩
  ·split <;> simp
  ·obtain ⟨h1, h2, h3, -⟩ := diffK_mem.1 hx
   split at hy
   ·cases hy
   ·rw [List.mem_singleton.1 hy]
    exact .inr ⟨h1, by dsimp only; omega⟩
theorem diffN_sorted (a b : Pl) : ∀ k, (diffN a b k).Pairwise DfLt
 | 0 => by simp [diffN]
 | k + 1 => by
  rw [diffN_succ, List.pairwise_append]
  refine ⟨diffN_sorted a b k, diffK_sorted a b _ _, fun x hx y hy => ?_⟩
  have h1 := (diffN_mem.1 hx).2.1
  have h2 := (diffK_mem.1 hy).1
  exact .inl (by omega)
theorem diffK_len (a b : Pl) (kind : Int) : ∀ n, (diffK a b kind n).length ≤ n
 | 0 => by simp [diffK]
 | n + 1 => by
  rw [diffK_succ, List.length_append]
  have := diffK_len a b kind n
  split <;> simp <;> omega
theorem diffN_len (a b : Pl) : ∀ k, (diffN a b k).length ≤ 99 * k
 | 0 => by simp [diffN]
 | k + 1 => by
  rw [diffN_succ, List.length_append]
  have := diffN_len a b k
  have := diffK_len a b ((k : Int) + 1) 99
  omega
theorem diffL_len (a b : Pl) : (diffL a b).length ≤ 396 := diffN_len a b 4

/-- Sorted lists with the same members are one. -/
theorem sorted_ext {α : Type} {k : α → Int} : ∀ (l m : List α), l.Pairwise (fun x y => k x < k y) → m.Pairwise (fun x y => k x < k y) → (∀ x, x ∈ l ↔ x ∈ m) → l = m
 | [], [], _, _, _ => rfl
 | [], y :: m, _, _, h => absurd ((h y).2 (List.mem_cons_self ..)) (by simp)
 | x :: l, [], _, _, h => absurd ((h x).1 (List.mem_cons_self ..)) (by simp)
 | x :: l, y :: m, hl, hm, h => by
  rw [List.pairwise_cons] at hl hm
  have e : x = y := by
   rcases List.mem_cons.1 ((h x).1 (List.mem_cons_self ..)) with e | e
   ·exact e
   ·rcases List.mem_cons.1 ((h y).2 (List.mem_cons_self ..)) with e2 | e2
    ·exact e2.symm
    ·have h1 := hl.1 y e2
     have h2 := hm.1 x e
     omega
  subst e
  rw [sorted_ext l m hl.2 hm.2 fun z => ⟨fun hz => ?_, fun hz => ?_⟩]
  ·rcases List.mem_cons.1 ((h z).1 (List.mem_cons_of_mem _ hz)) with e | e
   ·subst e; have := hl.1 z hz; omega
   ·exact e
  ·rcases List.mem_cons.1 ((h z).2 (List.mem_cons_of_mem _ hz)) with e | e
   ·subst e; have := hm.1 z hz; omega
   ·exact e
theorem rising_pair {α : Type} {k : α → Int} {l : List α} (h : ∀ i (h : i < l.length) (j : Nat) (hj : j + 1 = i), k (l[j]'(by omega)) < k l[i]) : l.Pairwise (fun x y => k x < k y) := by
 rw [List.pairwise_iff_getElem]
 intro i j hi hj hij
 induction j with
 | zero => omega
 | succ j ih =>
  have h1 := h (j + 1) hj j rfl
  rcases Nat.lt_or_ge i j with h2 | h2
  ·have := ih (by omega) h2
   omega
  ·obtain rfl : i = j := by omega
   exact h1
/-- Where an element with unlike keys stands. -/
theorem at1_in {α : Type} {k : α → Int} {l : List α} {id : Int} : ¬ at1 k l id < 0 ↔ id ∈ l.map k := by
 rcases at1_cases k l id with ⟨h1, h2⟩ | ⟨i, hi, h1, h2, -⟩
 ·rw [h1]
  refine ⟨fun h => absurd (by decide) h, fun h => ?_⟩
  obtain ⟨x, hx, e⟩ := List.mem_map.1 h
  obtain ⟨j, hj, rfl⟩ := List.getElem_of_mem hx
  exact absurd e (h2 j hj)
 ·rw [h1]
  exact ⟨fun _ => List.mem_map.2 ⟨_, List.getElem_mem hi, h2⟩, fun _ => by omega⟩
theorem at1_get {α : Type} {k : α → Int} {l : List α} (hs : l.Pairwise (fun x y => k x < k y)) (d : α) (x : α) : x ∈ l ↔ (¬ at1 k l (k x) < 0 ∧ l.getD (at1 k l (k x)).toNat d = x) := by
 constructor
 ·intro hx
  obtain ⟨j, hj, rfl⟩ := List.getElem_of_mem hx
  rcases at1_cases k l (k l[j]) with ⟨-, h2⟩ | ⟨i, hi, h1, h2, h3⟩
  ·exact absurd rfl (h2 j hj)
  ·rw [h1, Int.toNat_natCast]
   refine ⟨by omega, ?_⟩
   rw [List.getD, List.getElem?_eq_getElem hi, Option.getD_some]
   rw [List.pairwise_iff_getElem] at hs
   rcases Nat.lt_trichotomy i j with h | h | h
   ·have := hs i j hi hj h; omega
   ·subst h; rfl
   ·have := hs j i hj hi h; omega
 ·rintro ⟨h1, h2⟩
  rcases at1_cases k l (k x) with ⟨h3, -⟩ | ⟨i, hi, h3, -, -⟩
  ·rw [h3] at h1; exact absurd (by decide) h1
  ·rw [h3, Int.toNat_natCast, List.getD, List.getElem?_eq_getElem hi, Option.getD_some] at h2
   rw [← h2]; exact List.getElem_mem hi
theorem atS_at1 (l : List Sec) (id : Int) : atS l id = at1 (fun s : Sec => s.1) l id := rfl
/-- A plan's lists rise. -/
structure Rising (p : Pl) : Prop where
 secs : p.secs.Pairwise (fun x y => x.1 < y.1)
 pts : p.pts.Pairwise (fun x y => x.1 < y.1)
 sigs : p.sigs.Pairwise (fun x y => x.1 < y.1)
 routes : p.routes.Pairwise (fun x y => x.id < y.id)
theorem may_rising {p : Pl} (h : PlanMay p) : Rising p :=
 ⟨rising_pair fun i hi j hj => (h.secs.k i j (by omega) hi).1, rising_pair fun i hi j hj => (h.pts.each i hi).2.2.1 j hj, rising_pair fun i hi j hj => ((h.sigs.each i hi).2.2.2 j (by omega)).1, rising_pair fun i hi j hj => (h.each i hi).2.1 j hj⟩
/-- The numbers of the elements of a kind. -/
def keysD (p : Pl) (kind : Int) : List Int := if kind = 1 then p.secs.map (·.1) else if kind = 2 then p.pts.map (·.1) else if kind = 3 then p.sigs.map (·.1) else p.routes.map (·.id)
theorem place_in (p : Pl) (kind id : Int) : ¬ placeD p kind id < 0 ↔ id ∈ keysD p kind := by
 unfold placeD keysD
 repeat' split
 ·rw [atS_at1]; exact at1_in
 ·exact at1_in
 ·exact at1_in
 ·exact at1_in
theorem keys_in {p : Pl} (h : PlanMay p) (kind : Int) : ∀ z ∈ keysD p kind, 1 ≤ z ∧ z ≤ 99 := by
 unfold keysD
 repeat' split
 all_goals (intro z hz; obtain ⟨x, hx, rfl⟩ := List.mem_map.1 hz; obtain ⟨i, hi, rfl⟩ := List.getElem_of_mem hx)
 ·have := h.secs.s i hi; omega
 ·have := h.pts.each i hi; omega
 ·have := h.sigs.each i hi; omega
 ·have := (h.each i hi).1; omega

noncomputable def bothB (a b : Pl) : Bool := planMay a && planMay b
theorem both_cases (a b : Pl) : (PlanMay a ∧ PlanMay b ∧ bothB a b = true) ∨ (¬ (PlanMay a ∧ PlanMay b) ∧ bothB a b = false) := by
 unfold bothB
 by_cases h1 : PlanMay a
 ·by_cases h2 : PlanMay b
  ·exact .inl ⟨h1, h2, by rw [planMay_true h1, planMay_true h2]; rfl⟩
  ·exact .inr ⟨fun h => h2 h.2, by rw [planMay_true h1, planMay_false h2]; rfl⟩
 ·exact .inr ⟨fun h => h1 h.1, by rw [planMay_false h1]; rfl⟩

def DiffR : El Df := fun W B c x => c 0 = some (.int .u8 x.1) ∧ c 1 = some (.int .i64 x.2.1) ∧ c 2 = some (.int .u8 x.2.2)
theorem diffR : Elem DiffR := ⟨fun h _ => h, fun h _ => h⟩
theorem diffR_cells {W : World} {B : Nat} (c c' : Nat → Option Value) (x : Df) (h : ∀ k, k < 3 → c k = c' k) (hx : DiffR W B c x) : DiffR W B c' x :=
 ⟨(h 0 (by omega)).symm.trans hx.1, (h 1 (by omega)).symm.trans hx.2.1, (h 2 (by omega)).symm.trans hx.2.2⟩
abbrev DiffsOwn (W : World) (lo : Nat) (v : Value) (l : List Df) : Prop := ListOwn 51 3 DiffR W lo v l
noncomputable def difE (a b : Pl) : Int := if bothB a b then 0 else 8
noncomputable def difV (a b : Pl) : List Df := if bothB a b then diffL a b else []
theorem dif_cases (a b : Pl) : (PlanMay a ∧ PlanMay b ∧ difE a b = 0 ∧ difV a b = diffL a b) ∨ (¬ (PlanMay a ∧ PlanMay b) ∧ difE a b = 8 ∧ difV a b = []) := by
 rcases both_cases a b with ⟨h1, h2, h⟩ | ⟨h1, h⟩
 ·exact .inl ⟨h1, h2, by rw [difE, h]; rfl, by rw [difV, h]; rfl⟩
 ·exact .inr ⟨h1, by rw [difE, h]; rfl, by rw [difV, h]; rfl⟩
/-- The program's answers: to be proved over the program's own text; the walks of the statements take it. -/
structure DifSaid : Prop where
 of : ∀ (v y : Value) (a b : Pl) (w : World), PlanV w w.heap.size v a → PlanV w w.heap.size y b →
  Calls Tryz.prog 22 #[v, y] w fun e w' => ∃ u, e = .returned (.tuple #[u, .int .i64 (difE a b)]) ∧ DiffsOwn w' w.heap.size u (difV a b) ∧ Below w.heap.size w w'

theorem wp_store_rowP {P : Program} {op : Oper} {a : Act} {w : World} {K : Act → World → Prop} {Q : Exit → Act → World → Prop} (ty : TypeId) (x y : Operand) (ho : op.op = .store ty x y)
  (b : Nat) (hx : a.eval x = .pointer (some ⟨b, 0, none⟩)) {c c' : Array Value} (hy : a.eval y = .agg c') {t : TypeId} (hb : w.heap[b]? = some (.cells c t (0, 0)))
  (hi : (P.info? ty).map (·.size) = some c'.size) (hs : c.size = c'.size) (h1 : c'.all (·.oneCell') = true)
  (h : K (a.put op.dst undef) (w.setRow b c')) : op.wp P a w K Q := by
 unfold Oper.wp execOp
 simp only [ho, hx, hy, Instr.storeAt, Instr.sureAddr, Sem.run_bind, Sem.run_pure, Result.andThen_ok]
 rw [run_storeVar_row w b t ty c c' hb hi hs h1]
 exact h
/-- A slice type, the type of its elements, their cells. -/
def SliceOf (tS T : TypeId) (sz : Nat) : Prop := Tryz.prog.underlying tS = some (.slice T) ∧ ∃ i z, Tryz.prog.info? T = some i ∧ i.zero = some z ∧ z.cells.size = sz ∧ i.size = sz ∧ 0 < sz ∧ i.bytes ≤ 1000
section
variable {α : Type} {T tS : TypeId} {sz : Nat} {R : El α} {W : World} {lo n c ty : Nat} {A : Option Addr} {L : List α} {x : α} {ys : List Value}
theorem run_append_one (hT : SliceOf tS T sz) (e : Elem R) (hG : ∀ {W W' : World} {c : Nat → Option Value} {y : α} {g : Nat}, lo ≤ g → R W W.heap.size c y → W.grownBy W' (some g) → (∃ cur, W.heap[g]? = some (.cells cur T (0, 0))) → R W' W'.heap.size c y)
  (hO : ListOwn T sz R W lo (.slice A n c) L) (hn : n = L.length) (hy : ys.length = sz) (h1 : ∀ u ∈ ys, u.oneCell' = true) (hx : R W W.heap.size (fun k => ys[k]?) x) (hle : n + 1 ≤ 10000) (hlo : lo ≤ W.heap.size) :
  ∃ A' c' w', (Builtin.append_ #[tS, tS] ty #[.slice A n c, .slice (some ⟨W.heap.size, 0, none⟩) 1 1]).run Tryz.prog (W.alloc (.cells ys.toArray T)) = .ok (.slice A' (n + 1) c') w' ∧ ListOwn T sz R w' lo (.slice A' (n + 1) c') (L ++ [x]) ∧ Below lo W w' := by
 obtain ⟨ht, i, z, hi, hz, hzs, hsize, hsz, hby⟩ := hT
 obtain ⟨yss, ho, hl, hm, hs, hr⟩ := hO
 have hb := below_new W (.cells ys.toArray T)
 obtain ⟨v', w', hrun, h2, h3, -⟩ := run_append_own (P := Tryz.prog) (W.alloc (.cells ys.toArray T)) lo tS ty T i z sz i.bytes ht hi hz hsize rfl hzs hsz (.slice A n c) n yss.flatten (owns_below (hn ▸ ho : W.ownsRow lo T sz (.slice A n c) n yss.flatten) hb) ⟨W.heap.size, 0, none⟩ 1 1 ys (by omega) (fun j u hj => by
  rw [Addr.add_lit, Nat.zero_add, World.cell?_alloc_new]
  simpa using hj) h1 (by unfold maxLen; omega) (by have := Nat.mul_le_mul hle hby; omega) (Nat.le_trans hlo hb.size)
 obtain ⟨A', c', rfl⟩ := own_sliceN h2
 refine ⟨A', c', w', hrun, ?_, (hb.mono hlo).grown h3 (Nat.le_trans hlo hb.size) (own_ge ho)⟩
 subst hn
 exact ListOwn.snoc e hG ho hl hs hy (by unfold maxLen; omega) hr (Below.refl _ _) hx h2 h3
theorem wpList_append_one {ops : Array Oper} {rest : List Oper} {o : Oper} {a : Act} {Q : Exit → Act → World → Prop} (hgd : o.guard = none) (s u : Operand) (ho : o.op = .call { callee := .builtin .append, args := #[s, u], argTypes := #[tS, tS] })
  (hT : SliceOf tS T sz) (e : Elem R) (hG : ∀ {W W' : World} {c : Nat → Option Value} {y : α} {g : Nat}, lo ≤ g → R W W.heap.size c y → W.grownBy W' (some g) → (∃ cur, W.heap[g]? = some (.cells cur T (0, 0))) → R W' W'.heap.size c y)
  (hs : a.eval s = .slice A n c) (hu : a.eval u = .slice (some ⟨W.heap.size, 0, none⟩) 1 1)
  (hO : ListOwn T sz R W lo (.slice A n c) L) (hn : n = L.length) (hy : ys.length = sz) (h1 : ∀ u ∈ ys, u.oneCell' = true) (hx : R W W.heap.size (fun k => ys[k]?) x) (hle : n + 1 ≤ 10000) (hlo : lo ≤ W.heap.size)
  (h : ∀ A' c' w', ListOwn T sz R w' lo (.slice A' (n + 1) c') (L ++ [x]) → Below lo W w' → wpList Tryz.prog ops Q rest (a.put o.dst (.slice A' (n + 1) c')) w') : wpList Tryz.prog ops Q (o :: rest) a (W.alloc (.cells ys.toArray T)) := by
 refine wpList_plain hgd fun K hK => ?_
 obtain ⟨A', c', w', hrun, h2, h3⟩ := run_append_one (ty := o.type) hT e hG hO hn hy h1 hx hle hlo
 unfold Oper.wp execOp
 simp only [ho, resolve, invoke, builtin, Sem.run_bind, Sem.run_pure, Result.andThen_ok, List.map_toArray, List.map_cons, List.map_nil, hs, hu, hrun]
 exact hK _ _ (h A' c' w' h2 h3)
end

instance chkSecs (l : List Sec) : Decidable (TMay l) := @decidable_of_iff _
 (l.length ≤ 16 ∧ (∀ i (h : i < l.length), 1 ≤ l[i].1 ∧ l[i].1 ≤ 99 ∧ shapedB l[i] = true) ∧
  (∀ i (hi : i < l.length) j (hj : j < i), (l[j]'(by omega)).1 < l[i].1 ∧ ¬ (l[i].2.1 ≠ 0 ∧ (l[j]'(by omega)).2.1 = l[i].2.1)) ∧
  ∀ i (hi : i < l.length) k, k < l[i].2.2.length → joinedB l l[i] k = true)
 ⟨fun ⟨a, b, c, d⟩ => ⟨a, b, fun i j hj hi => c i hi j hj, fun i k hi hk => d i hi k hk⟩, fun h => ⟨h.n, h.s, fun i hi j hj => h.k i j hj hi, fun i hi k hk => h.e i k hi hk⟩⟩ (by infer_instance)
instance chkPts (p : Pl) : Decidable (PtsMay p) := @decidable_of_iff _
 (p.pts.length ≤ 6 ∧ p.secs.countP hasPt = p.pts.length ∧ ∀ i (h : i < p.pts.length), 1 ≤ p.pts[i].1 ∧ p.pts[i].1 ≤ 99 ∧ (∀ j (hj : j < i), j + 1 = i → (p.pts[j]'(by omega)).1 < p.pts[i].1) ∧ ∃ k, ∃ hk : k < p.secs.length, atS p.secs p.pts[i].2 = (k : Int) ∧ p.secs[k].2.1 = p.pts[i].1)
 ⟨fun ⟨a, b, c⟩ => ⟨a, b, fun i h => ⟨(c i h).1, (c i h).2.1, fun j hj => (c i h).2.2.1 j (by omega) hj, (c i h).2.2.2⟩⟩,
  fun h => ⟨h.n, h.many, fun i hi => ⟨(h.each i hi).1, (h.each i hi).2.1, fun j _ hj => (h.each i hi).2.2.1 j hj, (h.each i hi).2.2.2⟩⟩⟩ (by infer_instance)
instance chkSigs (p : Pl) : Decidable (SigsMay p) := @decidable_of_iff _
 (p.sigs.length ≤ 10 ∧ ∀ i (h : i < p.sigs.length), 1 ≤ p.sigs[i].1 ∧ p.sigs[i].1 ≤ 99 ∧ (∃ k, ∃ hk : k < p.secs.length, atS p.secs p.sigs[i].2.1 = (k : Int) ∧ 0 ≤ p.sigs[i].2.2 ∧ p.sigs[i].2.2 < p.secs[k].2.2.length) ∧ ∀ m (hm : m < i), (p.sigs[m]'(by omega)).1 < p.sigs[i].1 ∧ ¬ ((p.sigs[m]'(by omega)).2.1 = p.sigs[i].2.1 ∧ (p.sigs[m]'(by omega)).2.2 = p.sigs[i].2.2))
 ⟨fun ⟨a, b⟩ => ⟨a, b⟩, fun h => ⟨h.n, h.each⟩⟩ (by infer_instance)
instance chkRoute (p : Pl) (r : Rt) : Decidable (RouteMay p r) := @decidable_of_iff _
 ((∃ k, ∃ hk : k < p.sigs.length, at1 (fun x : Sg => x.1) p.sigs r.entry = (k : Int) ∧ ∀ i (h : i < (r.path ++ r.over).length), (r.path ++ r.over)[i] ≠ p.sigs[k].2.1) ∧
  (r.exit ≠ 0 → 0 ≤ at1 (fun x : Sg => x.1) p.sigs r.exit ∧ r.exit ≠ r.entry) ∧ (r.exit = 0 → r.over.length = 0) ∧ (1 ≤ r.path.length ∧ r.path.length ≤ 6) ∧ r.over.length ≤ 2 ∧ r.flanks.length ≤ 3 ∧ (1 ≤ r.timer ∧ r.timer ≤ 9) ∧
  (∀ i (h : i < (r.path ++ r.over).length), 0 ≤ atS p.secs (r.path ++ r.over)[i] ∧ ∀ m (hm : m < i), (r.path ++ r.over)[m] ≠ (r.path ++ r.over)[i]) ∧
  ∀ i (h : i < r.flanks.length), 0 ≤ at1 (fun x : Jn => x.1) p.pts r.flanks[i].1 ∧ (∀ j (hj : j < i), j + 1 = i → (r.flanks[j]'(by omega)).1 < r.flanks[i].1) ∧ 1 ≤ r.flanks[i].2 ∧ r.flanks[i].2 ≤ 2)
 ⟨fun ⟨a, b, c, d, e, f, g, h, i⟩ => ⟨a, b, c, d, e, f, g, h, fun k hk => ⟨(i k hk).1, fun j hj => (i k hk).2.1 j (by omega) hj, (i k hk).2.2⟩⟩,
  fun h => ⟨h.entry, h.exit, h.over0, h.path, h.over, h.flank, h.timer, h.secs, fun k hk => ⟨(h.flanks k hk).1, fun j _ hj => (h.flanks k hk).2.1 j hj, (h.flanks k hk).2.2⟩⟩⟩ (by infer_instance)
instance chkPlan (p : Pl) : Decidable (PlanMay p) := @decidable_of_iff _
 ((1 ≤ p.ver ∧ p.ver ≤ 2147483647) ∧ (0 ≤ p.par ∧ p.par < p.ver) ∧ p.routes.length ≤ 16 ∧ TMay p.secs ∧ PtsMay p ∧ SigsMay p ∧
  ∀ i (h : i < p.routes.length), (1 ≤ p.routes[i].id ∧ p.routes[i].id ≤ 99) ∧ (∀ j (hj : j < i), j + 1 = i → (p.routes[j]'(by omega)).id < p.routes[i].id) ∧ RouteMay p p.routes[i])
 ⟨fun ⟨a, b, c, d, e, f, g⟩ => ⟨a, b, c, d, e, f, fun i hi => ⟨(g i hi).1, fun j hj => (g i hi).2.1 j (by omega) hj, (g i hi).2.2⟩⟩,
  fun h => ⟨h.ver, h.par, h.n, h.secs, h.pts, h.sigs, fun i hi => ⟨(h.each i hi).1, fun j _ hj => (h.each i hi).2.1 j hj, (h.each i hi).2.2⟩⟩⟩ (by infer_instance)

def rtEq (r s : Rt) : Bool := decide (r.id = s.id) && (decide (r.entry = s.entry) && (decide (r.exit = s.exit) && (decide (r.path = s.path) && (decide (r.over = s.over) && (decide (r.flanks = s.flanks) && decide (r.timer = s.timer))))))
theorem rtEq_iff (r s : Rt) : rtEq r s = true ↔ r = s := by
 obtain ⟨a1, a2, a3, a4, a5, a6, a7⟩ := r
 obtain ⟨b1, b2, b3, b4, b5, b6, b7⟩ := s
 simp only [rtEq, Bool.and_eq_true, decide_eq_true_eq, Rt.mk.injEq]
def eqAny : Any13 → Any13 → Bool
 | .sec s, .sec t => decide (s = t)
 | .pt x, .pt y => decide (x = y)
 | .sig x, .sig y => decide (x = y)
 | .route r, .route s => rtEq r s
 | .none, .none => true
 | _, _ => false
theorem eqAny_eq (a b : Any13) : eqB a b = eqAny a b := by
 rw [Bool.eq_iff_iff, eqB_iff]
 cases a <;> cases b <;> simp [eqAny, rtEq_iff]
def isC (a b : Pl) (kind id : Int) : Int :=
 if placeD a kind id < 0 then (if placeD b kind id < 0 then 4 else 2) else if placeD b kind id < 0 then 3 else if eqAny (elD a kind id) (elD b kind id) then 0 else 1
theorem isD_C (a b : Pl) (kind id : Int) : isD a b kind id = isC a b kind id := by unfold isD isC; rw [eqAny_eq]
/-- The chapter's Q. -/
def planTwo13 : Pl := ⟨3, 2, planOne.secs, planOne.pts, planOne.sigs ++ [(7, 3, 0)], [⟨8, 4, 0, [2, 3], [], [], 4⟩]⟩
theorem may_one13 : PlanMay planOne := by decide +kernel
theorem may_two13 : PlanMay planTwo13 := by decide +kernel
theorem both_one_two : bothB planOne planTwo13 = true := by rw [bothB, planMay_true may_one13, planMay_true may_two13]; rfl
end Go.Proofs.YtneeocnjfnneoaaGreat
