/-
  What every stage's texts share: the heap, blocks of cells, rows of the call's own, boxes. No type of the program is named.
  Conditions: none.
-/
import Derived.Test.YthlolpflgninjaaProg
import Derived.Test.YthlolpflgninjaaChecked
import Derived.Deep.MidRow
import Derived.Laws.Rows
import Derived.Laws.Tables
import Derived.Below
import Derived.Deep.WholeRow
import Derived.Laws.CopyOwn
import Derived.ProofKit
import Derived.OpenShut
import Derived.ShutString
import Derived.ChangeOld
import Derived.Laws.BytesString
import Derived.Laws.IdiomStrings
import Derived.WalkKit
import Derived.Deep.RegionHeld3
import Derived.Lib.Hide
import Derived.OwnWalk
import Derived.StillTailTactics
import Derived.Great.BuildSlice
import Derived.Lib.SmallJoins
import Derived.Deep.Slices
import Derived.Deep.Fields
import Derived.ChangeSame
import Derived.BigRegion
import Derived.Deep.CutRange
set_option linter.unusedVariables false
set_option linter.unusedSimpArgs false
set_option maxRecDepth 100000
namespace Go.Proofs.Ythlolpflgninjaa
open Go.RowKit

theorem heap_alloc_self (w : World) (o : Obj) : (w.alloc o).heap[w.heap.size]? = some o := by
  show (w.heap.push o)[w.heap.size]? = some o
  simp
theorem heap_alloc_size (w : World) (o : Obj) : (w.alloc o).heap.size = w.heap.size + 1 := by
  show (w.heap.push o).size = _
  simp
theorem heap_alloc_lt (w : World) (o : Obj) {b : Nat} (h : b < w.heap.size) : (w.alloc o).heap[b]? = w.heap[b]? := by
  show (w.heap.push o)[b]? = w.heap[b]?
  rw [Array.getElem?_push, if_neg (by omega)]
theorem heap_lt {w : World} {b : Nat} {o : Obj} (h : w.heap[b]? = some o) : b < w.heap.size := (Array.getElem?_eq_some_iff.1 h).1
theorem below_new (w : World) (o : Obj) : Below w.heap.size w (w.alloc o) := (Below.refl _ w).alloc (Nat.le_refl _) o
theorem cell_lt {W : World} {p : Addr} {v : Value} (h : W.cell? p = some v) : p.block < W.heap.size := by
  rcases Nat.lt_or_ge p.block W.heap.size with hlt | hge
  · exact hlt
  · simp [World.cell?, Array.getElem?_eq_none hge] at h
theorem owns_below {w w' : World} {base e size n : Nat} {v : Value} {ys : List Value} (h : w.ownsRow base e size v n ys) (hb : Below w.heap.size w w') : w'.ownsRow base e size v n ys := by
  refine ⟨h.1, ?_⟩
  rcases h.2 with h2 | ⟨g, cap, cur, h1, h2, h3, h4⟩
  · exact .inl h2
  · exact .inr ⟨g, cap, cur, h1, h2, (hb.block g (Array.getElem?_eq_some_iff.1 h3).1).trans h3, h4⟩
theorem owns_mono {W : World} {lo lo' e size n : Nat} {v : Value} {ys : List Value} (h : W.ownsRow lo e size v n ys) (hl : lo' ≤ lo) : W.ownsRow lo' e size v n ys := by
  refine ⟨h.1, ?_⟩
  rcases h.2 with h2 | ⟨g, cap, cur, h1, h2, h3, h4⟩
  · exact .inl h2
  · exact .inr ⟨g, cap, cur, h1, Nat.le_trans hl h2, h3, h4⟩
theorem owns_block {w : World} {base e size n : Nat} {v : Value} {ys : List Value} (h : w.ownsRow base e size v n ys) {g : Nat} (hg : v.ownBlock = some g) : ∃ cur, w.heap[g]? = some (.cells cur e (0, 0)) ∧ base ≤ g := by
  rcases h.2 with ⟨rfl, _⟩ | ⟨b, cap, cur, rfl, hb, h3, _⟩
  · cases hg
  · cases hg; exact ⟨cur, h3, hb⟩
theorem own_ge {w : World} {base e size n : Nat} {v : Value} {ys : List Value} (h : w.ownsRow base e size v n ys) : ∀ k, v.ownBlock = some k → base ≤ k := fun k hk => (h.lt k hk).1
theorem owns_apart {w : World} {base e size n base' e' size' n' : Nat} {v v' : Value} {ys ys' : List Value} (hne : e ≠ e') (h : w.ownsRow base e size v n ys) (h' : w.ownsRow base' e' size' v' n' ys') : v.ownBlock = none ∨ v.ownBlock ≠ v'.ownBlock := by
  cases hb : v.ownBlock with
  | none => exact .inl rfl
  | some g =>
    refine .inr fun e1 => ?_
    obtain ⟨c1, h1, _⟩ := owns_block h hb
    obtain ⟨c2, h2, _⟩ := owns_block h' e1.symm
    rw [h1] at h2
    cases h2
    exact hne rfl
theorem owns_setRow {w : World} {base e size n : Nat} {v : Value} {ys : List Value} (h : w.ownsRow base e size v n ys) {g : Nat} (hg : g < base) (cs : Array Value) : (w.setRow g cs).ownsRow base e size v n ys := by
  refine ⟨h.1, ?_⟩
  rcases h.2 with h2 | ⟨b, cap, cur, h1, h2, h3, h4⟩
  · exact .inl h2
  · exact .inr ⟨b, cap, cur, h1, h2, (setRow_other w g b cs (by omega)).trans h3, h4⟩
theorem own_oneCell {w : World} {base e size n : Nat} {v : Value} {ys : List Value} (h : w.ownsRow base e size v n ys) : v.oneCell' = true := by
  rcases h.2 with ⟨rfl, _⟩ | ⟨g, cap, cur, rfl, _⟩ <;> rfl
theorem cell2_of {w : World} {b : Nat} {v1 v2 : Value} {t : TypeId} {fr : Nat × Nat} (h : w.heap[b]? = some (.cells #[v1, v2] t fr)) : w.cell? ⟨b, 0, none⟩ = some v1 ∧ w.cell? ⟨b, 1, none⟩ = some v2 :=
  ⟨by rw [cell_of_row _ _ _ _ _ _ h]; rfl, by rw [cell_of_row _ _ _ _ _ _ h]; rfl⟩
theorem frozen2_of {w : World} {b : Nat} {c : Array Value} {t : TypeId} (h : w.heap[b]? = some (.cells c t (0, 0))) (j : Nat) : w.frozen? ⟨b, j, none⟩ = false := by simp [World.frozen?, h]
theorem heap_other {W W' : World} {g b : Nat} {cur : Array Value} {c : Array Value} {t e : TypeId} {fr fr' : Nat × Nat} (hne : t ≠ e) (h : W.heap[b]? = some (.cells c t fr)) (hg : W.heap[g]? = some (.cells cur e fr')) (hgr : W.grownBy W' (some g)) : W'.heap[b]? = some (.cells c t fr) :=
  (hgr.block b (heap_lt h) (fun e1 => by
    obtain rfl : b = g := by simpa using e1
    rw [h] at hg
    cases hg
    exact hne rfl)).trans h
theorem heap_set2 {W : World} {b : Nat} {c0 c1 : Value} {t : TypeId} (h : W.heap[b]? = some (.cells #[c0, c1] t (0, 0))) (x y : Value) : ((W.setCell ⟨b, 0, none⟩ x).setCell ⟨b, 1, none⟩ y).heap[b]? = some (.cells #[x, y] t (0, 0)) := by
  simp only [World.setCell, Array.getElem?_modify, if_true, h, Option.map_some]
  rfl
theorem grown_set2 (W : World) (b : Nat) (x y : Value) : W.grownBy ((W.setCell ⟨b, 0, none⟩ x).setCell ⟨b, 1, none⟩ y) (some b) := by
  have h1 : W.grownBy (W.setCell ⟨b, 0, none⟩ x) (some b) := ⟨rfl, rfl, rfl, by simp [World.setCell], fun i _ hi => Below.heap_setCell W ⟨b, 0, none⟩ x i (fun e => hi (by rw [e]))⟩
  have h2 : (W.setCell ⟨b, 0, none⟩ x).grownBy ((W.setCell ⟨b, 0, none⟩ x).setCell ⟨b, 1, none⟩ y) (some b) := ⟨rfl, rfl, rfl, by simp [World.setCell], fun i _ hi => Below.heap_setCell _ ⟨b, 1, none⟩ y i (fun e => hi (by rw [e]))⟩
  exact ⟨rfl, rfl, rfl, Nat.le_trans h1.size h2.size, fun i hi hne => (h2.block i (Nat.lt_of_lt_of_le hi h1.size) hne).trans (h1.block i hi hne)⟩
theorem grown_set (W : World) (b j : Nat) (x : Value) : W.grownBy (W.setCell ⟨b, j, none⟩ x) (some b) := ⟨rfl, rfl, rfl, by simp [World.setCell], fun i _ hi => Below.heap_setCell W ⟨b, j, none⟩ x i (fun e => hi (by rw [e]))⟩
theorem heap_setA {W : World} {b : Nat} {c0 c1 : Value} {t : TypeId} (h : W.heap[b]? = some (.cells #[c0, c1] t (0, 0))) (x : Value) : (W.setCell ⟨b, 0, none⟩ x).heap[b]? = some (.cells #[x, c1] t (0, 0)) := by
  simp only [World.setCell, Array.getElem?_modify, if_true, h, Option.map_some]
  rfl
theorem heap_setB {W : World} {b : Nat} {c0 c1 : Value} {t : TypeId} (h : W.heap[b]? = some (.cells #[c0, c1] t (0, 0))) (x : Value) : (W.setCell ⟨b, 1, none⟩ x).heap[b]? = some (.cells #[c0, x] t (0, 0)) := by
  simp only [World.setCell, Array.getElem?_modify, if_true, h, Option.map_some]
  rfl
theorem heap_setFar (W : World) (b j i : Nat) (x : Value) (h : i ≠ b) : (W.setCell ⟨b, j, none⟩ x).heap[i]? = W.heap[i]? := Below.heap_setCell W ⟨b, j, none⟩ x i h
theorem below_set {B b : Nat} {w W : World} (h : Below B w W) (hb : B ≤ b) (j : Nat) (x : Value) : Below B w (W.setCell ⟨b, j, none⟩ x) := h.setCell (p := ⟨b, j, none⟩) hb x
theorem below_set2 {B b : Nat} {w W : World} (h : Below B w W) (hb : B ≤ b) (x y : Value) : Below B w ((W.setCell ⟨b, 0, none⟩ x).setCell ⟨b, 1, none⟩ y) := below_set (below_set h hb 0 x) hb 1 y
/-- Two boxes more: what lies in them, and below. -/
theorem two_boxes (w : World) (o1 o2 : Obj) : ((w.alloc o1).alloc o2).heap[w.heap.size]? = some o1 ∧ ((w.alloc o1).alloc o2).heap[w.heap.size + 1]? = some o2 ∧ Below w.heap.size w ((w.alloc o1).alloc o2) := by
  refine ⟨?_, ?_, (below_new w _).alloc (by simp) _⟩
  · rw [heap_alloc_lt _ _ (by rw [heap_alloc_size]; omega)]; exact heap_alloc_self _ _
  · have := heap_alloc_self (w.alloc o1) o2
    rwa [heap_alloc_size] at this
theorem boxes3 (w : World) (a b c : Obj) : ∃ q, q = ((w.alloc a).alloc b).alloc c ∧ q.heap[w.heap.size]? = some a ∧ q.heap[w.heap.size + 1]? = some b ∧ q.heap[w.heap.size + 1 + 1]? = some c ∧ q.heap.size = w.heap.size + 3 ∧ Below w.heap.size w q := by
  refine ⟨_, rfl, ?_, ?_, ?_, by simp, (((Below.refl _ w).alloc (Nat.le_refl _) _).alloc (by simp) _).alloc (by simp; omega) _⟩
  · rw [heap_alloc_lt _ _ (by simp; omega), heap_alloc_lt _ _ (by simp)]; exact heap_alloc_self _ _
  · rw [heap_alloc_lt _ _ (by simp)]
    have := heap_alloc_self (w.alloc a) b
    simpa using this
  · have := heap_alloc_self ((w.alloc a).alloc b) c
    simpa using this
theorem own_sliceN {w : World} {base e size n : Nat} {v : Value} {ys : List Value} (h : w.ownsRow base e size v n ys) : ∃ A c, v = .slice A n c := by
  rcases h.2 with ⟨h1, h2⟩ | ⟨gg, cap, cur, h1, _⟩
  · exact ⟨none, 0, by rw [h1, h2]⟩
  · exact ⟨_, _, h1⟩
theorem own_slice_ {w : World} {base e n : Nat} {v : Value} {ys : List Value} (h : w.ownsRow base e 1 v n ys) : ∃ A c, v = .slice A n c := by
  rcases h.2 with ⟨rfl, rfl⟩ | ⟨g, cap, cur, rfl, _⟩
  · exact ⟨none, 0, rfl⟩
  · exact ⟨_, _, rfl⟩
theorem own_cap {W : World} {base e n c : Nat} {A : Option Addr} {ys : List Value} (h : W.ownsRow base e 1 (.slice A n c) n ys) (hn : 0 < n) : (n : Int) ≤ c := by
  rcases h.2 with ⟨e1, h0⟩ | ⟨g, cap, cur, e1, _, _, hcap, _⟩
  · omega
  · cases e1
    omega
theorem addr_plain {W : World} {a : Addr} {j : Nat} (hj : j = 0) {v : Value} (h : W.cell? (a.add j) = some v) : ∃ b off, a = ⟨b, off, none⟩ := by
  subst hj
  obtain ⟨b, off, spot⟩ := a
  have hspot : spot = none := World.cell?_spot h
  subst hspot
  exact ⟨b, off, rfl⟩
theorem range2_of {w : World} {b : Nat} {v1 v2 : Value} {t : TypeId} {fr : Nat × Nat} (h : w.heap[b]? = some (.cells #[v1, v2] t fr)) : w.rangeAt b 0 [v1, v2] := fun j v hv => by
  rw [Nat.zero_add, cell_of_row _ _ _ _ _ _ h]
  simpa using hv
theorem wp_load_2 {P : Program} {op : Oper} {a : Act} {w : World} {K : Act → World → Prop} {Q : Exit → Act → World → Prop} (ty : TypeId) (x : Operand) (ho : op.op = .load ty x)
    (b : Nat) (hx : a.eval x = .pointer (some ⟨b, 0, none⟩)) {v1 v2 : Value} {t : TypeId} {fr : Nat × Nat} (hb : w.heap[b]? = some (.cells #[v1, v2] t fr)) {fs : Array Field} (hu : P.underlying ty = some (.struct fs)) (hi : (P.info? ty).map (·.size) = some 2)
    (h : K (a.put op.dst (.agg #[v1, v2])) w) : op.wp P a w K Q := wp_load_mid ty x ho b 0 hx [v1, v2] _ (range2_of hb) hu rfl hi h
/-- A struct of two cells into a block that holds one, as one operation. -/
theorem wp_store_2 {P : Program} {op : Oper} {a : Act} {w : World} {K : Act → World → Prop} {Q : Exit → Act → World → Prop} (ty : TypeId) (x y : Operand) (ho : op.op = .store ty x y)
    (b : Nat) (hx : a.eval x = .pointer (some ⟨b, 0, none⟩)) {c1 c2 v1 v2 : Value} (hy : a.eval y = .agg #[v1, v2]) {t : TypeId} (hb : w.heap[b]? = some (.cells #[c1, c2] t (0, 0)))
    (hi : (P.info? ty).map (·.size) = some 2) (h1 : v1.oneCell' = true) (h2 : v2.oneCell' = true)
    (h : K (a.put op.dst undef) (w.setRow b #[v1, v2])) : op.wp P a w K Q := by
  unfold Oper.wp execOp
  simp only [ho, hx, hy, Instr.storeAt, Instr.sureAddr, Sem.run_bind, Sem.run_pure, Result.andThen_ok]
  rw [run_storeVar_row w b t ty #[c1, c2] #[v1, v2] hb hi rfl (by simp [h1, h2])]
  exact h
/-- The results of a function whose result is a struct of two cells in memory. -/
theorem results_cell_2 {P : Program} {fn : Func} {p : Tmp} {ty : TypeId} (h : fn.results = #[.cell p ty]) (tmps : Array Value) (w : World) (g : Nat) {v1 v2 : Value} {t : TypeId} (hp : tmps.getD p undef = .pointer (some ⟨g, 0, none⟩)) (hb : w.heap[g]? = some (.cells #[v1, v2] t (0, 0)))
    {fs : Array Field} (hu : P.underlying ty = some (.struct fs)) (hi : (P.info? ty).map (·.size) = some 2) : (results fn tmps).run P w = .ok (.agg #[v1, v2]) w :=
  results_cell_row h tmps w g t #[v1, v2] (0, 0) _ hp hb hu rfl (by simpa using hi)
/-- The results of a function whose results are a struct of two cells in memory, and a slot. -/
theorem results_2_tmp {P : Program} {fn : Func} {p u : Tmp} {ty : TypeId} (h : fn.results = #[.cell p ty, .tmp u]) (tmps : Array Value) (w : World) (g : Nat) {v1 v2 : Value} {t : TypeId} {fr : Nat × Nat} (hp : tmps.getD p undef = .pointer (some ⟨g, 0, none⟩)) (hb : w.heap[g]? = some (.cells #[v1, v2] t fr))
    {fs : Array Field} (hu : P.underlying ty = some (.struct fs)) (hi : (P.info? ty).map (·.size) = some 2) (x : Value) (hx : tmps.getD u undef = x) : (results fn tmps).run P w = .ok (.tuple #[.agg #[v1, v2], x]) w := by
  have hp' : tmps[p]?.getD undef = .pointer (some ⟨g, 0, none⟩) := by simpa using hp
  rw [results_cell_tmp h, hp, hx]
  simp [asAddr, run_loadVar_row w g t ty #[v1, v2] fr _ hb hu rfl (by simpa using hi)]
theorem laidOut_ : laidOutB Try.prog = true := by kernel_rfl
theorem own_ : ownKnob Try.prog.godebug = none := by kernel_rfl
theorem grownBy_setRow (w : World) (g : Nat) (cs : Array Value) : w.grownBy (w.setRow g cs) (some g) :=
  ⟨rfl, rfl, rfl, by simp [World.setRow], fun b _ hb => setRow_other _ _ _ _ (fun e => hb (by rw [e]))⟩
theorem grown_trans {a b c : World} {r : Option Nat} (h : a.grownBy b r) (k : b.grownBy c r) : a.grownBy c r :=
  ⟨k.os.trans h.os, k.tape.trans h.tape, k.output.trans h.output, Nat.le_trans h.size k.size, fun i hi hne => (k.block i (Nat.lt_of_lt_of_le hi h.size) hne).trans (h.block i hi hne)⟩
theorem setRow_alloc_lt (w : World) (o : Obj) {b : Nat} (c : Array Value) (h : b < w.heap.size) : (w.alloc o).setRow b c = (w.setRow b c).alloc o := by
  simp only [World.setRow, World.alloc]
  congr 1
  apply Array.ext_getElem?
  intro i
  rw [Array.getElem?_modify, Array.getElem?_push, Array.getElem?_push, Array.getElem?_modify, Array.size_modify]
  by_cases hi : i = w.heap.size
  · subst hi
    rw [if_pos rfl, if_neg (by omega), if_pos rfl]
  · rw [if_neg hi, if_neg hi]
theorem cell3_of {w : World} {b : Nat} {v1 v2 v3 : Value} {t : TypeId} {fr : Nat × Nat} (h : w.heap[b]? = some (.cells #[v1, v2, v3] t fr)) : w.cell? ⟨b, 0, none⟩ = some v1 ∧ w.cell? ⟨b, 1, none⟩ = some v2 ∧ w.cell? ⟨b, 2, none⟩ = some v3 :=
  ⟨cell_of_row _ _ _ _ _ _ h, cell_of_row _ _ _ _ _ _ h, cell_of_row _ _ _ _ _ _ h⟩
end Go.Proofs.Ythlolpflgninjaa
