/-
 The document's own function of package way: Ends.
 Conditions: none.
-/
import Derived.Test.YtebffdfimmbbdaaQWayRefB
import Derived.Test.YtebffdfimmbbdaaQGPlnRefB
import Derived.Maps.AppendAt
import Derived.OwnWalk
set_option linter.unusedVariables false
set_option linter.unusedSimpArgs false
set_option maxRecDepth 100000
namespace Go.Proofs.Ytebffdfimmbbdaa
open Go.RowKit

theorem ints_cells {W : World} {lo n : Nat} {v : Value} {l : List Int} (h : IntsOwn W lo v l) (hn : l.length = n) : W.ownsRow lo 3 1 v n (l.map fun x => .int .i64 x) := by
 subst hn
 obtain ⟨yss, ho, hl, hm, hs, ht⟩ := h
 have e : yss = l.map fun x => [.int .i64 x] := List.ext_getElem (by simp [hl]) fun j h1 h2 => by
  have h2' : j < l.length := by omega
  have h3 : (yss[j])[0]? = some (.int .i64 l[j]) := ht j yss[j] l[j] (List.getElem?_eq_getElem h1) (List.getElem?_eq_getElem h2')
  obtain ⟨y, hy⟩ := List.length_eq_one_iff.1 (hs _ (List.getElem_mem h1))
  rw [hy] at h3 ⊢
  simp at h3
  simp [h3]
 have f : ∀ m : List Int, (m.map fun x => [Value.int .i64 x]).flatten = m.map fun x => .int .i64 x := fun m => by induction m with
  | nil => rfl
  | cons a m ih => rw [List.map_cons, List.flatten_cons, ih]; rfl
 rw [e, f] at ho
 exact ho
theorem ints_of_cells {W : World} {lo n : Nat} {v : Value} {l : List Int} (hn : l.length = n) (hm : n ≤ maxLen) (h : W.ownsRow lo 3 1 v n (l.map fun x => .int .i64 x)) : IntsOwn W lo v l := by
 subst hn
 have f : ∀ m : List Int, (m.map fun x => [Value.int .i64 x]).flatten = m.map fun x => .int .i64 x := fun m => by induction m with
  | nil => rfl
  | cons a m ih => rw [List.map_cons, List.flatten_cons, ih]; rfl
 refine ⟨l.map fun x => [.int .i64 x], by rw [f]; exact h, by simp, hm, fun ys hy => ?_, fun j ys x h1 h2 => ?_⟩
 ·obtain ⟨a, -, rfl⟩ := List.mem_map.1 hy
  rfl
 ·rw [List.getElem?_map, h2] at h1
  cases h1
  rfl
/-- Two lists of numbers of the call's own, that lie apart. -/
structure TwoInts (W : World) (lo : Nat) (v1 : Value) (l1 : List Int) (v2 : Value) (l2 : List Int) : Prop where
 a : IntsOwn W lo v1 l1
 b : IntsOwn W lo v2 l2
 apart : ∀ k, v1.ownBlock = some k → v2.ownBlock ≠ some k
theorem TwoInts.nil_ (W : World) (lo : Nat) : TwoInts W lo (.slice none 0 0) [] (.slice none 0 0) [] := ⟨ListOwn.nil_, ListOwn.nil_, fun k h => by cases h⟩
theorem TwoInts.swap {W : World} {lo : Nat} {v1 v2 : Value} {l1 l2 : List Int} (h : TwoInts W lo v1 l1 v2 l2) : TwoInts W lo v2 l2 v1 l1 := ⟨h.b, h.a, fun k h1 h2 => h.apart k h2 h1⟩
theorem TwoInts.below {W W' : World} {lo : Nat} {v1 v2 : Value} {l1 l2 : List Int} (h : TwoInts W lo v1 l1 v2 l2) (hb : Below W.heap.size W W') : TwoInts W' lo v1 l1 v2 l2 := ⟨h.a.below intR hb, h.b.below intR hb, h.apart⟩
theorem TwoInts.mono {W : World} {lo lo' : Nat} {v1 v2 : Value} {l1 l2 : List Int} (h : TwoInts W lo v1 l1 v2 l2) (hl : lo' ≤ lo) : TwoInts W lo' v1 l1 v2 l2 := ⟨h.a.mono hl, h.b.mono hl, h.apart⟩
theorem TwoInts.kept {W W' : World} {lo g : Nat} {v1 v2 : Value} {l1 l2 : List Int} (h : TwoInts W lo v1 l1 v2 l2) (hg : W.grownBy W' (some g)) (hl : g < lo) : TwoInts W' lo v1 l1 v2 l2 :=
 ⟨own_kept intF h.a hg (fun k hk => by have := own_lo h.a k hk; omega), own_kept intF h.b hg (fun k hk => by have := own_lo h.b k hk; omega), h.apart⟩
/-- One more in the first list. -/
theorem TwoInts.snoc {W w' : World} {o : Obj} {lo n : Nat} {v1 v2 v' : Value} {l1 l2 : List Int} {x : Int} (h : TwoInts W lo v1 l1 v2 l2) (hn : l1.length = n) (hm : n + 1 ≤ maxLen)
  (hown : w'.ownsRow lo 3 1 v' (n + 1) ((l1.map fun x => .int .i64 x) ++ [.int .i64 x])) (hg : (W.alloc o).grownBy w' v1.ownBlock) (hat : v'.ownBlock = v1.ownBlock ∨ v'.ownBlock = some (W.alloc o).heap.size) : TwoInts w' lo v' (l1 ++ [x]) v2 l2 := by
 have hb := h.b.below intR (below_new W o)
 refine ⟨ints_of_cells (by simp [hn]) hm (by simpa using hown), own_grown intF hb hg (fun k hk e => h.apart k e hk), fun k hk e => ?_⟩
 rcases hat with h1 | h1
 ·exact h.apart k (h1.symm.trans hk) e
 ·rw [h1] at hk
  injection hk with hk
  obtain ⟨cur, h2, -⟩ := own_block hb e
  have := (Array.getElem?_eq_some_iff.1 h2).1
  omega
theorem gb_below {a b c : World} {L g : Nat} (h : a.grownBy b (some g)) (k : Below L b c) (hL : a.heap.size ≤ L) : a.grownBy c (some g) :=
 ⟨k.os.trans h.os, k.tape.trans h.tape, k.output.trans h.output, Nat.le_trans h.size k.size, fun i hi hne => (k.block i (by omega)).trans (h.block i hi hne)⟩
theorem gb_low {a b : World} {L g : Nat} (h : a.grownBy b (some g)) (hg : L ≤ g) (hL : L ≤ a.heap.size) : Below L a b :=
 ⟨h.os, h.tape, h.output, h.size, fun i hi => h.block i (by omega) (fun e => by injection e with e; omega)⟩
theorem drewN_below (w : World) (n : Nat) : Below w.heap.size w (w.drewN n) := ⟨rfl, rfl, rfl, Nat.le_refl _, fun _ _ => rfl⟩
theorem insL_len (p : Pl) (r : Rt) (n : Nat) : (insL p r n).length = n := by simp [insL]
theorem outsL_len (p : Pl) (r : Rt) (n : Nat) : (outsL p r n).length = n := by simp [outsL]
/-- A signal, an end: in a box of its own. -/
def SigBox (W : World) (pz : Nat) (row : Array Value) : Prop := W.heap[pz]? = some (.cells row 64 (0, 0))
def JnBox (W : World) (pz : Nat) (row : Array Value) : Prop := W.heap[pz]? = some (.cells row 57 (0, 0))
theorem outA_last {p : Pl} {r : Rt} {a : Nat} (h : lastB r a = true) : outA p r a = -1 := by rw [outA, h]; rfl
theorem outA_of {p : Pl} {r : Rt} {a : Nat} {j : Jn} (h : lastB r a = false) (hc : comesN p r a = some j) : outA p r a = outN p r a j.2 := by rw [outA, h, in_of hc]; rfl

end Go.Proofs.Ytebffdfimmbbdaa
