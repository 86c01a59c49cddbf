/-
 The document's own function of package way: Ends.
 Conditions: none.
-/
import Derived.Test.YtemmgmjhomgbbaaGreatVWayRefB
import Derived.Test.YtemmgmjhomgbbaaGreatVGPlnRefB
import Derived.Maps.AppendAt
import Derived.OwnWalk
set_option linter.unusedVariables false
set_option linter.unusedSimpArgs false
set_option maxRecDepth 100000
namespace Go.Proofs.YtemmgmjhomgbbaaGreat
open Go.RowKit

theorem ints_of_cells {W : World} {lo n : Nat} {v : Value} {l : List Int} (hn : l.length = n) (hm : n ≤ maxLen) (h : W.ownsRow lo 3 1 v n (l.map fun x => .int .i64 x)) : IntsOwn W lo v l := by
 subst hn
 have f : ∀ m : List Int, (m.map fun x => [Value.int .i64 x]).flatten = m.map fun x => .int .i64 x := fun m => by induction m with
  | nil => rfl
  | cons a m ih => rw [List.map_cons, List.flatten_cons, ih]; rfl
 refine ⟨l.map fun x => [.int .i64 x], by rw [f]; exact h, by simp, hm, fun ys hy => ?_, fun j ys x h1 h2 => ?_⟩
 ·obtain ⟨a, -, rfl⟩ := List.mem_map.1 hy
  rfl
 ·rw [List.getElem?_map, h2] at h1
  cases h1
  rfl
/-- Two lists of numbers of the call's own, that lie apart. -/
structure TwoInts (W : World) (lo : Nat) (v1 : Value) (l1 : List Int) (v2 : Value) (l2 : List Int) : Prop where
 a : IntsOwn W lo v1 l1
 b : IntsOwn W lo v2 l2
 apart : ∀ k, v1.ownBlock = some k → v2.ownBlock ≠ some k
theorem TwoInts.nil_ (W : World) (lo : Nat) : TwoInts W lo (.slice none 0 0) [] (.slice none 0 0) [] := ⟨ListOwn.nil_, ListOwn.nil_, fun k h => by cases h⟩
theorem TwoInts.below {W W' : World} {lo : Nat} {v1 v2 : Value} {l1 l2 : List Int} (h : TwoInts W lo v1 l1 v2 l2) (hb : Below W.heap.size W W') : TwoInts W' lo v1 l1 v2 l2 := ⟨h.a.below intR hb, h.b.below intR hb, h.apart⟩
theorem TwoInts.mono {W : World} {lo lo' : Nat} {v1 v2 : Value} {l1 l2 : List Int} (h : TwoInts W lo v1 l1 v2 l2) (hl : lo' ≤ lo) : TwoInts W lo' v1 l1 v2 l2 := ⟨h.a.mono hl, h.b.mono hl, h.apart⟩
theorem TwoInts.kept {W W' : World} {lo g : Nat} {v1 v2 : Value} {l1 l2 : List Int} (h : TwoInts W lo v1 l1 v2 l2) (hg : W.grownBy W' (some g)) (hl : g < lo) : TwoInts W' lo v1 l1 v2 l2 :=
 ⟨own_kept intF h.a hg (fun k hk => by have := own_lo h.a k hk; omega), own_kept intF h.b hg (fun k hk => by have := own_lo h.b k hk; omega), h.apart⟩
/-- One more in the first list. -/
theorem TwoInts.snoc {W w' : World} {o : Obj} {lo n : Nat} {v1 v2 v' : Value} {l1 l2 : List Int} {x : Int} (h : TwoInts W lo v1 l1 v2 l2) (hn : l1.length = n) (hm : n + 1 ≤ maxLen)
  (hown : w'.ownsRow lo 3 1 v' (n + 1) ((l1.map fun x => .int .i64 x) ++ [.int .i64 x])) (hg : (W.alloc o).grownBy w' v1.ownBlock) (hat : v'.ownBlock = v1.ownBlock ∨ v'.ownBlock = some (W.alloc o).heap.size) : TwoInts w' lo v' (l1 ++ [x]) v2 l2 := by
 have hb := h.b.below intR (below_new W o)
 refine ⟨ints_of_cells (by simp [hn]) hm (by simpa using hown), own_grown intF hb hg (fun k hk e => h.apart k e hk), fun k hk e => ?_⟩
 rcases hat with h1 | h1
 ·exact h.apart k (h1.symm.trans hk) e
 ·rw [h1] at hk
  injection hk with hk
  obtain ⟨cur, h2, -⟩ := own_block hb e
  have := (Array.getElem?_eq_some_iff.1 h2).1
  omega
theorem gb_low {a b : World} {L g : Nat} (h : a.grownBy b (some g)) (hg : L ≤ g) (hL : L ≤ a.heap.size) : Below L a b :=
 ⟨h.os, h.tape, h.output, h.size, fun i hi => h.block i (by omega) (fun e => by injection e with e; omega)⟩
theorem drewN_below (w : World) (n : Nat) : Below w.heap.size w (w.drewN n) := ⟨rfl, rfl, rfl, Nat.le_refl _, fun _ _ => rfl⟩
end Go.Proofs.YtemmgmjhomgbbaaGreat
