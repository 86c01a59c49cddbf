/-
 The statement HmacNested's text returns true: a tag hangs on the key's block and the inner hash alone.
 Conditions: the table of constants reads as it was laid.
-/
import Derived.Test.YteloiajocjahmaaGreatDoorSGHmacN
set_option linter.unusedVariables false
set_option linter.unusedSimpArgs false
set_option maxRecDepth 100000
namespace Go.Proofs.YteloiajocjahmaaGreatDoor
open Go.RowKit

/-- append(own, text...), as one operation. -/
theorem wp_append_txt {P : Program} {w : World} {o : Oper} {a : Act} {K : Act → World → Prop} {Q : Exit → Act → World → Prop} (s x : Operand) (t : TypeId)
  (ho : o.op = .call { callee := .builtin .append, args := #[s, x], argTypes := #[t, t] })
  {base e : Nat} {i : TypeInfo} (ht : P.underlying t = some (.slice e)) (hi : P.info? e = some i) (hz : i.zero = some (.int .u8 0)) (hsize : i.size = 1) (hby : i.bytes = 1)
  {v : Value} {n : Nat} {ys : List Value} (hs : a.eval s = v) (hown : w.ownsRow base e 1 v n ys) {B : Nat} {u : Value} {xs : List UInt8} (hu : a.eval x = u) (hx : Txt w B u xs) (h63 : n + xs.length ≤ 140737488355328) (hbase : base ≤ w.heap.size)
  (h : ∀ v' w', w'.ownsRow base e 1 v' (n + xs.length) (ys ++ xs.map u8) → w.grownBy w' v.ownBlock → K (a.put o.dst v') w') : o.wp P a w K Q := by
 obtain ⟨v', w', hrun, h2, h3⟩ := run_append_txt (ty := o.type) ht hi hz hsize hby hown hx h63 hbase
 unfold Oper.wp execOp
 simp only [ho, resolve, invoke, builtin, Sem.run_bind, Sem.run_pure, Result.andThen_ok, List.map_toArray, List.map_cons, List.map_nil, hs, hu, hrun]
 exact h v' w' h2 h3

/-- What holds all through the last line. -/
def NAt (b8 b10 b12 b13 : Nat) (X Y I J : List UInt8) (v : World) : Prop :=
 v.heap[b8]? = some (.cells (rowB X) 47 (0, 0)) ∧ v.heap[b10]? = some (.cells (rowB Y) 47 (0, 0)) ∧
 v.heap[b12]? = some (.cells (rowB I) 47 (0, 0)) ∧ v.heap[b13]? = some (.cells (rowB J) 47 (0, 0))
theorem NAt.below {b8 b10 b12 b13 : Nat} {X Y I J : List UInt8} {v v' : World} (h : NAt b8 b10 b12 b13 X Y I J v) (b : Below v.heap.size v v') : NAt b8 b10 b12 b13 X Y I J v' :=
 ⟨(b.block _ (heap_lt h.1)).trans h.1, (b.block _ (heap_lt h.2.1)).trans h.2.1, (b.block _ (heap_lt h.2.2.1)).trans h.2.2.1, (b.block _ (heap_lt h.2.2.2)).trans h.2.2.2⟩
theorem NAt.drew {b8 b10 b12 b13 : Nat} {X Y I J : List UInt8} {v : World} (h : NAt b8 b10 b12 b13 X Y I J v) : NAt b8 b10 b12 b13 X Y I J v.drew := h

end Go.Proofs.YteloiajocjahmaaGreatDoor
