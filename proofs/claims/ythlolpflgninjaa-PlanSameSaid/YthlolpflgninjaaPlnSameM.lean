/-
  What PlanSame's loops keep.
  Conditions: none.
-/
import Derived.Test.YthlolpflgninjaaPlnRowB
import Derived.Test.YthlolpflgninjaaPlnFar
set_option linter.unusedVariables false
set_option linter.unusedSimpArgs false
set_option maxRecDepth 100000
namespace Go.Proofs.Ythlolpflgninjaa
open Go.RowKit

/-- The copy's rows lie between lo and mid and keep their shape; the other copy, made later, stays; all below lo stays. -/
structure SInv (w2 : World) (lo mid top pW n2 n5 : Nat) (U2 U5 : Option Addr) (ct cw : Array Value) (u2 u3 u4 u5 : Value) (p : Pl) (W : World) : Prop where
  rt : RtB W lo mid n5 U5
  sc : ScB W lo mid n2 U2
  xt : W.heap[mid]? = some (.cells ct 30 (0, 0))
  xw : W.heap[pW]? = some (.cells cw 30 (0, 0))
  ho : PlOwn W top u2 u3 u4 u5 p
  bl : Below lo w2 W
  m1 : mid ≤ top
  m2 : mid ≤ pW
section
variable {w2 W : World} {lo mid top pW n2 n5 : Nat} {U2 U5 : Option Addr} {ct cw : Array Value} {u2 u3 u4 u5 : Value} {p : Pl}
theorem SInv.timer {g : Nat} {cur : Array Value} (h : SInv w2 lo mid top pW n2 n5 U2 (some ⟨g, 0, none⟩) ct cw u2 u3 u4 u5 p W) (hlo : lo ≤ g ∧ g < mid) (hg : W.heap[g]? = some (.cells cur 35 (0, 0)))
    (hc : ∀ j, j < n5 → (∃ z : Int, cur[j * 7 + 6]? = some (.int .i64 z)) ∧ ∃ D m c, cur[j * 7 + 3]? = some (.slice D m c) ∧ m ≤ 9223372036854775807 ∧ IntB W lo mid m D) (i : Nat) (x : Int) :
    SInv w2 lo mid top pW n2 n5 U2 (some ⟨g, 0, none⟩) ct cw u2 u3 u4 u5 p (W.setCell ⟨g, i * 7 + 6, none⟩ (.int .i64 x)) :=
  ⟨rtB_timer hlo hg hc x, scB_far h.sc hg (by decide) (by decide) _ _, (heap_setFar W _ _ _ _ (by omega)).trans h.xt, (heap_setFar W _ _ _ _ (by have := h.m2; omega)).trans h.xw, h.ho.set (by have := h.m1; omega) _ _, below_set h.bl hlo.1 _ _, h.m1, h.m2⟩
theorem SInv.path {g : Nat} {cur : Array Value} (h : SInv w2 lo mid top pW n2 n5 U2 U5 ct cw u2 u3 u4 u5 p W) (hlo : lo ≤ g ∧ g < mid) (hg : W.heap[g]? = some (.cells cur 3 (0, 0))) (k : Nat) (x : Int) :
    SInv w2 lo mid top pW n2 n5 U2 U5 ct cw u2 u3 u4 u5 p (W.setCell ⟨g, k, none⟩ (.int .i64 x)) :=
  ⟨rtB_path h.rt hg k x, scB_far h.sc hg (by decide) (by decide) _ _, (heap_setFar W _ _ _ _ (by omega)).trans h.xt, (heap_setFar W _ _ _ _ (by have := h.m2; omega)).trans h.xw, h.ho.set (by have := h.m1; omega) _ _, below_set h.bl hlo.1 _ _, h.m1, h.m2⟩
theorem SInv.to {g : Nat} {cur : Array Value} (h : SInv w2 lo mid top pW n2 0 U2 U5 ct cw u2 u3 u4 u5 p W) (hlo : lo ≤ g ∧ g < mid) (hg : W.heap[g]? = some (.cells cur 66 (0, 0))) (i : Nat) (x : Int) :
    SInv w2 lo mid top pW n2 0 U2 U5 ct cw u2 u3 u4 u5 p (W.setCell ⟨g, i * 2, none⟩ (.int .i64 x)) :=
  ⟨.inl rfl, scB_to h.sc hg i x, (heap_setFar W _ _ _ _ (by omega)).trans h.xt, (heap_setFar W _ _ _ _ (by have := h.m2; omega)).trans h.xw, h.ho.set (by have := h.m1; omega) _ _, below_set h.bl hlo.1 _ _, h.m1, h.m2⟩
theorem SInv.done (h : SInv w2 lo mid top pW n2 n5 U2 U5 ct cw u2 u3 u4 u5 p W) : SInv w2 lo mid top pW n2 0 U2 U5 ct cw u2 u3 u4 u5 p W := ⟨.inl rfl, h.sc, h.xt, h.xw, h.ho, h.bl, h.m1, h.m2⟩
end
end Go.Proofs.Ythlolpflgninjaa
