/-
  append(own, list...) of elements of at most a thousand bytes.
  Conditions: none.
-/
import Derived.Test.YthlolpflgninjaaAppends
set_option linter.unusedVariables false
set_option linter.unusedSimpArgs false
set_option maxRecDepth 100000
namespace Go.Proofs.Ythlolpflgninjaa
open Go.RowKit

theorem run_append_listB {P : Program} {w : World} {base t ty e size bytes : Nat} {i : TypeInfo} {z : Value} (ht : P.underlying t = some (.slice e)) (hi : P.info? e = some i) (hz : i.zero = some z) (hzs : z.cells.size = size) (hsize : i.size = size) (hsz : 0 < size) (hby : i.bytes = bytes) (hb8 : bytes ≤ 1000)
    {v : Value} {n m c : Nat} {A : Option Addr} {ys news : List Value} (hown : w.ownsRow base e size v n ys) (hl : news.length = m * size) (hA : A = none → m = 0 ∧ c = 0)
    (hc : ∀ a, A = some a → ∀ j u, news[j]? = some u → w.cell? (a.add j) = some u) (h1 : ∀ u ∈ news, u.oneCell' = true) (h63 : n + m ≤ 100000) (hbase : base ≤ w.heap.size) :
    ∃ v' w', (Builtin.append_ #[t, t] ty #[v, .slice A m c]).run P w = .ok v' w' ∧ w'.ownsRow base e size v' (n + m) (ys ++ news) ∧ w.grownBy w' v.ownBlock := by
  cases A with
  | none =>
    obtain ⟨rfl, rfl⟩ := hA rfl
    obtain rfl : news = [] := List.eq_nil_of_length_eq_zero (by omega)
    exact ⟨v, w, run_append_owned_none (P := P) (w := w) base t ty e i size ht hi v n ys hown, by simpa using hown, World.grownBy.refl w _⟩
  | some a =>
    obtain ⟨v', w', hr, ho, hg, _⟩ := run_append_own (P := P) w base t ty e i z size bytes ht hi hz hsize hby hzs hsz v n ys hown a m c news hl (hc a rfl) h1 (by unfold maxLen; omega) (by have := Nat.mul_le_mul h63 hb8; omega) hbase
    exact ⟨v', w', hr, ho, hg⟩
theorem wp_append_listB {P : Program} {w : World} {o : Oper} {a : Act} {K : Act → World → Prop} {Q : Exit → Act → World → Prop} (s x : Operand) (t : TypeId)
    (ho : o.op = .call { callee := .builtin .append, args := #[s, x], argTypes := #[t, t] })
    {base e size bytes : Nat} {i : TypeInfo} {z : Value} (ht : P.underlying t = some (.slice e)) (hi : P.info? e = some i) (hz : i.zero = some z) (hzs : z.cells.size = size) (hsize : i.size = size) (hsz : 0 < size) (hby : i.bytes = bytes) (hb8 : bytes ≤ 1000)
    {v : Value} {n m c : Nat} {A : Option Addr} {ys news : List Value} (hs : a.eval s = v) (hown : w.ownsRow base e size v n ys) (hu : a.eval x = .slice A m c) (hl : news.length = m * size) (hA : A = none → m = 0 ∧ c = 0)
    (hc : ∀ a, A = some a → ∀ j u, news[j]? = some u → w.cell? (a.add j) = some u) (h1 : ∀ u ∈ news, u.oneCell' = true) (h63 : n + m ≤ 100000) (hbase : base ≤ w.heap.size)
    (h : ∀ v' w', w'.ownsRow base e size v' (n + m) (ys ++ news) → w.grownBy w' v.ownBlock → K (a.put o.dst v') w') : o.wp P a w K Q := by
  obtain ⟨v', w', hrun, h2, h3⟩ := run_append_listB (ty := o.type) ht hi hz hzs hsize hsz hby hb8 hown hl hA hc h1 h63 hbase
  unfold Oper.wp execOp
  simp only [ho, resolve, invoke, builtin, Sem.run_bind, Sem.run_pure, Result.andThen_ok, List.map_toArray, List.map_cons, List.map_nil, hs, hu, hrun]
  exact h v' w' h2 h3

end Go.Proofs.Ythlolpflgninjaa
