/-
  append(own, list...) of a list that is read: the row of the call's own, longer by the list's cells.
  Conditions: none.
-/
import Derived.Test.YthlolpflgninjaaLists
import Derived.Laws.OwnMore
import Derived.Laws.AppendOwn
import Derived.Laws.AppendOwnNone
set_option linter.unusedVariables false
set_option linter.unusedSimpArgs false
set_option maxRecDepth 100000
namespace Go.Proofs.Ythlolpflgninjaa
open Go.RowKit

theorem run_append_list {P : Program} {w : World} {base t ty e size bytes : Nat} {i : TypeInfo} {z : Value} (ht : P.underlying t = some (.slice e)) (hi : P.info? e = some i) (hz : i.zero = some z) (hzs : z.cells.size = size) (hsize : i.size = size) (hsz : 0 < size) (hby : i.bytes = bytes) (hb8 : bytes ≤ 100)
    {v : Value} {n m c : Nat} {A : Option Addr} {ys news : List Value} (hown : w.ownsRow base e size v n ys) (hl : news.length = m * size) (hA : A = none → m = 0 ∧ c = 0)
    (hc : ∀ a, A = some a → ∀ j u, news[j]? = some u → w.cell? (a.add j) = some u) (h1 : ∀ u ∈ news, u.oneCell' = true) (h63 : n + m ≤ 100000) (hbase : base ≤ w.heap.size) :
    ∃ v' w', (Builtin.append_ #[t, t] ty #[v, .slice A m c]).run P w = .ok v' w' ∧ w'.ownsRow base e size v' (n + m) (ys ++ news) ∧ w.grownBy w' v.ownBlock := by
  cases A with
  | none =>
    obtain ⟨rfl, rfl⟩ := hA rfl
    obtain rfl : news = [] := List.eq_nil_of_length_eq_zero (by omega)
    exact ⟨v, w, run_append_owned_none (P := P) (w := w) base t ty e i size ht hi v n ys hown, by simpa using hown, World.grownBy.refl w _⟩
  | some a =>
    obtain ⟨v', w', hr, ho, hg, _⟩ := run_append_own (P := P) w base t ty e i z size bytes ht hi hz hsize hby hzs hsz v n ys hown a m c news hl (hc a rfl) h1 (by unfold maxLen; omega) (by have := Nat.mul_le_mul h63 hb8; omega) hbase
    exact ⟨v', w', hr, ho, hg⟩
theorem wpList_append_list {P : Program} {w : World} {ops : Array Oper} {rest : List Oper} {o : Oper} {a : Act} {Q : Exit → Act → World → Prop} (hgd : o.guard = none) (s x : Operand) (t : TypeId)
    (ho : o.op = .call { callee := .builtin .append, args := #[s, x], argTypes := #[t, t] })
    {base e size bytes : Nat} {i : TypeInfo} {z : Value} (ht : P.underlying t = some (.slice e)) (hi : P.info? e = some i) (hz : i.zero = some z) (hzs : z.cells.size = size) (hsize : i.size = size) (hsz : 0 < size) (hby : i.bytes = bytes) (hb8 : bytes ≤ 100)
    {v : Value} {n m c : Nat} {A : Option Addr} {ys news : List Value} (hs : a.eval s = v) (hown : w.ownsRow base e size v n ys) (hu : a.eval x = .slice A m c) (hl : news.length = m * size) (hA : A = none → m = 0 ∧ c = 0)
    (hc : ∀ a, A = some a → ∀ j u, news[j]? = some u → w.cell? (a.add j) = some u) (h1 : ∀ u ∈ news, u.oneCell' = true) (h63 : n + m ≤ 100000) (hbase : base ≤ w.heap.size)
    (h : ∀ v' w', w'.ownsRow base e size v' (n + m) (ys ++ news) → w.grownBy w' v.ownBlock → wpList P ops Q rest (a.put o.dst v') w') : wpList P ops Q (o :: rest) a w := by
  refine wpList_plain hgd fun K hK => ?_
  obtain ⟨v', w', hrun, h2, h3⟩ := run_append_list (ty := o.type) ht hi hz hzs hsize hsz hby hb8 hown hl hA hc h1 h63 hbase
  unfold Oper.wp execOp
  simp only [ho, resolve, invoke, builtin, Sem.run_bind, Sem.run_pure, Result.andThen_ok, List.map_toArray, List.map_cons, List.map_nil, hs, hu, hrun]
  exact hK _ _ (h v' w' h2 h3)
theorem wp_append_list {P : Program} {w : World} {o : Oper} {a : Act} {K : Act → World → Prop} {Q : Exit → Act → World → Prop} (s x : Operand) (t : TypeId)
    (ho : o.op = .call { callee := .builtin .append, args := #[s, x], argTypes := #[t, t] })
    {base e size bytes : Nat} {i : TypeInfo} {z : Value} (ht : P.underlying t = some (.slice e)) (hi : P.info? e = some i) (hz : i.zero = some z) (hzs : z.cells.size = size) (hsize : i.size = size) (hsz : 0 < size) (hby : i.bytes = bytes) (hb8 : bytes ≤ 100)
    {v : Value} {n m c : Nat} {A : Option Addr} {ys news : List Value} (hs : a.eval s = v) (hown : w.ownsRow base e size v n ys) (hu : a.eval x = .slice A m c) (hl : news.length = m * size) (hA : A = none → m = 0 ∧ c = 0)
    (hc : ∀ a, A = some a → ∀ j u, news[j]? = some u → w.cell? (a.add j) = some u) (h1 : ∀ u ∈ news, u.oneCell' = true) (h63 : n + m ≤ 100000) (hbase : base ≤ w.heap.size)
    (h : ∀ v' w', w'.ownsRow base e size v' (n + m) (ys ++ news) → w.grownBy w' v.ownBlock → K (a.put o.dst v') w') : o.wp P a w K Q := by
  obtain ⟨v', w', hrun, h2, h3⟩ := run_append_list (ty := o.type) ht hi hz hzs hsize hsz hby hb8 hown hl hA hc h1 h63 hbase
  unfold Oper.wp execOp
  simp only [ho, resolve, invoke, builtin, Sem.run_bind, Sem.run_pure, Result.andThen_ok, List.map_toArray, List.map_cons, List.map_nil, hs, hu, hrun]
  exact h v' w' h2 h3

/-- The cells of a list that is read. -/
theorem ListIn.cells {α : Type} {sz : Nat} {R : El α} {W : World} {B n c : Nat} {A : Option Addr} {xs : List α} (hsz : 0 < sz)
    (hfull : ∀ (c : Nat → Option Value) (x : α), R W B c x → ∀ k, k < sz → ∃ v, c k = some v ∧ v.oneCell' = true) (hR : ∀ (c c' : Nat → Option Value) (x : α), (∀ k, k < sz → c k = c' k) → R W B c x → R W B c' x)
    (h : ListIn sz R W B (.slice A n c) xs) :
    ∃ yss : List (List Value), yss.length = xs.length ∧ (∀ ys ∈ yss, ys.length = sz) ∧ (∀ (j : Nat) (ys : List Value) (x : α), yss[j]? = some ys → xs[j]? = some x → R W B (fun k => ys[k]?) x) ∧
      (A = none → n = 0 ∧ c = 0) ∧ n = xs.length ∧ (∀ u ∈ yss.flatten, u.oneCell' = true) ∧ ∀ a, A = some a → ∀ j u, yss.flatten[j]? = some u → W.cell? (a.add j) = some u := by
  obtain ⟨A', cap, e, h1, h2, hn, h3⟩ := h
  cases e
  rcases Nat.eq_zero_or_pos xs.length with h0 | hp
  · obtain rfl : xs = [] := List.eq_nil_of_length_eq_zero h0
    exact ⟨[], rfl, by simp, fun j ys x h => by simp at h, fun h => ⟨rfl, hn h⟩, rfl, by simp, fun a _ j u h => by simp at h⟩
  obtain ⟨b, off, rfl, hb, hc⟩ := h3 hp
  have each : ∀ j, ∃ ys : List Value, j < xs.length → ys.length = sz ∧ (∀ k, k < sz → ys[k]? = W.cell? ⟨b, off + j * sz + k, none⟩) ∧ ∀ u ∈ ys, u.oneCell' = true := fun j => by
    by_cases hj : j < xs.length
    · have hf := hfull _ _ (hc j hj)
      have hall : ∀ k, ∃ v : Value, k < sz → W.cell? ⟨b, off + j * sz + k, none⟩ = some v ∧ v.oneCell' = true := fun k => by
        by_cases hk : k < sz
        · obtain ⟨v, hv⟩ := hf k hk
          exact ⟨v, fun _ => hv⟩
        · exact ⟨.bool false, fun h => absurd h hk⟩
      obtain ⟨f, hf2⟩ := Classical.axiomOfChoice hall
      refine ⟨(List.range sz).map f, fun _ => ⟨by simp, fun k hk => ?_, fun u hu => ?_⟩⟩
      · rw [(hf2 k hk).1, List.getElem?_map, List.getElem?_range hk]; rfl
      · obtain ⟨k, hk, rfl⟩ := List.mem_map.1 hu
        exact (hf2 k (List.mem_range.1 hk)).2
    · exact ⟨[], fun h => absurd h hj⟩
  obtain ⟨f, hf⟩ := Classical.axiomOfChoice each
  have hs : ∀ ys ∈ (List.range xs.length).map f, ys.length = sz := fun ys hy => by
    obtain ⟨j, hj, rfl⟩ := List.mem_map.1 hy
    exact (hf j (List.mem_range.1 hj)).1
  refine ⟨(List.range xs.length).map f, by simp, hs, fun j ys x hy hx => ?_, (fun h => by cases h), rfl, fun u hu => ?_, fun a ha j u hu => ?_⟩
  · have hj : j < xs.length := (List.getElem?_eq_some_iff.1 hx).1
    rw [List.getElem?_map, List.getElem?_range hj] at hy
    cases hy
    rw [List.getElem?_eq_getElem hj] at hx
    cases hx
    exact hR _ _ _ (fun k hk => ((hf j hj).2.1 k hk).symm) (hc j hj)
  · obtain ⟨ys, hy, hu⟩ := List.mem_flatten.1 hu
    obtain ⟨j, hj, rfl⟩ := List.mem_map.1 hy
    exact (hf j (List.mem_range.1 hj)).2.2 u hu
  · cases ha
    have hlt : j < ((List.range xs.length).map f).flatten.length := (List.getElem?_eq_some_iff.1 hu).1
    rw [flat_length _ hs, List.length_map, List.length_range] at hlt
    have hq : j / sz < xs.length := Nat.div_lt_of_lt_mul (by rw [Nat.mul_comm]; exact hlt)
    have hr : j % sz < sz := Nat.mod_lt _ hsz
    have he : j = j / sz * sz + j % sz := by rw [Nat.mul_comm]; exact (Nat.div_add_mod j sz).symm
    have hy : ((List.range xs.length).map f)[j / sz]? = some (f (j / sz)) := by rw [List.getElem?_map, List.getElem?_range hq]; rfl
    have hfl := flat_at _ (j / sz) (j % sz) _ hs hy hr
    rw [← he, hu, (hf _ hq).2.1 _ hr] at hfl
    rw [Addr.add_lit, hfl]
    congr 2
    omega
end Go.Proofs.Ythlolpflgninjaa
