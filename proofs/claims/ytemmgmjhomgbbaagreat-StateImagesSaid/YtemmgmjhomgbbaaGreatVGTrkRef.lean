/-
 The document's own functions of package track: At, Shaped, Lie, Great.
 Conditions: none.
-/
import Derived.Test.YtemmgmjhomgbbaaGreatVGBase
import Derived.Laws.OwnMore
import Derived.Laws.AppendOwn
import Derived.Laws.AppendOwnNone
set_option linter.unusedVariables false
set_option linter.unusedSimpArgs false
set_option maxRecDepth 100000
namespace Go.Proofs.YtemmgmjhomgbbaaGreat
open Go.RowKit

/-- A section's place; -1: there is none. -/
def atS (l : List Sec) (id : Int) : Int := match l.findIdx? (fun s => decide (s.1 = id)) with
 | some i => (i : Int)
 | none => -1
theorem find_none {l : List Sec} {id : Int} : (∀ j (h : j < l.length), l[j].1 ≠ id) → l.findIdx? (fun s => decide (s.1 = id)) = none := fun h => by
 rw [List.findIdx?_eq_none_iff]
 intro x hx
 obtain ⟨j, hj, rfl⟩ := List.getElem_of_mem hx
 exact decide_eq_false (h j hj)
theorem find_some {l : List Sec} {id : Int} {i : Nat} (hi : i < l.length) (he : l[i].1 = id) (h : ∀ j (h : j < i), (l[j]'(by omega)).1 ≠ id) : l.findIdx? (fun s => decide (s.1 = id)) = some i := by
 rw [List.findIdx?_eq_some_iff_getElem]
 exact ⟨hi, decide_eq_true he, fun j hj => by simpa using h j hj⟩
theorem atS_none {l : List Sec} {id : Int} (h : ∀ j (h : j < l.length), l[j].1 ≠ id) : atS l id = -1 := by rw [atS, find_none h]
theorem atS_some {l : List Sec} {id : Int} {i : Nat} (hi : i < l.length) (he : l[i].1 = id) (h : ∀ j (h : j < i), (l[j]'(by omega)).1 ≠ id) : atS l id = (i : Int) := by rw [atS, find_some hi he h]
def shapedB (s : Sec) : Bool := if s.2.1 = 0 then decide (s.2.2.length = 2) else decide (1 ≤ s.2.1) && (decide (s.2.1 ≤ 99) && decide (s.2.2.length = 3))
def lieS (pt a b : Int) : Int :=
 if pt = 0 then (if a = 0 ∧ b = 1 ∨ a = 1 ∧ b = 0 then 0 else -1)
 else if a = 0 ∧ (b = 1 ∨ b = 2) then b else if b = 0 ∧ (a = 1 ∨ a = 2) then a else -1

/-- Sections that are not great. -/
def Few (l : List Sec) : Prop := l.length ≤ 40 ∧ ∀ s ∈ l, s.2.2.length ≤ 20
theorem infoJoin2 : (Tryz.prog.info? 98).map (·.size) = some 2 := by kernel_rfl
def joinedB (l : List Sec) (s : Sec) (k : Nat) : Bool :=
 if (s.2.2.getD k (0, 0)).1 = 0 ∧ (s.2.2.getD k (0, 0)).2 = 0 then true
 else if atS l (s.2.2.getD k (0, 0)).1 < 0 ∨ (s.2.2.getD k (0, 0)).2 < 0 ∨ ((l.getD (atS l (s.2.2.getD k (0, 0)).1).toNat (0, 0, [])).2.2.length : Int) ≤ (s.2.2.getD k (0, 0)).2 ∨ ((s.2.2.getD k (0, 0)).1 = s.1 ∧ (s.2.2.getD k (0, 0)).2 = (k : Int)) then false
 else decide ((l.getD (atS l (s.2.2.getD k (0, 0)).1).toNat (0, 0, [])).2.2.getD (s.2.2.getD k (0, 0)).2.toNat (0, 0) = (s.1, (k : Int)))
theorem atS_cases (l : List Sec) (id : Int) : atS l id = -1 ∨ ∃ (i : Nat) (h : i < l.length), atS l id = (i : Int) ∧ l[i].1 = id := by
 rw [atS]
 cases h : l.findIdx? (fun s => decide (s.1 = id)) with
 | none => exact .inl rfl
 | some i =>
  obtain ⟨hi, he, _⟩ := List.findIdx?_eq_some_iff_getElem.1 h
  exact .inr ⟨i, hi, rfl, of_decide_eq_true he⟩

theorem joined_case {l : List Sec} {s : Sec} {k : Nat} {a b : Int} (hj : s.2.2.getD k (0, 0) = (a, b)) :
  joinedB l s k = if a = 0 ∧ b = 0 then true else if atS l a < 0 ∨ b < 0 ∨ ((l.getD (atS l a).toNat (0, 0, [])).2.2.length : Int) ≤ b ∨ (a = s.1 ∧ b = (k : Int)) then false
   else decide ((l.getD (atS l a).toNat (0, 0, [])).2.2.getD b.toNat (0, 0) = (s.1, (k : Int))) := by rw [joinedB, hj]

/-- Sections may be. -/
structure TMay (l : List Sec) : Prop where
 n : l.length ≤ 16
 s : ∀ i (h : i < l.length), 1 ≤ l[i].1 ∧ l[i].1 ≤ 99 ∧ shapedB l[i] = true
 k : ∀ i j (hj : j < i) (hi : i < l.length), (l[j]'(by omega)).1 < l[i].1 ∧ ¬ (l[i].2.1 ≠ 0 ∧ (l[j]'(by omega)).2.1 = l[i].2.1)
 e : ∀ i k (hi : i < l.length), k < l[i].2.2.length → joinedB l l[i] k = true
noncomputable def mayT (l : List Sec) : Bool := @decide (TMay l) (Classical.propDecidable _)
theorem mayT_true {l : List Sec} (h : TMay l) : mayT l = true := by rw [mayT]; exact @decide_eq_true _ (Classical.propDecidable _) h
theorem mayT_false {l : List Sec} (h : ¬ TMay l) : mayT l = false := by rw [mayT]; exact @decide_eq_false _ (Classical.propDecidable _) h
theorem mayT_iff {l : List Sec} : mayT l = true ↔ TMay l := by rw [mayT]; exact @decide_eq_true_iff _ (Classical.propDecidable _)

noncomputable def chkT (l : List Sec) : Int := if mayT l then 0 else 8

theorem run_append_list {P : Program} {w : World} {base t ty e size bytes : Nat} {i : TypeInfo} {z : Value} (ht : P.underlying t = some (.slice e)) (hi : P.info? e = some i) (hz : i.zero = some z) (hzs : z.cells.size = size) (hsize : i.size = size) (hsz : 0 < size) (hby : i.bytes = bytes) (hb8 : bytes ≤ 100)
  {v : Value} {n m c : Nat} {A : Option Addr} {ys news : List Value} (hown : w.ownsRow base e size v n ys) (hl : news.length = m * size) (hA : A = none → m = 0 ∧ c = 0)
  (hc : ∀ a, A = some a → ∀ j u, news[j]? = some u → w.cell? (a.add j) = some u) (h1 : ∀ u ∈ news, u.oneCell' = true) (h63 : n + m ≤ 100000) (hbase : base ≤ w.heap.size) :
  ∃ v' w', (Builtin.append_ #[t, t] ty #[v, .slice A m c]).run P w = .ok v' w' ∧ w'.ownsRow base e size v' (n + m) (ys ++ news) ∧ w.grownBy w' v.ownBlock := by
 cases A with
 | none =>
  obtain ⟨rfl, rfl⟩ := hA rfl
  obtain rfl : news = [] := List.eq_nil_of_length_eq_zero (by omega)
  exact ⟨v, w, run_append_owned_none (P := P) (w := w) base t ty e i size ht hi v n ys hown, by simpa using hown, World.grownBy.refl w _⟩
 | some a =>
  obtain ⟨v', w', hr, ho, hg, _⟩ := run_append_own (P := P) w base t ty e i z size bytes ht hi hz hsize hby hzs hsz v n ys hown a m c news hl (hc a rfl) h1 (by unfold maxLen; omega) (by have := Nat.mul_le_mul h63 hb8; omega) hbase
  exact ⟨v', w', hr, ho, hg⟩
theorem wpList_append_list {P : Program} {w : World} {ops : Array Oper} {rest : List Oper} {o : Oper} {a : Act} {Q : Exit → Act → World → Prop} (hgd : o.guard = none) (s x : Operand) (t : TypeId)
  (ho : o.op = .call { callee := .builtin .append, args := #[s, x], argTypes := #[t, t] })
  {base e size bytes : Nat} {i : TypeInfo} {z : Value} (ht : P.underlying t = some (.slice e)) (hi : P.info? e = some i) (hz : i.zero = some z) (hzs : z.cells.size = size) (hsize : i.size = size) (hsz : 0 < size) (hby : i.bytes = bytes) (hb8 : bytes ≤ 100)
  {v : Value} {n m c : Nat} {A : Option Addr} {ys news : List Value} (hs : a.eval s = v) (hown : w.ownsRow base e size v n ys) (hu : a.eval x = .slice A m c) (hl : news.length = m * size) (hA : A = none → m = 0 ∧ c = 0)
  (hc : ∀ a, A = some a → ∀ j u, news[j]? = some u → w.cell? (a.add j) = some u) (h1 : ∀ u ∈ news, u.oneCell' = true) (h63 : n + m ≤ 100000) (hbase : base ≤ w.heap.size)
  (h : ∀ v' w', w'.ownsRow base e size v' (n + m) (ys ++ news) → w.grownBy w' v.ownBlock → wpList P ops Q rest (a.put o.dst v') w') : wpList P ops Q (o :: rest) a w := by
 refine wpList_plain hgd fun K hK => ?_
 obtain ⟨v', w', hrun, h2, h3⟩ := run_append_list (ty := o.type) ht hi hz hzs hsize hsz hby hb8 hown hl hA hc h1 h63 hbase
 unfold Oper.wp execOp
 simp only [ho, resolve, invoke, builtin, Sem.run_bind, Sem.run_pure, Result.andThen_ok, List.map_toArray, List.map_cons, List.map_nil, hs, hu, hrun]
 exact hK _ _ (h v' w' h2 h3)
theorem wp_append_list {P : Program} {w : World} {o : Oper} {a : Act} {K : Act → World → Prop} {Q : Exit → Act → World → Prop} (s x : Operand) (t : TypeId)
  (ho : o.op = .call { callee := .builtin .append, args := #[s, x], argTypes := #[t, t] })
  {base e size bytes : Nat} {i : TypeInfo} {z : Value} (ht : P.underlying t = some (.slice e)) (hi : P.info? e = some i) (hz : i.zero = some z) (hzs : z.cells.size = size) (hsize : i.size = size) (hsz : 0 < size) (hby : i.bytes = bytes) (hb8 : bytes ≤ 100)
  {v : Value} {n m c : Nat} {A : Option Addr} {ys news : List Value} (hs : a.eval s = v) (hown : w.ownsRow base e size v n ys) (hu : a.eval x = .slice A m c) (hl : news.length = m * size) (hA : A = none → m = 0 ∧ c = 0)
  (hc : ∀ a, A = some a → ∀ j u, news[j]? = some u → w.cell? (a.add j) = some u) (h1 : ∀ u ∈ news, u.oneCell' = true) (h63 : n + m ≤ 100000) (hbase : base ≤ w.heap.size)
  (h : ∀ v' w', w'.ownsRow base e size v' (n + m) (ys ++ news) → w.grownBy w' v.ownBlock → K (a.put o.dst v') w') : o.wp P a w K Q := by
 obtain ⟨v', w', hrun, h2, h3⟩ := run_append_list (ty := o.type) ht hi hz hzs hsize hsz hby hb8 hown hl hA hc h1 h63 hbase
 unfold Oper.wp execOp
 simp only [ho, resolve, invoke, builtin, Sem.run_bind, Sem.run_pure, Result.andThen_ok, List.map_toArray, List.map_cons, List.map_nil, hs, hu, hrun]
 exact h v' w' h2 h3

/-- The cells of a list that is read. -/
theorem ListIn.cells {α : Type} {sz : Nat} {R : El α} {W : World} {B n c : Nat} {A : Option Addr} {xs : List α} (hsz : 0 < sz)
  (hfull : ∀ (c : Nat → Option Value) (x : α), R W B c x → ∀ k, k < sz → ∃ v, c k = some v ∧ v.oneCell' = true) (hR : ∀ (c c' : Nat → Option Value) (x : α), (∀ k, k < sz → c k = c' k) → R W B c x → R W B c' x)
  (h : ListIn sz R W B (.slice A n c) xs) :
  ∃ yss : List (List Value), yss.length = xs.length ∧ (∀ ys ∈ yss, ys.length = sz) ∧ (∀ (j : Nat) (ys : List Value) (x : α), yss[j]? = some ys → xs[j]? = some x → R W B (fun k => ys[k]?) x) ∧
   (A = none → n = 0 ∧ c = 0) ∧ n = xs.length ∧ (∀ u ∈ yss.flatten, u.oneCell' = true) ∧ ∀ a, A = some a → ∀ j u, yss.flatten[j]? = some u → W.cell? (a.add j) = some u := by
 obtain ⟨A', cap, e, h1, h2, hn, h3⟩ := h
 cases e
 rcases Nat.eq_zero_or_pos xs.length with h0 | hp
 ·obtain rfl : xs = [] := List.eq_nil_of_length_eq_zero h0
  exact ⟨[], rfl, by simp, fun j ys x h => by simp at h, fun h => ⟨rfl, hn h⟩, rfl, by simp, fun a _ j u h => by simp at h⟩
 obtain ⟨b, off, rfl, hb, hc⟩ := h3 hp
 have each : ∀ j, ∃ ys : List Value, j < xs.length → ys.length = sz ∧ (∀ k, k < sz → ys[k]? = W.cell? ⟨b, off + j * sz + k, none⟩) ∧ ∀ u ∈ ys, u.oneCell' = true := fun j => by
  by_cases hj : j < xs.length
  ·have hf := hfull _ _ (hc j hj)
   have hall : ∀ k, ∃ v : Value, k < sz → W.cell? ⟨b, off + j * sz + k, none⟩ = some v ∧ v.oneCell' = true := fun k => by
    by_cases hk : k < sz
    ·obtain ⟨v, hv⟩ := hf k hk
     exact ⟨v, fun _ => hv⟩
    ·exact ⟨.bool false, fun h => absurd h hk⟩
   obtain ⟨f, hf2⟩ := Classical.axiomOfChoice hall
   refine ⟨(List.range sz).map f, fun _ => ⟨by simp, fun k hk => ?_, fun u hu => ?_⟩⟩
   ·rw [(hf2 k hk).1, List.getElem?_map, List.getElem?_range hk]; rfl
   ·obtain ⟨k, hk, rfl⟩ := List.mem_map.1 hu
    exact (hf2 k (List.mem_range.1 hk)).2
  ·exact ⟨[], fun h => absurd h hj⟩
 obtain ⟨f, hf⟩ := Classical.axiomOfChoice each
 have hs : ∀ ys ∈ (List.range xs.length).map f, ys.length = sz := fun ys hy => by
  obtain ⟨j, hj, rfl⟩ := List.mem_map.1 hy
  exact (hf j (List.mem_range.1 hj)).1
 refine ⟨(List.range xs.length).map f, by simp, hs, fun j ys x hy hx => ?_, (fun h => by cases h), rfl, fun u hu => ?_, fun a ha j u hu => ?_⟩
 ·have hj : j < xs.length := (List.getElem?_eq_some_iff.1 hx).1
  rw [List.getElem?_map, List.getElem?_range hj] at hy
  cases hy
  rw [List.getElem?_eq_getElem hj] at hx
  cases hx
  exact hR _ _ _ (fun k hk => ((hf j hj).2.1 k hk).symm) (hc j hj)
 ·obtain ⟨ys, hy, hu⟩ := List.mem_flatten.1 hu
  obtain ⟨j, hj, rfl⟩ := List.mem_map.1 hy
  exact (hf j (List.mem_range.1 hj)).2.2 u hu
 ·cases ha
  have hlt : j < ((List.range xs.length).map f).flatten.length := (List.getElem?_eq_some_iff.1 hu).1
  rw [flat_length _ hs, List.length_map, List.length_range] at hlt
  have hq : j / sz < xs.length := Nat.div_lt_of_lt_mul (by rw [Nat.mul_comm]; exact hlt)
  have hr : j % sz < sz := Nat.mod_lt _ hsz
  have he : j = j / sz * sz + j % sz := by rw [Nat.mul_comm]; exact (Nat.div_add_mod j sz).symm
  have hy : ((List.range xs.length).map f)[j / sz]? = some (f (j / sz)) := by rw [List.getElem?_map, List.getElem?_range hq]; rfl
  have hfl := flat_at _ (j / sz) (j % sz) _ hs hy hr
  rw [← he, hu, (hf _ hq).2.1 _ hr] at hfl
  rw [Addr.add_lit, hfl]
  congr 2
  omega

theorem heap_setK {W : World} {b k : Nat} {cur : Array Value} {t : TypeId} {fr : Nat × Nat} (h : W.heap[b]? = some (.cells cur t fr)) (x : Value) : (W.setCell ⟨b, k, none⟩ x).heap[b]? = some (.cells (cur.setIfInBounds k x) t fr) := by
 simp only [World.setCell, Array.getElem?_modify, if_true, h, Option.map_some]
 rfl
theorem grown_setK (W : World) (b k : Nat) (x : Value) : W.grownBy (W.setCell ⟨b, k, none⟩ x) (some b) := grown_set W b k x
theorem heap_set3 {W : World} {b : Nat} {c0 c1 c2 : Value} {t : TypeId} (h : W.heap[b]? = some (.cells #[c0, c1, c2] t (0, 0))) (x y z : Value) : (((W.setCell ⟨b, 0, none⟩ x).setCell ⟨b, 1, none⟩ y).setCell ⟨b, 2, none⟩ z).heap[b]? = some (.cells #[x, y, z] t (0, 0)) :=
 heap_setK (heap_setK (heap_setK h x) y) z
theorem below_set3 {B b : Nat} {w W : World} (h : Below B w W) (hb : B ≤ b) (x y z : Value) : Below B w (((W.setCell ⟨b, 0, none⟩ x).setCell ⟨b, 1, none⟩ y).setCell ⟨b, 2, none⟩ z) :=
 below_set (below_set (below_set h hb 0 x) hb 1 y) hb 2 z
theorem results_3_tmp {P : Program} {fn : Func} {p u : Tmp} {ty : TypeId} (h : fn.results = #[.cell p ty, .tmp u]) (tmps : Array Value) (w : World) (g : Nat) {v1 v2 v3 : Value} {t : TypeId} {fr : Nat × Nat} (hp : tmps.getD p undef = .pointer (some ⟨g, 0, none⟩)) (hb : w.heap[g]? = some (.cells #[v1, v2, v3] t fr))
  {fs : Array Field} (hu : P.underlying ty = some (.struct fs)) (hi : (P.info? ty).map (·.size) = some 3) (x : Value) (hx : tmps.getD u undef = x) : (results fn tmps).run P w = .ok (.tuple #[.agg #[v1, v2, v3], x]) w := by
 have hp' : tmps[p]?.getD undef = .pointer (some ⟨g, 0, none⟩) := by simpa using hp
 rw [results_cell_tmp h, hp, hx]
 simp [asAddr, run_loadVar_row w g t ty #[v1, v2, v3] fr _ hb hu rfl (by simpa using hi)]
theorem infoSec3 : (Tryz.prog.info? 60).map (·.size) = some 3 := by kernel_rfl
/-- Joins of the call's own. -/
abbrev JoinsOwn (W : World) (lo : Nat) (v : Value) (l : List Jn) : Prop := ListOwn 98 2 JoinR W lo v l
theorem JoinsOwn.sec {W : World} {lo : Nat} {u : Value} {id pt : Int} {l : List Jn} (h : JoinsOwn W lo u l) : SecV W W.heap.size (.agg #[.int .i64 id, .int .i64 pt, u]) (id, pt, l) :=
 ⟨u, rfl, h.in_ joinR_cells⟩
theorem ListOwn.slice {α : Type} {T : TypeId} {sz : Nat} {R : El α} {W : World} {lo : Nat} {v : Value} {xs : List α} (h : ListOwn T sz R W lo v xs) : ∃ A c, v = .slice A xs.length c := by
 obtain ⟨yss, ho, _⟩ := h
 exact own_sliceN ho


def thrE (s : Sec) (a b : Int) : Int := if shapedB s then (if lieS s.2.1 a b < 0 then 2 else 0) else 8
def thrL (s : Sec) (a b : Int) : Int := if thrE s a b = 0 then lieS s.2.1 a b else 0
end Go.Proofs.YtemmgmjhomgbbaaGreat
