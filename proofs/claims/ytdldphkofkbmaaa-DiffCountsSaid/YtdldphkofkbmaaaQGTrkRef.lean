/-
 The document's own functions of package track: At, Shaped, Lie, Great.
 Conditions: none.
-/
import Derived.Test.YtdldphkofkbmaaaQGBase
import Derived.Laws.OwnMore
import Derived.Laws.AppendOwn
import Derived.Laws.AppendOwnNone
set_option linter.unusedVariables false
set_option linter.unusedSimpArgs false
set_option maxRecDepth 100000
namespace Go.Proofs.Ytdldphkofkbmaaa
open Go.RowKit

/-- A section's place; -1: there is none. -/
def atS (l : List Sec) (id : Int) : Int := match l.findIdx? (fun s => decide (s.1 = id)) with
 | some i => (i : Int)
 | none => -1
theorem find_none {l : List Sec} {id : Int} : (∀ j (h : j < l.length), l[j].1 ≠ id) → l.findIdx? (fun s => decide (s.1 = id)) = none := fun h => by
 rw [List.findIdx?_eq_none_iff]
 intro x hx
 obtain ⟨j, hj, rfl⟩ := List.getElem_of_mem hx
 exact decide_eq_false (h j hj)
theorem find_some {l : List Sec} {id : Int} {i : Nat} (hi : i < l.length) (he : l[i].1 = id) (h : ∀ j (h : j < i), (l[j]'(by omega)).1 ≠ id) : l.findIdx? (fun s => decide (s.1 = id)) = some i := by
 rw [List.findIdx?_eq_some_iff_getElem]
 exact ⟨hi, decide_eq_true he, fun j hj => by simpa using h j hj⟩
theorem atS_none {l : List Sec} {id : Int} (h : ∀ j (h : j < l.length), l[j].1 ≠ id) : atS l id = -1 := by rw [atS, find_none h]
theorem atS_some {l : List Sec} {id : Int} {i : Nat} (hi : i < l.length) (he : l[i].1 = id) (h : ∀ j (h : j < i), (l[j]'(by omega)).1 ≠ id) : atS l id = (i : Int) := by rw [atS, find_some hi he h]
def shapedB (s : Sec) : Bool := if s.2.1 = 0 then decide (s.2.2.length = 2) else decide (1 ≤ s.2.1) && (decide (s.2.1 ≤ 99) && decide (s.2.2.length = 3))
def lieS (pt a b : Int) : Int :=
 if pt = 0 then (if a = 0 ∧ b = 1 ∨ a = 1 ∧ b = 0 then 0 else -1)
 else if a = 0 ∧ (b = 1 ∨ b = 2) then b else if b = 0 ∧ (a = 1 ∨ a = 2) then a else -1

/-- Sections that are not great. -/
def Few (l : List Sec) : Prop := l.length ≤ 40 ∧ ∀ s ∈ l, s.2.2.length ≤ 20
theorem rgreat_any (v : Value) (l : List Sec) (w : World) (h : SectsIn w w.heap.size v l) :
  Calls Try.prog 20 #[v] w fun e w' => (∃ g : Bool, e = .returned (.bool g) ∧ (g = false → Few l)) ∧ w' = w := by
 obtain ⟨A, c, n, rfl, hml, HN, HA⟩ := open_list h
 go_enter Try.func20, Try.ntmps20
 go_wp2_with fail
 go_loopw [3] (fun s3 wr => ∃ i : Nat, i ≤ n ∧ s3 = .int .i64 i ∧ (∀ j (hj : j < i) (hl : j < l.length), l[j].2.2.length ≤ 20) ∧ wr = w) (fun s3 _ => n - (intOf s3).toNat)
 case atStart => exact ⟨0, by omega, by go_num, fun j hj => absurd hj (by omega), rfl⟩
 case round =>
  obtain ⟨i, hi, rfl, hall, rfl⟩ := hrel
  have HALL := Lib.hid hall
  clear hall
  by_cases hlt : i < n
  ·have hlt' : decide ((i : Int) < n) = true := decide_eq_true (by omega)
   have hir : i < l.length := by rw [← HN.out]; exact hlt
   by_cases h40 : i < 40
   ·have h40' : decide ((i : Int) < 40) = true := decide_eq_true (by omega)
    obtain ⟨b, off, rfl, hb, hc0, hc1, u, hc2, hu⟩ := HA.out.at hir
    obtain ⟨Au, cu, rfl, hul, hum⟩ := hu.slice
    obtain ⟨k, hk⟩ : ∃ k, k = l[i].2.2.length := ⟨_, rfl⟩
    rw [← hk] at hc2
    have HK := Lib.hid hk
    have hkm : k ≤ 9223372036854775807 := by unfold maxLen at hum; omega
    have hcell : wr.cell? ⟨b, off + i * 3 + 2, none⟩ = some (.slice Au k cu) := hc2
    clear hc0 hc1 hc2 hu hul hum hk
    by_cases h20 : 20 < k
    ·have h20' : (20 : Int) < k := by omega
     go_wp2_with fail
     go_ret
     exact ⟨⟨true, rfl, fun h => by cases h⟩, rfl⟩
    ·have h20' : ¬ (20 : Int) < k := by omega
     have HS : Hid (∀ j (hj : j < i + 1) (hl : j < l.length), l[j].2.2.length ≤ 20) := Lib.hid (fun j hj hl => by
      rcases Nat.lt_or_ge j i with h | h
      ·exact HALL.out j h hl
      ·obtain rfl : j = i := by omega
       rw [← HK.out]; omega)
     go_wp2_with fail
     go_roundw
     case measure => simp [intOf]; omega
     case rel => exact ⟨i + 1, by omega, by go_num, HS.out, trivial⟩
   ·have h40' : decide ((i : Int) < 40) = false := decide_eq_false (by omega)
    have hn40 : (40 : Int) < n := by omega
    go_wp2_with fail
    go_ret
    exact ⟨⟨true, rfl, fun h => by cases h⟩, rfl⟩
  ·obtain rfl : i = n := by omega
   have hlt' : decide ((i : Int) < i) = false := decide_eq_false (by omega)
   have HE : Hid (∀ s ∈ l, s.2.2.length ≤ 20) := Lib.hid (fun s hs => by
    obtain ⟨j, hj, rfl⟩ := List.getElem_of_mem hs
    exact HALL.out j (by rw [HN.out]; exact hj) hj)
   by_cases h40 : 40 < i
   ·have h40' : (40 : Int) < i := by omega
    go_wp2_with fail
    go_ret
    exact ⟨⟨true, rfl, fun h => by cases h⟩, rfl⟩
   ·have h40' : ¬ (40 : Int) < i := by omega
    have h40d : decide ((40 : Int) < i) = false := decide_eq_false h40'
    have HL : Hid (l.length ≤ 40) := Lib.hid (by rw [← HN.out]; omega)
    go_wp2_with fail
    go_ret
    exact ⟨.inl ⟨rfl, HL.out, HE.out⟩, rfl⟩
theorem infoJoin2 : (Try.prog.info? 57).map (·.size) = some 2 := by kernel_rfl
def joinedB (l : List Sec) (s : Sec) (k : Nat) : Bool :=
 if (s.2.2.getD k (0, 0)).1 = 0 ∧ (s.2.2.getD k (0, 0)).2 = 0 then true
 else if atS l (s.2.2.getD k (0, 0)).1 < 0 ∨ (s.2.2.getD k (0, 0)).2 < 0 ∨ ((l.getD (atS l (s.2.2.getD k (0, 0)).1).toNat (0, 0, [])).2.2.length : Int) ≤ (s.2.2.getD k (0, 0)).2 ∨ ((s.2.2.getD k (0, 0)).1 = s.1 ∧ (s.2.2.getD k (0, 0)).2 = (k : Int)) then false
 else decide ((l.getD (atS l (s.2.2.getD k (0, 0)).1).toNat (0, 0, [])).2.2.getD (s.2.2.getD k (0, 0)).2.toNat (0, 0) = (s.1, (k : Int)))
theorem atS_cases (l : List Sec) (id : Int) : atS l id = -1 ∨ ∃ (i : Nat) (h : i < l.length), atS l id = (i : Int) ∧ l[i].1 = id := by
 rw [atS]
 cases h : l.findIdx? (fun s => decide (s.1 = id)) with
 | none => exact .inl rfl
 | some i =>
  obtain ⟨hi, he, _⟩ := List.findIdx?_eq_some_iff_getElem.1 h
  exact .inr ⟨i, hi, rfl, of_decide_eq_true he⟩

theorem joined_case {l : List Sec} {s : Sec} {k : Nat} {a b : Int} (hj : s.2.2.getD k (0, 0) = (a, b)) :
  joinedB l s k = if a = 0 ∧ b = 0 then true else if atS l a < 0 ∨ b < 0 ∨ ((l.getD (atS l a).toNat (0, 0, [])).2.2.length : Int) ≤ b ∨ (a = s.1 ∧ b = (k : Int)) then false
   else decide ((l.getD (atS l a).toNat (0, 0, [])).2.2.getD b.toNat (0, 0) = (s.1, (k : Int))) := by rw [joinedB, hj]

/-- Sections may be. -/
structure TMay (l : List Sec) : Prop where
 n : l.length ≤ 16
 s : ∀ i (h : i < l.length), 1 ≤ l[i].1 ∧ l[i].1 ≤ 99 ∧ shapedB l[i] = true
 k : ∀ i j (hj : j < i) (hi : i < l.length), (l[j]'(by omega)).1 < l[i].1 ∧ ¬ (l[i].2.1 ≠ 0 ∧ (l[j]'(by omega)).2.1 = l[i].2.1)
 e : ∀ i k (hi : i < l.length), k < l[i].2.2.length → joinedB l l[i] k = true
noncomputable def mayT (l : List Sec) : Bool := @decide (TMay l) (Classical.propDecidable _)
theorem mayT_true {l : List Sec} (h : TMay l) : mayT l = true := by rw [mayT]; exact @decide_eq_true _ (Classical.propDecidable _) h
theorem mayT_false {l : List Sec} (h : ¬ TMay l) : mayT l = false := by rw [mayT]; exact @decide_eq_false _ (Classical.propDecidable _) h
theorem mayT_iff {l : List Sec} : mayT l = true ↔ TMay l := by rw [mayT]; exact @decide_eq_true_iff _ (Classical.propDecidable _)

noncomputable def chkT (l : List Sec) : Int := if mayT l then 0 else 8

theorem run_append_list {P : Program} {w : World} {base t ty e size bytes : Nat} {i : TypeInfo} {z : Value} (ht : P.underlying t = some (.slice e)) (hi : P.info? e = some i) (hz : i.zero = some z) (hzs : z.cells.size = size) (hsize : i.size = size) (hsz : 0 < size) (hby : i.bytes = bytes) (hb8 : bytes ≤ 100)
  {v : Value} {n m c : Nat} {A : Option Addr} {ys news : List Value} (hown : w.ownsRow base e size v n ys) (hl : news.length = m * size) (hA : A = none → m = 0 ∧ c = 0)
  (hc : ∀ a, A = some a → ∀ j u, news[j]? = some u → w.cell? (a.add j) = some u) (h1 : ∀ u ∈ news, u.oneCell' = true) (h63 : n + m ≤ 100000) (hbase : base ≤ w.heap.size) :
  ∃ v' w', (Builtin.append_ #[t, t] ty #[v, .slice A m c]).run P w = .ok v' w' ∧ w'.ownsRow base e size v' (n + m) (ys ++ news) ∧ w.grownBy w' v.ownBlock := by
 cases A with
 | none =>
  obtain ⟨rfl, rfl⟩ := hA rfl
  obtain rfl : news = [] := List.eq_nil_of_length_eq_zero (by omega)
  exact ⟨v, w, run_append_owned_none (P := P) (w := w) base t ty e i size ht hi v n ys hown, by simpa using hown, World.grownBy.refl w _⟩
 | some a =>
  obtain ⟨v', w', hr, ho, hg, _⟩ := run_append_own (P := P) w base t ty e i z size bytes ht hi hz hsize hby hzs hsz v n ys hown a m c news hl (hc a rfl) h1 (by unfold maxLen; omega) (by have := Nat.mul_le_mul h63 hb8; omega) hbase
  exact ⟨v', w', hr, ho, hg⟩
theorem wpList_append_list {P : Program} {w : World} {ops : Array Oper} {rest : List Oper} {o : Oper} {a : Act} {Q : Exit → Act → World → Prop} (hgd : o.guard = none) (s x : Operand) (t : TypeId)
  (ho : o.op = .call { callee := .builtin .append, args := #[s, x], argTypes := #[t, t] })
  {base e size bytes : Nat} {i : TypeInfo} {z : Value} (ht : P.underlying t = some (.slice e)) (hi : P.info? e = some i) (hz : i.zero = some z) (hzs : z.cells.size = size) (hsize : i.size = size) (hsz : 0 < size) (hby : i.bytes = bytes) (hb8 : bytes ≤ 100)
  {v : Value} {n m c : Nat} {A : Option Addr} {ys news : List Value} (hs : a.eval s = v) (hown : w.ownsRow base e size v n ys) (hu : a.eval x = .slice A m c) (hl : news.length = m * size) (hA : A = none → m = 0 ∧ c = 0)
  (hc : ∀ a, A = some a → ∀ j u, news[j]? = some u → w.cell? (a.add j) = some u) (h1 : ∀ u ∈ news, u.oneCell' = true) (h63 : n + m ≤ 100000) (hbase : base ≤ w.heap.size)
  (h : ∀ v' w', w'.ownsRow base e size v' (n + m) (ys ++ news) → w.grownBy w' v.ownBlock → wpList P ops Q rest (a.put o.dst v') w') : wpList P ops Q (o :: rest) a w := by
 refine wpList_plain hgd fun K hK => ?_
 obtain ⟨v', w', hrun, h2, h3⟩ := run_append_list (ty := o.type) ht hi hz hzs hsize hsz hby hb8 hown hl hA hc h1 h63 hbase
 unfold Oper.wp execOp
 simp only [ho, resolve, invoke, builtin, Sem.run_bind, Sem.run_pure, Result.andThen_ok, List.map_toArray, List.map_cons, List.map_nil, hs, hu, hrun]
 exact hK _ _ (h v' w' h2 h3)
theorem wp_append_list {P : Program} {w : World} {o : Oper} {a : Act} {K : Act → World → Prop} {Q : Exit → Act → World → Prop} (s x : Operand) (t : TypeId)
  (ho : o.op = .call { callee := .builtin .append, args := #[s, x], argTypes := #[t, t] })
  {base e size bytes : Nat} {i : TypeInfo} {z : Value} (ht : P.underlying t = some (.slice e)) (hi : P.info? e = some i) (hz : i.zero = some z) (hzs : z.cells.size = size) (hsize : i.size = size) (hsz : 0 < size) (hby : i.bytes = bytes) (hb8 : bytes ≤ 100)
  {v : Value} {n m c : Nat} {A : Option Addr} {ys news : List Value} (hs : a.eval s = v) (hown : w.ownsRow base e size v n ys) (hu : a.eval x = .slice A m c) (hl : news.length = m * size) (hA : A = none → m = 0 ∧ c = 0)
  (hc : ∀ a, A = some a → ∀ j u, news[j]? = some u → w.cell? (a.add j) = some u) (h1 : ∀ u ∈ news, u.oneCell' = true) (h63 : n + m ≤ 100000) (hbase : base ≤ w.heap.size)
  (h : ∀ v' w', w'.ownsRow base e size v' (n + m) (ys ++ news) → w.grownBy w' v.ownBlock → K (a.put o.dst v') w') : o.wp P a w K Q := by
 obtain ⟨v', w', hrun, h2, h3⟩ := run_append_list (ty := o.type) ht hi hz hzs hsize hsz hby hb8 hown hl hA hc h1 h63 hbase
 unfold Oper.wp execOp
 simp only [ho, resolve, invoke, builtin, Sem.run_bind, Sem.run_pure, Result.andThen_ok, List.map_toArray, List.map_cons, List.map_nil, hs, hu, hrun]
 exact h v' w' h2 h3

/-- The cells of a list that is read. -/
theorem ListIn.cells {α : Type} {sz : Nat} {R : El α} {W : World} {B n c : Nat} {A : Option Addr} {xs : List α} (hsz : 0 < sz)
  (hfull : ∀ (c : Nat → Option Value) (x : α), R W B c x → ∀ k, k < sz → ∃ v, c k = some v ∧ v.oneCell' = true) (hR : ∀ (c c' : Nat → Option Value) (x : α), (∀ k, k < sz → c k = c' k) → R W B c x → R W B c' x)
  (h : ListIn sz R W B (.slice A n c) xs) :
  ∃ yss : List (List Value), yss.length = xs.length ∧ (∀ ys ∈ yss, ys.length = sz) ∧ (∀ (j : Nat) (ys : List Value) (x : α), yss[j]? = some ys → xs[j]? = some x → R W B (fun k => ys[k]?) x) ∧
   (A = none → n = 0 ∧ c = 0) ∧ n = xs.length ∧ (∀ u ∈ yss.flatten, u.oneCell' = true) ∧ ∀ a, A = some a → ∀ j u, yss.flatten[j]? = some u → W.cell? (a.add j) = some u := by
 obtain ⟨A', cap, e, h1, h2, hn, h3⟩ := h
 cases e
 rcases Nat.eq_zero_or_pos xs.length with h0 | hp
 ·obtain rfl : xs = [] := List.eq_nil_of_length_eq_zero h0
  exact ⟨[], rfl, by simp, fun j ys x h => by simp at h, fun h => ⟨rfl, hn h⟩, rfl, by simp, fun a _ j u h => by simp at h⟩
 obtain ⟨b, off, rfl, hb, hc⟩ := h3 hp
 have each : ∀ j, ∃ ys : List Value, j < xs.length → ys.length = sz ∧ (∀ k, k < sz → ys[k]? = W.cell? ⟨b, off + j * sz + k, none⟩) ∧ ∀ u ∈ ys, u.oneCell' = true := fun j => by
  by_cases hj : j < xs.length
  ·have hf := hfull _ _ (hc j hj)
   have hall : ∀ k, ∃ v : Value, k < sz → W.cell? ⟨b, off + j * sz + k, none⟩ = some v ∧ v.oneCell' = true := fun k => by
    by_cases hk : k < sz
    ·obtain ⟨v, hv⟩ := hf k hk
     exact ⟨v, fun _ => hv⟩
    ·exact ⟨.bool false, fun h => absurd h hk⟩
   obtain ⟨f, hf2⟩ := Classical.axiomOfChoice hall
   refine ⟨(List.range sz).map f, fun _ => ⟨by simp, fun k hk => ?_, fun u hu => ?_⟩⟩
   ·rw [(hf2 k hk).1, List.getElem?_map, List.getElem?_range hk]; rfl
   ·obtain ⟨k, hk, rfl⟩ := List.mem_map.1 hu
    exact (hf2 k (List.mem_range.1 hk)).2
  ·exact ⟨[], fun h => absurd h hj⟩
 obtain ⟨f, hf⟩ := Classical.axiomOfChoice each
 have hs : ∀ ys ∈ (List.range xs.length).map f, ys.length = sz := fun ys hy => by
  obtain ⟨j, hj, rfl⟩ := List.mem_map.1 hy
  exact (hf j (List.mem_range.1 hj)).1
 refine ⟨(List.range xs.length).map f, by simp, hs, fun j ys x hy hx => ?_, (fun h => by cases h), rfl, fun u hu => ?_, fun a ha j u hu => ?_⟩
 ·have hj : j < xs.length := (List.getElem?_eq_some_iff.1 hx).1
  rw [List.getElem?_map, List.getElem?_range hj] at hy
  cases hy
  rw [List.getElem?_eq_getElem hj] at hx
  cases hx
  exact hR _ _ _ (fun k hk => ((hf j hj).2.1 k hk).symm) (hc j hj)
 ·obtain ⟨ys, hy, hu⟩ := List.mem_flatten.1 hu
  obtain ⟨j, hj, rfl⟩ := List.mem_map.1 hy
  exact (hf j (List.mem_range.1 hj)).2.2 u hu
 ·cases ha
  have hlt : j < ((List.range xs.length).map f).flatten.length := (List.getElem?_eq_some_iff.1 hu).1
  rw [flat_length _ hs, List.length_map, List.length_range] at hlt
  have hq : j / sz < xs.length := Nat.div_lt_of_lt_mul (by rw [Nat.mul_comm]; exact hlt)
  have hr : j % sz < sz := Nat.mod_lt _ hsz
  have he : j = j / sz * sz + j % sz := by rw [Nat.mul_comm]; exact (Nat.div_add_mod j sz).symm
  have hy : ((List.range xs.length).map f)[j / sz]? = some (f (j / sz)) := by rw [List.getElem?_map, List.getElem?_range hq]; rfl
  have hfl := flat_at _ (j / sz) (j % sz) _ hs hy hr
  rw [← he, hu, (hf _ hq).2.1 _ hr] at hfl
  rw [Addr.add_lit, hfl]
  congr 2
  omega

theorem heap_setK {W : World} {b k : Nat} {cur : Array Value} {t : TypeId} {fr : Nat × Nat} (h : W.heap[b]? = some (.cells cur t fr)) (x : Value) : (W.setCell ⟨b, k, none⟩ x).heap[b]? = some (.cells (cur.setIfInBounds k x) t fr) := by
 simp only [World.setCell, Array.getElem?_modify, if_true, h, Option.map_some]
 rfl
theorem grown_setK (W : World) (b k : Nat) (x : Value) : W.grownBy (W.setCell ⟨b, k, none⟩ x) (some b) := grown_set W b k x
theorem heap_set3 {W : World} {b : Nat} {c0 c1 c2 : Value} {t : TypeId} (h : W.heap[b]? = some (.cells #[c0, c1, c2] t (0, 0))) (x y z : Value) : (((W.setCell ⟨b, 0, none⟩ x).setCell ⟨b, 1, none⟩ y).setCell ⟨b, 2, none⟩ z).heap[b]? = some (.cells #[x, y, z] t (0, 0)) :=
 heap_setK (heap_setK (heap_setK h x) y) z
theorem grown_set3 (W : World) (b : Nat) (x y z : Value) : W.grownBy (((W.setCell ⟨b, 0, none⟩ x).setCell ⟨b, 1, none⟩ y).setCell ⟨b, 2, none⟩ z) (some b) :=
 grown_trans (grown_trans (grown_set W b 0 x) (grown_set _ b 1 y)) (grown_set _ b 2 z)
theorem below_set3 {B b : Nat} {w W : World} (h : Below B w W) (hb : B ≤ b) (x y z : Value) : Below B w (((W.setCell ⟨b, 0, none⟩ x).setCell ⟨b, 1, none⟩ y).setCell ⟨b, 2, none⟩ z) :=
 below_set (below_set (below_set h hb 0 x) hb 1 y) hb 2 z
theorem results_cell_3 {P : Program} {fn : Func} {p : Tmp} {ty : TypeId} (h : fn.results = #[.cell p ty]) (tmps : Array Value) (w : World) (g : Nat) {v1 v2 v3 : Value} {t : TypeId} (hp : tmps.getD p undef = .pointer (some ⟨g, 0, none⟩)) (hb : w.heap[g]? = some (.cells #[v1, v2, v3] t (0, 0)))
  {fs : Array Field} (hu : P.underlying ty = some (.struct fs)) (hi : (P.info? ty).map (·.size) = some 3) : (results fn tmps).run P w = .ok (.agg #[v1, v2, v3]) w :=
 results_cell_row h tmps w g t #[v1, v2, v3] (0, 0) _ hp hb hu rfl (by simpa using hi)
theorem results_3_tmp {P : Program} {fn : Func} {p u : Tmp} {ty : TypeId} (h : fn.results = #[.cell p ty, .tmp u]) (tmps : Array Value) (w : World) (g : Nat) {v1 v2 v3 : Value} {t : TypeId} {fr : Nat × Nat} (hp : tmps.getD p undef = .pointer (some ⟨g, 0, none⟩)) (hb : w.heap[g]? = some (.cells #[v1, v2, v3] t fr))
  {fs : Array Field} (hu : P.underlying ty = some (.struct fs)) (hi : (P.info? ty).map (·.size) = some 3) (x : Value) (hx : tmps.getD u undef = x) : (results fn tmps).run P w = .ok (.tuple #[.agg #[v1, v2, v3], x]) w := by
 have hp' : tmps[p]?.getD undef = .pointer (some ⟨g, 0, none⟩) := by simpa using hp
 rw [results_cell_tmp h, hp, hx]
 simp [asAddr, run_loadVar_row w g t ty #[v1, v2, v3] fr _ hb hu rfl (by simpa using hi)]
theorem infoSec3 : (Try.prog.info? 60).map (·.size) = some 3 := by kernel_rfl
theorem infoJoin : (Try.prog.info? 57).map (fun i => (i.zero, i.size, i.bytes)) = some (some (.agg #[.int .i64 0, .int .i64 0]), 2, 16) := by kernel_rfl
theorem infoSec : (Try.prog.info? 60).map (fun i => (i.zero, i.size, i.bytes)) = some (some (.agg #[.int .i64 0, .int .i64 0, .slice none 0 0]), 3, 40) := by kernel_rfl
theorem joinR_full {W : World} {B : Nat} (c : Nat → Option Value) (x : Jn) (h : JoinR W B c x) : ∀ k, k < 2 → ∃ v, c k = some v ∧ v.oneCell' = true := fun k hk => by
 match k, hk with
 | 0, _ => exact ⟨_, h.1, rfl⟩
 | 1, _ => exact ⟨_, h.2, rfl⟩
/-- Joins of the call's own. -/
abbrev JoinsOwn (W : World) (lo : Nat) (v : Value) (l : List Jn) : Prop := ListOwn 57 2 JoinR W lo v l
theorem JoinsOwn.sec {W : World} {lo : Nat} {u : Value} {id pt : Int} {l : List Jn} (h : JoinsOwn W lo u l) : SecV W W.heap.size (.agg #[.int .i64 id, .int .i64 pt, u]) (id, pt, l) :=
 ⟨u, rfl, h.in_ joinR_cells⟩
theorem ListOwn.slice {α : Type} {T : TypeId} {sz : Nat} {R : El α} {W : World} {lo : Nat} {v : Value} {xs : List α} (h : ListOwn T sz R W lo v xs) : ∃ A c, v = .slice A xs.length c := by
 obtain ⟨yss, ho, _⟩ := h
 exact own_sliceN ho

set_option maxHeartbeats 4000000 in
theorem rtwin7_any (v : Value) (s : Sec) (w : World) (h : SecV w w.heap.size v s) (hl : s.2.2.length ≤ 1000) :
  Calls Try.prog 29 #[v] w fun e w' => ∃ u, e = .returned (.agg #[.int .i64 s.1, .int .i64 s.2.1, u]) ∧ JoinsOwn w' w.heap.size u s.2.2 ∧ Below w.heap.size w w' := by
 obtain ⟨u, rfl, hu⟩ := h
 have HU := Lib.hid hu
 obtain ⟨A, c, rfl, -, -⟩ := hu.slice
 obtain ⟨id, pt, l⟩ := s
 dsimp only at HU hl ⊢
 obtain ⟨i0, hi, hz0, hz1, hz2⟩ := info_parts infoJoin
 have I0 := Lib.hid hi
 have I1 := Lib.hid hz0
 have I2 := Lib.hid hz1
 have I3 := Lib.hid hz2
 clear hi hz0 hz1 hz2 hu
 obtain ⟨n, hn⟩ : ∃ n, n = l.length := ⟨_, rfl⟩
 have HN := Lib.hid hn
 have HL : Hid (n ≤ 1000) := Lib.hid (by omega)
 have hq := two_boxes w (.cells #[.int .i64 id, .int .i64 pt, .slice A n c] 60) (.cells #[.int .i64 0, .int .i64 0, .slice none 0 0] 60)
 have HA : Hid (JoinsIn w w.heap.size (.slice A n c) l) := Lib.hid (by rw [hn]; exact HU.out)
 rw [← hn]
 clear hn HU hl
 go_enter Try.func29, Try.ntmps29
 go_upto_region 2 with fail
 have hqs : ((w.alloc (.cells #[.int .i64 id, .int .i64 pt, .slice A n c] 60)).alloc (.cells #[.int .i64 0, .int .i64 0, .slice none 0 0] 60)).heap.size = w.heap.size + 2 := by simp
 generalize (w.alloc (.cells #[.int .i64 id, .int .i64 pt, .slice A n c] 60)).alloc (.cells #[.int .i64 0, .int .i64 0, .slice none 0 0] 60) = q at hq hqs ⊢
 obtain ⟨q0, q1, qb⟩ := hq
 have X0 := Lib.hid q0
 have X1 := Lib.hid q1
 have QB := Lib.hid qb
 have QS := Lib.hid hqs
 obtain ⟨yss, hy1, hy2, hy3, hy4, hy5, hy6, hy7⟩ := ((HA.out.below joinR QB.out).more joinR QB.out.size).cells (by omega) joinR_full joinR_cells
 have Y1 := Lib.hid hy1
 have Y2 := Lib.hid hy2
 have Y3 := Lib.hid hy3
 have Y4 := Lib.hid hy4
 have Y6 := Lib.hid hy6
 have Y7 := Lib.hid hy7
 have YL : Hid (yss.flatten.length = n * 2) := Lib.hid (by rw [flat_length _ hy2, hy1, HN.out])
 obtain ⟨k0, k1, k2⟩ := cell3_of X0.out
 clear q0 q1 qb hqs hy1 hy2 hy3 hy4 hy5 hy6 hy7
 go_upto_region 3 with ((with_reducible show wpList _ _ _ (⟨some 7, _, _, _, _, _⟩ :: _) _ _); refine wpList_append_list rfl (.tmp 4) (.tmp 6) _ rfl Try.underlying58 I0.out I1.out rfl I2.out (by decide) I3.out (by decide) rfl (World.ownsRow_nil q q.heap.size _ _) rfl YL.out Y4.out Y7.out Y6.out (by have := HL.out; omega) (Nat.le_refl _) ?_; intro v4 w4 hown4 hgrow4; rw [Nat.zero_add, List.nil_append] at hown4; obtain ⟨A4, c4, rfl⟩ := own_sliceN hown4; have O4 := Lib.hid hown4; have B4 : Hid (Below q.heap.size q w4) := Lib.hid ((Below.refl _ q).grown hgrow4 (Nat.le_refl _) (fun k hk => by cases hk)); clear hown4 hgrow4; have X04 := Lib.hid ((B4.out.block _ (heap_lt X0.out)).trans X0.out); have X14 := Lib.hid ((B4.out.block _ (heap_lt X1.out)).trans X1.out); obtain ⟨m0, m1, m2⟩ := cell3_of X04.out; have f2 := frozen2_of X04.out 2)
 have hx5 := heap_setK (k := 2) X04.out (.slice A4 n c4)
 have hg5 := grown_setK w4 w.heap.size 2 (.slice A4 n c4)
 have hb5 := below_set (QB.out.trans (B4.out.mono QB.out.size)) (Nat.le_refl w.heap.size) 2 (.slice A4 n c4)
 have ho5 := O4.out.kept hg5 (by
  cases hv : (Value.slice A4 n c4).ownBlock with
  | none => exact .inl rfl
  | some k => refine .inr (fun e => ?_); injection e with e; have := own_ge O4.out _ hv; have := QS.out; omega)
 have hx15 := (hg5.block (w.heap.size + 1) (heap_lt X14.out) (fun e => by injection e with e; omega)).trans X14.out
 generalize w4.setCell ⟨w.heap.size, 2, none⟩ (.slice A4 n c4) = w5 at hx5 hg5 hb5 ho5 hx15 ⊢
 have hx5' : w5.heap[w.heap.size]? = some (.cells #[.int .i64 id, .int .i64 pt, .slice A4 n c4] 60 (0, 0)) := hx5
 have X15 := Lib.hid hx15
 have O5 := Lib.hid ho5
 have B5 := Lib.hid hb5
 clear k0 k1 k2 m0 m1 m2 f2 hg5 hb5 ho5 hx5
 obtain ⟨k0, k1, k2⟩ := cell3_of hx5'
 obtain ⟨r0, r1, r2⟩ := cell3_of X15.out
 have f0 := frozen2_of X15.out 0
 have f1 := frozen2_of X15.out 1
 have f2 := frozen2_of X15.out 2
 clear hx5' hx15
 go_wp2_with fail
 refine bodyPost_ret (v := .agg #[.int .i64 id, .int .i64 pt, .slice A4 n c4]) ?_ rfl ⟨_, rfl, ?_, below_set3 B5.out (Nat.le_succ _) _ _ _⟩
 ·exact results_cell_3 rfl _ _ (w.heap.size + 1) rfl (heap_set3 X15.out _ _ _) Try.underlying60 infoSec3
 ·have ho6 := O5.out.kept (grown_set3 w5 (w.heap.size + 1) (.int .i64 id) (.int .i64 pt) (.slice A4 n c4)) (by
   cases hv : (Value.slice A4 n c4).ownBlock with
   | none => exact .inl rfl
   | some k => refine .inr (fun e => ?_); injection e with e; have := own_ge O5.out _ hv; have := QS.out; omega)
  exact ⟨yss, by rw [← HN.out]; exact owns_mono ho6 (by have := QS.out; omega), Y1.out, by rw [← HN.out]; have := HL.out; unfold maxLen; omega, Y2.out, fun j ys x h1 h2 => Y3.out j ys x h1 h2⟩

def thrE (s : Sec) (a b : Int) : Int := if shapedB s then (if lieS s.2.1 a b < 0 then 2 else 0) else 8
def thrL (s : Sec) (a b : Int) : Int := if thrE s a b = 0 then lieS s.2.1 a b else 0
/-- The first end to which a way leads, whose lie is that one. -/
def outT (s : Sec) (a lie : Int) : Option Nat := (List.range s.2.2.length).find? fun t => decide (lieS s.2.1 a (t : Int) = lie)
def outE (s : Sec) (a lie : Int) : Int := if shapedB s then (if lie < 0 then 2 else match outT s a lie with | none => 2 | some _ => 0) else 8
def outV (s : Sec) (a lie : Int) : Int := if outE s a lie = 0 then (match outT s a lie with | none => 0 | some t => (t : Int)) else 0
theorem outT_none {s : Sec} {a lie : Int} (h : ∀ t, t < s.2.2.length → lieS s.2.1 a (t : Int) ≠ lie) : outT s a lie = none := by
 rw [outT, List.find?_eq_none]
 intro t ht
 simpa using h t (List.mem_range.1 ht)
theorem outT_some {s : Sec} {a lie : Int} {t : Nat} (ht : t < s.2.2.length) (he : lieS s.2.1 a (t : Int) = lie) (h : ∀ j, j < t → lieS s.2.1 a (j : Int) ≠ lie) : outT s a lie = some t := by
 rw [outT]
 have hr : List.range s.2.2.length = List.range t ++ t :: (List.range' (t + 1) (s.2.2.length - t - 1)) := by
  rw [List.range_eq_range', List.range_eq_range', show s.2.2.length = t + (1 + (s.2.2.length - t - 1)) from by omega, ← List.range'_append_1, Nat.zero_add, Nat.add_comm 1, List.range'_succ]
  congr 3
  omega
 rw [hr, List.find?_append, List.find?_eq_none.2 (fun x hx => by simpa using h x (List.mem_range.1 hx)), Option.none_or, List.find?_cons_of_pos (by simpa using he)]

set_option maxHeartbeats 4000000 in
theorem rsamesec_any (v y : Value) (s : Sec) (w : World) (h : SecV w w.heap.size v s) (h' : SecV w w.heap.size y s) :
  Calls Try.prog 51 #[v, y] w fun e w' => e = .returned (.bool true) ∧ Below w.heap.size w w' := by
 obtain ⟨u, rfl, hu⟩ := h
 obtain ⟨u', rfl, hu'⟩ := h'
 have HU := Lib.hid hu
 have HU' := Lib.hid hu'
 obtain ⟨A, c, rfl, h1, h2⟩ := hu.slice
 obtain ⟨A', c', rfl, -, -⟩ := hu'.slice
 obtain ⟨id, pt, l⟩ := s
 dsimp only at h1 HU HU' ⊢
 obtain ⟨n, hn⟩ : ∃ n, n = l.length := ⟨_, rfl⟩
 have hnm : n ≤ 9223372036854775807 := by unfold maxLen at h2; omega
 have HN := Lib.hid hn
 rw [← hn] at HU HU' ⊢
 clear hu hu' hn h1 h2
 have hq := two_boxes w (.cells #[.int .i64 id, .int .i64 pt, .slice A n c] 60) (.cells #[.int .i64 id, .int .i64 pt, .slice A' n c'] 60)
 go_enter Try.func51, Try.ntmps51
 go_upto_region 1 with fail
 generalize (w.alloc (.cells #[.int .i64 id, .int .i64 pt, .slice A n c] 60)).alloc (.cells #[.int .i64 id, .int .i64 pt, .slice A' n c'] 60) = q at hq ⊢
 obtain ⟨q0, q1, qb⟩ := hq
 obtain ⟨k0, k1, k2⟩ := cell3_of q0
 obtain ⟨m0, m1, m2⟩ := cell3_of q1
 have X0' := Lib.hid q0
 have X1' := Lib.hid q1
 have QB := Lib.hid qb
 clear q0 q1 qb
 go_wp2_with fail
 clear k0 k1 k2 m0 m1 m2
 go_loopw [5] (fun s5 wr => ∃ i : Nat, i ≤ n ∧ s5 = .int .i64 i ∧ wr.heap[w.heap.size]? = some (.cells #[.int .i64 id, .int .i64 pt, .slice A n c] 60 (0, 0)) ∧ wr.heap[w.heap.size + 1]? = some (.cells #[.int .i64 id, .int .i64 pt, .slice A' n c'] 60 (0, 0)) ∧ Below w.heap.size w wr) (fun s5 _ => n - (intOf s5).toNat)
 case atStart => exact ⟨0, by omega, by go_num, X0'.out, X1'.out, QB.out⟩
 case round =>
  obtain ⟨i, hi, rfl, hx0, hx1, hb⟩ := hrel
  have X0 := Lib.hid hx0
  have X1 := Lib.hid hx1
  have BW := Lib.hid hb
  obtain ⟨k0, k1, k2⟩ := cell3_of hx0
  clear hx0 hx1 hb
  by_cases hlt : i < n
  ·have hlt' : (i : Int) < n := by omega
   have hir : i < l.length := by rw [← HN.out]; exact hlt
   obtain ⟨ba, oa, rfl, hba, hca0, hca1⟩ := ((HU.out.below joinR BW.out).more joinR BW.out.size).at hir
   obtain ⟨bb, ob, rfl, hbb, hcb0, hcb1⟩ := ((HU'.out.below joinR BW.out).more joinR BW.out.size).at hir
   obtain ⟨a, b, hab⟩ : ∃ a b, l[i] = (a, b) := ⟨_, _, rfl⟩
   rw [hab] at hca0 hca1 hcb0 hcb1
   dsimp only at hca0 hca1 hcb0 hcb1
   have LA := Lib.hid hba
   have LB := Lib.hid hbb
   have CA0 : Hid (wr.cell? ⟨ba, oa + i * 2, none⟩ = some (.int .i64 a)) := Lib.hid hca0
   have CA1 : Hid (wr.cell? ⟨ba, oa + i * 2 + 1, none⟩ = some (.int .i64 b)) := Lib.hid hca1
   have CB0 : Hid (wr.cell? ⟨bb, ob + i * 2, none⟩ = some (.int .i64 a)) := Lib.hid hcb0
   have CB1 : Hid (wr.cell? ⟨bb, ob + i * 2 + 1, none⟩ = some (.int .i64 b)) := Lib.hid hcb1
   have BD : Hid (Below w.heap.size w wr.drew) := Lib.hid BW.out.drew
   have X0D : Hid (wr.drew.heap[w.heap.size]? = some (.cells #[.int .i64 id, .int .i64 pt, .slice (some ⟨ba, oa, none⟩) n c] 60 (0, 0))) := Lib.hid X0.out
   have X1D : Hid (wr.drew.heap[w.heap.size + 1]? = some (.cells #[.int .i64 id, .int .i64 pt, .slice (some ⟨bb, ob, none⟩) n c'] 60 (0, 0))) := Lib.hid X1.out
   clear hba hbb hca0 hca1 hcb0 hcb1 hab
   go_wp2_with fail
   refine wp_region_held_drew (S := fun v => Below wr.heap.size wr v) (by kernel_rfl) ((Below.refl wr.heap.size wr).drew) (fun hHeld => ?_)
   refine tk 0 hHeld ?_;refine tkc 1 hHeld (fun w' hSw => cell3_of ((hSw.block _ (heap_lt X0.out)).trans X0.out)) ?_;refine tk 2 hHeld ?_;refine tk 3 hHeld ?_
   refine wpAnyH_take (i := 4) (v := ?_) rfl (by kernel_rfl) (by kernel_rfl) (by kernel_rfl) (fun _ _ _ h => h) (Or.inl ⟨by rfl, ?_⟩) hHeld ?_
   rotate_left
   ·intro w' hSw; have ca := (hSw.cell (p := ⟨ba, oa + i * 2, none⟩) LA.out).trans CA0.out; have cb := (hSw.cell (p := ⟨ba, oa + i * 2 + 1, none⟩) LA.out).trans CA1.out; go_simp; try with_reducible rfl
   simp only [zn, Act.put]
   refine tk 5 hHeld ?_;refine tkc 6 hHeld (fun w' hSw => cell3_of ((hSw.block _ (heap_lt X1.out)).trans X1.out)) ?_;refine tk 7 hHeld ?_;refine tk 8 hHeld ?_
   refine wpAnyH_take (i := 9) (v := ?_) rfl (by kernel_rfl) (by kernel_rfl) (by kernel_rfl) (fun _ _ _ h => h) (Or.inl ⟨by rfl, ?_⟩) hHeld ?_
   rotate_left
   ·intro w' hSw; have ca := (hSw.cell (p := ⟨bb, ob + i * 2, none⟩) LB.out).trans CB0.out; have cb := (hSw.cell (p := ⟨bb, ob + i * 2 + 1, none⟩) LB.out).trans CB1.out; go_simp; try with_reducible rfl
   simp only [zn, Act.put]
   refine tk 10 hHeld ?_
   refine wpAnyH_done (by kernel_rfl) ?_ _
   go_wp2_with fail
   go_roundw
   case measure => simp [intOf]; omega
   case rel => exact ⟨i + 1, by omega, by go_num, X0D.out, X1D.out, BD.out⟩
  ·obtain rfl : i = n := by omega
   have hlt' : ¬ (i : Int) < i := by omega
   go_wp2_with fail
   go_ret
   exact ⟨rfl, BW.out⟩

set_option maxHeartbeats 4000000 in
theorem rsameall_any (v y : Value) (l : List Sec) (w : World) (h : SectsIn w w.heap.size v l) (h' : SectsIn w w.heap.size y l) :
  Calls Try.prog 31 #[v, y] w fun e w' => e = .returned (.bool true) ∧ Below w.heap.size w w' := by
 have HU := Lib.hid h
 have HU' := Lib.hid h'
 obtain ⟨A, c, rfl, h1, h2⟩ := h.slice
 obtain ⟨A', c', rfl, -, -⟩ := h'.slice
 obtain ⟨n, hn⟩ : ∃ n, n = l.length := ⟨_, rfl⟩
 have hnm : n ≤ 9223372036854775807 := by unfold maxLen at h2; omega
 have HN := Lib.hid hn
 rw [← hn] at HU HU' ⊢
 clear h h' hn h1 h2
 go_enter Try.func31, Try.ntmps31
 go_wp2_with fail
 go_loopw [5] (fun s5 wr => ∃ i : Nat, i ≤ n ∧ s5 = .int .i64 i ∧ Below w.heap.size w wr) (fun s5 _ => n - (intOf s5).toNat)
 case atStart => exact ⟨0, by omega, by go_num, Below.refl _ _⟩
 case round =>
  obtain ⟨i, hi, rfl, hb⟩ := hrel
  have BW := Lib.hid hb
  clear hb
  by_cases hlt : i < n
  ·have hlt' : (i : Int) < n := by omega
   have hir : i < l.length := by rw [← HN.out]; exact hlt
   obtain ⟨ba, oa, rfl, hba, hca0, hca1, ua, hca2, hua⟩ := ((HU.out.below secR_ BW.out).more secR_ BW.out.size).at hir
   obtain ⟨bb, ob, rfl, hbb, hcb0, hcb1, ub, hcb2, hub⟩ := ((HU'.out.below secR_ BW.out).more secR_ BW.out.size).at hir
   obtain ⟨s, hs⟩ : ∃ s, s = l[i] := ⟨_, rfl⟩
   rw [← hs] at hca0 hca1 hua hcb0 hcb1 hub
   obtain ⟨Aa, ca, rfl, -, -⟩ := hua.slice
   obtain ⟨Ab, cb, rfl, -, -⟩ := hub.slice
   have LA := Lib.hid hba
   have LB := Lib.hid hbb
   have CA0 : Hid (wr.cell? ⟨ba, oa + i * 3, none⟩ = some (.int .i64 s.1)) := Lib.hid hca0
   have CA1 : Hid (wr.cell? ⟨ba, oa + i * 3 + 1, none⟩ = some (.int .i64 s.2.1)) := Lib.hid hca1
   have CA2 : Hid (wr.cell? ⟨ba, oa + i * 3 + 2, none⟩ = some (.slice Aa s.2.2.length ca)) := Lib.hid hca2
   have CB0 : Hid (wr.cell? ⟨bb, ob + i * 3, none⟩ = some (.int .i64 s.1)) := Lib.hid hcb0
   have CB1 : Hid (wr.cell? ⟨bb, ob + i * 3 + 1, none⟩ = some (.int .i64 s.2.1)) := Lib.hid hcb1
   have CB2 : Hid (wr.cell? ⟨bb, ob + i * 3 + 2, none⟩ = some (.slice Ab s.2.2.length cb)) := Lib.hid hcb2
   have SVA : Hid (SecV wr wr.heap.size (.agg #[.int .i64 s.1, .int .i64 s.2.1, .slice Aa s.2.2.length ca]) s) := Lib.hid ⟨_, rfl, hua⟩
   have SVB : Hid (SecV wr wr.heap.size (.agg #[.int .i64 s.1, .int .i64 s.2.1, .slice Ab s.2.2.length cb]) s) := Lib.hid ⟨_, rfl, hub⟩
   clear hba hbb hca0 hca1 hca2 hcb0 hcb1 hcb2 hua hub hs
   go_wp2_with fail
   refine wp_region_held_drew (S := fun v => Below wr.heap.size wr v) (by kernel_rfl) ((Below.refl wr.heap.size wr).drew) (fun hHeld => ?_)
   refine tk 0 hHeld ?_;refine tk 1 hHeld ?_;refine tk 2 hHeld ?_
   refine wpAnyH_take (i := 3) (v := ?_) rfl (by kernel_rfl) (by kernel_rfl) (by kernel_rfl) (fun _ _ _ h => h) (Or.inl ⟨by rfl, ?_⟩) hHeld ?_
   rotate_left
   ·intro w' hSw; have ca := (hSw.cell (p := ⟨ba, oa + i * 3, none⟩) LA.out).trans CA0.out; have cb := (hSw.cell (p := ⟨ba, oa + i * 3 + 1, none⟩) LA.out).trans CA1.out; have cc := (hSw.cell (p := ⟨ba, oa + i * 3 + 2, none⟩) LA.out).trans CA2.out; go_simp; try with_reducible rfl
   simp only [zn, Act.put]
   refine tk 4 hHeld ?_;refine tk 5 hHeld ?_;refine tk 6 hHeld ?_
   refine wpAnyH_take (i := 7) (v := ?_) rfl (by kernel_rfl) (by kernel_rfl) (by kernel_rfl) (fun _ _ _ h => h) (Or.inl ⟨by rfl, ?_⟩) hHeld ?_
   rotate_left
   ·intro w' hSw; have ca := (hSw.cell (p := ⟨bb, ob + i * 3, none⟩) LB.out).trans CB0.out; have cb := (hSw.cell (p := ⟨bb, ob + i * 3 + 1, none⟩) LB.out).trans CB1.out; have cc := (hSw.cell (p := ⟨bb, ob + i * 3 + 2, none⟩) LB.out).trans CB2.out; go_simp; try with_reducible rfl
   simp only [zn, Act.put]
   refine tkr 8 (fun K hK => ?_)
   go_simp
   refine (rsamesec_any _ _ s wr.drew (SVA.out.below (Below.refl _ wr).drew) (SVB.out.below (Below.refl _ wr).drew)).mono ?_
   rintro e w2 ⟨rfl, b2⟩
   have B2 := Lib.hid ((Below.refl wr.heap.size wr).drew.trans b2)
   clear b2
   try go_wp2_with fail
   refine hK.out _ _ ?_ fun hHeld => ?_;exact B2.out;clear hK K;try simp only [zn, Act.put]
   refine tk 9 hHeld ?_
   refine wpAnyH_done (by kernel_rfl) ?_ _
   have BN := Lib.hid (BW.out.trans (B2.out.mono BW.out.size))
   go_wp2_with fail
   go_roundw
   case measure => simp [intOf]; omega
   case rel => exact ⟨i + 1, by omega, by go_num, BN.out⟩
  ·obtain rfl : i = n := by omega
   have hlt' : ¬ (i : Int) < i := by omega
   go_wp2_with fail
   go_ret
   exact ⟨rfl, BW.out⟩

noncomputable def findE7 (l : List Sec) (id : Int) : Int := if mayT l then (if atS l id < 0 then 6 else 0) else 8
noncomputable def findS7 (l : List Sec) (id : Int) : Sec := if findE7 l id = 0 then l.getD (atS l id).toNat (0, 0, []) else (0, 0, [])
noncomputable def nextE7 (l : List Sec) (id k : Int) : Int := if findE7 l id = 0 then (if k < 0 ∨ ((findS7 l id).2.2.length : Int) ≤ k then 2 else 0) else findE7 l id
noncomputable def nextJ7 (l : List Sec) (id k : Int) : Jn := if nextE7 l id k = 0 then (findS7 l id).2.2.getD k.toNat (0, 0) else (0, 0)
theorem shaped_few {s : Sec} (h : shapedB s = true) : s.2.2.length ≤ 3 := by
 rw [shapedB] at h
 split at h
 ·have := of_decide_eq_true h; omega
 ·simp at h; omega

end Go.Proofs.Ytdldphkofkbmaaa
