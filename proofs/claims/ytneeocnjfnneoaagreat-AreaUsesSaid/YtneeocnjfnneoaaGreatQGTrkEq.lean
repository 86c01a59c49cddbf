/-
 The contracts of package track, as a structure: to be proved over the program's own text.
 Conditions: none.
-/
import Derived.Test.YtneeocnjfnneoaaGreatQGTrkRef
import Derived.Test.YtneeocnjfnneoaaGreatQGPlnRefB
set_option linter.unusedVariables false
set_option linter.unusedSimpArgs false
set_option maxRecDepth 100000
namespace Go.Proofs.YtneeocnjfnneoaaGreat
open Go.RowKit

/-- What the program's package track answers: to be proved over the program's own text (one instance, 'trkSaid'); the walks of the statements take it. -/
structure TrkSaid : Prop where
 check : ∀ (v : Value) (l : List Sec) (w : World), SectsIn w w.heap.size v l →
  Calls Tryz.prog 47 #[v] w fun e w' => e = .returned (.int .i64 (chkT l)) ∧ Below w.heap.size w w'

def sec1 : Sec := (1, 0, [(2, 0), (0, 0)])
def sec2 : Sec := (2, 5, [(1, 0), (3, 0), (3, 1)])
def sec3 : Sec := (3, 0, [(2, 1), (2, 2)])
def secsT : List Sec := [sec1, sec2, sec3]
theorem mayThree : TMay secsT := by
 refine ⟨by decide, fun i h => ?_, fun i j hj hi => ?_, fun i k hi hk => ?_⟩
 ·match i, h with
  | 0, _ => exact (show (1 : Int) ≤ sec1.1 ∧ sec1.1 ≤ 99 ∧ shapedB sec1 = true from ⟨by decide, by decide, by decide⟩)
  | 1, _ => exact (show (1 : Int) ≤ sec2.1 ∧ sec2.1 ≤ 99 ∧ shapedB sec2 = true from ⟨by decide, by decide, by decide⟩)
  | 2, _ => exact (show (1 : Int) ≤ sec3.1 ∧ sec3.1 ≤ 99 ∧ shapedB sec3 = true from ⟨by decide, by decide, by decide⟩)
 ·match i, j, hj, hi with
  | 1, 0, _, _ => exact (show sec1.1 < sec2.1 ∧ ¬ (sec2.2.1 ≠ 0 ∧ sec1.2.1 = sec2.2.1) from ⟨by decide, by decide⟩)
  | 2, 0, _, _ => exact (show sec1.1 < sec3.1 ∧ ¬ (sec3.2.1 ≠ 0 ∧ sec1.2.1 = sec3.2.1) from ⟨by decide, by decide⟩)
  | 2, 1, _, _ => exact (show sec2.1 < sec3.1 ∧ ¬ (sec3.2.1 ≠ 0 ∧ sec2.2.1 = sec3.2.1) from ⟨by decide, by decide⟩)
 ·match i, k, hi, hk with
  | 0, 0, _, _ => exact (show joinedB secsT sec1 0 = true by decide)
  | 0, 1, _, _ => exact (show joinedB secsT sec1 1 = true by decide)
  | 1, 0, _, _ => exact (show joinedB secsT sec2 0 = true by decide)
  | 1, 1, _, _ => exact (show joinedB secsT sec2 1 = true by decide)
  | 1, 2, _, _ => exact (show joinedB secsT sec2 2 = true by decide)
  | 2, 0, _, _ => exact (show joinedB secsT sec3 0 = true by decide)
  | 2, 1, _, _ => exact (show joinedB secsT sec3 1 = true by decide)
theorem chkThree : chkT secsT = 0 := by rw [chkT, mayT_true mayThree]; rfl
theorem findE_of {l : List Sec} {id : Int} (h : TMay l) : findE7 l id = if atS l id < 0 then 6 else 0 := by rw [findE7, mayT_true h]; rfl
theorem next_three (id k : Int) (j : Jn) (h : atS secsT id = 0 ∨ atS secsT id = 1 ∨ atS secsT id = 2) (hk : ¬ (k < 0 ∨ ((secsT.getD (atS secsT id).toNat (0, 0, [])).2.2.length : Int) ≤ k)) (hj : (secsT.getD (atS secsT id).toNat (0, 0, [])).2.2.getD k.toNat (0, 0) = j) :
  nextE7 secsT id k = 0 ∧ nextJ7 secsT id k = j := by
 have hE : findE7 secsT id = 0 := by rw [findE_of mayThree, if_neg (by omega)]
 have hS : findS7 secsT id = secsT.getD (atS secsT id).toNat (0, 0, []) := by rw [findS7, hE, if_pos rfl]
 have hN : nextE7 secsT id k = 0 := by rw [nextE7, hE, if_pos rfl, hS, if_neg hk]
 exact ⟨hN, by rw [nextJ7, hN, if_pos rfl, hS, hj]⟩

/-- A block of joins, or of sections, written down. -/
theorem joins_row {W : World} {b : Nat} {cs : Array Value} {l : List Jn} (h : W.heap[b]? = some (.cells cs 85 (0, 0))) (hl : l.length ≤ 100) (hc : ∀ j (hj : j < l.length), cs[j * 2]? = some (.int .i64 l[j].1) ∧ cs[j * 2 + 1]? = some (.int .i64 l[j].2)) :
  JoinsIn W W.heap.size (.slice (some ⟨b, 0, none⟩) l.length l.length) l :=
 ⟨_, _, rfl, Nat.le_refl _, by unfold maxLen; omega, (fun e => by cases e), fun _ => ⟨b, 0, rfl, heap_lt h, fun j hj => ⟨by show W.cell? ⟨b, 0 + j * 2 + 0, none⟩ = _; rw [cell_of_row _ _ _ _ _ _ h, Nat.zero_add]; exact (hc j hj).1, by show W.cell? ⟨b, 0 + j * 2 + 1, none⟩ = _; rw [cell_of_row _ _ _ _ _ _ h, Nat.zero_add]; exact (hc j hj).2⟩⟩⟩


theorem chk_may {l : List Sec} (h : chkT l = 0) : TMay l := by
 rw [chkT] at h
 split at h
 ·exact mayT_iff.1 (by assumption)
 ·omega
theorem at_mem {l : List Sec} (h : TMay l) {i : Nat} (hi : i < l.length) : atS l l[i].1 = (i : Int) := by
 rw [atS, find_some hi rfl (fun j hj => by have := (h.k i j hj hi).1; omega)]
theorem id_inj {l : List Sec} (h : TMay l) {i j : Nat} (hi : i < l.length) (hj : j < l.length) (he : l[i].1 = l[j].1) : i = j := by
 have h1 := at_mem h hi
 rw [he, at_mem h hj] at h1
 omega
theorem find_mem {l : List Sec} (h : TMay l) {i : Nat} (hi : i < l.length) : findE7 l l[i].1 = 0 ∧ findS7 l l[i].1 = l[i] := by
 have hE : findE7 l l[i].1 = 0 := by rw [findE_of h, at_mem h hi, if_neg (by omega)]
 exact ⟨hE, by rw [findS7, if_pos hE, at_mem h hi, Int.toNat_natCast, List.getD_eq_getElem?_getD, List.getElem?_eq_getElem hi]; rfl⟩
theorem next_mem {l : List Sec} (h : TMay l) {i e : Nat} (hi : i < l.length) (he : e < l[i].2.2.length) : nextE7 l l[i].1 (e : Int) = 0 ∧ nextJ7 l l[i].1 (e : Int) = l[i].2.2.getD e (0, 0) := by
 obtain ⟨h1, h2⟩ := find_mem h hi
 have hE : nextE7 l l[i].1 (e : Int) = 0 := by rw [nextE7, if_pos h1, h2, if_neg (by omega)]
 exact ⟨hE, by rw [nextJ7, if_pos hE, h2, Int.toNat_natCast]⟩
theorem back_of {l : List Sec} (h : TMay l) {i e : Nat} (hi : i < l.length) (he : e < l[i].2.2.length) : nextE7 l l[i].1 (e : Int) = 0 ∧
  (nextJ7 l l[i].1 (e : Int) = (0, 0) ∨ (nextJ7 l l[i].1 (e : Int) ≠ (0, 0) ∧ nextE7 l (nextJ7 l l[i].1 (e : Int)).1 (nextJ7 l l[i].1 (e : Int)).2 = 0 ∧ nextJ7 l (nextJ7 l l[i].1 (e : Int)).1 (nextJ7 l l[i].1 (e : Int)).2 = (l[i].1, (e : Int)) ∧ nextJ7 l l[i].1 (e : Int) ≠ (l[i].1, (e : Int)))) := by
 obtain ⟨h1, h2⟩ := next_mem h hi he
 refine ⟨h1, ?_⟩
 rw [h2]
 have hj := h.e i e hi he
 rw [joinedB] at hj
 generalize l[i].2.2.getD e (0, 0) = J at hj ⊢
 obtain ⟨x, y⟩ := J
 dsimp only at hj ⊢
 split at hj
 ·rename_i h0
  exact .inl (by rw [h0.1, h0.2])
 ·rename_i h0
  split at hj
  ·simp at hj
  ·rename_i h3
   rcases atS_cases l x with hx | ⟨k, hk, hx, hid⟩
   ·exact absurd (.inl (by omega)) h3
   ·rw [hx, Int.toNat_natCast] at hj h3
    have hg : l.getD k (0, 0, []) = l[k] := by rw [List.getD_eq_getElem?_getD, List.getElem?_eq_getElem hk]; rfl
    rw [hg] at hj h3
    have hy0 : ¬ y < 0 := fun h => h3 (.inr (.inl h))
    have hy1 : ¬ ((l[k].2.2.length : Int) ≤ y) := fun h => h3 (.inr (.inr (.inl h)))
    have hne : ¬ (x = l[i].1 ∧ y = (e : Int)) := fun h => h3 (.inr (.inr (.inr h)))
    obtain ⟨z, rfl⟩ : ∃ z : Nat, y = (z : Int) := ⟨y.toNat, by omega⟩
    obtain ⟨n1, n2⟩ := next_mem h hk (show z < l[k].2.2.length by omega)
    rw [hid] at n1 n2
    refine .inr ⟨fun h => h0 (by cases h; exact ⟨rfl, rfl⟩), n1, ?_, fun h => hne (by cases h; exact ⟨rfl, rfl⟩)⟩
    rw [n2]
    rw [Int.toNat_natCast] at hj
    exact of_decide_eq_true hj
/-- Ends that were led to, by ends ahead of this one. -/
def Led (l : List Sec) (i e : Nat) (ls : List Jn) : Prop := ∀ x ∈ ls, ∃ (i' e' : Nat) (h : i' < l.length), (i' < i ∨ i' = i ∧ e' < e) ∧ nextJ7 l x.1 x.2 = (l[i'].1, (e' : Int))
theorem led_not {l : List Sec} (h : TMay l) {i e : Nat} {ls : List Jn} (hL : Led l i e ls) (hi : i < l.length) {J : Jn} (hJ : nextJ7 l J.1 J.2 = (l[i].1, (e : Int))) : ∀ x ∈ ls, x ≠ J := by
 rintro x hx rfl
 obtain ⟨i', e', hi', hlt, hn⟩ := hL x hx
 rw [hJ] at hn
 injection hn with h1 h2
 have := id_inj h hi hi' h1
 omega
theorem led_snoc {l : List Sec} {i e : Nat} {ls : List Jn} (hL : Led l i e ls) (hi : i < l.length) {J : Jn} (hJ : nextJ7 l J.1 J.2 = (l[i].1, (e : Int))) : Led l i (e + 1) (ls ++ [J]) := by
 intro x hx
 rcases List.mem_append.1 hx with h | h
 ·obtain ⟨i', e', hi', hlt, hn⟩ := hL x h
  exact ⟨i', e', hi', by omega, hn⟩
 ·rw [List.mem_singleton.1 h]
  exact ⟨i, e, hi, by omega, hJ⟩
theorem led_next {l : List Sec} {i e : Nat} {ls : List Jn} (hL : Led l i e ls) : Led l i (e + 1) ls := fun x h => by
 obtain ⟨i', e', hi', hlt, hn⟩ := hL x h
 exact ⟨i', e', hi', by omega, hn⟩
theorem led_row {l : List Sec} {i e : Nat} {ls : List Jn} (hL : Led l i e ls) : Led l (i + 1) 0 ls := fun x h => by
 obtain ⟨i', e', hi', hlt, hn⟩ := hL x h
 exact ⟨i', e', hi', by omega, hn⟩
/-- The cells of one section. -/
theorem sect_cells {W : World} {B n c b off i : Nat} {l : List Sec} (h : SectsIn W B (.slice (some ⟨b, off, none⟩) n c) l) (hi : i < l.length) :
  W.cell? ⟨b, off + i * 3, none⟩ = some (.int .i64 l[i].1) ∧ W.cell? ⟨b, off + i * 3 + 1, none⟩ = some (.int .i64 l[i].2.1) ∧ ∃ Au cu, W.cell? ⟨b, off + i * 3 + 2, none⟩ = some (.slice Au l[i].2.2.length cu) ∧ JoinsIn W B (.slice Au l[i].2.2.length cu) l[i].2.2 := by
 obtain ⟨b', off', e, hb, hc0, hc1, u, hc2, hu⟩ := h.at hi
 cases e
 have hu' := hu
 obtain ⟨Au, cu, rfl, -, -⟩ := hu.slice
 exact ⟨hc0, hc1, Au, cu, hc2, hu'⟩

theorem below_drewK {B : Nat} {W W' : World} (h : Below B W W') (n : Nat) : Below B W (W'.drewN n) := ⟨h.os, h.tape, h.output, h.size, h.block⟩
theorem join_eq (a b c d : Int) (w : World) : (Op.equalIn 10000 85 (.agg #[.int .i64 a, .int .i64 b]) (.agg #[.int .i64 c, .int .i64 d])).run Tryz.prog w = .ok ((a == c) && (b == d)) w := by
 have hagg : (isAgg 3).run Tryz.prog w = .ok false w := by
  unfold isAgg
  rw [Sem.run_bind, run_underlying Tryz.underlying3 w]
  simp
 rw [run_equalIn_agg w 9999 85 _ _ (by rw [Program.fieldsOf, Tryz.underlying85]) (by kernel_rfl)]
 simp only [Program.fieldsOf, Tryz.underlying85, Op.eqFields]
 have hi : ∀ x y : Int, (Op.equalIn 9999 3 (.int .i64 x) (.int .i64 y)).run Tryz.prog w = .ok (x == y) w := fun x y => run_equalIn_int w 9998 3 .i64 .i64 x y Tryz.underlying3
 by_cases h1 : a = c <;> by_cases h2 : b = d <;> simp [part, Sem.run_bind, Sem.run_ite, hagg, hi, h1, h2]
theorem join_ne {a b c d : Int} (h : ¬ (a = c ∧ b = d)) (w : World) : (Op.equalIn 10000 85 (.agg #[.int .i64 a, .int .i64 b]) (.agg #[.int .i64 c, .int .i64 d])).run Tryz.prog w = .ok false w := by
 rw [join_eq]
 congr 1
 by_cases h1 : a = c
 ·have h2 : ¬ b = d := fun h2 => h ⟨h1, h2⟩
  simp [h2]
 ·simp [h1]
theorem join_self (a b : Int) (w : World) : (Op.equalIn 10000 85 (.agg #[.int .i64 a, .int .i64 b]) (.agg #[.int .i64 a, .int .i64 b])).run Tryz.prog w = .ok true w := by
 rw [join_eq]
 simp
end Go.Proofs.YtneeocnjfnneoaaGreat
