/-
  Whether two disks are the same, as the program asks it.
  Conditions: none.
-/
import Derived.Test.YtdpjdobmnkadjaaDevSame
set_option linter.unusedVariables false
set_option linter.unusedSimpArgs false
namespace Go.Proofs.Ytdpjdobmnkadjaa
open Go.RowKit

theorem take_eq_succ {α : Type} {a b : List α} {i : Nat} (ha : i < a.length) (hb : i < b.length) (h : a.take i = b.take i) (he : a[i] = b[i]) : a.take (i + 1) = b.take (i + 1) := by
  rw [List.take_add_one, List.take_add_one, List.getElem?_eq_getElem ha, List.getElem?_eq_getElem hb, h, he]
theorem ne_of_at {α : Type} {a b : List α} {i : Nat} (ha : i < a.length) (hb : i < b.length) (he : ¬ a[i] = b[i]) : ¬ a = b := by
  intro h; subst h; exact he rfl

set_option maxHeartbeats 1000000 in
theorem equal_secs (v y : Value) (ss ts : List Bs) (w : World) {B B' : Nat} (hB : B ≤ w.heap.size) (hB' : B' ≤ w.heap.size) (h : SecsIn w B v ss) (h' : SecsIn w B' y ts) :
    Calls Try.prog 50 #[v, y, .func (.func 51) #[] #[]] w fun e w' => e = .returned (.bool (decide (ss = ts))) ∧ w = w' := by
  have H := Lib.hid h
  have H' := Lib.hid h'
  obtain ⟨A, cap, rfl, -, -, -, -⟩ := h
  obtain ⟨A', cap', rfl, -, -, -, -⟩ := h'
  by_cases hl : ss.length = ts.length
  · obtain ⟨n, hn⟩ : ∃ n, n = ss.length := ⟨_, rfl⟩
    have hn' : n = ts.length := by omega
    rw [← hn] at H ⊢
    rw [← hn'] at H' ⊢
    have HN := Lib.hid hn
    have HN' := Lib.hid hn'
    clear hl hn hn'
    go_enter Try.func50, Try.ntmps50
    go_wp2_with fail
    go_loopw [17] (fun s17 wr => ∃ i : Nat, i ≤ n ∧ s17 = .int .i64 i ∧ Hid (ss.take i = ts.take i) ∧ wr = w) (fun s17 _ => n - (intOf s17).toNat)
    case atStart => exact ⟨0, by omega, rfl, Lib.hid rfl, by first | rfl | trivial⟩
    case round =>
      obtain ⟨i, hi, rfl, heq, rfl⟩ := hrel
      by_cases hlt : i < n
      · have hlt' : (i : Int) < n := by omega
        have l1 : i < ss.length := by have := HN.out; omega
        have l2 : i < ts.length := by have := HN'.out; omega
        obtain ⟨b, off, u, rfl, hbb, hc, ht⟩ := H.out.at l1
        obtain ⟨b', off', u', rfl, hbb', hc', ht'⟩ := H'.out.at l2
        have hce := equal_any _ _ _ _ wr ht ht'
        obtain ⟨A3, c3, rfl, -, -, -, -⟩ := ht
        obtain ⟨A4, c4, rfl, -, -, -, -⟩ := ht'
        have hbnd : (n : Int) ≤ 9223372036854775807 := by have := H.out.le; have := HN.out; unfold maxLen at *; omega
        by_cases he : ss[i] = ts[i]
        · have HE := Lib.hid (take_eq_succ l1 l2 heq.out he)
          rw [decide_eq_true he] at hce
          have HC := Lib.hid hce
          clear hce he
          go_wp2_with (refine HC.out.mono ?_; rintro e w' ⟨rfl, rfl⟩)
          go_roundw
          case measure => simp [intOf]; omega
          case rel => exact ⟨i + 1, by omega, by go_num, HE, by first | rfl | trivial⟩
        · have HE := Lib.hid (ne_of_at l1 l2 he)
          rw [decide_eq_false he] at hce
          have HC := Lib.hid hce
          clear hce he
          go_wp2_with (refine HC.out.mono ?_; rintro e w' ⟨rfl, rfl⟩)
          go_ret
          exact ⟨by rw [decide_eq_false HE.out]; rfl, rfl⟩
      · have hlt' : ¬ ((i : Int) < n) := by omega
        have hst : Hid (ss = ts) := Lib.hid (by
          have := heq.out
          rwa [List.take_of_length_le (by have := HN.out; omega), List.take_of_length_le (by have := HN'.out; omega)] at this)
        go_wp2_with fail
        go_ret
        exact ⟨by rw [decide_eq_true hst.out]; rfl, rfl⟩
  · have hne : Hid (¬ ss = ts) := Lib.hid (fun h => hl (by rw [h]))
    have hl' : ¬ (ss.length : Int) = ts.length := by omega
    have hl2 : ((ss.length : Int) == ts.length) = false := by rw [beq_eq_false_iff_ne]; omega
    clear hl
    go_enter Try.func50, Try.ntmps50
    go_wp2_with fail
    go_ret
    exact ⟨by rw [decide_eq_false hne.out]; rfl, rfl⟩
set_option maxHeartbeats 1000000 in
theorem equal_wts (v y : Value) (ss ts : List Wr) (w : World) {B B' : Nat} (hB : B ≤ w.heap.size) (hB' : B' ≤ w.heap.size) (h : WtsIn w B v ss) (h' : WtsIn w B' y ts) :
    Calls Try.prog 52 #[v, y, .func (.func 53) #[] #[]] w fun e w' => e = .returned (.bool (decide (ss = ts))) ∧ Below w.heap.size w w' := by
  have H := Lib.hid h
  have H' := Lib.hid h'
  obtain ⟨A, cap, rfl, -, -, -, -⟩ := h
  obtain ⟨A', cap', rfl, -, -, -, -⟩ := h'
  by_cases hl : ss.length = ts.length
  · obtain ⟨n, hn⟩ : ∃ n, n = ss.length := ⟨_, rfl⟩
    have hn' : n = ts.length := by omega
    rw [← hn] at H ⊢
    rw [← hn'] at H' ⊢
    have HN := Lib.hid hn
    have HN' := Lib.hid hn'
    clear hl hn hn'
    go_enter Try.func52, Try.ntmps52
    go_wp2_with fail
    go_loopw [17] (fun s17 wr => ∃ i : Nat, i ≤ n ∧ s17 = .int .i64 i ∧ Hid (ss.take i = ts.take i) ∧ Below w.heap.size w wr) (fun s17 _ => n - (intOf s17).toNat)
    case atStart => exact ⟨0, by omega, rfl, Lib.hid rfl, Below.refl _ _⟩
    case round =>
      obtain ⟨i, hi, rfl, heq, hb⟩ := hrel
      have HB := Lib.hid hb
      clear hb
      by_cases hlt : i < n
      · have hlt' : (i : Int) < n := by omega
        have l1 : i < ss.length := by have := HN.out; omega
        have l2 : i < ts.length := by have := HN'.out; omega
        obtain ⟨b, off, u, rfl, hbb, hc0, hc, ht⟩ := (H.out.below (HB.out.mono hB)).at l1
        obtain ⟨b', off', u', rfl, hbb', hc0', hc', ht'⟩ := (H'.out.below (HB.out.mono hB')).at l2
        have HT := Lib.hid ht
        have HT' := Lib.hid ht'
        obtain ⟨A3, c3, rfl, -, -, -, -⟩ := ht
        obtain ⟨A4, c4, rfl, -, -, -, -⟩ := ht'
        have hq0 : ∀ o : Obj, (wr.alloc o).cell? ⟨b', off' + i * 2, none⟩ = some (.int .i64 ts[i].1) := fun o => ((below_new wr o).cell (p := ⟨b', _, none⟩) (Nat.lt_of_lt_of_le hbb' (Nat.le_trans hB' HB.out.size))).trans hc0'
        have hq1 : ∀ o : Obj, (wr.alloc o).cell? ⟨b', off' + i * 2 + 1, none⟩ = some (.slice A4 ts[i].2.length c4) := fun o => ((below_new wr o).cell (p := ⟨b', _, none⟩) (Nat.lt_of_lt_of_le hbb' (Nat.le_trans hB' HB.out.size))).trans hc'
        obtain ⟨q, hq⟩ : ∃ q, q = (wr.alloc (.cells #[.int .i64 ss[i].1, .slice A3 ss[i].2.length c3] 58)).alloc (.cells #[.int .i64 ts[i].1, .slice A4 ts[i].2.length c4] 58) := ⟨_, rfl⟩
        have bq : Below wr.heap.size wr q := by rw [hq]; exact (below_new wr _).alloc (by simp) _
        have hce := sameWrite_any _ _ ss[i] ts[i] q (Nat.le_trans (Nat.le_trans hB HB.out.size) bq.size) (Nat.le_trans (Nat.le_trans hB' HB.out.size) bq.size) ⟨_, rfl, HT.out.below (bq.mono (Nat.le_trans hB HB.out.size))⟩ ⟨_, rfl, HT'.out.below (bq.mono (Nat.le_trans hB' HB.out.size))⟩
        have BQ := Lib.hid (HB.out.trans (bq.mono HB.out.size))
        rw [hq] at hce BQ
        clear bq hq
        have hbnd : (n : Int) ≤ 9223372036854775807 := by have := H.out.le; have := HN.out; unfold maxLen at *; omega
        by_cases he : ss[i] = ts[i]
        · have HE := Lib.hid (take_eq_succ l1 l2 heq.out he)
          rw [decide_eq_true he] at hce
          have HC := Lib.hid hce
          clear hce he
          go_wp2_with (refine HC.out.mono ?_; rintro e w' ⟨rfl, b4⟩; have B4 := Lib.hid (BQ.out.trans (b4.mono BQ.out.size)); clear b4)
          go_roundw
          case measure => simp [intOf]; omega
          case rel => exact ⟨i + 1, by omega, by go_num, HE, B4.out⟩
        · have HE := Lib.hid (ne_of_at l1 l2 he)
          rw [decide_eq_false he] at hce
          have HC := Lib.hid hce
          clear hce he
          go_wp2_with (refine HC.out.mono ?_; rintro e w' ⟨rfl, b4⟩; have B4 := Lib.hid (BQ.out.trans (b4.mono BQ.out.size)); clear b4)
          go_ret
          exact ⟨by rw [decide_eq_false HE.out]; rfl, B4.out⟩
      · have hlt' : ¬ ((i : Int) < n) := by omega
        have hst : Hid (ss = ts) := Lib.hid (by
          have := heq.out
          rwa [List.take_of_length_le (by have := HN.out; omega), List.take_of_length_le (by have := HN'.out; omega)] at this)
        go_wp2_with fail
        go_ret
        exact ⟨by rw [decide_eq_true hst.out]; rfl, HB.out⟩
  · have hne : Hid (¬ ss = ts) := Lib.hid (fun h => hl (by rw [h]))
    have hl' : ¬ (ss.length : Int) = ts.length := by omega
    have hl2 : ((ss.length : Int) == ts.length) = false := by rw [beq_eq_false_iff_ne]; omega
    clear hl
    go_enter Try.func52, Try.ntmps52
    go_wp2_with fail
    go_ret
    exact ⟨by rw [decide_eq_false hne.out]; rfl, Below.refl _ _⟩

set_option maxHeartbeats 1000000 in
theorem same_disk (d o : Value) (ss ts : List Bs) (ws us : List Wr) (w : World) {B B' : Nat} (hB : B ≤ w.heap.size) (hB' : B' ≤ w.heap.size) (h : DiskIn w B d ss ws) (h' : DiskIn w B' o ts us) :
    Calls Try.prog 32 #[d, o] w fun e w' => e = .returned (.bool (decide (ss = ts ∧ ws = us))) ∧ Below w.heap.size w w' := by
  obtain ⟨v1, v2, rfl, h1, h2⟩ := h
  obtain ⟨y1, y2, rfl, h3, h4⟩ := h'
  have H1 := Lib.hid h1
  have H2 := Lib.hid h2
  have H3 := Lib.hid h3
  have H4 := Lib.hid h4
  clear h1 h2 h3 h4
  have HB0 : Hid (Below w.heap.size w ((w.alloc (.cells #[v1, v2] 25)).alloc (.cells #[y1, y2] 25))) := Lib.hid ((below_new w _).alloc (by simp) _)
  have LB := Lib.hid (Nat.le_trans hB HB0.out.size)
  have LB' := Lib.hid (Nat.le_trans hB' HB0.out.size)
  by_cases he : ss = ts
  · have hc := equal_secs v1 y1 ss ts _ LB.out LB'.out (H1.out.below (HB0.out.mono hB)) (H3.out.below (HB0.out.mono hB'))
    rw [decide_eq_true he] at hc
    have HC := Lib.hid hc
    have HE : Hid (decide (ws = us) = decide (ss = ts ∧ ws = us)) := Lib.hid (by simp [he])
    have hd := equal_wts v2 y2 ws us _ LB.out LB'.out (H2.out.below (HB0.out.mono hB)) (H4.out.below (HB0.out.mono hB'))
    have HD := Lib.hid hd
    clear hc he hd
    go_enter Try.func32, Try.ntmps32
    go_wp2_with (first | (refine HC.out.mono ?_; rintro e w' ⟨rfl, rfl⟩) | (refine HD.out.mono ?_; rintro e w' ⟨rfl, b⟩))
    go_ret
    exact ⟨by rw [← HE.out]; rfl, HB0.out.trans (b.mono HB0.out.size)⟩
  · have hc := equal_secs v1 y1 ss ts _ LB.out LB'.out (H1.out.below (HB0.out.mono hB)) (H3.out.below (HB0.out.mono hB'))
    rw [decide_eq_false he] at hc
    have HC := Lib.hid hc
    have HE : Hid (decide (ss = ts ∧ ws = us) = false) := Lib.hid (by simp [he])
    clear hc he
    go_enter Try.func32, Try.ntmps32
    go_wp2_with (refine HC.out.mono ?_; rintro e w' ⟨rfl, rfl⟩)
    go_ret
    exact ⟨by rw [HE.out]; rfl, HB0.out⟩
end Go.Proofs.Ytdpjdobmnkadjaa
