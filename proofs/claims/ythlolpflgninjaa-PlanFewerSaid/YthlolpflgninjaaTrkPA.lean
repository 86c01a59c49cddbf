/-
  The program's package track: may, leads, cmp.Compare, the search by halves, at.
  Conditions: none.
-/
import Derived.Test.YthlolpflgninjaaTrkProg
set_option linter.unusedVariables false
set_option linter.unusedSimpArgs false
set_option maxRecDepth 100000
namespace Go.Proofs.Ythlolpflgninjaa
open Go.RowKit

def mayB (e : Int) : Bool := decide (0 ≤ e ∧ e < 3)
def leadsB (s : Sec) (e : Int) : Bool := decide (0 ≤ e ∧ e < s.2.2.length)
def leadsJ (s : Sec) (e : Int) : Jn := if leadsB s e then s.2.2.getD e.toNat (0, 0) else (0, 0)
set_option maxHeartbeats 4000000 in
theorem leads_any (v : Value) (s : Sec) (k : Int) (w : World) (h : SecV w w.heap.size v s) :
    Calls Try.prog 60 #[v, .int .i64 k] w fun r w' => r = .returned (.tuple #[.agg #[.int .i64 (leadsJ s k).1, .int .i64 (leadsJ s k).2], .bool (leadsB s k)]) ∧ Below w.heap.size w w' := by
  obtain ⟨u, rfl, hu⟩ := h
  have HU0 := Lib.hid hu
  obtain ⟨A, c, rfl, hul, hum⟩ := hu.slice
  obtain ⟨id, pt, es⟩ := s
  dsimp only at HU0 hul hum ⊢
  obtain ⟨n, hn⟩ : ∃ n, n = es.length := ⟨_, rfl⟩
  have HN := Lib.hid hn
  have HU : Hid (JoinsIn w w.heap.size (.slice A n c) es) := Lib.hid (by rw [hn]; exact HU0.out)
  have hnm : n ≤ 9223372036854775807 := by unfold maxLen at hum; omega
  have hq := two_boxes w (.cells #[.int .i64 id, .int .i64 pt, .slice A n c] 64) (.cells #[.int .i64 0, .int .i64 0] 66)
  rw [← hn]
  clear hu HU0 hul hum hn
  go_enter Try.func60, Try.ntmps60
  go_upto_region 1 with fail
  generalize (w.alloc (.cells #[.int .i64 id, .int .i64 pt, .slice A n c] 64)).alloc (.cells #[.int .i64 0, .int .i64 0] 66) = q at hq ⊢
  obtain ⟨q0, q1, qb⟩ := hq
  have X0 := Lib.hid q0
  have X1 := Lib.hid q1
  have QB := Lib.hid qb
  have HQ := Lib.hid ((HU.out.below joinR qb).more joinR qb.size)
  have HB : Hid (Below w.heap.size w q) := QB
  clear q0 q1 qb
  obtain ⟨k0, k1, k2⟩ := cell3_of X0.out
  obtain ⟨r0, r1⟩ := cell2_of X1.out
  have f0 := frozen2_of X1.out 0
  have f1 := frozen2_of X1.out 1
  by_cases h0 : k < 0
  · have d0 : decide (k < 0) = true := decide_eq_true h0
    have HE : Hid (leadsB (id, pt, es) k = false) := Lib.hid (decide_eq_false fun h => by omega)
    have HJ : Hid (leadsJ (id, pt, es) k = (0, 0)) := Lib.hid (by rw [leadsJ, HE.out]; rfl)
    go_wp2_with fail
    refine bodyPost_ret (results_2_tmp rfl _ _ (w.heap.size + 1) rfl (heap_set2 X1.out _ _) Try.underlying66 infoJoin2 (.bool false) rfl) rfl ⟨by rw [HE.out, HJ.out], below_set2 HB.out (Nat.le_succ _) _ _⟩
  have d0 : decide (k < 0) = false := decide_eq_false h0
  by_cases hk : (n : Int) ≤ k
  · have dk : decide ((n : Int) ≤ k) = true := decide_eq_true hk
    have HE : Hid (leadsB (id, pt, es) k = false) := Lib.hid (decide_eq_false fun h => by have h2 : k < (es.length : Int) := h.2; rw [← HN.out] at h2; omega)
    have HJ : Hid (leadsJ (id, pt, es) k = (0, 0)) := Lib.hid (by rw [leadsJ, HE.out]; rfl)
    go_wp2_with fail
    refine bodyPost_ret (results_2_tmp rfl _ _ (w.heap.size + 1) rfl (heap_set2 X1.out _ _) Try.underlying66 infoJoin2 (.bool false) rfl) rfl ⟨by rw [HE.out, HJ.out], below_set2 HB.out (Nat.le_succ _) _ _⟩
  have dk : decide ((n : Int) ≤ k) = false := decide_eq_false hk
  have HE : Hid (leadsB (id, pt, es) k = true) := Lib.hid (decide_eq_true ⟨by omega, by show k < (es.length : Int); rw [← HN.out]; omega⟩)
  obtain ⟨j, rfl⟩ : ∃ j : Nat, k = (j : Int) := ⟨k.toNat, by omega⟩
  have hjr : j < es.length := by rw [← HN.out]; omega
  have hjn : (j : Int) < n := by omega
  obtain ⟨b, o, rfl, hb, hc0, hc1⟩ := HQ.out.at hjr
  obtain ⟨x, y, hxy⟩ : ∃ x y, es[j] = (x, y) := ⟨_, _, rfl⟩
  have HJ : Hid (leadsJ (id, pt, es) j = (x, y)) := Lib.hid (by rw [leadsJ, HE.out, if_pos rfl, ← hxy]; simp [List.getD, List.getElem?_eq_getElem hjr])
  rw [hxy] at hc0 hc1
  dsimp only at hc0 hc1
  have hg0 : q.cell? ⟨b, o + j * 2, none⟩ = some (.int .i64 x) := hc0
  have hg1 : q.cell? ⟨b, o + j * 2 + 1, none⟩ = some (.int .i64 y) := hc1
  clear hxy hc0 hc1 hb
  go_wp2_with fail
  refine bodyPost_ret (results_2_tmp rfl _ _ (w.heap.size + 1) rfl (heap_set2 X1.out _ _) Try.underlying66 infoJoin2 (.bool true) rfl) rfl ⟨by rw [HE.out, HJ.out], below_set2 HB.out (Nat.le_succ _) _ _⟩

theorem nan7_any (x : Int) (w : World) : Calls Try.prog 105 #[.int .i64 x] w fun e w' => e = .returned (.bool false) ∧ w = w' := by
  go_enter Try.func105, Try.ntmps105
  go_wp2_with fail
  go_ret
  exact ⟨by simp, rfl⟩
/-- How two numbers stand to one another. -/
def cmpZ (x y : Int) : Int := if x < y then -1 else if y < x then 1 else 0
theorem compare7_any (x y : Int) (w : World) : Calls Try.prog 101 #[.int .i64 x, .int .i64 y] w fun e w' => e = .returned (.int .i64 (cmpZ x y)) ∧ w = w' := by
  by_cases h : x < y
  · have HR : Hid (cmpZ x y = -1) := Lib.hid (by rw [cmpZ, if_pos h])
    go_enter Try.func101, Try.ntmps101
    go_wp2_with (refine (nan7_any _ _).mono ?_; rintro e w' ⟨rfl, rfl⟩)
    go_ret
    exact ⟨by rw [HR.out]; rfl, rfl⟩
  · by_cases h2 : y < x
    · have HR : Hid (cmpZ x y = 1) := Lib.hid (by rw [cmpZ, if_neg h, if_pos h2])
      go_enter Try.func101, Try.ntmps101
      go_wp2_with (refine (nan7_any _ _).mono ?_; rintro e w' ⟨rfl, rfl⟩)
      go_ret
      exact ⟨by rw [HR.out]; rfl, rfl⟩
    · have HR : Hid (cmpZ x y = 0) := Lib.hid (by rw [cmpZ, if_neg h, if_neg h2])
      go_enter Try.func101, Try.ntmps101
      go_wp2_with (refine (nan7_any _ _).mono ?_; rintro e w' ⟨rfl, rfl⟩)
      go_ret
      exact ⟨by rw [HR.out]; rfl, rfl⟩
theorem acmp_any (id pt : Int) (A : Option Addr) (n c : Nat) (k : Int) (w : World) :
    Calls Try.prog 100 #[.agg #[.int .i64 id, .int .i64 pt, .slice A n c], .int .i64 k] w fun e w' => e = .returned (.int .i64 (cmpZ id k)) ∧ Below w.heap.size w w' := by
  have hb : Below w.heap.size w (w.alloc (.cells #[.int .i64 id, .int .i64 pt, .slice A n c] 64)) := below_new w _
  have HB := Lib.hid hb
  clear hb
  go_enter Try.func100, Try.ntmps100
  go_wp2_with (refine (compare7_any _ _ _).mono ?_; rintro e w' ⟨rfl, rfl⟩)
  go_ret
  exact ⟨rfl, HB.out⟩
end Go.Proofs.Ythlolpflgninjaa
