/-
 The document's own package area: Asked, Great.
 Conditions: none.
-/
import Derived.Test.YtneeocnjfnneoaaQAreRefG
set_option linter.unusedVariables false
set_option linter.unusedSimpArgs false
set_option maxRecDepth 100000
namespace Go.Proofs.Ytneeocnjfnneoaa
open Go.RowKit

def greatA (x : Ar) : Bool := decide (200 < x.secs.length) || (decide (200 < x.pts.length) || (decide (200 < x.sigs.length) || decide (200 < x.routes.length)))
set_option maxHeartbeats 4000000 in
theorem rgreat14_any (v : Value) (x : Ar) (w : World) (h : AreaV w w.heap.size v x) :
  Calls Try.prog 4 #[v] w fun e w' => e = .returned (.bool (greatA x)) ∧ Below w.heap.size w w' := by
 obtain ⟨u0, u1, u2, u3, rfl, hin⟩ := h
 obtain ⟨U0, c0, rfl, -, -⟩ := hin.secs.slice
 obtain ⟨n0, hn0⟩ : ∃ n, n = x.secs.length := ⟨_, rfl⟩
 obtain ⟨U1, c1, rfl, -, -⟩ := hin.pts.slice
 obtain ⟨n1, hn1⟩ : ∃ n, n = x.pts.length := ⟨_, rfl⟩
 obtain ⟨U2, c2, rfl, -, -⟩ := hin.sigs.slice
 obtain ⟨n2, hn2⟩ : ∃ n, n = x.sigs.length := ⟨_, rfl⟩
 obtain ⟨U3, c3, rfl, -, -⟩ := hin.routes.slice
 obtain ⟨n3, hn3⟩ : ∃ n, n = x.routes.length := ⟨_, rfl⟩
 have HV : Hid (greatA x = (decide (200 < n0) || (decide (200 < n1) || (decide (200 < n2) || decide (200 < n3))))) := Lib.hid (by rw [hn0, hn1, hn2, hn3]; rfl)
 rw [← hn0, ← hn1, ← hn2, ← hn3, HV.out]
 clear hn0 hn1 hn2 hn3 hin HV
 have h0 := heap_alloc_self w (.cells #[.slice U0 n0 c0, .slice U1 n1 c1, .slice U2 n2 c2, .slice U3 n3 c3] 24)
 have hqb := below_new w (.cells #[.slice U0 n0 c0, .slice U1 n1 c1, .slice U2 n2 c2, .slice U3 n3 c3] 24)
 go_enter Try.func4, Try.ntmps4
 go_upto_region 1 with fail
 generalize w.alloc (.cells #[.slice U0 n0 c0, .slice U1 n1 c1, .slice U2 n2 c2, .slice U3 n3 c3] 24) = q at h0 hqb ⊢
 have BQ := Lib.hid hqb
 obtain ⟨k0, k1, k2, k3⟩ := cell4A h0
 clear h0 hqb
 by_cases e0 : 200 < n0
 ·have HF : Hid ((decide (200 < n0) || (decide (200 < n1) || (decide (200 < n2) || decide (200 < n3)))) = true) := Lib.hid (by rw [decide_eq_true e0]; first | rfl | simp)
  have p0 : decide ((n0 : Int) > 200) = true := decide_eq_true (by omega)
  clear e0
  go_wp2_with fail
  go_ret
  exact ⟨by rw [HF.out]; rfl, BQ.out⟩
 have p0 : decide ((n0 : Int) > 200) = false := decide_eq_false (by omega)
 by_cases e1 : 200 < n1
 ·have HF : Hid ((decide (200 < n0) || (decide (200 < n1) || (decide (200 < n2) || decide (200 < n3)))) = true) := Lib.hid (by rw [decide_eq_false e0, decide_eq_true e1]; first | rfl | simp)
  have p1 : decide ((n1 : Int) > 200) = true := decide_eq_true (by omega)
  clear e0 e1
  go_wp2_with fail
  go_ret
  exact ⟨by rw [HF.out]; rfl, BQ.out⟩
 have p1 : decide ((n1 : Int) > 200) = false := decide_eq_false (by omega)
 by_cases e2 : 200 < n2
 ·have HF : Hid ((decide (200 < n0) || (decide (200 < n1) || (decide (200 < n2) || decide (200 < n3)))) = true) := Lib.hid (by rw [decide_eq_false e0, decide_eq_false e1, decide_eq_true e2]; first | rfl | simp)
  have p2 : decide ((n2 : Int) > 200) = true := decide_eq_true (by omega)
  clear e0 e1 e2
  go_wp2_with fail
  go_ret
  exact ⟨by rw [HF.out]; rfl, BQ.out⟩
 have p2 : decide ((n2 : Int) > 200) = false := decide_eq_false (by omega)
 by_cases e3 : 200 < n3
 ·have HF : Hid ((decide (200 < n0) || (decide (200 < n1) || (decide (200 < n2) || decide (200 < n3)))) = true) := Lib.hid (by rw [decide_eq_false e0, decide_eq_false e1, decide_eq_false e2, decide_eq_true e3]; first | rfl | simp)
  have p3 : decide ((n3 : Int) > 200) = true := decide_eq_true (by omega)
  clear e0 e1 e2 e3
  go_wp2_with fail
  go_ret
  exact ⟨by rw [HF.out]; rfl, BQ.out⟩
 have p3 : decide ((n3 : Int) > 200) = false := decide_eq_false (by omega)
 have HF : Hid ((decide (200 < n0) || (decide (200 < n1) || (decide (200 < n2) || decide (200 < n3)))) = false) := Lib.hid (by rw [decide_eq_false e0, decide_eq_false e1, decide_eq_false e2, decide_eq_false e3]; rfl)
 clear e0 e1 e2 e3
 go_wp2_with fail
 go_ret
 exact ⟨by rw [HF.out]; rfl, BQ.out⟩
end Go.Proofs.Ytneeocnjfnneoaa
